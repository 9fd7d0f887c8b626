package quota_test

import (
	"math"
	"math/rand"
	"testing"

	"ingot/api"
	"ingot/quota"
)

func want(t *testing.T, what string, got, is api.Errno) {
	t.Helper()
	if got != is {
		t.Errorf("%s: %d, not %d", what, int(got), int(is))
	}
}

func must(t *testing.T, bytes, rate, window int) *quota.Meter {
	t.Helper()
	m, e := quota.New(api.Limits{Bytes: bytes, Rate: rate, Window: window})
	if m == nil || e != api.OK {
		t.Fatal(bytes, rate, window, m, int(e))
	}
	return m
}

func wantUsed(t *testing.T, m *quota.Meter, used int) {
	t.Helper()
	if got := m.Used(); got != used {
		t.Errorf("used %d, not %d", got, used)
	}
}

func wantHits(t *testing.T, m *quota.Meter, now, hits int) {
	t.Helper()
	if got := m.Hits(now); got != hits {
		t.Errorf("hits at %d: %d, not %d", now, got, hits)
	}
}

// The chapter's example.
func TestExample(t *testing.T) {
	m := must(t, 10, 2, 5)
	want(t, "Hit(0)", m.Hit(0), api.OK)
	want(t, "Hit(4)", m.Hit(4), api.OK)
	want(t, "Hit(4)", m.Hit(4), api.ErrRate)
	want(t, "Hit(5)", m.Hit(5), api.OK)
	want(t, "Hit(4)", m.Hit(4), api.ErrArg)
}

// wrong are limits that may not be.
var wrong = []api.Limits{
	{}, {Bytes: 1, Rate: 1}, {Bytes: 1, Rate: 1, Window: -1}, {Bytes: 1, Rate: 1, Window: math.MinInt}, {Bytes: 1, Rate: 1, Window: api.MaxTime + 1}, {Bytes: 1, Rate: 1, Window: math.MaxInt},
	{Bytes: -1, Rate: 1, Window: 1}, {Bytes: math.MinInt, Rate: 1, Window: 1}, {Bytes: api.MaxTime + 1, Rate: 1, Window: 1}, {Bytes: math.MaxInt, Rate: 1, Window: 1},
	{Bytes: 1, Rate: -1, Window: 1}, {Bytes: 1, Rate: math.MinInt, Window: 1}, {Bytes: 1, Rate: api.MaxTime + 1, Window: 1}, {Bytes: 1, Rate: math.MaxInt, Window: 1},
	{Bytes: -1, Rate: -1, Window: -1},
}

// P18.1: limits at their edges and one beyond them; a meter has used nothing at first.
func TestNew(t *testing.T) {
	for _, l := range wrong {
		if m, e := quota.New(l); m != nil || e != api.ErrArg {
			t.Error(l, m, int(e))
		}
	}
	for _, bytes := range []int{0, 1, api.MaxTime} {
		for _, rate := range []int{0, 1, api.MaxTime} {
			for _, window := range []int{1, 2, api.MaxTime} {
				m := must(t, bytes, rate, window)
				wantUsed(t, m, 0)
				wantHits(t, m, 0, 0)
				wantHits(t, m, api.MaxTime, 0)
				want(t, "one beyond", m.Charge(bytes+1), api.ErrQuota)
				want(t, "all", m.Charge(bytes), api.OK)
				wantUsed(t, m, bytes)
			}
		}
	}
}

// P18.1: other limits: hits are forgotten, the bytes stay; wrong ones change nothing.
func TestSet(t *testing.T) {
	m := must(t, 10, 2, 5)
	want(t, "Charge", m.Charge(7), api.OK)
	want(t, "Hit", m.Hit(50), api.OK)
	want(t, "Hit", m.Hit(50), api.OK)
	for _, l := range wrong {
		want(t, "wrong limits", m.Set(l), api.ErrArg)
	}
	wantUsed(t, m, 7)
	wantHits(t, m, 50, 2)
	want(t, "an earlier window", m.Hit(49), api.ErrArg)
	want(t, "a full window", m.Hit(54), api.ErrRate)
	want(t, "beyond the bytes", m.Charge(4), api.ErrQuota)

	want(t, "Set of the same", m.Set(api.Limits{Bytes: 10, Rate: 2, Window: 5}), api.OK)
	wantUsed(t, m, 7)
	wantHits(t, m, 50, 0)
	wantHits(t, m, 0, 0)
	want(t, "an earlier window, forgotten", m.Hit(0), api.OK)
	want(t, "again", m.Hit(4), api.OK)
	want(t, "full", m.Hit(0), api.ErrRate)
	want(t, "beyond the bytes", m.Charge(4), api.ErrQuota)

	want(t, "Set of fewer", m.Set(api.Limits{Bytes: 5, Rate: 1, Window: 10}), api.OK)
	wantUsed(t, m, 7)
	want(t, "nothing, above the limit", m.Charge(0), api.ErrQuota)
	want(t, "more than is used", m.Refund(8), api.ErrArg)
	want(t, "down to the limit", m.Refund(2), api.OK)
	want(t, "nothing, at the limit", m.Charge(0), api.OK)
	want(t, "one, at the limit", m.Charge(1), api.ErrQuota)
	want(t, "Hit", m.Hit(9), api.OK)
	want(t, "the other window", m.Hit(0), api.ErrRate)
	want(t, "the next one", m.Hit(10), api.OK)

	want(t, "Set of more", m.Set(api.Limits{Bytes: 6, Rate: 0, Window: 1}), api.OK)
	want(t, "one more", m.Charge(1), api.OK)
	want(t, "no rate", m.Hit(0), api.ErrRate)
	wantUsed(t, m, 6)
}

// P18.2: the edges of windows.
func TestWindows(t *testing.T) {
	for _, window := range []int{1, 2, 3, 5, 1000, api.MaxTime} {
		m := must(t, 0, 2, window)
		for number := range 4 {
			first, last := number*window, number*window+window-1
			wantHits(t, m, first, 0)
			want(t, "first", m.Hit(first), api.OK)
			wantHits(t, m, first, 1)
			want(t, "last", m.Hit(last), api.OK)
			want(t, "first again", m.Hit(first), api.ErrRate)
			want(t, "last again", m.Hit(last), api.ErrRate)
			wantHits(t, m, first, 2)
			wantHits(t, m, last, 2)
			wantHits(t, m, last+1, 0)
			wantHits(t, m, first-1, 0)
			want(t, "the window ahead", m.Hit(first-1), api.ErrArg)
		}
	}
}

// P18.2: within a window times may go back; windows may be left out; a refused hit moves nothing on.
func TestHit(t *testing.T) {
	m := must(t, 0, 1, 5)
	want(t, "late in a window", m.Hit(14), api.OK)
	want(t, "earlier in it", m.Hit(10), api.ErrRate)
	want(t, "the window ahead", m.Hit(9), api.ErrArg)
	want(t, "below 0", m.Hit(-1), api.ErrArg)
	wantHits(t, m, 10, 1)
	want(t, "far on", m.Hit(500), api.OK)
	wantHits(t, m, 14, 0)
	wantHits(t, m, 504, 1)
	want(t, "back", m.Hit(499), api.ErrArg)

	two := must(t, 0, 2, 10)
	want(t, "late", two.Hit(9), api.OK)
	want(t, "early", two.Hit(0), api.OK)
	wantHits(t, two, 5, 2)
}

// P18.2: a rate of 0 refuses all that are times, at any order of windows, as no hit was OK.
func TestNoRate(t *testing.T) {
	m := must(t, 0, 0, 5)
	for _, now := range []int{100, 0, 4, 5, math.MaxInt, 0} {
		want(t, "Hit", m.Hit(now), api.ErrRate)
		wantHits(t, m, now, 0)
	}
	want(t, "below 0", m.Hit(-1), api.ErrArg)
}

// P18.2: times of the whole range; a time below 0 lies in no window that has hits.
func TestTimes(t *testing.T) {
	for _, window := range []int{1, 2, 5, api.MaxTime} {
		m := must(t, 0, 3, window)
		want(t, "Hit(0)", m.Hit(0), api.OK)
		for _, now := range []int{-1, -2, 1 - window, -window, -window - 1, math.MinInt, math.MinInt + 1} {
			if now >= 0 {
				continue
			}
			want(t, "below 0", m.Hit(now), api.ErrArg)
			wantHits(t, m, now, 0)
		}
		wantHits(t, m, 0, 1)
		want(t, "at MaxTime", m.Hit(api.MaxTime), api.OK)
		want(t, "far beyond MaxTime", m.Hit(math.MaxInt), api.OK)
		want(t, "again", m.Hit(math.MaxInt), api.OK)
		wantHits(t, m, math.MaxInt, 2)
		wantHits(t, m, 0, 0)
		want(t, "back", m.Hit(0), api.ErrArg)
	}
}

// P18.3: bytes at the limit, one beyond it, and numbers of the whole range.
func TestBytes(t *testing.T) {
	m := must(t, 10, 0, 1)
	steps := []struct {
		what   string
		charge bool
		n      int
		want   api.Errno
		used   int
	}{
		{"nothing", true, 0, api.OK, 0},
		{"nothing back", false, 0, api.OK, 0},
		{"more than there is", false, 1, api.ErrArg, 0},
		{"one beyond", true, 11, api.ErrQuota, 0},
		{"some", true, 9, api.OK, 9},
		{"one beyond", true, 2, api.ErrQuota, 9},
		{"the last one", true, 1, api.OK, 10},
		{"nothing at the limit", true, 0, api.OK, 10},
		{"one at the limit", true, 1, api.ErrQuota, 10},
		{"all there is", true, math.MaxInt, api.ErrQuota, 10},
		{"nearly all there is", true, math.MaxInt - 9, api.ErrQuota, 10},
		{"below 0", true, -1, api.ErrArg, 10},
		{"far below 0", true, math.MinInt, api.ErrArg, 10},
		{"below 0 back", false, -1, api.ErrArg, 10},
		{"far below 0 back", false, math.MinInt, api.ErrArg, 10},
		{"one too many back", false, 11, api.ErrArg, 10},
		{"all there is back", false, math.MaxInt, api.ErrArg, 10},
		{"some back", false, 4, api.OK, 6},
		{"some again", true, 4, api.OK, 10},
		{"all back", false, 10, api.OK, 0},
		{"one too many back", false, 1, api.ErrArg, 0},
	}
	for _, s := range steps {
		call := m.Refund
		if s.charge {
			call = m.Charge
		}
		want(t, s.what, call(s.n), s.want)
		wantUsed(t, m, s.used)
	}
	full := must(t, api.MaxTime, 0, 1)
	want(t, "MaxTime", full.Charge(api.MaxTime), api.OK)
	want(t, "one more", full.Charge(1), api.ErrQuota)
	want(t, "all there is", full.Charge(math.MaxInt), api.ErrQuota)
	wantUsed(t, full, api.MaxTime)
}

// P18.2, P18.3: hits and bytes know nothing of each other, two meters neither.
func TestApart(t *testing.T) {
	m, other := must(t, 10, 1, 5), must(t, 10, 1, 5)
	want(t, "Hit", m.Hit(7), api.OK)
	wantUsed(t, m, 0)
	want(t, "Charge", m.Charge(10), api.OK)
	wantHits(t, m, 7, 1)
	want(t, "Refund", m.Refund(3), api.OK)
	wantHits(t, m, 7, 1)
	wantUsed(t, other, 0)
	wantHits(t, other, 7, 0)
	want(t, "Set", m.Set(api.Limits{Window: 1}), api.OK)
	want(t, "Charge of the other", other.Charge(10), api.OK)
	want(t, "Hit of the other", other.Hit(0), api.OK)
	wantUsed(t, m, 7)
}

// Rule 1: a meter that no call made stays one, whatever it is asked.
func TestNotMade(t *testing.T) {
	for what, m := range map[string]*quota.Meter{"nil": nil, "plain": {}} {
		for range 2 {
			for _, n := range []int{0, 1, -1, math.MinInt, math.MaxInt} {
				want(t, what+" Hit", m.Hit(n), api.ErrNil)
				want(t, what+" Charge", m.Charge(n), api.ErrNil)
				want(t, what+" Refund", m.Refund(n), api.ErrNil)
				wantHits(t, m, n, 0)
			}
			wantUsed(t, m, 0)
			want(t, what+" Set", m.Set(api.Limits{Bytes: 1, Rate: 1, Window: 1}), api.ErrNil)
			want(t, what+" Set", m.Set(api.Limits{}), api.ErrNil)
		}
	}
}

// model is a meter in the words of the chapter: all that was charged and given back, and the windows of all hits that were OK and not forgotten.
type model struct {
	limits            api.Limits
	charged, refunded int
	hits              []int
}

func (m *model) set(l api.Limits) api.Errno {
	for _, n := range []int{l.Bytes, l.Rate, l.Window} {
		if n < 0 || n > 1<<40 {
			return api.ErrArg
		}
	}
	if l.Window == 0 {
		return api.ErrArg
	}
	m.limits, m.hits = l, nil
	return api.OK
}

// windowOf counts up or down from 0.
func (m *model) windowOf(now int) int {
	at := 0
	for ; at*m.limits.Window > now; at-- {
	}
	for ; (at+1)*m.limits.Window <= now; at++ {
	}
	return at
}

func (m *model) hitsOf(now int) int {
	n := 0
	for _, window := range m.hits {
		if window == m.windowOf(now) {
			n++
		}
	}
	if len(m.hits) > 0 && m.hits[len(m.hits)-1] != m.windowOf(now) {
		return 0
	}
	return n
}

func (m *model) hit(now int) api.Errno {
	switch {
	case now < 0 || len(m.hits) > 0 && m.windowOf(now) < m.hits[len(m.hits)-1]:
		return api.ErrArg
	case m.hitsOf(now) == m.limits.Rate:
		return api.ErrRate
	}
	m.hits = append(m.hits, m.windowOf(now))
	return api.OK
}

func (m *model) charge(n int) api.Errno {
	switch {
	case n < 0:
		return api.ErrArg
	case m.charged-m.refunded+n > m.limits.Bytes:
		return api.ErrQuota
	}
	m.charged += n
	return api.OK
}

func (m *model) refund(n int) api.Errno {
	if n < 0 || n > m.charged-m.refunded {
		return api.ErrArg
	}
	m.refunded += n
	return api.OK
}

// chance makes one call of both by chance; time goes on slowly, and now and then back.
func chance(r *rand.Rand, m *quota.Meter, by *model, time int) (what string, got, want api.Errno) {
	switch n := r.Intn(14) - 2; r.Intn(10) {
	case 0:
		if r.Intn(4) > 0 {
			return "nothing", api.OK, api.OK
		}
		l := api.Limits{Bytes: r.Intn(30) - 1, Rate: r.Intn(6) - 1, Window: r.Intn(9) - 1}
		return "Set", m.Set(l), by.set(l)
	case 1, 2:
		return "Charge", m.Charge(n), by.charge(n)
	case 3, 4:
		return "Refund", m.Refund(n), by.refund(n)
	}
	now := time + r.Intn(10) - 6
	return "Hit", m.Hit(now), by.hit(now)
}

// P18.1 to P18.5: calls by chance, held against the model behind each of them.
func TestChance(t *testing.T) {
	for seed := range int64(200) {
		r := rand.New(rand.NewSource(seed))
		by := &model{}
		first := api.Limits{Bytes: r.Intn(30), Rate: r.Intn(5), Window: 1 + r.Intn(8)}
		m, e := quota.New(first)
		want(t, "New", e, by.set(first))
		above := false // whether the limits were set below what was used
		for step := range 300 {
			what, got, is := chance(r, m, by, step/4)
			if got != is {
				t.Fatalf("seed %d, step %d: %s: %d, not %d", seed, step, what, int(got), int(is))
			}
			if m.Used() != by.charged-by.refunded || m.Used() < 0 {
				t.Fatalf("P18.4: seed %d, step %d: used %d", seed, step, m.Used())
			}
			if what == "Set" && got == api.OK {
				above = m.Used() > by.limits.Bytes
			}
			above = above && m.Used() > by.limits.Bytes
			if !above && m.Used() > by.limits.Bytes {
				t.Fatalf("P18.4: seed %d, step %d: %d above %d", seed, step, m.Used(), by.limits.Bytes)
			}
			for now := -12; now < step/4+20; now++ {
				if hits := m.Hits(now); hits != by.hitsOf(now) || hits > by.limits.Rate {
					t.Fatalf("P18.5: seed %d, step %d: hits at %d: %d, not %d", seed, step, now, hits, by.hitsOf(now))
				}
			}
		}
	}
}

// P18.5: in each window Rate hits are OK, and not one more; one is refused for that only where Rate were.
func TestRate(t *testing.T) {
	for _, rate := range []int{0, 1, 2, 7} {
		m := must(t, 0, rate, 4)
		for number := range 20 {
			ok := 0
			for i := range 12 {
				switch e := m.Hit(number*4 + i%4); {
				case e == api.OK:
					ok++
				case e != api.ErrRate || ok != rate:
					t.Fatal(rate, number, i, int(e), ok)
				}
			}
			if ok != rate {
				t.Error(rate, number, ok)
			}
		}
	}
}
