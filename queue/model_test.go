package queue_test

import (
	"math/rand"
	"slices"
	"strconv"
	"testing"

	"ingot/api"
	"ingot/queue"
)

// put is one that was put at some time, in the words of the chapter: what is known of it.
type put struct {
	id  int
	end int
	why api.Errno
}

// model is a queue that forgets nothing: all that were ever put, in order, and the places of those that ended.
type model struct {
	all    []*put
	ended  []*put
	trying *put
}

func (m *model) waiting() []*put {
	var out []*put
	for _, p := range m.all {
		if p.end == api.Waits {
			out = append(out, p)
		}
	}
	return out
}

func (m *model) find(id int) *put {
	for _, p := range m.waiting() {
		if p.id == id {
			return p
		}
	}
	return nil
}

func (m *model) finish(p *put, end int, why api.Errno) {
	p.end, p.why = end, why
	m.ended = append(m.ended, p)
}

func (m *model) put(id int) api.Errno {
	switch {
	case id < 1:
		return api.ErrArg
	case m.find(id) != nil:
		return api.ErrThere
	case len(m.waiting()) == 64:
		return api.ErrLong
	}
	m.all = append(m.all, &put{id: id})
	return api.OK
}

func (m *model) drop(id int) api.Errno {
	switch p := m.find(id); {
	case p == nil:
		return api.ErrMissing
	case p == m.trying:
		return api.ErrOver
	default:
		m.finish(p, api.Rejected, api.ErrClosed)
	}
	return api.OK
}

// both is a queue beside the model, on which the same calls are made, by chance.
type both struct {
	t    *testing.T
	r    *rand.Rand
	q    *queue.Queue
	m    *model
	met  map[string]int
	most int // how great numbers may be
}

func (b *both) note(what string, got, want api.Errno) {
	b.t.Helper()
	if got != want {
		b.t.Fatalf("%s: %d, not %d", what, int(got), int(want))
	}
	b.met[what+" "+strconv.Itoa(int(got))]++
}

// hold holds all that the queue tells against the model.
func (b *both) hold() {
	b.t.Helper()
	var waiting []int
	for i, p := range b.m.waiting() {
		waiting = append(waiting, p.id)
		if got := b.q.Place(p.id); got != i {
			b.t.Fatalf("the place of %d: %d, not %d", p.id, got, i)
		}
	}
	if got := b.q.Waiting(); !slices.Equal(got, waiting) {
		b.t.Fatalf("waiting %v, not %v", got, waiting)
	}
	for id := -1; id <= b.most+1; id++ {
		if b.m.find(id) == nil && b.q.Place(id) != -1 {
			b.t.Fatal(id, "has a place")
		}
	}
	var ended []api.Queued
	for _, p := range b.m.ended {
		ended = append(ended, api.Queued{Proposal: p.id, End: p.end, Why: p.why})
	}
	if got := b.q.Ended(); !slices.Equal(got, ended) {
		b.t.Fatalf("ended %v, not %v", got, ended)
	}
}

// try makes calls by chance within, and answers, or panics, by chance.
func (b *both) try(id int) api.Errno {
	first := b.m.waiting()[0]
	if id != first.id || b.m.trying != nil {
		b.t.Fatalf("P21.7: tried %d, not %d", id, first.id)
	}
	b.m.trying = first
	b.hold()
	for range b.r.Intn(4) {
		b.one()
		b.hold()
	}
	b.m.trying = nil
	switch b.r.Intn(4) {
	case 0:
		panic(id)
	case 1:
		b.m.finish(first, api.Merged, api.OK)
		return api.OK
	}
	why := []api.Errno{api.ErrArg, api.ErrNeeded, api.ErrClosed, -3}[b.r.Intn(4)]
	b.m.finish(first, api.Rejected, why)
	return why
}

// step steps both; what the model has of it is done by try.
func (b *both) step() {
	idle, least := b.m.trying == nil, len(b.m.waiting())
	var told api.Queued
	var e api.Errno
	caught := panicOf(func() { told, e = b.q.Step(b.try) })
	switch {
	case !idle:
		b.note("Step", e, api.ErrOver)
	case least == 0:
		b.note("Step", e, api.ErrMissing)
	case caught != nil:
		b.m.trying = nil
		b.met["Step panics"]++
		if caught != b.m.waiting()[0].id {
			b.t.Fatal("another panic", caught)
		}
	default:
		b.note("Step", e, api.OK)
		if last := b.m.ended[len(b.m.ended)-1]; told != (api.Queued{Proposal: last.id, End: last.end, Why: last.why}) {
			b.t.Fatalf("told %v, not %v", told, *last)
		}
		return
	}
	if told != (api.Queued{}) {
		b.t.Fatal("told", told)
	}
}

// drain drains both, with a try that counts.
func (b *both) drain() {
	idle, most, tries := b.m.trying == nil, len(b.m.waiting()), 0
	var told, should []api.Queued
	caught := panicOf(func() {
		told = b.q.Drain(func(id int) api.Errno {
			tries++
			why := b.try(id)
			last := b.m.ended[len(b.m.ended)-1]
			should = append(should, api.Queued{Proposal: last.id, End: last.end, Why: last.why})
			return why
		})
	})
	left := len(b.m.waiting())
	switch {
	case !idle:
		most = 0
	case caught != nil:
		b.met["Drain panics"]++
		return
	}
	if !slices.Equal(told, should) || tries > most || tries < most && left > 0 && idle {
		b.t.Fatalf("drained %v, not %v; %d tries, %d waited, %d wait", told, should, tries, most, left)
	}
	b.met["Drain of "+strconv.Itoa(min(most, 2))]++
}

// one makes one call of both.
func (b *both) one() {
	id := b.r.Intn(b.most+2) - 1
	switch b.r.Intn(9) {
	case 0, 1, 2, 3:
		b.note("Put", b.q.Put(id), b.m.put(id))
	case 4, 5:
		b.note("Drop", b.q.Drop(id), b.m.drop(id))
	case 6, 7:
		b.step()
	case 8:
		b.drain()
	}
}

// P21.1 to P21.7: calls by chance, within one another too, held against the model behind each of them.
func TestChance(t *testing.T) {
	met := map[string]int{}
	for seed := range int64(150) {
		b := &both{t: t, r: rand.New(rand.NewSource(seed)), q: queue.New(), m: &model{}, met: met, most: 6 + int(seed%5)}
		for range 200 {
			b.one()
			b.hold()
		}
		b.holdOrder()
	}
	for _, what := range []string{"Put 0", "Put 2", "Put 110", "Drop 0", "Drop 82", "Drop 111", "Step 0", "Step 82", "Step 111", "Step panics", "Drain panics", "Drain of 0", "Drain of 1", "Drain of 2"} {
		if met[what] < 20 {
			t.Error("too seldom:", what, met)
		}
	}
}

// holdOrder holds P21.6 and P21.7: of one number, what ended and what waits is just as often as it was put; what ended otherwise than by a Drop ended in the order in which it was put.
func (b *both) holdOrder() {
	b.t.Helper()
	times := map[int]int{}
	for _, p := range b.m.all {
		times[p.id]++
	}
	for _, x := range b.q.Ended() {
		times[x.Proposal]--
	}
	for _, id := range b.q.Waiting() {
		times[id]--
	}
	for id, n := range times {
		if n != 0 {
			b.t.Fatal("P21.7:", id, n)
		}
	}
	last := -1
	for _, p := range b.m.ended {
		if p.end == api.Rejected && p.why == api.ErrClosed {
			continue
		}
		if at := slices.Index(b.m.all, p); at < last {
			b.t.Fatal("P21.6:", p.id)
		} else {
			last = at
		}
	}
}
