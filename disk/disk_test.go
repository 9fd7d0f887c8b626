package disk

import (
	"bytes"
	"math"
	"math/rand"
	"slices"
	"testing"

	"ingot/api"
)

func full(c byte) []byte { return bytes.Repeat([]byte{c}, api.SectorSize) }

func made(t *testing.T, sectors int) *Disk {
	t.Helper()
	d, e := New(sectors)
	if e != api.OK || d == nil {
		t.Fatal(sectors, e)
	}
	return d
}

// wrote makes a disk with pending writes of the bytes 1, 2, .. to sectors.
func wrote(t *testing.T, sectors int, at ...int) *Disk {
	t.Helper()
	d := made(t, sectors)
	for k, i := range at {
		want(t, "Write", d.Write(i, full(byte(k+1))), api.OK)
	}
	return d
}

func want(t *testing.T, what string, got, wanted api.Errno) {
	t.Helper()
	if got != wanted {
		t.Errorf("%s: %v, not %v", what, got, wanted)
	}
}

// firsts tells the first byte of what each sector has for sure, and that all others are the same.
func firsts(t *testing.T, d *Disk) []byte {
	t.Helper()
	var out []byte
	for i, b := range d.Sure() {
		if len(b) != api.SectorSize || !bytes.Equal(b, full(b[0])) {
			t.Errorf("sector %d: %v", i, b)
		}
		out = append(out, b[0])
	}
	return out
}

// reads tells likewise what each sector has.
func reads(t *testing.T, d *Disk) []byte {
	t.Helper()
	var out []byte
	for i := range d.Sectors() {
		b, e := d.Read(i)
		if e != api.OK || len(b) != api.SectorSize || !bytes.Equal(b, full(b[0])) {
			t.Fatalf("sector %d: %v, %v", i, e, b)
		}
		out = append(out, b[0])
	}
	return out
}

// P5.1
func TestNew(t *testing.T) {
	for _, n := range []int{0, -1, api.MaxSectors + 1, math.MinInt, math.MaxInt} {
		if d, e := New(n); e != api.ErrArg || d != nil {
			t.Error(n, e)
		}
	}
	for _, n := range []int{1, 2, 6, api.MaxSectors} {
		d := made(t, n)
		if d.Sectors() != n || d.Down() || d.Ops() != 0 || len(d.Pending()) != 0 {
			t.Error(n, d.Sectors(), d.Down(), d.Ops(), d.Pending())
		}
		noughts := make([]byte, n)
		if !bytes.Equal(reads(t, d), noughts) || !bytes.Equal(firsts(t, d), noughts) {
			t.Error(n, "no noughts")
		}
		for range 2000 {
			want(t, "Flush without a plan", d.Flush(), api.OK)
		}
	}
}

// P5.2
func TestReadWriteFlush(t *testing.T) {
	d := wrote(t, 4, 1, 3, 1)
	if got := reads(t, d); !bytes.Equal(got, []byte{0, 3, 0, 2}) {
		t.Error("the last pending write:", got)
	}
	if got := firsts(t, d); !bytes.Equal(got, make([]byte, 4)) {
		t.Error("sure ahead of Flush:", got)
	}
	want(t, "Flush", d.Flush(), api.OK)
	if got := firsts(t, d); !bytes.Equal(got, []byte{0, 3, 0, 2}) || len(d.Pending()) != 0 || !bytes.Equal(reads(t, d), got) {
		t.Error("behind Flush:", got, d.Pending())
	}
	want(t, "Write", d.Write(3, full(0)), api.OK)
	if got := reads(t, d); !bytes.Equal(got, []byte{0, 3, 0, 0}) {
		t.Error("noughts are written:", got)
	}
	want(t, "Flush", d.Flush(), api.OK)
	if got := firsts(t, d); !bytes.Equal(got, []byte{0, 3, 0, 0}) {
		t.Error("noughts are sure:", got)
	}
	mixed := make([]byte, api.SectorSize)
	for i := range mixed {
		mixed[i] = byte(i * 7)
	}
	want(t, "Write", d.Write(0, mixed), api.OK)
	if b, e := d.Read(0); e != api.OK || !bytes.Equal(b, mixed) {
		t.Error(e, b)
	}
}

// P5.2: no such sector, another length; nothing is spent by them.
func TestErrArg(t *testing.T) {
	d := wrote(t, 3, 2)
	want(t, "Arm", d.Arm(1), api.OK)
	for _, i := range []int{-1, 3, 4, math.MinInt, math.MaxInt} {
		if b, e := d.Read(i); e != api.ErrArg || len(b) != 0 {
			t.Error("Read", i, e)
		}
		want(t, "Write", d.Write(i, full(1)), api.ErrArg)
	}
	for _, n := range []int{0, 1, api.SectorSize - 1, api.SectorSize + 1, 2 * api.SectorSize} {
		want(t, "Write", d.Write(0, make([]byte, n)), api.ErrArg)
	}
	want(t, "Write of nil", d.Write(0, nil), api.ErrArg)
	if d.Ops() != 1 || !slices.Equal(d.Pending(), []int{2}) || d.Down() {
		t.Error(d.Ops(), d.Pending(), d.Down())
	}
	want(t, "what the plan has", d.Write(0, full(1)), api.OK)
	want(t, "another length with a plan of 0", d.Write(0, nil), api.ErrArg)
	want(t, "no such sector with a plan of 0", d.Write(3, full(1)), api.ErrArg)
	if d.Down() {
		t.Error("the power went by what is no operation")
	}
}

// P5.2: without power all of it is ErrPower, ahead of ErrArg.
func TestErrPower(t *testing.T) {
	d := wrote(t, 3, 2)
	want(t, "Arm", d.Arm(0), api.OK)
	want(t, "Flush", d.Flush(), api.ErrPower)
	for _, i := range []int{0, 2, -1, 3} {
		if b, e := d.Read(i); e != api.ErrPower || len(b) != 0 {
			t.Error("Read", i, e)
		}
		want(t, "Write", d.Write(i, full(1)), api.ErrPower)
		want(t, "Write", d.Write(i, nil), api.ErrPower)
	}
	want(t, "Flush", d.Flush(), api.ErrPower)
	for _, n := range []int{0, 1, -1} {
		want(t, "Arm", d.Arm(n), api.ErrPower)
	}
	if !d.Down() || d.Ops() != 1 || !slices.Equal(d.Pending(), []int{2}) {
		t.Error(d.Down(), d.Ops(), d.Pending())
	}
}

// P5.3: a plan of n lets just n operations go well; reading is none.
func TestArm(t *testing.T) {
	operate := func(d *Disk, k int) api.Errno {
		if k%3 == 2 {
			return d.Flush()
		}
		return d.Write(k%2, full(9))
	}
	for n := range 8 {
		d := made(t, 2)
		want(t, "Arm", d.Arm(n), api.OK)
		for k := range n {
			reads(t, d)
			want(t, "an operation of the plan", operate(d, k), api.OK)
		}
		reads(t, d)
		want(t, "the one behind it", operate(d, n), api.ErrPower)
		if !d.Down() || d.Ops() != n {
			t.Error(n, d.Down(), d.Ops())
		}
	}
	d := made(t, 2)
	want(t, "Arm", d.Arm(3), api.OK)
	want(t, "Write", d.Write(0, full(1)), api.OK)
	want(t, "Flush", d.Flush(), api.OK)
	reads(t, d)
	want(t, "Write", d.Write(1, full(2)), api.OK)
	reads(t, d)
	if d.Down() || d.Ops() != 3 {
		t.Error(d.Down(), d.Ops())
	}
	want(t, "Write", d.Write(0, full(3)), api.ErrPower)
	if !d.Down() || d.Ops() != 3 || !slices.Equal(d.Pending(), []int{1}) || !bytes.Equal(firsts(t, d), []byte{1, 0}) {
		t.Error("the write ahead of which the power went:", d.Ops(), d.Pending(), firsts(t, d))
	}
}

// P5.3: another plan goes; one that may not be leaves it.
func TestArmAgain(t *testing.T) {
	d := made(t, 1)
	want(t, "Arm", d.Arm(0), api.OK)
	want(t, "Arm", d.Arm(2), api.OK)
	want(t, "Arm", d.Arm(-1), api.ErrArg)
	want(t, "Arm", d.Arm(math.MinInt), api.ErrArg)
	want(t, "Flush", d.Flush(), api.OK)
	want(t, "Flush", d.Flush(), api.OK)
	want(t, "Flush", d.Flush(), api.ErrPower)
	want(t, "Restart", d.Restart(nil), api.OK)
	want(t, "Arm", d.Arm(math.MaxInt), api.OK)
	want(t, "Flush", d.Flush(), api.OK)
	want(t, "Arm", d.Arm(0), api.OK)
	want(t, "Write", d.Write(0, full(1)), api.ErrPower)
	if d.Ops() != 3 || len(d.Pending()) != 0 {
		t.Error(d.Ops(), d.Pending())
	}
}

// P5.3: the writes that are kept come in their own order, however they are told.
func TestRestart(t *testing.T) {
	for _, c := range []struct {
		keep []int
		want string
	}{
		{nil, "\x00\x00\x00"},
		{[]int{}, "\x00\x00\x00"},
		{[]int{0}, "\x01\x00\x00"},
		{[]int{1}, "\x00\x00\x02"},
		{[]int{2, 0}, "\x03\x00\x00"},
		{[]int{0, 2}, "\x03\x00\x00"},
		{[]int{3, 2, 1, 0}, "\x03\x00\x04"},
		{[]int{0, 0, 0}, "\x01\x00\x00"},
		{[]int{2, 0, 2, 0, 1, 2}, "\x03\x00\x02"},
		{[]int{3, 1, 3}, "\x00\x00\x04"},
	} {
		for _, down := range []bool{false, true} {
			d := wrote(t, 3, 0, 2, 0, 2)
			if down {
				d.Arm(0)
				want(t, "Write", d.Write(1, full(7)), api.ErrPower)
			} else {
				d.Arm(1)
			}
			given := slices.Clone(c.keep)
			want(t, "Restart", d.Restart(given), api.OK)
			if got := firsts(t, d); string(got) != c.want || !bytes.Equal(reads(t, d), got) {
				t.Errorf("%v: %v", c.keep, got)
			}
			if d.Down() || len(d.Pending()) != 0 || d.Ops() != 4 || !slices.Equal(given, c.keep) {
				t.Error(c.keep, d.Down(), d.Pending(), d.Ops(), given)
			}
			for range 3 {
				want(t, "no plan", d.Flush(), api.OK)
			}
		}
	}
}

// P5.3: a number that is no place in Pending; nothing happens then.
func TestRestartErrors(t *testing.T) {
	for _, keep := range [][]int{{-1}, {2}, {0, 1, 2}, {1, -1, 0}, {math.MaxInt}, {math.MinInt, 0}} {
		d := wrote(t, 2, 1, 1)
		d.Arm(0)
		want(t, "Restart", d.Restart(keep), api.ErrArg)
		if !slices.Equal(d.Pending(), []int{1, 1}) || !bytes.Equal(firsts(t, d), []byte{0, 0}) {
			t.Error(keep, d.Pending())
		}
		want(t, "the plan", d.Flush(), api.ErrPower)
		want(t, "Restart without power", d.Restart(keep), api.ErrArg)
		if !d.Down() {
			t.Error(keep, "there is power")
		}
	}
	d := made(t, 2)
	want(t, "nothing is pending", d.Restart([]int{0}), api.ErrArg)
	want(t, "nothing is pending", d.Restart(nil), api.OK)
}

// P5.3: noughts that are kept are sure, and count as any other write.
func TestRestartNoughts(t *testing.T) {
	d := wrote(t, 2, 0, 1)
	d.Flush()
	d.Write(0, full(0))
	d.Write(1, full(0))
	d.Write(1, full(8))
	want(t, "Restart", d.Restart([]int{0, 1}), api.OK)
	if got := firsts(t, d); !bytes.Equal(got, []byte{0, 0}) {
		t.Error(got)
	}
}

// P5.4: without power the same is told.
func TestPendingSureWithoutPower(t *testing.T) {
	d := wrote(t, 3, 2, 0)
	d.Flush()
	d.Write(0, full(9))
	d.Write(1, full(8))
	d.Write(0, full(7))
	for range 2 {
		if !slices.Equal(d.Pending(), []int{0, 1, 0}) || !bytes.Equal(firsts(t, d), []byte{2, 0, 1}) || d.Ops() != 6 || d.Sectors() != 3 {
			t.Error(d.Down(), d.Pending(), firsts(t, d), d.Ops())
		}
		d.Arm(0)
		want(t, "Write", d.Write(2, full(1)), api.ErrPower)
	}
}

// P5.4
func TestClone(t *testing.T) {
	d := wrote(t, 3, 2, 0, 2)
	d.Flush()
	d.Write(1, full(9))
	d.Arm(2)
	same := func(what string, c *Disk, pending []int, sure []byte, ops int, down bool) {
		t.Helper()
		if c.Sectors() != 3 || !slices.Equal(c.Pending(), pending) || !bytes.Equal(firsts(t, c), sure) || c.Ops() != ops || c.Down() != down {
			t.Error(what, c.Pending(), firsts(t, c), c.Ops(), c.Down())
		}
	}
	c := d.Clone()
	same("the clone", c, []int{1}, []byte{2, 0, 3}, 5, false)
	if got := reads(t, c); !bytes.Equal(got, []byte{2, 9, 3}) {
		t.Error(got)
	}
	want(t, "Write", c.Write(0, full(4)), api.OK)
	want(t, "Write", d.Write(0, full(6)), api.OK)
	if got, other := reads(t, c), reads(t, d); got[0] != 4 || other[0] != 6 {
		t.Error("they share what is pending", got, other)
	}
	want(t, "Flush", c.Flush(), api.OK)
	want(t, "the clone's plan", c.Flush(), api.ErrPower)
	same("the clone, later", c, nil, []byte{4, 9, 3}, 7, true)
	same("the first one", d, []int{1, 0}, []byte{2, 0, 3}, 6, false)
	down := c.Clone()
	same("a clone without power", down, nil, []byte{4, 9, 3}, 7, true)
	want(t, "Restart", down.Restart(nil), api.OK)
	if !c.Down() || down.Down() {
		t.Error("they share the power")
	}
	want(t, "the first one's plan", d.Flush(), api.OK)
	want(t, "the first one's plan", d.Flush(), api.ErrPower)
	same("the first one, later", d, nil, []byte{6, 9, 3}, 7, true)
}

// P5.4, rule 1: a disk that no call made.
func TestNoDisk(t *testing.T) {
	for _, d := range []*Disk{nil, {}} {
		b, e := d.Read(0)
		for _, got := range []api.Errno{e, d.Write(0, full(1)), d.Write(-1, nil), d.Flush(), d.Arm(1), d.Arm(-1), d.Restart(nil), d.Restart([]int{5})} {
			want(t, "no disk", got, api.ErrNil)
		}
		if len(b) != 0 || d.Sectors() != 0 || d.Down() || d.Ops() != 0 || len(d.Pending()) != 0 || len(d.Sure()) != 0 || d.Clone() != nil {
			t.Error("no disk tells something")
		}
	}
}

// subset tells the places whose bits are set.
func subset(bits int) []int {
	var out []int
	for i := 0; bits>>i != 0; i++ {
		if bits>>i&1 == 1 {
			out = append(out, i)
		}
	}
	return out
}

// P5.5: what was flushed, and not written since, is there whatever is kept.
func TestSureStays(t *testing.T) {
	d := wrote(t, 6, 0, 1, 2, 3, 4, 5)
	d.Flush()
	for _, i := range []int{1, 3, 1, 4, 3} {
		d.Write(i, full(byte(20+i)))
	}
	for bits := range 1 << 5 {
		c := d.Clone()
		want(t, "Restart", c.Restart(subset(bits)), api.OK)
		got := reads(t, c)
		if got[0] != 1 || got[2] != 3 || got[5] != 6 {
			t.Error(bits, got)
		}
	}
}

// P5.6
func TestAllOrNone(t *testing.T) {
	d := wrote(t, 4, 3, 1)
	d.Flush()
	for k, i := range []int{0, 1, 0, 3, 0, 3} {
		d.Write(i, full(byte(k*50)))
		all, none, flushed := d.Clone(), d.Clone(), d.Clone()
		want(t, "Restart", all.Restart(subset(1<<(k+1)-1)), api.OK)
		want(t, "Restart", none.Restart(nil), api.OK)
		want(t, "Flush", flushed.Flush(), api.OK)
		if !bytes.Equal(firsts(t, all), firsts(t, flushed)) || !bytes.Equal(reads(t, all), reads(t, d)) {
			t.Error("all", k)
		}
		if !bytes.Equal(firsts(t, none), firsts(t, d)) || !bytes.Equal(reads(t, none), []byte{0, 2, 0, 1}) {
			t.Error("none", k)
		}
	}
}

// The chapter's example.
func TestExample(t *testing.T) {
	for _, c := range []struct {
		keep []int
		want byte
	}{{nil, 0}, {[]int{0}, 0xff}} {
		d := made(t, 2)
		want(t, "Write", d.Write(0, full(0xff)), api.OK)
		want(t, "Arm", d.Arm(0), api.OK)
		want(t, "Flush", d.Flush(), api.ErrPower)
		want(t, "Restart", d.Restart(c.keep), api.OK)
		if b, e := d.Read(0); e != api.OK || !bytes.Equal(b, full(c.want)) {
			t.Error(c.keep, e, b)
		}
	}
}

// Rule 4: neither what is handed in nor what is handed out is shared.
func TestMemory(t *testing.T) {
	d := made(t, 2)
	room := full(1)
	room = append(room, full(2)...)
	d.Write(0, room[:api.SectorSize])
	clear(room)
	pending, _ := d.Read(0)
	clear(append(pending, 1)[:api.SectorSize])
	clear(pending)
	clear(append(d.Pending(), 1))
	if got := reads(t, d); got[0] != 1 || !slices.Equal(d.Pending(), []int{0}) {
		t.Error("a pending write is shared", got, d.Pending())
	}
	d.Flush()
	sure, _ := d.Read(0)
	clear(sure)
	all := d.Sure()
	grown := append(all[0], full(9)...)
	clear(grown)
	clear(all[0])
	if all[1] = append(all[1], 3); reads(t, d)[0] != 1 || !bytes.Equal(firsts(t, d), []byte{1, 0}) {
		t.Error("what is sure is shared")
	}
	again := d.Sure()
	for i := range again {
		clear(append(again[i], full(5)...))
	}
	if again[0][0] != 1 {
		t.Error("the lists of one answer share memory")
	}
}

// model is a disk as the chapter words it, one write behind the other.
type model struct {
	sure    []byte
	pending []write
	plan    int
	down    bool
	ops     int
}

func (m *model) spend() bool {
	if m.plan == 0 {
		m.down = true
		return false
	}
	m.plan, m.ops = max(m.plan-1, -1), m.ops+1
	return true
}

func (m *model) restart(keep []int) {
	for place, w := range m.pending {
		if slices.Contains(keep, place) {
			m.sure[w.at] = w.bytes[0]
		}
	}
	m.pending, m.down, m.plan = nil, false, -1
}

// step does one thing by chance to a disk and to its model, and tells what each answered.
func (m *model) step(d *Disk, r *rand.Rand) (got, wanted api.Errno) {
	if k := r.Intn(20); m.down && k < 16 || k == 0 {
		var keep []int
		for range r.Intn(len(m.pending) + 1) {
			keep = append(keep, r.Intn(len(m.pending)))
		}
		m.restart(keep)
		return d.Restart(keep), api.OK
	} else if m.down {
		return d.Flush(), api.ErrPower
	} else if k == 1 {
		m.plan = r.Intn(12)
		return d.Arm(m.plan), api.OK
	} else if k == 2 {
		if !m.spend() {
			return d.Flush(), api.ErrPower
		}
		for _, w := range m.pending {
			m.sure[w.at] = w.bytes[0]
		}
		m.pending = nil
		return d.Flush(), api.OK
	}
	i, c := r.Intn(len(m.sure)), byte(r.Intn(4))
	if !m.spend() {
		return d.Write(i, full(c)), api.ErrPower
	}
	m.pending = append(m.pending, write{i, sector(full(c))})
	return d.Write(i, full(c)), api.OK
}

func (m *model) compare(t *testing.T, d *Disk) {
	t.Helper()
	var sectors []int
	now := slices.Clone(m.sure)
	for _, w := range m.pending {
		sectors = append(sectors, w.at)
		now[w.at] = w.bytes[0]
	}
	if d.Down() != m.down || d.Ops() != m.ops || !slices.Equal(d.Pending(), sectors) || !bytes.Equal(firsts(t, d), m.sure) {
		t.Fatal("the disk is another one than its model")
	}
	if !m.down && !bytes.Equal(reads(t, d), now) {
		t.Fatal("the disk reads otherwise than its model")
	}
}

// P5.1 to P5.4 together, clones among them.
func TestAgainstModel(t *testing.T) {
	for seed := range int64(20) {
		r := rand.New(rand.NewSource(seed))
		n := 1 + r.Intn(6)
		d, m := made(t, n), &model{sure: make([]byte, n), plan: -1}
		for range 400 {
			if r.Intn(10) == 0 {
				d = d.Clone()
			}
			if got, wanted := m.step(d, r); got != wanted {
				t.Fatal(seed, got, wanted)
			}
			m.compare(t, d)
		}
	}
}
