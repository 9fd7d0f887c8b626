package wal_test

import (
	"bytes"
	"slices"
	"strings"
	"testing"

	"ingot/api"
	"ingot/disk"
	"ingot/wal"
)

func bytesOf(recs ...string) [][]byte {
	var out [][]byte
	for _, rec := range recs {
		out = append(out, []byte(rec))
	}
	return out
}

func opened(t *testing.T, d *disk.Disk) *wal.Log {
	t.Helper()
	l, _, e := wal.Open(d)
	if e != api.OK || l == nil {
		t.Fatal(e)
	}
	return l
}

func want(t *testing.T, what string, got, wanted api.Errno) {
	t.Helper()
	if got != wanted {
		t.Errorf("%s: %v, not %v", what, got, wanted)
	}
}

// state wants a log to have so many sectors, and room for so many.
func state(t *testing.T, what string, l *wal.Log, used, room int) {
	t.Helper()
	if l.Used() != used || l.Room() != room {
		t.Errorf("%s: used %d, room %d, not %d, %d", what, l.Used(), l.Room(), used, room)
	}
}

// of is n bytes.
func of(n int) string { return strings.Repeat("v", n) }

// The chapter's example.
func TestExample(t *testing.T) {
	d := lay(t, 10)
	l, recs, e := wal.Open(d.Disk)
	if e != api.OK || len(recs) != 0 || l.Epoch() != 1 {
		t.Fatal(e, recs)
	}
	state(t, "a new log", l, 0, 4)
	want(t, "Append", l.Append(bytesOf("a")), api.OK)
	b, _ := d.Read(3)
	begin := []byte{0x4c, 0, 0, 0, 0, 0, 0, 0, 1, 0, 0, 0, 0, 0, 0, 0, 1, 1, 2, 1, 0x61}
	if !bytes.Equal(b, sealSector(begin)) {
		t.Error(b)
	}
	if b, _ := d.Read(1); !bytes.Equal(b, rootSector(1, 1, 1, 1)) {
		t.Error("the root", b)
	}
	state(t, "behind it", l, 1, 3)
}

// P6.1: errors in their order.
func TestOpenErrors(t *testing.T) {
	down := func(sectors int) *disk.Disk {
		d := lay(t, sectors)
		d.Arm(0)
		d.Flush()
		return d.Disk
	}
	for _, c := range []struct {
		what string
		d    *disk.Disk
		want api.Errno
	}{
		{"nil", nil, api.ErrNil},
		{"no disk", &disk.Disk{}, api.ErrNil},
		{"no power", down(6), api.ErrPower},
		{"no power, five sectors", down(5), api.ErrPower},
		{"five sectors", lay(t, 5).Disk, api.ErrArg},
		{"one sector", lay(t, 1).Disk, api.ErrArg},
		{"five sectors and a root that is the last one", lay(t, 5).root(limit, 1, 1, 1).Disk, api.ErrArg},
	} {
		ops := c.d.Ops()
		l, recs, e := wal.Open(c.d)
		if e != c.want || l != nil || len(recs) != 0 || c.d.Ops() != ops {
			t.Error(c.what, e)
		}
	}
	state(t, "six sectors", opened(t, lay(t, 6).Disk), 0, 2)
	state(t, "seven sectors", opened(t, lay(t, 7).Disk), 0, 2)
	state(t, "eight sectors", opened(t, lay(t, 8).Disk), 0, 3)
}

// P6.1: power that goes on the way: no log, and what was told stays.
func TestOpenWithoutPower(t *testing.T) {
	for n := range 2 {
		d := lay(t, 6)
		want(t, "Append", opened(t, d.Disk).Append(bytesOf("a")), api.OK)
		d.Arm(n)
		if l, recs, e := wal.Open(d.Disk); e != api.ErrPower || l != nil || len(recs) != 0 {
			t.Error(n, e)
		}
		for _, keep := range [][]int{nil, {0}} {
			c := d.Clone()
			if len(c.Pending()) < len(keep) {
				continue
			}
			c.Restart(keep)
			openTells(t, "behind that", c, "a")
		}
	}
}

// P6.2: what is written where.
func TestAppend(t *testing.T) {
	d := lay(t, 20)
	opened(t, d.Disk)
	l := opened(t, d.Disk)
	var image [][]byte
	image = append(image, rootSector(2, 2, 1, 1), rootSector(1, 1, 1, 1))
	for range 18 {
		image = append(image, make([]byte, 256))
	}
	q, used := uint64(1), 0
	for _, recs := range [][]string{{"a"}, {of(231), "b"}, {"c", of(232)}, {of(690)}, {of(231)}} {
		ops := d.Ops()
		want(t, "Append", l.Append(bytesOf(recs...)), api.OK)
		group := groupSectors(markLog, q, 2, texts(recs...))
		for _, b := range group {
			image[2+q%18] = b
			q++
		}
		used += len(group)
		if d.Ops() != ops+len(group)+1 || len(d.Pending()) != 0 || !slices.EqualFunc(d.Sure(), image, bytes.Equal) {
			t.Fatal("other sectors than those of the group", used)
		}
		state(t, "behind it", l, used, 9-used)
	}
	openTells(t, "all of it", d.Disk, "a", of(231), "b", "c", of(232), of(690), of(231))
}

// P6.2: the group's sectors are written in their order.
func TestAppendOrder(t *testing.T) {
	d := lay(t, 14)
	l := opened(t, d.Disk)
	l.Checkpoint(nil)
	want(t, "Append", l.Append(bytesOf("a", of(233*3))), api.OK)
	d.Arm(2)
	want(t, "Append", l.Append(bytesOf(of(400))), api.ErrPower)
	if !slices.Equal(d.Pending(), []int{7, 8}) {
		t.Error(d.Pending())
	}
}

// P6.2: errors in their order; with an error nothing is written.
func TestAppendErrors(t *testing.T) {
	d := lay(t, 60)
	l := opened(t, d.Disk)
	want(t, "Append", l.Append(bytesOf("a")), api.OK)
	ahead := d.Clone()
	for _, c := range []struct {
		what string
		recs [][]byte
		want api.Errno
	}{
		{"nil", nil, api.ErrArg},
		{"no records", [][]byte{}, api.ErrArg},
		{"a nil one", [][]byte{nil}, api.ErrArg},
		{"an empty one", bytesOf("a", ""), api.ErrArg},
		{"an empty one behind one too long", bytesOf(of(4097), ""), api.ErrArg},
		{"one too long", bytesOf(of(4097)), api.ErrLong},
		{"one too long, and far too many", append(bytesOf(of(4096), of(4096)), bytesOf(of(4097))...), api.ErrLong},
		{"too many", bytesOf(of(4096), of(4096)), api.ErrFull},
	} {
		want(t, c.what, l.Append(c.recs), c.want)
		state(t, c.what, l, 1, 28)
	}
	if d.Ops() != ahead.Ops() || !slices.EqualFunc(d.Sure(), ahead.Sure(), bytes.Equal) {
		t.Error("something was written")
	}
	want(t, "the longest record", l.Append(bytesOf(of(4096))), api.OK)
	state(t, "the longest record", l, 19, 10)
}

// P6.2: as many sectors as there is room, and one more.
func TestAppendFull(t *testing.T) {
	for sectors := 6; sectors < 14; sectors++ {
		half := (sectors - 2) / 2
		d := lay(t, sectors)
		l := opened(t, d.Disk)
		want(t, "one byte too many", l.Append(bytesOf(of(half*233-1))), api.ErrFull)
		want(t, "just so many", l.Append(bytesOf(of(half*233-2))), api.OK)
		state(t, "all is used", l, half, 0)
		want(t, "one more", l.Append(bytesOf("a")), api.ErrFull)
		want(t, "moved", l.Checkpoint(bytesOf("b")), api.OK)
		state(t, "moved", l, 1, half-1)
		for range half - 1 {
			want(t, "a sector each", l.Append(bytesOf("c")), api.OK)
		}
		want(t, "one more", l.Append(bytesOf("a")), api.ErrFull)
		openTells(t, "all of it", d.Disk, append([]string{"b"}, slices.Repeat([]string{"c"}, half-1)...)...)
	}
}

// P6.2, P6.3: no number is above 2^48.
func TestNumbersEnd(t *testing.T) {
	at := func(start uint64) *wal.Log { return opened(t, lay(t, 10).root(2, 2, start, 1).Disk) }
	l := at(limit)
	want(t, "two sectors, one number", l.Append(bytesOf(of(233))), api.ErrFull)
	want(t, "a checkpoint of two", l.Checkpoint(bytesOf(of(233))), api.ErrFull)
	want(t, "the last number", l.Append(bytesOf("a")), api.OK)
	want(t, "no number is left", l.Append(bytesOf("a")), api.ErrFull)
	want(t, "nor for a checkpoint", l.Checkpoint(bytesOf("a")), api.ErrFull)
	want(t, "nor for a start", l.Checkpoint(nil), api.ErrFull)
	state(t, "the last number", l, 1, 3)
	l = at(limit - 1)
	want(t, "two sectors, two numbers", l.Append(bytesOf(of(233))), api.OK)
	want(t, "no number is left", l.Checkpoint(nil), api.ErrFull)
	l = at(limit - 1)
	want(t, "a checkpoint of two", l.Checkpoint(bytesOf(of(233))), api.OK)
	l = at(limit)
	want(t, "a start at the last number", l.Checkpoint(nil), api.OK)
	want(t, "a checkpoint there", l.Checkpoint(bytesOf("a")), api.OK)
	want(t, "no number is left", l.Checkpoint(bytesOf("a")), api.ErrFull)
}

// P6.3: no serial number is above 2^48.
func TestSerialsEnd(t *testing.T) {
	for _, recs := range [][][]byte{nil, bytesOf("a")} {
		d := lay(t, 10).root(limit-2, 2, 1, 1)
		l := opened(t, d.Disk)
		want(t, "the last serial number", l.Checkpoint(recs), api.OK)
		ops := d.Ops()
		want(t, "none is left", l.Checkpoint(recs), api.ErrFull)
		if d.Ops() != ops {
			t.Error("something was written")
		}
		want(t, "Append goes on", l.Append(bytesOf("b")), api.OK)
		if _, _, e := wal.Open(d.Disk); e != api.ErrFull {
			t.Error("Open", e)
		}
	}
}

// P6.3: what is written where.
func TestCheckpoint(t *testing.T) {
	d := lay(t, 10)
	opened(t, d.Disk)
	l := opened(t, d.Disk)
	want(t, "Append", l.Append(bytesOf("a", of(300))), api.OK)
	image, ops := d.Sure(), d.Ops()
	want(t, "Checkpoint", l.Checkpoint(bytesOf("b", of(400))), api.OK)
	group := groupSectors(markMove, 3, 2, texts("b", of(400)))
	image[5], image[6], image[1] = group[0], group[1], rootSector(3, 2, 3, 2)
	if d.Ops() != ops+5 || len(d.Pending()) != 0 || !slices.EqualFunc(d.Sure(), image, bytes.Equal) {
		t.Error("other sectors than a group's and a root's")
	}
	state(t, "behind it", l, 2, 2)
	want(t, "Append", l.Append(bytesOf("c")), api.OK)
	image[7] = groupSectors(markLog, 5, 2, texts("c"))[0]
	want(t, "Checkpoint of nothing", l.Checkpoint(nil), api.OK)
	image[0] = rootSector(4, 2, 6, 2)
	if d.Ops() != ops+9 || !slices.EqualFunc(d.Sure(), image, bytes.Equal) {
		t.Error("other sectors than a root")
	}
	state(t, "behind that", l, 0, 4)
	want(t, "Append", l.Append(bytesOf("d")), api.OK)
	openTells(t, "all of it", d.Disk, "d")
}

// P6.3: the group is sure ahead of the root's writing.
func TestCheckpointOrder(t *testing.T) {
	for n := range 5 {
		d := lay(t, 10)
		l := opened(t, d.Disk)
		want(t, "Append", l.Append(bytesOf("a")), api.OK)
		d.Arm(n)
		e := l.Checkpoint(bytesOf(of(233)))
		want(t, "Checkpoint", e, api.ErrPower)
		pending := [][]int{nil, {4}, {4, 5}, nil, {0}}
		if !slices.Equal(d.Pending(), pending[n]) {
			t.Error(n, d.Pending())
		}
		state(t, "not moved", l, 1, 3)
	}
}

// P6.3: errors in their order; with an error nothing is written.
func TestCheckpointErrors(t *testing.T) {
	d := lay(t, 60)
	l := opened(t, d.Disk)
	want(t, "Append", l.Append(bytesOf("a")), api.OK)
	ahead := d.Clone()
	for _, c := range []struct {
		what string
		recs [][]byte
		want api.Errno
	}{
		{"a nil one", [][]byte{nil}, api.ErrArg},
		{"an empty one behind one too long", bytesOf(of(4097), ""), api.ErrArg},
		{"one too long", bytesOf(of(4097)), api.ErrLong},
		{"one too long, and far too many", bytesOf(of(4096), of(4096), of(4097)), api.ErrLong},
		{"too many", bytesOf(of(4096), of(4096)), api.ErrFull},
	} {
		want(t, c.what, l.Checkpoint(c.recs), c.want)
		state(t, c.what, l, 1, 28)
	}
	if d.Ops() != ahead.Ops() || !slices.EqualFunc(d.Sure(), ahead.Sure(), bytes.Equal) {
		t.Error("something was written")
	}
	want(t, "an empty list", l.Checkpoint([][]byte{}), api.OK)
	state(t, "an empty list", l, 0, 29)
}

// P6.3: at most half of the ring, whatever room there is, and at most what is not used.
func TestCheckpointFull(t *testing.T) {
	for sectors := 6; sectors < 14; sectors++ {
		half := (sectors - 2) / 2
		d := lay(t, sectors)
		l := opened(t, d.Disk)
		want(t, "Append", l.Append(bytesOf(of(half*233-2))), api.OK)
		for range 3 {
			want(t, "one byte too many", l.Checkpoint(bytesOf(of(half*233-1))), api.ErrFull)
			want(t, "just half", l.Checkpoint(bytesOf(of(half*233-2))), api.OK)
			state(t, "just half", l, half, 0)
		}
		openTells(t, "all of it", d.Disk, of(half*233-2))
	}
	d := lay(t, 10).root(1, 1, 1, 1).group(markLog, 1, 1, of(6*233-2))
	l := opened(t, d.Disk)
	state(t, "more than half", l, 6, 0)
	want(t, "three sectors of two", l.Checkpoint(bytesOf(of(2*233-1))), api.ErrFull)
	want(t, "two sectors of two", l.Checkpoint(bytesOf(of(2*233-2))), api.OK)
	state(t, "two sectors", l, 2, 2)
}

// P6.2, P6.3: once ErrPower was answered, it is answered for good, ahead of all but ErrNil.
func TestLost(t *testing.T) {
	begin := map[string]func(l *wal.Log) api.Errno{
		"Append":     func(l *wal.Log) api.Errno { return l.Append(bytesOf("b")) },
		"Checkpoint": func(l *wal.Log) api.Errno { return l.Checkpoint(bytesOf("b")) },
		"of nothing": func(l *wal.Log) api.Errno { return l.Checkpoint(nil) },
	}
	for what, call := range begin {
		d := lay(t, 10)
		l := opened(t, d.Disk)
		want(t, "Append", l.Append(bytesOf("a")), api.OK)
		d.Arm(1)
		want(t, what, call(l), api.ErrPower)
		for range 2 {
			for _, recs := range [][][]byte{nil, {nil}, bytesOf("c"), bytesOf(of(4097)), bytesOf(of(4096))} {
				want(t, what, l.Append(recs), api.ErrPower)
				want(t, what, l.Checkpoint(recs), api.ErrPower)
			}
			state(t, what, l, 1, 3)
			if l.Epoch() != 1 {
				t.Error(what, l.Epoch())
			}
			d.Restart(nil) // The disk has power again; the log does not know what it has.
		}
	}
}

// P6.2: without power, but not told so yet, what may not be is still the answer.
func TestDownUntold(t *testing.T) {
	d := lay(t, 10)
	l := opened(t, d.Disk)
	d.Arm(0)
	d.Flush()
	want(t, "no records", l.Append(nil), api.ErrArg)
	want(t, "one too long", l.Append(bytesOf(of(4097))), api.ErrLong)
	want(t, "too many", l.Checkpoint(bytesOf(of(4096))), api.ErrFull)
	c := d.Clone()
	want(t, "Append", l.Append(bytesOf("a")), api.ErrPower)
	c.Restart(nil)
	openTells(t, "nothing", c)
}

// P6.2: power that comes back ahead of a call is not seen.
func TestRestartUnseen(t *testing.T) {
	d := lay(t, 10)
	l := opened(t, d.Disk)
	d.Arm(0)
	d.Flush()
	d.Restart(nil)
	want(t, "Append", l.Append(bytesOf("a")), api.OK)
	openTells(t, "that", d.Disk, "a")
}

// P6.4, rule 1: a log that no call made.
func TestNoLog(t *testing.T) {
	for _, l := range []*wal.Log{nil, {}} {
		for _, recs := range [][][]byte{nil, {nil}, bytesOf("a"), bytesOf(of(4097))} {
			want(t, "no log", l.Append(recs), api.ErrNil)
			want(t, "no log", l.Checkpoint(recs), api.ErrNil)
		}
		if l.Used() != 0 || l.Room() != 0 || l.Epoch() != 0 {
			t.Error("no log tells something")
		}
	}
}

// 'Ways': the disk's calls are the log's, too.
func TestPromoted(t *testing.T) {
	d := lay(t, 10)
	l := opened(t, d.Disk)
	want(t, "Arm", l.Arm(0), api.OK)
	if l.Sectors() != 10 || d.Flush() != api.ErrPower || !l.Down() {
		t.Error("another disk")
	}
}

// Rule 4: records are neither changed nor kept, and those that are told are new.
func TestMemory(t *testing.T) {
	room := bytes.Repeat([]byte{7}, 40)
	recs := [][]byte{room[:3], room[10:13], room[20:23]}[:2]
	d := lay(t, 10)
	l := opened(t, d.Disk)
	want(t, "Append", l.Append(recs), api.OK)
	want(t, "Checkpoint", l.Checkpoint(recs), api.OK)
	if !bytes.Equal(room, bytes.Repeat([]byte{7}, 40)) || len(recs[:3][2]) != 3 {
		t.Error("what was given is changed")
	}
	clear(room)
	_, told, _ := wal.Open(d.Disk)
	if len(told) != 2 || string(told[0]) != "\x07\x07\x07" {
		t.Fatal(told)
	}
	clear(append(told[0], 1, 2, 3, 4, 5, 6, 7, 8)[3:])
	if string(told[1]) != "\x07\x07\x07" {
		t.Error("the records share memory")
	}
	clear(told[1])
	openTells(t, "again", d.Disk, "\x07\x07\x07", "\x07\x07\x07")
}
