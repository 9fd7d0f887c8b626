package wal_test

import (
	"bytes"
	"encoding/binary"
	"hash/crc32"
	"math/rand"
	"slices"
	"strings"
	"testing"

	"ingot/api"
	"ingot/disk"
	"ingot/wal"
)

const (
	markRoot = 0x52
	markLog  = 0x4c
	markMove = 0x43
	limit    = 1 << 48
)

// sealSector fills bytes up to a sector, with the library's sum at its end.
func sealSector(b []byte) []byte {
	b = append(slices.Clone(b), make([]byte, 252-len(b))...)
	return binary.BigEndian.AppendUint32(b, crc32.ChecksumIEEE(b))
}

func rootSector(serial, epoch, start, floor uint64) []byte {
	b := []byte{markRoot}
	for _, n := range []uint64{serial, epoch, start, floor} {
		b = binary.BigEndian.AppendUint64(b, n)
	}
	return sealSector(b)
}

func logSector(mark byte, number, epoch uint64, last, used byte, load []byte) []byte {
	b := binary.BigEndian.AppendUint64([]byte{mark}, number)
	b = binary.BigEndian.AppendUint64(b, epoch)
	return sealSector(append(append(b, last, used), load...))
}

// texts is a group's load.
func texts(recs ...string) []byte {
	var b []byte
	for _, rec := range recs {
		b = append(binary.AppendUvarint(b, uint64(len(rec))), rec...)
	}
	return b
}

// groupSectors cuts a load into sectors from a number on.
func groupSectors(mark byte, number, epoch uint64, load []byte) [][]byte {
	var out [][]byte
	for len(load) > 233 {
		out = append(out, logSector(mark, number, epoch, 0, 233, load[:233]))
		load = load[233:]
		number++
	}
	return append(out, logSector(mark, number, epoch, 1, byte(len(load)), load))
}

// lain is a disk that is laid sector by sector.
type lain struct {
	t *testing.T
	*disk.Disk
}

func lay(t *testing.T, sectors int) lain {
	t.Helper()
	d, e := disk.New(sectors)
	if e != api.OK {
		t.Fatal(e)
	}
	return lain{t, d}
}

func (l lain) put(i int, b []byte) lain {
	l.t.Helper()
	if e := l.Write(i, b); e != api.OK {
		l.t.Fatal(i, e)
	}
	return l
}

func (l lain) root(serial, epoch, start, floor uint64) lain {
	l.t.Helper()
	return l.put(int(serial%2), rootSector(serial, epoch, start, floor))
}

// sector puts a log sector where its number says.
func (l lain) sector(b []byte) lain {
	l.t.Helper()
	number := binary.BigEndian.Uint64(b[1:])
	return l.put(2+int(number%uint64(l.Sectors()-2)), b)
}

func (l lain) group(mark byte, number, epoch uint64, recs ...string) lain {
	l.t.Helper()
	for _, b := range groupSectors(mark, number, epoch, texts(recs...)) {
		l.sector(b)
	}
	return l
}

// now tells what all sectors have, sure or not.
func now(t *testing.T, d *disk.Disk) [][]byte {
	t.Helper()
	c := d.Clone()
	if e := c.Flush(); e != api.OK {
		t.Fatal(e)
	}
	return c.Sure()
}

// answer is what Open must do with a disk.
type answer struct {
	err                         api.Errno
	recs                        []string
	serial, epoch, start, floor uint64
	used                        int
}

// reader reads a disk as the chapter words it, field by field.
type reader [][]byte

func be(b []byte) uint64 { return binary.BigEndian.Uint64(b) }

func sumHolds(b []byte) bool { return binary.BigEndian.Uint32(b[252:]) == crc32.ChecksumIEEE(b[:252]) }

func allNought(b []byte) bool { return bytes.Count(b, []byte{0}) == len(b) }

func may(n uint64) bool { return n >= 1 && n <= limit }

func (r reader) rootRight(i int) bool {
	b := r[i]
	if b[0] != markRoot || !sumHolds(b) || !allNought(b[33:252]) {
		return false
	}
	serial, epoch, start, floor := be(b[1:]), be(b[9:]), be(b[17:]), be(b[25:])
	return may(serial) && may(epoch) && may(start) && may(floor) && serial%2 == uint64(i) && floor <= epoch
}

func (r reader) sectorRight(i int) bool {
	b := r[i]
	if b[0] != markLog && b[0] != markMove || !sumHolds(b) || b[17] > 1 || b[18] == 0 || b[18] > 233 {
		return false
	}
	if b[17] == 0 && b[18] != 233 || !allNought(b[19+int(b[18]):252]) {
		return false
	}
	return may(be(b[1:])) && may(be(b[9:])) && be(b[1:])%uint64(len(r)-2)+2 == uint64(i)
}

// split tells the records of a load, nil if it is none.
func split(load []byte) []string {
	var out []string
	for len(load) > 0 {
		n, size := binary.Uvarint(load)
		if size <= 0 || n < 1 || n > 4096 || int(n) > len(load)-size || size != len(binary.AppendUvarint(nil, n)) {
			return nil
		}
		out = append(out, string(load[size:size+int(n)]))
		load = load[size+int(n):]
	}
	return out
}

// group tells the records from a number on, of how many sectors, their mark and their epoch.
func (r reader) group(q uint64) ([]string, int, byte, uint64) {
	var load []byte
	ring := uint64(len(r) - 2)
	head := r[2+q%ring]
	for k := range ring {
		i := 2 + (q+k)%ring
		b := r[i]
		if !r.sectorRight(int(i)) || be(b[1:]) != q+k || b[0] != head[0] || be(b[9:]) != be(head[9:]) {
			return nil, 0, 0, 0
		}
		load = append(load, b[19:19+int(b[18])]...)
		if b[17] == 1 {
			return split(load), int(k + 1), b[0], be(b[9:])
		}
	}
	return nil, 0, 0, 0
}

// open tells what Open must answer.
func (r reader) open() answer {
	var a answer
	greatest := uint64(0)
	for i := 2; i < len(r); i++ {
		if r.sectorRight(i) {
			greatest = max(greatest, be(r[i][9:]))
		}
	}
	for i := range 2 {
		if r.rootRight(i) && be(r[i][1:]) > a.serial {
			a.serial, a.epoch, a.start, a.floor = be(r[i][1:]), be(r[i][9:]), be(r[i][17:]), be(r[i][25:])
		}
	}
	fresh := a.serial == 0
	a.serial, a.epoch = a.serial+1, max(a.epoch, greatest)+1
	if a.serial > limit || a.epoch > limit {
		return answer{err: api.ErrFull}
	}
	if fresh {
		a.start, a.floor = 1, a.epoch
		return a
	}
	least := a.floor
	for {
		recs, n, mark, epoch := r.group(a.start + uint64(a.used))
		if len(recs) == 0 || epoch < least || mark == markMove && a.used > 0 || a.used+n > len(r)-2 {
			return a
		}
		a.recs, a.used, least = append(a.recs, recs...), a.used+n, epoch
	}
}

func stringsOf(recs [][]byte) []string {
	var out []string
	for _, rec := range recs {
		out = append(out, string(rec))
	}
	return out
}

// holdOpen opens a disk, and holds all that this does to what the chapter says.
func holdOpen(t *testing.T, d *disk.Disk) (*wal.Log, answer) {
	t.Helper()
	ahead, ops := now(t, d), d.Ops()
	a := reader(ahead).open()
	l, recs, e := wal.Open(d)
	if e != a.err {
		t.Fatalf("Open: %v, not %v", e, a.err)
	}
	if e != api.OK {
		if l != nil || len(recs) != 0 || d.Ops() != ops {
			t.Fatal("an error, and something else")
		}
		return nil, a
	}
	if !slices.Equal(stringsOf(recs), a.recs) {
		t.Fatalf("Open tells %q, not %q", recs, a.recs)
	}
	half := (d.Sectors() - 2) / 2
	if l.Epoch() != int(a.epoch) || l.Used() != a.used || l.Room() != max(0, half-a.used) {
		t.Fatal("epoch, used, room:", l.Epoch(), l.Used(), l.Room(), "not", a.epoch, a.used)
	}
	ahead[a.serial%2] = rootSector(a.serial, a.epoch, a.start, a.floor)
	if d.Ops() != ops+2 || len(d.Pending()) != 0 || !slices.EqualFunc(d.Sure(), ahead, bytes.Equal) {
		t.Fatal("Open writes something else than one root")
	}
	return l, a
}

// openTells opens a disk that must tell just these records.
func openTells(t *testing.T, what string, d *disk.Disk, want ...string) *wal.Log {
	t.Helper()
	c := d.Clone()
	_, recs, e := wal.Open(c)
	if e != api.OK || !slices.Equal(stringsOf(recs), want) {
		t.Fatalf("%s: %v, %q, not %q", what, e, recs, want)
	}
	l, _ := holdOpen(t, d)
	return l
}

// P6.1: the right root of the greater serial number.
func TestOpenRoots(t *testing.T) {
	three := func() lain { return lay(t, 10).group(markLog, 3, 4, "a").group(markLog, 4, 4, "b") }
	openTells(t, "one root in sector 1", three().root(7, 4, 3, 2).Disk, "a", "b")
	openTells(t, "one root in sector 0", three().root(8, 4, 4, 4).Disk, "b")
	openTells(t, "the greater one in sector 0", three().root(7, 4, 3, 4).root(8, 4, 4, 4).Disk, "b")
	openTells(t, "the greater one in sector 1", three().root(9, 4, 3, 4).root(8, 9, 4, 4).Disk, "a", "b")
	openTells(t, "none", three().Disk)
	openTells(t, "a floor above the groups", three().root(7, 5, 3, 5).Disk)
	openTells(t, "a start without a group", three().root(7, 5, 2, 1).Disk)
	if l := openTells(t, "epochs of the ring", three().root(7, 2, 3, 2).Disk, "a", "b"); l.Epoch() != 5 {
		t.Error(l.Epoch())
	}
	if l := openTells(t, "the root's epoch", three().root(7, 9, 3, 2).Disk, "a", "b"); l.Epoch() != 10 {
		t.Error(l.Epoch())
	}
	// The epoch of a root that is not the greater one does not count.
	if l := openTells(t, "the other root's epoch", three().root(9, 4, 3, 4).root(8, 9, 4, 4).Disk, "a", "b"); l.Epoch() != 5 {
		t.Error(l.Epoch())
	}
	if l := openTells(t, "the epochs of a ring without a root", three().sector(logSector(markMove, 5, 11, 1, 1, []byte{7})).Disk); l.Epoch() != 12 {
		t.Error(l.Epoch())
	}
}

// broken tells a sector of which some bytes are others, with its sum anew.
func broken(b []byte, at int, with ...byte) []byte {
	b = slices.Clone(b[:252])
	copy(b[at:], with)
	return sealSector(b)
}

// 'What lies on the disk': roots that are not right are none.
func TestWrongRoots(t *testing.T) {
	good := rootSector(8, 4, 3, 2)
	turned := slices.Clone(good)
	turned[255] ^= 1
	for what, b := range map[string][]byte{
		"another mark":                broken(good, 0, markLog),
		"another sum":                 turned,
		"a byte behind":               broken(good, 33, 1),
		"a last byte behind":          broken(good, 251, 1),
		"another place":               rootSector(7, 4, 3, 2),
		"a serial number of 0":        rootSector(0, 4, 3, 2),
		"a serial number above 2^48":  rootSector(limit+2, 4, 3, 2),
		"a serial number of 2^63":     rootSector(1<<63, 4, 3, 2),
		"an epoch of 0":               rootSector(8, 0, 3, 0),
		"an epoch above 2^48":         rootSector(8, limit+1, 3, 2),
		"an epoch of all ones":        rootSector(8, 1<<64-1, 3, 2),
		"a start of 0":                rootSector(8, 4, 0, 2),
		"a start above 2^48":          rootSector(8, 4, limit+1, 2),
		"a start that is 3 mod 2^56":  rootSector(8, 4, 1<<56+3, 2),
		"a floor of 0":                rootSector(8, 4, 3, 0),
		"a floor above the epoch":     rootSector(8, 4, 3, 5),
		"a floor and an epoch beyond": rootSector(8, limit+1, 3, limit+1),
		"noughts":                     make([]byte, 256),
	} {
		d := lay(t, 10).group(markLog, 3, 4, "a")
		if l := openTells(t, what, d.put(0, b).Disk); l.Epoch() != 5 {
			t.Error(what, l.Epoch())
		}
		d = lay(t, 10).group(markLog, 3, 4, "a").group(markLog, 4, 4, "b")
		openTells(t, what+" beside a right one", d.put(0, b).root(5, 4, 4, 1).Disk, "b")
	}
	openTells(t, "a floor that is the epoch", lay(t, 10).group(markLog, 3, 4, "a").root(8, 4, 3, 4).Disk, "a")
}

// 'What lies on the disk': a sector that is not right ends what is told.
func TestWrongSectors(t *testing.T) {
	long := strings.Repeat("x", 300)
	lead := func() lain { return lay(t, 10).root(1, 5, 6, 1).group(markLog, 6, 3, "a") }
	good := groupSectors(markLog, 7, 4, texts(long))
	if openTells(t, "right ones", lead().sector(good[0]).sector(good[1]).Disk, "a", long).Used() != 3 {
		t.Error("right ones")
	}
	turned := slices.Clone(good[1])
	turned[100] ^= 1
	elsewhere := lead().sector(good[0]).put(9, good[1])
	openTells(t, "another place", elsewhere.Disk, "a")
	for what, b := range map[string][]byte{
		"another mark":              broken(good[1], 0, markRoot),
		"a checkpoint's mark":       broken(good[1], 0, markMove),
		"another sum":               turned,
		"another epoch":             broken(good[1], 16, 5),
		"an epoch of 0":             broken(good[1], 16, 0),
		"an epoch above 2^48":       broken(good[1], 9, 0, 1, 0, 0, 0, 0, 0, 1),
		"an epoch of another byte":  broken(good[1], 9, 1),
		"another number":            broken(good[1], 8, 16),
		"a number of other bytes":   broken(good[1], 1, 1),
		"marked by 2":               broken(good[1], 17, 2),
		"not marked":                broken(good[1], 17, 0),
		"no bytes are used":         broken(good[1], 18, 0),
		"too many are used":         broken(good[1], 18, 234),
		"one byte less is used":     broken(good[1], 18, good[1][18]-1),
		"one byte more is used":     broken(good[1], 18, good[1][18]+1),
		"a byte behind those":       broken(good[1], 19+int(good[1][18]), 1),
		"a byte ahead of the sum":   broken(good[1], 251, 1),
		"the sector is noughts":     make([]byte, 256),
		"a sector of 1 more number": logSector(markLog, 16, 4, 1, 69, good[1][19:88]),
	} {
		d := lead().sector(good[0]).put(2, b)
		if l := openTells(t, what, d.Disk, "a"); l.Used() != 1 {
			t.Error(what, l.Used())
		}
	}
	short := logSector(markLog, 7, 4, 0, 232, good[0][19:19+232])
	openTells(t, "not the last one, not all used", lead().sector(short).sector(good[1]).Disk, "a")
	openTells(t, "the first one is missing", lead().sector(good[1]).Disk, "a")
	openTells(t, "the last one is missing", lead().sector(good[0]).Disk, "a")
	openTells(t, "marked too soon", lead().sector(broken(good[0], 17, 1)).sector(good[1]).Disk, "a")
}

// 'What lies on the disk': loads that are no records.
func TestWrongLoads(t *testing.T) {
	whole := func(load []byte) *disk.Disk {
		d := lay(t, 60).root(1, 5, 6, 1).group(markLog, 6, 3, "a")
		for _, b := range groupSectors(markLog, 7, 4, load) {
			d.sector(b)
		}
		return d.Disk
	}
	most := strings.Repeat("y", api.MaxRecord)
	openTells(t, "the longest record", whole(texts(most)), "a", most)
	openTells(t, "several", whole(texts("b", most, "c")), "a", "b", most, "c")
	openTells(t, "a record of 128 bytes", whole(texts(most[:128])), "a", most[:128])
	for what, load := range map[string][]byte{
		"a record too long":        texts(most + "y"),
		"an empty one":             texts(""),
		"an empty one ahead":       texts("", "b"),
		"an empty one behind":      texts("b", ""),
		"a number in another form": append([]byte{0x81, 0}, 'b'),
		"one that ends too soon":   texts("bcd")[:3],
		"a number cut off":         append(texts("b"), 0x80),
		"a byte behind":            append(texts("b"), 9),
		"a length beyond":          {0xff, 0xff, 0xff, 0xff, 0xff, 0xff, 0xff, 0xff, 0xff, 1, 'b'},
		"no number":                {0xff, 0xff, 0xff, 0xff, 0xff, 0xff, 0xff, 0xff, 0xff, 2, 'b'},
	} {
		openTells(t, what, whole(load), "a")
	}
}

// 'What lies on the disk': which groups follow one another.
func TestGroups(t *testing.T) {
	at := func(mark byte, floor uint64) lain {
		return lay(t, 12).root(2, 9, 25, floor).group(mark, 25, 4, "a", "b")
	}
	openTells(t, "epochs that rise", at(markLog, 4).group(markLog, 26, 4, "c").group(markLog, 27, 8, "d").Disk, "a", "b", "c", "d")
	openTells(t, "epochs above the root's", at(markLog, 4).group(markLog, 26, 40, "c").Disk, "a", "b", "c")
	openTells(t, "an epoch that falls", at(markLog, 1).group(markLog, 26, 3, "c").group(markLog, 27, 4, "d").Disk, "a", "b")
	openTells(t, "an epoch below the floor", at(markLog, 5).group(markLog, 26, 6, "c").Disk)
	openTells(t, "the first is a checkpoint's", at(markMove, 4).group(markLog, 26, 4, "c").Disk, "a", "b", "c")
	openTells(t, "the second is a checkpoint's", at(markLog, 4).group(markMove, 26, 5, "c").group(markLog, 27, 5, "d").Disk, "a", "b")
	openTells(t, "two checkpoints", at(markMove, 4).group(markMove, 26, 5, "c").Disk, "a", "b")
	openTells(t, "one is missing", at(markLog, 4).group(markLog, 27, 4, "c").Disk, "a", "b")
	three := strings.Repeat("z", 2*233-2) + strings.Repeat("w", 100)
	if l := openTells(t, "round the ring", at(markLog, 1).group(markLog, 26, 4, three, "c").group(markLog, 29, 4, "d", "e").Disk, "a", "b", three, "c", "d", "e"); l.Used() != 5 || l.Room() != 0 {
		t.Error(l.Used(), l.Room())
	}
}

// 'What lies on the disk': all sectors of the ring may be used, none twice.
func TestWholeRing(t *testing.T) {
	d := lay(t, 7).root(2, 9, 103, 1)
	var want []string
	for q := range uint64(5) {
		want = append(want, string(rune('a'+q)))
		d.group(markLog, 103+q, 3, want[q])
	}
	if l := openTells(t, "five groups", d.Disk, want...); l.Used() != 5 || l.Room() != 0 {
		t.Error(l.Used(), l.Room())
	}
	one := strings.Repeat("k", 5*233-2)
	l := openTells(t, "one group", lay(t, 7).root(2, 9, 103, 1).group(markMove, 103, 3, one).Disk, one)
	if l.Used() != 5 || l.Room() != 0 {
		t.Error(l.Used(), l.Room())
	}
	if e := l.Checkpoint([][]byte{{1}}); e != api.ErrFull {
		t.Error("no sector is left", e)
	}
	if e := l.Checkpoint(nil); e != api.OK || l.Used() != 0 || l.Room() != 2 {
		t.Error(e, l.Used())
	}
	endless := lay(t, 7).root(2, 9, 103, 1)
	for q := range uint64(5) {
		endless.sector(logSector(markLog, 103+q, 3, 0, 233, bytes.Repeat([]byte{1, 'a'}, 117)[:233]))
	}
	openTells(t, "none is the last one", endless.Disk)
}

// P6.1: at 2^48 there is no further epoch, and no further root.
func TestOpenFull(t *testing.T) {
	full := func(what string, d lain, want api.Errno) *wal.Log {
		t.Helper()
		l, a := holdOpen(t, d.Disk)
		if a.err != want {
			t.Error(what, a.err)
		}
		return l
	}
	full("the last serial number", lay(t, 6).root(limit, 1, 1, 1), api.ErrFull)
	full("the last but one", lay(t, 6).root(limit-1, 1, 1, 1), api.OK)
	full("the last epoch", lay(t, 6).root(1, limit, 1, 1), api.ErrFull)
	full("the ring's epoch", lay(t, 6).root(1, 1, 1, 1).group(markLog, 77, limit, "a"), api.ErrFull)
	full("the ring's epoch without a root", lay(t, 6).group(markLog, 77, limit, "a"), api.ErrFull)
	full("an epoch above", lay(t, 6).group(markLog, 77, limit+1, "a"), api.OK)
	if l := full("the last but one epoch", lay(t, 6).root(1, limit-1, 1, 1), api.OK); l.Epoch() != limit {
		t.Error(l.Epoch())
	}
	if l := full("the last but one of the ring", lay(t, 6).group(markLog, 77, limit-1, "a"), api.OK); l.Epoch() != limit {
		t.Error(l.Epoch())
	}
	l := full("the last number", lay(t, 6).root(1, 2, limit, 1).group(markMove, limit, 1, "a"), api.OK)
	if l.Used() != 1 {
		t.Error("the last number", l.Used())
	}
}

// scrawl does something by chance to a disk.
func scrawl(d *disk.Disk, r *rand.Rand) {
	n := d.Sectors()
	i := r.Intn(n)
	b, _ := d.Read(i)
	small := func() uint64 { return uint64(r.Intn(2*n) + 1) }
	switch r.Intn(8) {
	case 0:
		b[r.Intn(256)] ^= byte(1 + r.Intn(255))
	case 1:
		b = broken(b, r.Intn(20), byte(r.Intn(4)))
	case 2:
		b, _ = d.Read(r.Intn(n))
	case 3:
		r.Read(b)
	case 4:
		epoch := small()
		b = rootSector(small(), epoch, small(), min(epoch, small()))
	case 5, 6:
		mark := []byte{markLog, markLog, markMove}[r.Intn(3)]
		q := small()
		for _, s := range groupSectors(mark, q, small(), texts(strings.Repeat("r", 1+r.Intn(400)), "s")) {
			d.Write(2+int(q%uint64(n-2)), s)
			q++
		}
		return
	case 7:
		d.Flush()
		return
	}
	d.Write(i, b)
}

// P6.8: whatever lies on a disk, it is opened as the chapter says, and again with the same records.
func TestAnyDisk(t *testing.T) {
	told := 0
	for seed := range int64(400) {
		r := rand.New(rand.NewSource(seed))
		d := lay(t, 6+r.Intn(8)).Disk
		for range 30 {
			for range r.Intn(6) {
				scrawl(d, r)
			}
			l, a := holdOpen(t, d)
			if l == nil {
				continue
			}
			told += len(a.recs)
			_, b := holdOpen(t, d)
			if b.epoch <= a.epoch || !slices.Equal(a.recs, b.recs) {
				t.Fatal("opened again", a, b)
			}
			work(l, r)
		}
	}
	if told < 5000 {
		t.Error("too little was told to tell anything:", told)
	}
}

// work lets a log do something by chance.
func work(l *wal.Log, r *rand.Rand) {
	for range r.Intn(3) {
		recs := [][]byte{bytes.Repeat([]byte{'w'}, 1+r.Intn(300))}
		if r.Intn(4) == 0 {
			l.Checkpoint(recs[:r.Intn(2)])
		} else {
			l.Append(recs)
		}
	}
}

// P6.8: disks of chance alone, and the greatest one.
func TestScrawledDisks(t *testing.T) {
	for seed := range int64(30) {
		r := rand.New(rand.NewSource(seed))
		d := lay(t, 6+int(seed))
		for i := range d.Sectors() {
			b := make([]byte, 256)
			r.Read(b)
			d.put(i, b)
		}
		openTells(t, "chance", d.Disk)
	}
	d := lay(t, api.MaxSectors)
	l := openTells(t, "the greatest disk", d.Disk)
	if l.Room() != 2047 {
		t.Error(l.Room())
	}
}
