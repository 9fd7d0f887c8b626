package store_test

import (
	"bytes"
	"encoding/binary"
	"fmt"
	"hash/crc32"
	"maps"
	"math/rand"
	"slices"
	"strings"
	"testing"

	"ingot/api"
	"ingot/disk"
	"ingot/store"
	"ingot/wal"
)

func want(t *testing.T, what string, got, wanted api.Errno) {
	t.Helper()
	if got != wanted {
		t.Fatalf("%s: %v, not %v", what, got, wanted)
	}
}

func newDisk(t *testing.T, sectors int) *disk.Disk {
	t.Helper()
	d, e := disk.New(sectors)
	want(t, "disk.New", e, api.OK)
	return d
}

func open(t *testing.T, d *disk.Disk) *store.Store {
	t.Helper()
	s, e := store.Open(d)
	want(t, "Open", e, api.OK)
	if s == nil {
		t.Fatal("Open: OK, and no store")
	}
	return s
}

// fresh opens a store on a new disk.
func fresh(t *testing.T, sectors int) (*store.Store, *disk.Disk) {
	t.Helper()
	d := newDisk(t, sectors)
	return open(t, d), d
}

// text is a text as chapter 1 lays it, by the library.
func text(s string) string { return string(binary.AppendUvarint(nil, uint64(len(s)))) + s }

func putRecord(key, value string) string { return "\x01" + text(key) + text(value) }

func deleteRecord(key string) string { return "\x02" + text(key) }

func bytesOf(recs []string) [][]byte {
	var out [][]byte
	for _, rec := range recs {
		out = append(out, []byte(rec))
	}
	return out
}

// laid makes a disk whose log has these records, each as a group of its own.
func laid(t *testing.T, recs ...string) *disk.Disk {
	t.Helper()
	d := newDisk(t, 200)
	l, _, e := wal.Open(d)
	want(t, "wal.Open", e, api.OK)
	for _, rec := range recs {
		want(t, "wal.Append", l.Append([][]byte{[]byte(rec)}), api.OK)
	}
	return d
}

// logged tells the records of a disk's log, which stays as it is.
func logged(t *testing.T, d *disk.Disk) []string {
	t.Helper()
	_, recs, e := wal.Open(d.Clone())
	want(t, "wal.Open", e, api.OK)
	var out []string
	for _, rec := range recs {
		out = append(out, string(rec))
	}
	return out
}

// model is what a store must have.
type model map[string]string

func (w model) pairs(from, until string) []api.Pair {
	var out []api.Pair
	for _, key := range slices.Sorted(maps.Keys(w)) {
		if key >= from && (until == "" || key < until) {
			out = append(out, api.Pair{Key: key, Value: w[key]})
		}
	}
	return out
}

func (w model) hold(t *testing.T, what string, s *store.Store) {
	t.Helper()
	if got := s.All(); !slices.Equal(got, w.pairs("", "")) {
		t.Fatalf("%s: %.200q, not %.200q", what, got, w.pairs("", ""))
	}
	if s.Len() != len(w) {
		t.Fatalf("%s: Len %d, not %d", what, s.Len(), len(w))
	}
	for key, value := range w {
		if got, is := s.Get(key); got != value || !is {
			t.Fatalf("%s: %q has %.40q %v, not %.40q", what, key, got, is, value)
		}
	}
}

// commit commits puts of keys and values in one transaction.
func commit(t *testing.T, s *store.Store, keysAndValues ...string) api.Errno {
	t.Helper()
	x := s.Begin()
	for i := 0; i < len(keysAndValues); i += 2 {
		want(t, "Put", x.Put(keysAndValues[i], keysAndValues[i+1]), api.OK)
	}
	return x.Commit()
}

func drop(t *testing.T, s *store.Store, keys ...string) api.Errno {
	t.Helper()
	x := s.Begin()
	for _, key := range keys {
		want(t, "Delete", x.Delete(key), api.OK)
	}
	return x.Commit()
}

var (
	longKey   = strings.Repeat("k", api.MaxKey)
	longValue = strings.Repeat("v", api.MaxValue)
)

// P8.1: a store is what the records leave, one behind the other.
func TestOpen(t *testing.T) {
	for what, c := range map[string]struct {
		recs []string
		want model
	}{
		"nothing":                {nil, model{}},
		"puts":                   {[]string{putRecord("b", "1"), putRecord("a", "2")}, model{"a": "2", "b": "1"}},
		"the last one counts":    {[]string{putRecord("a", "1"), putRecord("a", "2")}, model{"a": "2"}},
		"a delete":               {[]string{putRecord("a", "1"), putRecord("b", "2"), deleteRecord("a")}, model{"b": "2"}},
		"a delete of nothing":    {[]string{deleteRecord("a")}, model{}},
		"put again":              {[]string{putRecord("a", "1"), deleteRecord("a"), putRecord("a", "3")}, model{"a": "3"}},
		"all is gone":            {[]string{putRecord("a", "1"), deleteRecord("a")}, model{}},
		"an empty value":         {[]string{putRecord("a", "")}, model{"a": ""}},
		"the longest":            {[]string{putRecord(longKey, longValue)}, model{longKey: longValue}},
		"the longest is deleted": {[]string{putRecord(longKey, "1"), putRecord("a", "1"), deleteRecord(longKey)}, model{"a": "1"}},
		"any bytes":              {[]string{putRecord("\x00", "\xff"), putRecord("\xff", "\x00")}, model{"\x00": "\xff", "\xff": "\x00"}},
	} {
		d := laid(t, c.recs...)
		c.want.hold(t, what, open(t, d))
		c.want.hold(t, what+", opened again", open(t, d))
		if got := logged(t, d); !slices.Equal(got, c.recs) {
			t.Errorf("%s: the log has %q then", what, got)
		}
	}
	// Records of one group.
	d := newDisk(t, 20)
	l, _, _ := wal.Open(d)
	l.Append(bytesOf([]string{putRecord("a", "1"), putRecord("b", "2"), deleteRecord("a")}))
	model{"b": "2"}.hold(t, "one group", open(t, d))
}

// same tells whether two disks are the same to all calls.
func same(a, b *disk.Disk) bool {
	return a.Ops() == b.Ops() && a.Down() == b.Down() && slices.Equal(a.Pending(), b.Pending()) && slices.EqualFunc(a.Sure(), b.Sure(), bytes.Equal)
}

// 'Records', P8.1: records that are none.
func TestOpenCorrupt(t *testing.T) {
	for what, rec := range map[string]string{
		"the byte 0":                     "\x00" + text("a") + text("b"),
		"the byte 3":                     "\x03" + text("a") + text("b"),
		"the byte 3, and a key":          "\x03" + text("a"),
		"the byte 255":                   "\xff" + text("a"),
		"only a 1":                       "\x01",
		"only a 2":                       "\x02",
		"only another byte":              "\x09",
		"a put without a value":          "\x01" + text("a"),
		"a put whose key is cut off":     "\x01\x05abcd",
		"a put whose value is cut off":   "\x01" + text("a") + "\x03bc",
		"a put with a byte behind":       putRecord("a", "b") + "\x00",
		"a put with a record behind":     putRecord("a", "b") + putRecord("a", "b"),
		"a delete with a byte behind":    deleteRecord("a") + "\x00",
		"a delete with a value":          deleteRecord("a") + text("b"),
		"a delete whose key is cut off":  "\x02\x03ab",
		"a put of the empty key":         putRecord("", "b"),
		"a delete of the empty key":      deleteRecord(""),
		"a put of a key too long":        putRecord(longKey+"k", "b"),
		"a delete of a key too long":     deleteRecord(longKey + "k"),
		"a value too long":               putRecord("a", longValue+"v"),
		"a key's number in another form": "\x01\x81\x00a" + text("b"),
		"a number in another form":       "\x01" + text("a") + "\x81\x00b",
		"a number that does not end":     "\x01" + text("a") + "\x80",
		"a number that is none":          "\x02\xff\xff\xff\xff\xff\xff\xff\xff\xff\x02",
		"a greatest length":              "\x02\xff\xff\xff\xff\xff\xff\xff\xff\xff\x01",
	} {
		for place := range 3 {
			recs := []string{putRecord("a", "1"), deleteRecord("b")}
			d := laid(t, slices.Insert(recs, place, rec)...)
			ahead := d.Clone()
			for range 2 {
				s, e := store.Open(d)
				want(t, what, e, api.ErrCorrupt)
				if s != nil {
					t.Error(what, "a store")
				}
			}
			// Rule 2: with an error nothing has changed.
			if !same(d, ahead) {
				t.Error(what, "the disk is another one")
			}
		}
	}
}

// cutText takes a text off bytes, by the library.
func cutText(s string, most int) (string, string, bool) {
	n, size := binary.Uvarint([]byte(s))
	if size <= 0 || n > uint64(most) || int(n) > len(s)-size || size != len(binary.AppendUvarint(nil, n)) {
		return "", "", false
	}
	return s[size : size+int(n)], s[size+int(n):], true
}

// replay does to a model what a record says, and tells whether it is one.
func (w model) replay(rec string) bool {
	key, rest, ok := cutText(rec[1:], api.MaxKey)
	if !ok || key == "" {
		return false
	}
	switch rec[0] {
	case 1:
		value, rest, ok := cutText(rest, api.MaxValue)
		w[key] = value
		return ok && rest == ""
	case 2:
		delete(w, key)
		return rest == ""
	}
	return false
}

// P8.1: records of which some bytes are others, held to a second reader of them.
func TestOpenAny(t *testing.T) {
	r := rand.New(rand.NewSource(8))
	good, corrupt := 0, 0
	for range 3000 {
		var recs []string
		for range 1 + r.Intn(3) {
			rec := []byte(putRecord(strings.Repeat("k", 1+r.Intn(3)), strings.Repeat("v", r.Intn(4))))
			if r.Intn(3) == 0 {
				rec = []byte(deleteRecord(strings.Repeat("k", 1+r.Intn(3))))
			}
			if r.Intn(4) == 0 {
				rec[r.Intn(len(rec))] = byte(r.Intn(6))
			}
			if r.Intn(9) == 0 {
				rec = rec[:1+r.Intn(len(rec))]
			}
			recs = append(recs, string(rec))
		}
		w, ok := model{}, true
		for _, rec := range recs {
			ok = w.replay(rec) && ok
		}
		d := newDisk(t, 12)
		l, _, _ := wal.Open(d)
		want(t, "Append", l.Append(bytesOf(recs)), api.OK)
		s, e := store.Open(d)
		if !ok {
			corrupt++
			want(t, fmt.Sprintf("%q", recs), e, api.ErrCorrupt)
			continue
		}
		good++
		want(t, fmt.Sprintf("%q", recs), e, api.OK)
		w.hold(t, fmt.Sprintf("%q", recs), s)
	}
	if good < 500 || corrupt < 500 {
		t.Error(good, corrupt)
	}
}

// P8.1: wal.Open's errors, ahead of ErrCorrupt.
func TestOpenErrors(t *testing.T) {
	wrong := func(what string, d *disk.Disk, wanted api.Errno) {
		t.Helper()
		s, e := store.Open(d)
		if want(t, what, e, wanted); s != nil {
			t.Error(what, "a store")
		}
	}
	wrong("nil", nil, api.ErrNil)
	wrong("plain", &disk.Disk{}, api.ErrNil)
	wrong("5 sectors", newDisk(t, 5), api.ErrArg)
	wrong("1 sector", newDisk(t, 1), api.ErrArg)
	open(t, newDisk(t, 6))
	for _, rec := range []string{putRecord("a", "1"), "\x07"} {
		for ops := range 2 {
			d := laid(t, rec)
			d.Arm(ops)
			wrong(fmt.Sprint("no power behind ", ops), d, api.ErrPower)
			wrong("no power", d, api.ErrPower)
			if !d.Down() {
				t.Error("the power is not gone")
			}
		}
	}
	d := newDisk(t, 10)
	d.Write(1, lastRoot())
	wrong("no epoch is left", d, api.ErrFull)
}

// lastRoot is a root of the greatest epoch that may be.
func lastRoot() []byte {
	b := []byte{0x52}
	for _, n := range []uint64{1, 1 << 48, 1, 1} {
		b = binary.BigEndian.AppendUint64(b, n)
	}
	b = append(b, make([]byte, 252-len(b))...)
	return binary.BigEndian.AppendUint32(b, crc32.ChecksumIEEE(b))
}

// P8.1: what is committed is told, and nothing else.
func TestGetLenAll(t *testing.T) {
	s, _ := fresh(t, 60)
	model{}.hold(t, "new", s)
	if v, is := s.Get("a"); v != "" || is {
		t.Error(v, is)
	}
	x := s.Begin()
	want(t, "Put", x.Put("b", "1"), api.OK)
	want(t, "Put", x.Put("a", ""), api.OK)
	model{}.hold(t, "not committed", s)
	want(t, "Commit", x.Commit(), api.OK)
	w := model{"a": "", "b": "1"}
	w.hold(t, "committed", s)
	if v, is := s.Get("a"); v != "" || !is {
		t.Error("an empty value is one", v, is)
	}
	for _, key := range []string{"", "aa", "c", longKey + "k"} {
		if v, is := s.Get(key); v != "" || is {
			t.Error(key, v, is)
		}
	}
	// Rule 4: what is handed out is new memory.
	all := s.All()
	all[0] = api.Pair{Key: "z", Value: "z"}
	_ = append(all[:1], api.Pair{Key: "y"})
	w.hold(t, "a list that was changed", s)
	for range 50 {
		want(t, "Commit", commit(t, s, "b", "2", longKey, longValue), api.OK)
	}
	w = model{"a": "", "b": "2", longKey: longValue}
	w.hold(t, "put again and again", s)
	want(t, "Commit", drop(t, s, "a", longKey, "nothing"), api.OK)
	model{"b": "2"}.hold(t, "deleted", s)
}

// 'Records', P8.3: a commit's records, one for each key, by rising keys.
func TestRecords(t *testing.T) {
	s, d := fresh(t, 200)
	x := s.Begin()
	x.Put("m", "1")
	x.Put("b", "2")
	x.Delete("z")
	x.Put("m", "3")
	x.Put("c", "4")
	x.Delete("c")
	x.Delete("d")
	x.Put("d", "")
	x.Put("a\x00", strings.Repeat("l", 128))
	want(t, "Commit", x.Commit(), api.OK)
	recs := []string{
		putRecord("a\x00", strings.Repeat("l", 128)),
		putRecord("b", "2"),
		deleteRecord("c"),
		putRecord("d", ""),
		putRecord("m", "3"),
		deleteRecord("z"),
	}
	if got := logged(t, d); !slices.Equal(got, recs) {
		t.Fatalf("%q, not %q", got, recs)
	}
	// What a key had already is no less a change.
	want(t, "Commit", commit(t, s, "b", "2"), api.OK)
	want(t, "Commit", commit(t, s, longKey, longValue), api.OK)
	recs = append(recs, putRecord("b", "2"), putRecord(longKey, longValue))
	if got := logged(t, d); !slices.Equal(got, recs) {
		t.Fatalf("%q, not %q", got, recs)
	}
}

// P8.3, rule 1: a store or a transaction that no call made.
func TestNoObject(t *testing.T) {
	for what, s := range map[string]*store.Store{"nil": nil, "plain": {}} {
		if v, is := s.Get("a"); v != "" || is {
			t.Error(what, v, is)
		}
		if s.Len() != 0 || len(s.All()) != 0 || s.Begin() != nil {
			t.Error(what, "has something")
		}
	}
	for what, x := range map[string]*store.Tx{"nil": nil, "plain": {}} {
		for range 2 {
			want(t, what, x.Put("a", "1"), api.ErrNil)
			want(t, what, x.Put("", longValue+"v"), api.ErrNil)
			want(t, what, x.Delete("a"), api.ErrNil)
			want(t, what, x.Delete(""), api.ErrNil)
			if v, is := x.Get("a"); v != "" || is || len(x.Scan("", "")) != 0 {
				t.Error(what, "tells something")
			}
			want(t, what, x.Abort(), api.ErrNil)
			want(t, what, x.Commit(), api.ErrNil)
		}
	}
}
