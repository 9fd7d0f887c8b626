package octet

import (
	"bytes"
	"encoding/binary"
	"math"
	"math/rand"
	"strings"
	"testing"

	"ingot/api"
)

// edges are numbers on both sides of each place where a number grows by a byte.
func edges() []uint64 {
	ns := []uint64{0, 1, 2, 127, 128, 300, math.MaxUint64 - 1, math.MaxUint64}
	for bit := 1; bit < 64; bit++ {
		ns = append(ns, 1<<bit-1, 1<<bit, 1<<bit+1)
	}
	return ns
}

// withSpare gives b with spare room behind it, and that room.
func withSpare(b []byte) (list, spare []byte) {
	room := append(bytes.Clone(b), bytes.Repeat([]byte{0xee}, 32)...)
	return room[:len(b)], room[len(b):]
}

func untouched(spare []byte) bool {
	return bytes.Count(spare, []byte{0xee}) == len(spare)
}

// P1.1
func TestPut(t *testing.T) {
	for _, c := range []struct {
		n    uint64
		want []byte
	}{
		{0, []byte{0}},
		{1, []byte{1}},
		{127, []byte{127}},
		{128, []byte{128, 1}},
		{300, []byte{172, 2}},
		{1<<14 - 1, []byte{255, 127}},
		{1 << 14, []byte{128, 128, 1}},
		{1<<63 - 1, []byte{255, 255, 255, 255, 255, 255, 255, 255, 127}},
		{1 << 63, []byte{128, 128, 128, 128, 128, 128, 128, 128, 128, 1}},
		{math.MaxUint64, []byte{255, 255, 255, 255, 255, 255, 255, 255, 255, 1}},
	} {
		if got := Put(nil, c.n); !bytes.Equal(got, c.want) {
			t.Errorf("Put(nil, %d): %v, not %v", c.n, got, c.want)
		}
		if got := Put([]byte{7, 0}, c.n); !bytes.Equal(got, append([]byte{7, 0}, c.want...)) {
			t.Errorf("Put({7, 0}, %d): %v", c.n, got)
		}
	}
	for _, n := range edges() {
		if got, want := Put(nil, n), binary.AppendUvarint(nil, n); !bytes.Equal(got, want) {
			t.Errorf("Put(nil, %d): %v, not %v", n, got, want)
		}
	}
}

// P1.1
func TestPutText(t *testing.T) {
	for _, c := range []struct {
		b    []byte
		s    string
		want string
	}{
		{nil, "ab", "\x02ab"},
		{nil, "", "\x00"},
		{[]byte{}, "", "\x00"},
		{[]byte{9, 8}, "x", "\x09\x08\x01x"},
		{nil, "\x00\xff\x80", "\x03\x00\xff\x80"},
		{nil, strings.Repeat("q", 127), "\x7f" + strings.Repeat("q", 127)},
		{nil, strings.Repeat("q", 128), "\x80\x01" + strings.Repeat("q", 128)},
		{nil, strings.Repeat("q", 300), "\xac\x02" + strings.Repeat("q", 300)},
	} {
		if got := PutText(c.b, c.s); string(got) != c.want {
			t.Errorf("PutText(%v, %q): %q", c.b, c.s, got)
		}
	}
}

// P1.1 with DOC.md's rules 4 and 8: what comes in stays as it is, its spare room too, and what goes out is new.
func TestPutKeepsWhatIsHandedIn(t *testing.T) {
	for name, put := range map[string]func([]byte) []byte{
		"Put":     func(b []byte) []byte { return Put(b, 300) },
		"PutText": func(b []byte) []byte { return PutText(b, "ab") },
	} {
		b, spare := withSpare([]byte{1, 2, 3})
		first := put(b)
		second := put(b)
		if !bytes.Equal(b, []byte{1, 2, 3}) || !untouched(spare) {
			t.Error(name, "changed", b, spare)
		}
		if got := first[:cap(first)]; bytes.Contains(got, []byte{0xee}) {
			t.Error(name, "hands out what lies behind a length", got)
		}
		kept := bytes.Clone(second)
		for i := range cap(first) {
			first[:cap(first)][i] = 77
		}
		if !bytes.Equal(b, []byte{1, 2, 3}) || !bytes.Equal(second, kept) {
			t.Error(name, "shares memory", b, second)
		}
	}
}

// P1.2
func TestUint(t *testing.T) {
	nine := bytes.Repeat([]byte{255}, 9)
	tenth := func(c ...byte) []byte { return append(bytes.Clone(nine), c...) }
	for _, c := range []struct {
		b    []byte
		n    uint64
		e    api.Errno
		left int
	}{
		{[]byte{0}, 0, api.OK, 0},
		{[]byte{5, 6}, 5, api.OK, 1},
		{[]byte{172, 2}, 300, api.OK, 0},
		{[]byte{128, 128, 1, 0}, 1 << 14, api.OK, 1},
		{tenth(1), math.MaxUint64, api.OK, 0},
		{tenth(1, 9), math.MaxUint64, api.OK, 1},
		{nil, 0, api.ErrShort, 0},
		{[]byte{}, 0, api.ErrShort, 0},
		{[]byte{128}, 0, api.ErrShort, 1},
		{[]byte{255, 255}, 0, api.ErrShort, 2},
		{nine, 0, api.ErrShort, 9},
		{[]byte{128, 0}, 0, api.ErrForm, 2},
		{[]byte{172, 130, 0, 1}, 0, api.ErrForm, 4},
		{tenth(0), 0, api.ErrForm, 10},
		{tenth(2), 0, api.ErrForm, 10},
		{tenth(127), 0, api.ErrForm, 10},
		{tenth(128), 0, api.ErrForm, 10},
		{tenth(129), 0, api.ErrForm, 10},
		{tenth(255), 0, api.ErrForm, 10},
		{tenth(129, 1), 0, api.ErrForm, 11},
	} {
		r := Over(c.b)
		n, e := r.Uint()
		if n != c.n || e != c.e || r.Left() != c.left {
			t.Errorf("Over(%v).Uint(): %d, %d, left %d", c.b, n, e, r.Left())
		}
	}
}

// P1.2
func TestText(t *testing.T) {
	huge := Put(nil, math.MaxUint64)
	for _, c := range []struct {
		b    string
		most int
		s    string
		e    api.Errno
		left int
	}{
		{"\x02ab", 2, "ab", api.OK, 0},
		{"\x02abc", 9, "ab", api.OK, 1},
		{"\x02ab", math.MaxInt, "ab", api.OK, 0},
		{"\x02\xff\x00", 2, "\xff\x00", api.OK, 0},
		{"\x00", 0, "", api.OK, 0},
		{"\x00z", -1, "", api.OK, 1},
		{"\x00", math.MinInt, "", api.OK, 0},
		{"\x01a", 0, "", api.ErrLong, 2},
		{"\x01a", -1, "", api.ErrLong, 2},
		{"\x01a", math.MinInt, "", api.ErrLong, 2},
		{"\x03abc", 2, "", api.ErrLong, 4},
		{"\x03ab", 2, "", api.ErrLong, 3},
		{"\x03ab", 3, "", api.ErrShort, 3},
		{"\x01", 1, "", api.ErrShort, 1},
		{"", 0, "", api.ErrShort, 0},
		{"\x80", 0, "", api.ErrShort, 1},
		{"\x80\x00", 0, "", api.ErrForm, 2},
		{"\x81\x00a", 5, "", api.ErrForm, 3},
		{string(huge), math.MaxInt, "", api.ErrLong, 10},
		{string(Put(nil, math.MaxInt)), math.MaxInt, "", api.ErrShort, 9},
	} {
		r := Over([]byte(c.b))
		s, e := r.Text(c.most)
		if s != c.s || e != c.e || r.Left() != c.left {
			t.Errorf("Over(%q).Text(%d): %q, %d, left %d", c.b, c.most, s, e, r.Left())
		}
	}
}

// P1.2
func TestByteLeftEnd(t *testing.T) {
	r := Over([]byte{7, 0, 255})
	for i, want := range []byte{7, 0, 255} {
		if r.Left() != 3-i || r.End() != api.ErrRest {
			t.Error("left", r.Left(), r.End())
		}
		if c, e := r.Byte(); c != want || e != api.OK {
			t.Error("byte", c, e)
		}
	}
	for range 2 {
		if c, e := r.Byte(); c != 0 || e != api.ErrShort {
			t.Error("byte behind the end", c, e)
		}
		if r.Left() != 0 || r.End() != api.OK {
			t.Error("end", r.Left(), r.End())
		}
	}
	if r := Over(nil); r.Left() != 0 || r.End() != api.OK {
		t.Error("over nothing", r.Left(), r.End())
	}
}

// P1.2: a call that answers an error leaves the reader where it was, in the middle of its bytes too.
func TestErrorsLeaveTheReader(t *testing.T) {
	r := Over([]byte{9, 3, 'a', 'b'})
	r.Byte()
	if _, e := r.Text(2); e != api.ErrLong {
		t.Error("long", e)
	}
	if _, e := r.Text(3); e != api.ErrShort {
		t.Error("short", e)
	}
	if n, e := r.Uint(); n != 3 || e != api.OK {
		t.Error("uint behind errors", n, e)
	}
	r = Over([]byte{9, 128, 0})
	r.Byte()
	if _, e := r.Uint(); e != api.ErrForm {
		t.Error("form", e)
	}
	if c, e := r.Byte(); c != 128 || e != api.OK {
		t.Error("byte behind an error", c, e)
	}
}

// P1.2 with DOC.md's rules 4 and 8: the reader has bytes of its own, and none of what lies behind them.
func TestOverKeepsNothing(t *testing.T) {
	b, spare := withSpare([]byte{1, 2, 128})
	r := Over(b)
	b[0], b[1] = 50, 60
	if c, _ := r.Byte(); c != 1 {
		t.Error("the reader sees what became of the list", c)
	}
	r.Byte()
	if _, e := r.Uint(); e != api.ErrShort {
		t.Error("the reader reads behind the list's length", e)
	}
	if !bytes.Equal(b, []byte{50, 60, 128}) || !untouched(spare) {
		t.Error("changed", b, spare)
	}
}

// P1.2: two readers of one list go their own ways.
func TestReadersAreApart(t *testing.T) {
	b := []byte{1, 2}
	r, s := Over(b), Over(b)
	r.Byte()
	if r.Left() != 1 || s.Left() != 2 {
		t.Error(r.Left(), s.Left())
	}
}

// DOC.md's rule 1
func TestReaderThatNoCallMade(t *testing.T) {
	var none *Reader
	for name, r := range map[string]*Reader{"nil": none, "plain": {}} {
		for range 2 {
			if n, e := r.Uint(); n != 0 || e != api.ErrNil {
				t.Error(name, "Uint", n, e)
			}
			if s, e := r.Text(5); s != "" || e != api.ErrNil {
				t.Error(name, "Text", s, e)
			}
			if c, e := r.Byte(); c != 0 || e != api.ErrNil {
				t.Error(name, "Byte", c, e)
			}
			if r.Left() != 0 {
				t.Error(name, "Left", r.Left())
			}
			if e := r.End(); e != api.ErrNil {
				t.Error(name, "End", e)
			}
		}
	}
}

// P1.3
func TestThereAndBack(t *testing.T) {
	texts := []string{"", "a", "\x00\x80\xff", strings.Repeat("ä", 100), strings.Repeat("z", 20000)}
	for _, n := range edges() {
		for _, s := range texts {
			for _, behind := range []string{"", "\x00", "\x80\xff", "\x01"} {
				b := append(PutText(Put([]byte{3}, n), s), behind...)
				r := Over(b)
				c, e1 := r.Byte()
				gotN, e2 := r.Uint()
				gotS, e3 := r.Text(len(s))
				if c != 3 || gotN != n || gotS != s || e1 != api.OK || e2 != api.OK || e3 != api.OK {
					t.Fatal(n, len(s), behind, gotN, len(gotS), e1, e2, e3)
				}
				if r.Left() != len(behind) {
					t.Fatal("left", r.Left(), len(behind))
				}
			}
		}
	}
}

// oneForm holds P1.4 for what stands at the beginning of b.
func oneForm(t *testing.T, b []byte) {
	t.Helper()
	r := Over(b)
	n, e := r.Uint()
	if e != api.OK {
		if n != 0 || r.Left() != len(b) {
			t.Fatalf("%v: %d, left %d, beside error %d", b, n, r.Left(), e)
		}
		return
	}
	read := b[:len(b)-r.Left()]
	if !bytes.Equal(Put(nil, n), read) {
		t.Fatalf("%v was read as %d, which is put as %v", read, n, Put(nil, n))
	}
}

// P1.4
func TestOneForm(t *testing.T) {
	for i := range 1 << 16 {
		oneForm(t, []byte{byte(i), byte(i >> 8)})
	}
	chance := rand.New(rand.NewSource(1))
	for range 200000 {
		b := make([]byte, chance.Intn(13))
		for i := range b {
			b[i] = byte(chance.Intn(256))
			if chance.Intn(4) > 0 {
				b[i] |= 128
			}
			if chance.Intn(6) == 0 {
				b[i] = byte(chance.Intn(3))
			}
		}
		oneForm(t, b)
	}
}
