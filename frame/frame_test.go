package frame

import (
	"bytes"
	"encoding/binary"
	"encoding/hex"
	"hash/crc32"
	"iter"
	"math/rand"
	"slices"
	"testing"

	"ingot/api"
)

// sample gives n bytes that look like chance and are always the same.
func sample(n int) []byte {
	b := make([]byte, n)
	rand.New(rand.NewSource(int64(n) + 5)).Read(b)
	return b
}

// known is a frame as the library's sums make it, whatever length it says.
func known(says uint32, body []byte) []byte {
	out := binary.BigEndian.AppendUint32(nil, says)
	out = binary.BigEndian.AppendUint32(out, crc32.ChecksumIEEE(out))
	out = append(out, body...)
	return binary.BigEndian.AppendUint32(out, crc32.ChecksumIEEE(body))
}

func framed(t *testing.T, body []byte) []byte {
	t.Helper()
	f, e := Frame(body)
	if e != api.OK {
		t.Fatal(e)
	}
	return f
}

// P4.1: the chapter's example, and what is known from elsewhere.
func TestSum(t *testing.T) {
	for _, c := range []struct {
		text string
		want uint32
	}{
		{"123456789", 0xcbf43926},
		{"", 0},
		{"\x00\x00\x00\x00", 0x2144df1c},
		{"\xff\xff\xff\xff", 0xffffffff},
		{"The quick brown fox jumps over the lazy dog", 0x414fa339},
	} {
		if got := Sum([]byte(c.text)); got != c.want {
			t.Errorf("%q: %08x, not %08x", c.text, got, c.want)
		}
	}
	for i := range 256 {
		if b := []byte{byte(i)}; Sum(b) != crc32.ChecksumIEEE(b) {
			t.Error("the byte", i)
		}
	}
	for _, n := range []int{2, 3, 255, 256, 4096, 65536, 65537, 1 << 20} {
		if Sum(sample(n)) != crc32.ChecksumIEEE(sample(n)) || Sum(make([]byte, n)) != crc32.ChecksumIEEE(make([]byte, n)) {
			t.Errorf("%d bytes", n)
		}
	}
	if Sum(nil) != 0 {
		t.Error("nothing")
	}
}

// P4.1: the chapter's example, nil or empty.
func TestFrameOfNothing(t *testing.T) {
	for _, b := range [][]byte{nil, {}} {
		f, e := Frame(b)
		if e != api.OK || hex.EncodeToString(f) != "000000002144df1c00000000" {
			t.Errorf("%x, %v", f, e)
		}
	}
}

// P4.1
func TestFrame(t *testing.T) {
	for _, n := range []int{1, 2, 12, 255, 256, 257, 4096, api.MaxFrame - 1, api.MaxFrame} {
		f, e := Frame(sample(n))
		if e != api.OK || !bytes.Equal(f, known(uint32(n), sample(n))) {
			t.Errorf("%d bytes: %v", n, e)
		}
	}
	for _, n := range []int{api.MaxFrame + 1, api.MaxFrame + 2, 2 * api.MaxFrame, 1 << 21} {
		if f, e := Frame(make([]byte, n)); e != api.ErrLong || len(f) != 0 {
			t.Errorf("%d bytes: %v, %d bytes", n, e, len(f))
		}
	}
}

// P4.2
func TestUnframe(t *testing.T) {
	for _, n := range []int{0, 1, 2, 255, 256, api.MaxFrame - 1, api.MaxFrame} {
		for _, rest := range [][]byte{nil, {0}, sample(300)} {
			body, size, e := Unframe(append(framed(t, sample(n)), rest...))
			if e != api.OK || size != n+12 || !bytes.Equal(body, sample(n)) {
				t.Errorf("%d bytes and %d behind: %d, %v", n, len(rest), size, e)
			}
		}
	}
}

// P4.2: bytes that end too soon, cut anywhere.
func TestUnframeShort(t *testing.T) {
	for _, n := range []int{0, 1, 40, 300} {
		whole := framed(t, sample(n))
		for cut := range len(whole) {
			if body, size, e := Unframe(whole[:cut]); e != api.ErrShort || size != 0 || len(body) != 0 {
				t.Fatalf("%d bytes, cut at %d: %v", n, cut, e)
			}
		}
	}
	if _, _, e := Unframe(nil); e != api.ErrShort {
		t.Error("nothing", e)
	}
}

// P4.2: the error is the one that the chapter names first.
func TestUnframeErrors(t *testing.T) {
	long := known(api.MaxFrame+1, make([]byte, api.MaxFrame+1))
	huge := known(0xffffffff, nil)
	badHead := framed(t, []byte("ab"))
	badHead[7] ^= 1
	badBoth := slices.Clone(badHead)
	badBoth[13] ^= 1
	badEnd := framed(t, []byte("ab"))
	badEnd[13] ^= 1
	longBad := slices.Clone(long)
	longBad[4] ^= 1
	longEnd := slices.Clone(long)
	longEnd[len(longEnd)-1] ^= 1
	for _, c := range []struct {
		what string
		b    []byte
		want api.Errno
	}{
		{"seven bytes of another sum", badHead[:7], api.ErrShort},
		{"eight bytes of another sum", badHead[:8], api.ErrSum},
		{"another sum ahead, cut", badHead[:13], api.ErrSum},
		{"another sum ahead", badHead, api.ErrSum},
		{"other sums ahead and at the end", badBoth, api.ErrSum},
		{"another sum at the end", badEnd, api.ErrSum},
		{"another sum at the end, cut", badEnd[:13], api.ErrShort},
		{"another sum at the end, more behind", append(slices.Clone(badEnd), badEnd...), api.ErrSum},
		{"one byte too long", long, api.ErrLong},
		{"one byte too long, cut", long[:8], api.ErrLong},
		{"one byte too long, cut by one", long[:len(long)-1], api.ErrLong},
		{"one byte too long, another sum at the end", longEnd, api.ErrLong},
		{"one byte too long, another sum ahead", longBad, api.ErrSum},
		{"the greatest number", huge, api.ErrLong},
		{"the number 2^31", known(1<<31, nil), api.ErrLong},
		{"the greatest length that may be, cut", known(api.MaxFrame, nil), api.ErrShort},
		{"noughts", make([]byte, 12), api.ErrSum},
	} {
		if body, size, e := Unframe(c.b); e != c.want || size != 0 || len(body) != 0 {
			t.Errorf("%s: %v, not %v (%d, %d bytes)", c.what, e, c.want, size, len(body))
		}
	}
}

// told is what a range over frames tells.
type told struct {
	at   int
	body string
}

func tell(frames iter.Seq2[int, []byte]) []told {
	var out []told
	for at, body := range frames {
		out = append(out, told{at, string(body)})
	}
	return out
}

// row lays the frames of samples one behind the other.
func row(t *testing.T, sizes ...int) ([]byte, []told) {
	t.Helper()
	var all []byte
	var want []told
	for _, n := range sizes {
		want = append(want, told{len(all), string(sample(n))})
		all = append(all, framed(t, sample(n))...)
	}
	return all, want
}

// P4.3
func TestAll(t *testing.T) {
	all, want := row(t, 3, 0, 0, 256, 1, api.MaxFrame, 17)
	frames := All(all)
	for range 2 {
		if got := tell(frames); !slices.Equal(got, want) {
			t.Errorf("%d frames", len(got))
		}
	}
	for _, b := range [][]byte{nil, {}, {1}, make([]byte, 100), all[1:]} {
		if got := tell(All(b)); len(got) != 0 {
			t.Errorf("no frame: %d told", len(got))
		}
	}
	first, _ := row(t, 3, 5)
	for _, rest := range [][]byte{{0}, make([]byte, 40), known(api.MaxFrame+1, make([]byte, api.MaxFrame+1))} {
		// What comes behind something that is no frame is not looked for.
		b := slices.Concat(first, rest, first)
		if got := tell(All(b)); len(got) != 2 {
			t.Errorf("%d frames ahead of what is none", len(got))
		}
	}
}

// P4.3, rule 8: a range may be left anywhere, and begun again.
func TestAllLeft(t *testing.T) {
	all, want := row(t, 3, 0, 5, 7)
	frames := All(all)
	for stop := range want {
		var got []told
		for at, body := range frames {
			got = append(got, told{at, string(body)})
			if len(got) == stop+1 {
				break
			}
		}
		if !slices.Equal(got, want[:stop+1]) {
			t.Errorf("left behind %d: %d told", stop+1, len(got))
		}
	}
	pairs := 0
	for range frames {
		for range frames {
			pairs++
		}
	}
	if pairs != len(want)*len(want) {
		t.Error("a range within a range:", pairs)
	}
}

// P4.4
func TestBeginning(t *testing.T) {
	all, want := row(t, 3, 0, 20, 1, 300, 0)
	for cut := range len(all) + 1 {
		whole := 0
		for whole < len(want) && want[whole].at+len(want[whole].body)+12 <= cut {
			whole++
		}
		if got := tell(All(all[:cut])); !slices.Equal(got, want[:whole]) {
			t.Fatalf("cut at %d: %d told, not %d", cut, len(got), whole)
		}
	}
}

// P4.5: whichever byte is whichever other one.
func TestTurned(t *testing.T) {
	for _, n := range []int{0, 1, 2, 60} {
		f := framed(t, sample(n))
		for i := range f {
			for x := 1; x < 256; x++ {
				f[i] ^= byte(x)
				if body, size, e := Unframe(f); e != api.ErrSum || size != 0 || len(body) != 0 {
					t.Fatalf("%d bytes, byte %d xor %02x: %v", n, i, x, e)
				}
				if len(tell(All(f))) != 0 {
					t.Fatalf("%d bytes, byte %d xor %02x is told", n, i, x)
				}
				f[i] ^= byte(x)
			}
		}
	}
	long := framed(t, sample(api.MaxFrame))
	for i := 0; i < len(long); i += 4001 {
		long[i] ^= 16
		if _, _, e := Unframe(long); e != api.ErrSum {
			t.Error("byte", i, "of a long one", e)
		}
		long[i] ^= 16
	}
}

// P4.5: ahead of a frame that was turned all are told, behind it none.
func TestTurnedInARow(t *testing.T) {
	all, want := row(t, 3, 0, 20, 1)
	for i := range all {
		ahead := 0
		for want[ahead].at+len(want[ahead].body)+12 <= i {
			ahead++
		}
		all[i] ^= 128
		if got := tell(All(all)); !slices.Equal(got, want[:ahead]) {
			t.Errorf("byte %d: %d told, not %d", i, len(got), ahead)
		}
		all[i] ^= 128
	}
}

// Rule 4: what is handed in is not changed, its spare room neither, and what is handed out is new memory.
func TestMemory(t *testing.T) {
	given := sample(60)
	f := framed(t, given[:20])
	if !bytes.Equal(given, sample(60)) {
		t.Error("Frame changed what it was given")
	}
	clear(given)
	if !bytes.Equal(f, known(20, sample(60)[:20])) {
		t.Error("Frame keeps what it was given")
	}
	whole := slices.Concat(f, f)
	body, _, _ := Unframe(whole)
	body = append(body, 1, 2, 3, 4, 5)
	clear(body)
	if !bytes.Equal(whole, slices.Concat(f, f)) {
		t.Error("Unframe hands out what it was given")
	}
	if body, _, e := Unframe(whole[:len(f)-1]); e != api.ErrShort || len(body) != 0 {
		t.Error("what lies behind the length is read", e)
	}
}

// Rules 4 and 8: what the iterator tells is neither kept nor shared.
func TestMemoryOfAll(t *testing.T) {
	all, want := row(t, 3, 4, 5)
	given := slices.Clone(all)
	frames := All(given[:len(given)-17])
	for _, body := range frames {
		clear(append(body, 1, 2, 3, 4, 5))
	}
	if !bytes.Equal(given, all) {
		t.Error("All hands out what it was given")
	}
	if got := tell(frames); !slices.Equal(got, want[:2]) {
		t.Error("what was told is changed by whom it was told to, or the length is passed")
	}
	clear(given)
	if got := tell(frames); !slices.Equal(got, want[:2]) {
		t.Error("All keeps what it was given")
	}
}
