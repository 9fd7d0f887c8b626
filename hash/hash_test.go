package hash

import (
	"bytes"
	"crypto/sha256"
	"encoding/hex"
	"math/big"
	"math/rand"
	"strings"
	"testing"

	"ingot/api"
)

// sample gives n bytes that look like chance and are always the same.
func sample(n int) []byte {
	b := make([]byte, n)
	rand.New(rand.NewSource(int64(n) + 1)).Read(b)
	return b
}

// P2.1: digests that are known from elsewhere.
func TestSumKnown(t *testing.T) {
	for _, c := range []struct{ message, want string }{
		{"", "e3b0c44298fc1c149afbf4c8996fb92427ae41e4649b934ca495991b7852b855"},
		{"abc", "ba7816bf8f01cfea414140de5dae2223b00361a396177a9cb410ff61f20015ad"},
		{"abcdbcdecdefdefgefghfghighijhijkijkljklmklmnlmnomnopnopq", "248d6a61d20638b8e5c026930c3e6039a33ce45964ff2167f6ecedd419db06c1"},
		{strings.Repeat("a", 1000000), "cdc76e5c9914fb9281a1c7e284d73e67f1809a48a497200e046d39ccc7112cd0"},
	} {
		s := Sum([]byte(c.message))
		if got := hex.EncodeToString(s[:]); got != c.want {
			t.Errorf("Sum of %d bytes: %s, not %s", len(c.message), got, c.want)
		}
	}
	if Sum(nil) != Sum([]byte{}) {
		t.Error("nothing, nil or empty")
	}
}

// P2.1: all lengths around the ends of blocks, where the message's ending grows by a block.
func TestSumOfAllLengths(t *testing.T) {
	for n := range 400 {
		for _, b := range [][]byte{sample(n), make([]byte, n), bytes.Repeat([]byte{255}, n)} {
			if Sum(b) != api.Hash(sha256.Sum256(b)) {
				t.Fatalf("%d bytes", n)
			}
		}
	}
	for _, n := range []int{8191, 8192, 8193, 65535, 65536, 1<<21 + 5} {
		if b := sample(n); Sum(b) != api.Hash(sha256.Sum256(b)) {
			t.Errorf("%d bytes", n)
		}
	}
}

// P2.1: the numbers k are what the document says of the cube roots of prime numbers.
func TestTable(t *testing.T) {
	prime := int64(1)
	for i := range len(k) {
		for prime++; !big.NewInt(prime).ProbablyPrime(0); prime++ {
		}
		// k has the low 32 bits of the cube root of prime * 2^96, as whole number.
		cube := new(big.Int).Lsh(big.NewInt(prime), 96)
		root := new(big.Int)
		for bit := 40; bit >= 0; bit-- {
			next := new(big.Int).SetBit(root, bit, 1)
			if new(big.Int).Exp(next, big.NewInt(3), nil).Cmp(cube) <= 0 {
				root = next
			}
		}
		if want := uint32(root.Uint64()); k[i] != want {
			t.Errorf("k(%d), of %d: %08x, not %08x", i, prime, k[i], want)
		}
	}
}

// P2.2
func TestDigest(t *testing.T) {
	d := New()
	if d.Sum() != Sum(nil) {
		t.Error("a new one")
	}
	var all []byte
	for n := range 200 {
		piece := sample(n)
		if e := d.Write(piece); e != api.OK {
			t.Fatal(e)
		}
		all = append(all, piece...)
		// Asked twice, and then written to: the digest that is told takes nothing away.
		for range 2 {
			if d.Sum() != api.Hash(sha256.Sum256(all)) {
				t.Fatalf("behind %d bytes", len(all))
			}
		}
	}
	if e := d.Write(nil); e != api.OK || d.Sum() != Sum(all) {
		t.Error("nothing written", e)
	}
}

// P2.2
func TestDigestsAreApart(t *testing.T) {
	d, other := New(), New()
	d.Write([]byte("abc"))
	if other.Sum() != Sum(nil) || New().Sum() != Sum(nil) {
		t.Error("one digest has what was written to another")
	}
}

// P2.2
func TestClone(t *testing.T) {
	for _, n := range []int{0, 1, 63, 64, 65, 130} {
		b := sample(n)
		d := New()
		d.Write(b)
		c := d.Clone()
		if c == nil || c == d || c.Sum() != Sum(b) {
			t.Fatal("clone behind", n)
		}
		d.Write([]byte("one way"))
		if c.Sum() != Sum(b) {
			t.Error("the clone goes the first one's way", n)
		}
		c.Write([]byte("the other"))
		if d.Sum() != Sum(append(bytes.Clone(b), "one way"...)) {
			t.Error("the first one goes the clone's way", n)
		}
		if c.Sum() != Sum(append(bytes.Clone(b), "the other"...)) {
			t.Error("the clone's own way", n)
		}
		if c.Clone().Sum() != c.Sum() {
			t.Error("a clone's clone", n)
		}
	}
}

// P2.1, P2.2 with DOC.md's rules 4 and 8
func TestWriteKeepsNothing(t *testing.T) {
	room := append(sample(70), bytes.Repeat([]byte{0xee}, 70)...)
	b, want := room[:70], sha256.Sum256(room[:70])
	d := New()
	d.Write(b)
	if got := Sum(b); got != want {
		t.Error("sum")
	}
	if !bytes.Equal(b, sample(70)) || bytes.Count(room[70:], []byte{0xee}) != 70 {
		t.Error("what was handed in has changed")
	}
	clear(b)
	if d.Sum() != want {
		t.Error("what was handed in is kept")
	}
}

// P2.2's last words, and DOC.md's rule 1
func TestDigestThatNoCallMade(t *testing.T) {
	var none *Digest
	for name, d := range map[string]*Digest{"nil": none, "plain": {}} {
		for range 2 {
			if e := d.Write([]byte("abc")); e != api.ErrNil {
				t.Error(name, "Write", e)
			}
			if e := d.Write(nil); e != api.ErrNil {
				t.Error(name, "Write of nothing", e)
			}
			if s := d.Sum(); s != (api.Hash{}) {
				t.Error(name, "Sum", s)
			}
			if c := d.Clone(); c != nil {
				t.Error(name, "Clone")
			}
		}
	}
}

// P2.3
func TestHex(t *testing.T) {
	for _, c := range []struct {
		b    []byte
		want string
	}{
		{nil, ""},
		{[]byte{}, ""},
		{[]byte{0}, "00"},
		{[]byte{10, 255, 0x90}, "0aff90"},
		{[]byte{0x01, 0x23, 0x45, 0x67, 0x89, 0xab, 0xcd, 0xef}, "0123456789abcdef"},
	} {
		if got := Hex(c.b); got != c.want {
			t.Errorf("Hex(%v): %q", c.b, got)
		}
	}
	for i := range 256 {
		if got := Hex([]byte{byte(i)}); got != hex.EncodeToString([]byte{byte(i)}) {
			t.Errorf("Hex of %d: %q", i, got)
		}
	}
}

// isDigit says it the document's way, apart from what the package does.
func isDigit(c byte) bool { return strings.IndexByte("0123456789abcdef", c) >= 0 }

// P2.3: each pair of bytes.
func TestUnhexPairs(t *testing.T) {
	for i := range 1 << 16 {
		s := string([]byte{byte(i >> 8), byte(i)})
		b, e := Unhex(s)
		if isDigit(s[0]) && isDigit(s[1]) {
			if e != api.OK || len(b) != 1 || Hex(b) != s {
				t.Fatalf("Unhex(%q): %v, %d", s, b, e)
			}
		} else if e != api.ErrText || len(b) != 0 {
			t.Fatalf("Unhex(%q): %v, %d", s, b, e)
		}
	}
}

// P2.3
func TestUnhex(t *testing.T) {
	if b, e := Unhex(""); e != api.OK || len(b) != 0 {
		t.Error("nothing", b, e)
	}
	for _, s := range []string{"0", "000", "abc", "0A", "FF", "0g", " 0", "0 ", "0x00", "00\n0", "00zz", "zz00", "000g", "ä", "\x00\x00", "00-1"} {
		if b, e := Unhex(s); e != api.ErrText || b != nil {
			t.Errorf("Unhex(%q): %v, %d", s, b, e)
		}
	}
	for n := range 100 {
		b, e := Unhex(Hex(sample(n)))
		if e != api.OK || !bytes.Equal(b, sample(n)) {
			t.Error("there and back", n, b, e)
		}
	}
}

// P2.4
func TestEqual(t *testing.T) {
	for _, c := range []struct {
		a, b []byte
		want bool
	}{
		{nil, nil, true},
		{nil, []byte{}, true},
		{[]byte{}, nil, true},
		{nil, []byte{0}, false},
		{[]byte{0}, nil, false},
		{[]byte{1}, []byte{1, 2}, false},
		{[]byte{1, 0}, []byte{1}, false},
		{[]byte{1, 2}, []byte{2, 1}, false},
		{[]byte{0x0f}, []byte{0xf0}, false},
	} {
		if got := Equal(c.a, c.b); got != c.want {
			t.Errorf("Equal(%v, %v): %v", c.a, c.b, got)
		}
	}
	a := sample(40)
	if !Equal(a, bytes.Clone(a)) || !Equal(a, a) {
		t.Error("the same bytes")
	}
	for i := range a {
		for bit := range 8 {
			b := bytes.Clone(a)
			b[i] ^= 1 << bit
			if Equal(a, b) || Equal(b, a) {
				t.Error("another bit", i, bit)
			}
		}
	}
	// Two bytes that differ in one same bit must not take each other away.
	b := bytes.Clone(a)
	b[3] ^= 1
	b[9] ^= 1
	if Equal(a, b) {
		t.Error("two other bytes")
	}
}

// P2.4 with DOC.md's rule 8: what lies behind a list's length counts for nothing.
func TestEqualLooksAtTheLength(t *testing.T) {
	a := []byte{1, 2, 3, 4}[:2]
	b := []byte{1, 2, 9, 9}[:2]
	if !Equal(a, b) {
		t.Error("bytes behind the length were looked at")
	}
}

// P2.5
func TestPieces(t *testing.T) {
	for _, n := range []int{1, 55, 56, 63, 64, 65, 119, 120, 128, 129, 200} {
		b := sample(n)
		want := api.Hash(sha256.Sum256(b))
		for i := range n + 1 {
			d := New()
			d.Write(b[:i])
			d.Write(b[i:])
			if d.Sum() != want {
				t.Errorf("%d bytes, cut at %d", n, i)
			}
		}
	}
	chance := rand.New(rand.NewSource(2))
	for range 300 {
		b := sample(chance.Intn(1000))
		d := New()
		for rest := b; len(rest) > 0; {
			i := chance.Intn(min(len(rest), 150) + 1)
			d.Write(rest[:i])
			rest = rest[i:]
			if chance.Intn(4) == 0 {
				d.Sum()
			}
		}
		if d.Sum() != api.Hash(sha256.Sum256(b)) {
			t.Errorf("%d bytes in pieces by chance", len(b))
		}
	}
}

func BenchmarkSum(b *testing.B) {
	p := sample(8192)
	b.SetBytes(int64(len(p)))
	for b.Loop() {
		Sum(p)
	}
}
