package mac

import (
	"bytes"
	"crypto/hmac"
	"crypto/sha256"
	"encoding/hex"
	"math/rand"
	"testing"

	"ingot/api"
	"ingot/hash"
)

// sample gives n bytes that look like chance and are always the same.
func sample(n int) []byte {
	b := make([]byte, n)
	rand.New(rand.NewSource(int64(n) + 3)).Read(b)
	return b
}

// known is the tag as the library reckons it.
func known(key, msg []byte) api.Hash {
	h := hmac.New(sha256.New, key)
	h.Write(msg)
	return api.Hash(h.Sum(nil))
}

// P3.1: tags that are known from elsewhere (RFC 4231), the chapter's example among them.
func TestTagKnown(t *testing.T) {
	rising := make([]byte, 25)
	for i := range rising {
		rising[i] = byte(i + 1)
	}
	for _, c := range []struct {
		key, msg []byte
		want     string
	}{
		{[]byte("Jefe"), []byte("what do ya want for nothing?"), "5bdcc146bf60754e6a042426089575c75a003f089d2739839dec58b964ec3843"},
		{bytes.Repeat([]byte{0x0b}, 20), []byte("Hi There"), "b0344c61d8db38535ca8afceaf0bf12b881dc200c9833da726e9376c2e32cff7"},
		{bytes.Repeat([]byte{0xaa}, 20), bytes.Repeat([]byte{0xdd}, 50), "773ea91e36800e46854db8ebd09181a72959098b3ef8c122d9635514ced565fe"},
		{rising, bytes.Repeat([]byte{0xcd}, 50), "82558a389a443c0ea4cc819899f2083a85f0faa3e578f8077a2e3ff46729665b"},
		{bytes.Repeat([]byte{0xaa}, 131), []byte("Test Using Larger Than Block-Size Key - Hash Key First"), "60e431591ee0b67f0d8a26aacbf5b77f8e0bc6213728c5140546040f0ee37f54"},
		{bytes.Repeat([]byte{0xaa}, 131), []byte("This is a test using a larger than block-size key and a larger than block-size data. The key needs to be hashed before being used by the HMAC algorithm."), "9b09ffa71b942fcb27635fbcd5b0e944bfdc63644f0713938a7f51535c3a35e2"},
		{nil, nil, "b613679a0814d9ec772f95d778c35fc5ff1697c493715653c6c712144292c5ad"},
	} {
		tag := Tag(c.key, c.msg)
		if got := hex.EncodeToString(tag[:]); got != c.want {
			t.Errorf("key of %d bytes, message of %d: %s, not %s", len(c.key), len(c.msg), got, c.want)
		}
	}
}

// P3.1: all lengths of keys around a block, which 64 bytes fill and 65 leave.
func TestTagOfAllKeys(t *testing.T) {
	for n := range 140 {
		for _, key := range [][]byte{sample(n), make([]byte, n), bytes.Repeat([]byte{255}, n)} {
			for _, size := range []int{0, 1, 55, 64, 130} {
				if msg := sample(size); Tag(key, msg) != known(key, msg) {
					t.Fatalf("key of %d bytes, message of %d", n, size)
				}
			}
		}
	}
}

// P3.1
func TestTagOfAllMessages(t *testing.T) {
	for n := range 200 {
		if Tag([]byte("key"), sample(n)) != known([]byte("key"), sample(n)) {
			t.Fatalf("%d bytes", n)
		}
	}
	if Tag(sample(70000), sample(70001)) != known(sample(70000), sample(70001)) {
		t.Error("a long key and a long message")
	}
	if Tag(nil, nil) != Tag([]byte{}, []byte{}) {
		t.Error("nothing, nil or empty")
	}
}

// P3.2
func TestCheck(t *testing.T) {
	for _, n := range []int{0, 1, 64, 65, 200} {
		key, msg := sample(n), sample(n+1)
		tag := Tag(key, msg)
		if !Check(key, msg, tag[:]) {
			t.Error("the tag itself, of", n)
		}
		for i := range tag {
			for bit := range 8 {
				other := tag
				other[i] ^= 1 << bit
				if Check(key, msg, other[:]) {
					t.Errorf("byte %d of the tag has another bit %d", i, bit)
				}
			}
		}
		for i := range len(tag) {
			if Check(key, msg, tag[:i]) || Check(key, msg, tag[i+1:]) {
				t.Error("a piece of the tag, cut at", i)
			}
		}
		if Check(key, msg, append(tag[:], 0)) || Check(key, msg, append(tag[:], tag[:]...)) || Check(key, msg, nil) || Check(key, msg, make([]byte, 32)) {
			t.Error("a longer tag, none, or noughts, of", n)
		}
	}
}

// P3.2: another key's tag, another message's.
func TestCheckOfOthers(t *testing.T) {
	tag := Tag([]byte("key"), []byte("message"))
	if Check([]byte("kez"), []byte("message"), tag[:]) || Check([]byte("key"), []byte("messagf"), tag[:]) {
		t.Error("another key or message")
	}
	if Check([]byte("keym"), []byte("essage"), tag[:]) || Check([]byte("message"), []byte("key"), tag[:]) || Check(nil, nil, tag[:]) {
		t.Error("key and message cut elsewhere")
	}
	if Check(nil, nil, nil) {
		t.Error("nothing at all")
	}
}

// P3.3
func TestDerive(t *testing.T) {
	for _, n := range []int{0, 1, 64, 65, 200} {
		for _, label := range []string{"", "a", "audit", "\x01", "\x00", "\xff\xfe", "é", string(sample(300))} {
			if Derive(sample(n), label) != known(sample(n), []byte(label+"\x01")) {
				t.Errorf("key of %d bytes, label %q", n, label)
			}
		}
	}
	if Derive([]byte("k"), "a") == Derive([]byte("k"), "b") || Derive([]byte("k"), "a") == Derive([]byte("l"), "a") {
		t.Error("another label or key derives the same")
	}
	if Derive(nil, "") != Tag(nil, []byte{1}) {
		t.Error("no key and no label")
	}
}

// P3.4
func TestOneBlockOneTag(t *testing.T) {
	msg := []byte("message")
	for _, n := range []int{65, 66, 100, 128, 1000} {
		short := hash.Sum(sample(n))
		if Tag(sample(n), msg) != Tag(short[:], msg) || Derive(sample(n), "a") != Derive(short[:], "a") {
			t.Error("a key's digest, of", n)
		}
	}
	whole := hash.Sum(sample(64))
	if Tag(sample(64), msg) == Tag(whole[:], msg) {
		t.Error("a key of 64 bytes is its own block")
	}
	for n := range 65 {
		key := sample(n)
		for filled := append([]byte{}, key...); len(filled) <= 64; filled = append(filled, 0) {
			tag := Tag(filled, msg)
			if tag != Tag(key, msg) || !Check(key, msg, tag[:]) {
				t.Fatalf("%d bytes, filled up to %d", n, len(filled))
			}
		}
		if Tag(append(key, make([]byte, 65-n)...), msg) == Tag(key, msg) {
			t.Error("65 bytes are more than a block, of", n)
		}
	}
}

// Rules 4 and 8: what is handed in is not changed, nor what lies behind it.
func TestNothingIsChanged(t *testing.T) {
	for _, n := range []int{0, 20, 64, 65, 100} {
		key, msg := sample(n + 50)[:n], sample(n + 90)[:n]
		tag := Tag(key, msg)
		Check(key, msg, tag[:])
		Derive(key, "label")
		if !bytes.Equal(key[:n+50], sample(n+50)) || !bytes.Equal(msg[:n+90], sample(n+90)) || tag != known(sample(n + 50)[:n], sample(n + 90)[:n]) {
			t.Error("changed, or read beyond the length:", n)
		}
	}
}
