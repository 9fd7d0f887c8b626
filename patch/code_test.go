package patch_test

import (
	"bytes"
	"crypto/sha256"
	"encoding/binary"
	"encoding/hex"
	"fmt"
	"math"
	"math/rand"
	"reflect"
	"slices"
	"strings"
	"testing"

	"ingot/api"
	"ingot/patch"
)

// number and text lay bytes by the library's varints.
func number(n uint64) []byte { return binary.AppendUvarint(nil, n) }
func text(s string) []byte   { return append(number(uint64(len(s))), s...) }

// vertexPieces are a vertex's bytes, piece by piece. What is no vertex of deps has the place 99.
func vertexPieces(deps []api.Hash, v api.Vertex) [][]byte {
	switch {
	case v == api.Vertex{}:
		return [][]byte{{0}}
	case v == api.Vertex{Line: 1}:
		return [][]byte{{1}}
	}
	place := slices.Index(deps, v.Patch)
	if place < 0 {
		place = 99
	}
	return [][]byte{{2}, number(uint64(place)), number(uint64(v.Line))}
}

// pieces are the bytes that a patch must have, as P10.2 says them one by one, whether or not Check takes it.
func pieces(p api.Patch) [][]byte {
	out := [][]byte{{0x50}, text(p.Author), number(uint64(p.Time)), text(p.Note), number(uint64(len(p.Deps)))}
	for _, d := range p.Deps {
		out = append(out, slices.Clone(d[:]))
	}
	out = append(out, number(uint64(len(p.Ops))))
	for _, op := range p.Ops {
		out = append(out, []byte{byte(op.Kind)}, text(op.Path))
		out = append(out, vertexPieces(p.Deps, op.Up)...)
		if op.Kind != api.OpAdd {
			continue
		}
		out = append(out, vertexPieces(p.Deps, op.Down)...)
		out = append(out, number(uint64(len(op.Lines))))
		for _, l := range op.Lines {
			out = append(out, text(l))
		}
	}
	return out
}

func bytesOf(p api.Patch) []byte { return bytes.Join(pieces(p), nil) }

// full has all at its limits: deps, operations, lines, bytes.
func full() api.Patch {
	p := api.Patch{Author: strings.Repeat("z", api.MaxName), Time: api.MaxTime, Note: strings.Repeat("\xff", api.MaxNote)}
	for i := range api.MaxDeps {
		p.Deps = append(p.Deps, hashOf(byte(255-api.MaxDeps+i)))
	}
	path := strings.Repeat("abcdefgh/", 7) + "a"
	for i := range api.MaxOps {
		op := api.Op{Kind: api.OpAdd, Path: path, Up: api.Vertex{Patch: p.Deps[i], Line: 63}, Down: api.Vertex{Patch: p.Deps[15-i], Line: 0}}
		for range api.MaxLines / api.MaxOps {
			op.Lines = append(op.Lines, strings.Repeat("\x00", api.MaxLine))
		}
		p.Ops = append(p.Ops, op)
	}
	return p
}

// some gives a patch by chance that Check takes.
func some(chance *rand.Rand) api.Patch {
	word := func(most int) string { return strings.Repeat("a", chance.Intn(most+1)) }
	p := api.Patch{Author: "a" + word(15), Time: chance.Intn(api.MaxTime + 1), Note: word(api.MaxNote)}
	for i := range chance.Intn(4) {
		h := api.Hash{0: byte(i)}
		chance.Read(h[1:])
		p.Deps = append(p.Deps, h)
	}
	vertex := func(end api.Vertex) api.Vertex {
		if len(p.Deps) == 0 || chance.Intn(3) == 0 {
			return end
		}
		return api.Vertex{Patch: p.Deps[chance.Intn(len(p.Deps))], Line: chance.Intn(api.MaxLines)}
	}
	for range 1 + chance.Intn(5) {
		path := []string{"a", "a/b", "c.d/-", "_"}[chance.Intn(4)]
		if len(p.Deps) > 0 && chance.Intn(3) == 0 {
			p.Ops = append(p.Ops, api.Op{Kind: api.OpKill, Path: path, Up: api.Vertex{Patch: p.Deps[0], Line: chance.Intn(api.MaxLines)}})
			continue
		}
		op := api.Op{Kind: api.OpAdd, Path: path, Up: vertex(api.Vertex{}), Down: vertex(bottom)}
		if op.Up == op.Down {
			op.Down = bottom
		}
		for range 1 + chance.Intn(5) {
			op.Lines = append(op.Lines, word(api.MaxLine))
		}
		p.Ops = append(p.Ops, op)
	}
	return p
}

// sound are patches that Check takes: the chapter's own, those at the limits, and some by chance.
func sound() []api.Patch {
	out := []api.Patch{example(), ordinary(), full()}
	chance := rand.New(rand.NewSource(10))
	for range 200 {
		out = append(out, some(chance))
	}
	return out
}

// example is the chapter's.
func example() api.Patch {
	return api.Patch{Author: "a", Ops: []api.Op{{Kind: api.OpAdd, Path: "p", Down: bottom, Lines: []string{"x"}}}}
}

const exampleBytes = "5001610000000101017000010101" + "78"

func encoded(t *testing.T, p api.Patch) []byte {
	t.Helper()
	b, e := patch.Encode(p)
	if e != api.OK {
		t.Fatalf("%+v: %d", p, int(e))
	}
	return b
}

// refused holds Decode to ErrCode, and to nothing else beside it.
func refused(t *testing.T, what string, b []byte) {
	t.Helper()
	p, e := patch.Decode(b)
	if e != api.ErrCode || !reflect.DeepEqual(p, api.Patch{}) {
		t.Errorf("%s: %x: %+v %d", what, b, p, int(e))
	}
}

// P10.2: the chapter's example, and one that was laid by hand.
func TestEncodeExample(t *testing.T) {
	if got := hex.EncodeToString(encoded(t, example())); got != exampleBytes {
		t.Error(got)
	}
	three, five := hex.EncodeToString(ordinary().Deps[0][:]), hex.EncodeToString(ordinary().Deps[1][:])
	want := "50" + "03616e6e" + "ac02" + "067768790a736f" + "02" + three + five + "03" +
		"01" + "03622f63" + "00" + "01" + "03" + "036f6e65" + "00" + "057468726565" +
		"02" + "0161" + "020100" +
		"01" + "0161" + "02003f" + "020102" + "01" + "0178"
	if got := hex.EncodeToString(encoded(t, ordinary())); got != want {
		t.Error(got)
	}
}

// P10.2: held to bytes that are laid by the library; P10.4: its hash to the library's.
func TestEncodeAndName(t *testing.T) {
	for _, p := range sound() {
		want := bytesOf(p)
		if got := encoded(t, p); !bytes.Equal(got, want) {
			t.Fatalf("%+v: %x, not %x", p, got, want)
		}
		if h, e := patch.Name(p); e != api.OK || h != api.Hash(sha256.Sum256(want)) {
			t.Fatalf("%+v: %x %d", p, h, int(e))
		}
	}
}

// P10.3, P10.6: Decode of Encode is the patch; its bytes are its bytes again.
func TestThereAndBack(t *testing.T) {
	for _, p := range sound() {
		b := encoded(t, p)
		q, e := patch.Decode(b)
		if e != api.OK || !patch.Same(p, q) || !reflect.DeepEqual(p, q) {
			t.Fatalf("%+v: %+v %d", p, q, int(e))
		}
		if again := encoded(t, q); !bytes.Equal(b, again) {
			t.Fatalf("%x: %x", b, again)
		}
	}
}

// P10.3: bytes that end too soon, or too late.
func TestDecodeCut(t *testing.T) {
	for _, p := range []api.Patch{example(), ordinary(), full()} {
		b := encoded(t, p)
		for i := range b {
			refused(t, "cut", b[:i])
		}
		refused(t, "a byte behind", append(slices.Clone(b), 0))
		refused(t, "twice", append(slices.Clone(b), b...))
		refused(t, "a byte ahead", append([]byte{0x50}, b...))
	}
	refused(t, "nil", nil)
	refused(t, "nothing", []byte{})
	refused(t, "a hundred noughts", make([]byte, 100))
}

// holdDecoded holds bytes that may be a patch's to P10.3 and P10.6.
func holdDecoded(t *testing.T, b []byte) bool {
	t.Helper()
	p, e := patch.Decode(b)
	if e == api.OK {
		if patch.Check(p) != api.OK || !bytes.Equal(bytesOf(p), b) {
			t.Fatalf("%x: %+v", b, p)
		}
		return true
	}
	refused(t, "turned", b)
	return false
}

// P10.3, P10.6: each byte is turned into each other one: it is no patch, or another one with just these bytes.
func TestDecodeTurned(t *testing.T) {
	for _, p := range []api.Patch{example(), ordinary()} {
		b := encoded(t, p)
		taken := 0
		for i := range b {
			for c := range 256 {
				turned := slices.Clone(b)
				turned[i] = byte(c)
				if holdDecoded(t, turned) {
					taken++
				}
			}
		}
		if taken < 400 {
			t.Error("only", taken, "were taken: those with other letters are patches")
		}
	}
}

// P10.3, P10.6: pieces that are dropped, doubled, changed about, by chance.
func TestDecodeTorn(t *testing.T) {
	chance := rand.New(rand.NewSource(11))
	for range 30000 {
		l := pieces(some(chance))
		i, j := chance.Intn(len(l)), chance.Intn(len(l))
		switch chance.Intn(4) {
		case 0:
			l = slices.Delete(l, i, i+1)
		case 1:
			l = slices.Insert(l, i, l[j])
		case 2:
			l[i], l[j] = l[j], l[i]
		case 3:
			l[i] = number(uint64(1) << chance.Intn(64))
		}
		holdDecoded(t, bytes.Join(l, nil))
	}
}

// P10.3: what Check refuses is refused as bytes, and what it takes is taken.
func TestDecodeChecks(t *testing.T) {
	var all []fault
	for _, l := range [][]fault{headFaults(), depsFaults(), opsFaults(), pathFaults(), addFaults(), killFaults()} {
		all = append(all, l...)
	}
	for _, f := range all {
		p := ordinary()
		f.change(&p)
		isLaid := !slices.ContainsFunc(p.Ops, func(op api.Op) bool {
			return op.Kind < 0 || op.Kind > 255 || op.Kind == api.OpKill && (op.Down != api.Vertex{} || len(op.Lines) > 0)
		})
		if !isLaid {
			continue // its bytes would be another patch's
		}
		q, e := patch.Decode(bytesOf(p))
		if (e == api.OK) != (f.want == api.OK) || e == api.OK && !patch.Same(p, q) || e != api.OK && e != api.ErrCode {
			t.Errorf("%s: %+v %d", f.what, q, int(e))
		}
	}
}

// P10.3: numbers in longer forms, numbers and places that are too great, marks that are none.
func TestDecodePieces(t *testing.T) {
	at := func(i int, piece ...byte) []byte {
		l := pieces(ordinary())
		l[i] = piece
		return bytes.Join(l, nil)
	}
	// Which piece of the ordinary patch is which.
	const mark, author, time, note, deps, ops, lines, kind, killed, place, line = 0, 1, 2, 3, 4, 7, 12, 16, 18, 19, 20
	if !bytes.Equal(at(time, number(300)...), bytesOf(ordinary())) {
		t.Fatal("the pieces are others")
	}
	for _, c := range []struct {
		what string
		b    []byte
	}{
		{"another mark", at(mark, 0x51)},
		{"no mark", at(mark)},
		{"a longer form of the author's length", at(author, append([]byte{0x83, 0}, "ann"...)...)},
		{"a longer form of the time", at(time, 0xac, 0x82, 0)},
		{"a time above MaxTime", at(time, number(api.MaxTime+1)...)},
		{"a time that is no int", at(time, number(1<<63)...)},
		{"the greatest time", at(time, number(math.MaxUint64)...)},
		{"a time of eleven bytes", at(time, bytes.Repeat([]byte{0xff}, 11)...)},
		{"a note that is longer than all", at(note, number(math.MaxUint64)...)},
		{"a longer form of how many deps", at(deps, 0x82, 0)},
		{"fewer deps", at(deps, 1)},
		{"more deps", at(deps, 3)},
		{"very many deps", at(deps, number(math.MaxUint64)...)},
		{"a longer form of how many operations", at(ops, 0x83, 0)},
		{"fewer operations", at(ops, 2)},
		{"more operations", at(ops, 4)},
		{"no operations", at(ops, 0)},
		{"very many operations", at(ops, number(1<<63)...)},
		{"a longer form of how many lines", at(lines, 0x83, 0)},
		{"fewer lines", at(lines, 2)},
		{"more lines", at(lines, 4)},
		{"no lines", at(lines, 0)},
		{"very many lines", at(lines, number(1<<40)...)},
		{"the kind 0", at(kind, 0)},
		{"the kind 3", at(kind, 3)},
		{"the mark 3 of a vertex", at(killed, 3)},
		{"the mark 255 of a vertex", at(killed, 255)},
		{"a place behind all deps", at(place, 2)},
		{"a place far behind all deps", at(place, number(math.MaxUint64)...)},
		{"a place that is -1 as an int", at(place, number(1<<63)...)},
		{"a longer form of a place", at(place, 0x81, 0)},
		{"a line behind all", at(line, 64)},
		{"a line far behind all", at(line, number(1<<32)...)},
		{"a line that is no int", at(line, number(1<<63)...)},
		{"a longer form of a line", at(line, 0x80, 0)},
	} {
		refused(t, c.what, c.b)
	}
}

// P10.3: places where there are no deps at all.
func TestDecodeNoDeps(t *testing.T) {
	for place := range 3 {
		refused(t, "a kill", bytes.Join([][]byte{{0x50}, text("a"), {0}, {0}, {0}, {1}, {2}, text("p"), {2, byte(place), 0}}, nil))
	}
	refused(t, "a kill of Top", bytes.Join([][]byte{{0x50}, text("a"), {0}, {0}, {0}, {1}, {2}, text("p"), {0}}, nil))
	refused(t, "a kill of Bottom", bytes.Join([][]byte{{0x50}, text("a"), {0}, {0}, {0}, {1}, {2}, text("p"), {1}}, nil))
}

// P10.5: the paths rise, each is there once, whatever they are.
func TestPaths(t *testing.T) {
	of := func(paths ...string) api.Patch {
		var p api.Patch
		for i, path := range paths {
			p.Ops = append(p.Ops, api.Op{Kind: i, Path: path})
		}
		return p
	}
	for _, c := range []struct {
		p    api.Patch
		want string
	}{
		{of(), `[]`},
		{of("b"), `["b"]`},
		{of("b", "a", "b", "a/b", "a"), `["a" "a/b" "b"]`},
		{of("b", "b", "b"), `["b"]`},
		{of("a", "", "\xff", "Z", "a-", "a/"), `["" "Z" "a" "a-" "a/" "\xff"]`},
		{ordinary(), `["a" "b/c"]`},
		{example(), `["p"]`},
	} {
		if got := fmt.Sprintf("%q", patch.Paths(c.p)); got != c.want {
			t.Errorf("%s, not %s", got, c.want)
		}
	}
	var many api.Patch
	for i := range 1000 {
		many.Ops = append(many.Ops, api.Op{Path: fmt.Sprint(i * 7 % 300)})
	}
	got := patch.Paths(many)
	if len(got) != 300 || !slices.IsSorted(got) {
		t.Error(len(got), got)
	}
}

// P10.5: patches are the same just if all their fields are.
func TestSame(t *testing.T) {
	changes := []func(p *api.Patch){
		func(p *api.Patch) {},
		func(p *api.Patch) { p.Author = "bob" },
		func(p *api.Patch) { p.Time++ },
		func(p *api.Patch) { p.Note = "" },
		func(p *api.Patch) { p.Deps = p.Deps[:1] },
		func(p *api.Patch) { p.Deps = nil },
		func(p *api.Patch) { p.Deps[1][31]++ },
		func(p *api.Patch) { p.Deps[0], p.Deps[1] = p.Deps[1], p.Deps[0] },
		func(p *api.Patch) { p.Ops = p.Ops[:2] },
		func(p *api.Patch) { p.Ops = nil },
		func(p *api.Patch) { p.Ops[0], p.Ops[1] = p.Ops[1], p.Ops[0] },
		func(p *api.Patch) { p.Ops[1].Kind = 7 },
		func(p *api.Patch) { p.Ops[2].Path = "A" },
		func(p *api.Patch) { p.Ops[2].Up.Line = 62 },
		func(p *api.Patch) { p.Ops[2].Up.Patch[9]++ },
		func(p *api.Patch) { p.Ops[2].Down.Line = -1 },
		func(p *api.Patch) { p.Ops[2].Down.Patch = api.Hash{} },
		func(p *api.Patch) { p.Ops[1].Down.Line = 1 },
		func(p *api.Patch) { p.Ops[0].Lines = p.Ops[0].Lines[:2] },
		func(p *api.Patch) { p.Ops[0].Lines[1] = "two" },
		func(p *api.Patch) { p.Ops[0].Lines = nil },
		func(p *api.Patch) { p.Ops[1].Lines = []string{""} },
		func(p *api.Patch) { *p = api.Patch{} },
	}
	for i, one := range changes {
		for j, other := range changes {
			p, q := ordinary(), ordinary()
			one(&p)
			other(&q)
			if got := patch.Same(p, q); got != (i == j) {
				t.Errorf("%d and %d: %v", i, j, got)
			}
		}
	}
}

// Rule 3: a list without an element may be nil or empty.
func TestSameWithoutElements(t *testing.T) {
	p, q := example(), example()
	p.Deps = []api.Hash{}
	if !patch.Same(p, q) || !patch.Same(q, p) || !bytes.Equal(encoded(t, p), encoded(t, q)) {
		t.Error("deps")
	}
	p.Ops, q.Ops = nil, []api.Op{}
	if !patch.Same(p, q) || !patch.Same(q, p) {
		t.Error("ops")
	}
	p.Ops, q.Ops = []api.Op{{Lines: []string{}}}, []api.Op{{}}
	if !patch.Same(p, q) || !patch.Same(q, p) {
		t.Error("lines")
	}
}

// roomy is the ordinary patch, whose lists have something in their spare room.
func roomy() api.Patch {
	p := ordinary()
	p.Deps = append(p.Deps, hashOf(9))[:2]
	p.Ops = append(p.Ops, api.Op{Path: "spare"})[:3]
	for i := range p.Ops {
		n := len(p.Ops[i].Lines)
		p.Ops[i].Lines = append(p.Ops[i].Lines, "spare")[:n]
	}
	return p
}

// Rule 4, rule 8: what is handed in is not changed, its spare room neither, nor read.
func TestHandedIn(t *testing.T) {
	p := roomy()
	b := encoded(t, p)
	if !bytes.Equal(b, bytesOf(ordinary())) || patch.Check(p) != api.OK || !patch.Same(p, ordinary()) || len(patch.Paths(p)) != 2 {
		t.Error("spare room is read")
	}
	patch.Name(p)
	if !patch.Same(p, ordinary()) {
		t.Error("the patch was changed")
	}
	if p.Deps[:3][2] != hashOf(9) || p.Ops[:4][3].Path != "spare" || p.Ops[0].Lines[:4][3] != "spare" || p.Ops[1].Lines[:1][0] != "spare" {
		t.Error("spare room was written")
	}
	room := append(slices.Clone(b), 7)
	if _, e := patch.Decode(room[:len(b)]); e != api.OK || !bytes.Equal(room[:len(b)], b) || room[len(b)] != 7 {
		t.Error("bytes were changed", int(e))
	}
}

// Rule 4: what is handed out is new memory, each list of it.
func TestHandedOut(t *testing.T) {
	p := ordinary()
	b := encoded(t, p)
	clear(b[:cap(b)])
	if !bytes.Equal(encoded(t, p), bytesOf(ordinary())) {
		t.Error("Encode's bytes are the patch's")
	}
	b = encoded(t, p)
	q, _ := patch.Decode(b)
	clear(b)
	if !patch.Same(q, ordinary()) {
		t.Error("Decode's patch is the bytes'")
	}
	for i := range q.Ops {
		_ = append(q.Ops[i].Lines, "a", "b", "c", "d")
	}
	_ = append(q.Ops, api.Op{Path: "spare"})
	_ = append(q.Deps, hashOf(9))
	if !patch.Same(q, ordinary()) {
		t.Error("Decode's lists share memory")
	}
	l := patch.Paths(p)
	clear(l[:cap(l)])
	if !patch.Same(p, ordinary()) || len(patch.Paths(p)) != 2 {
		t.Error("Paths' list is the patch's")
	}
}

// FuzzDecode holds any bytes to P10.3 and P10.6.
func FuzzDecode(f *testing.F) {
	for _, p := range sound()[:20] {
		f.Add(bytesOf(p))
	}
	f.Fuzz(func(t *testing.T, b []byte) { holdDecoded(t, b) })
}
