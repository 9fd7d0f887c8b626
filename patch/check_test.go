package patch_test

import (
	"cmp"
	"math"
	"strings"
	"testing"

	"ingot/api"
	"ingot/patch"
)

var bottom = api.Vertex{Line: 1}

// hashOf is a hash that begins and ends with a byte.
func hashOf(b byte) api.Hash { return api.Hash{0: b, 31: b} }

func lineOf(b byte, n int) api.Vertex { return api.Vertex{Patch: hashOf(b), Line: n} }

// ordinary is a patch that Check takes, made anew with each call: tests change one thing about it.
func ordinary() api.Patch {
	return api.Patch{
		Author: "ann",
		Time:   300,
		Note:   "why\nso",
		Deps:   []api.Hash{hashOf(3), hashOf(5)},
		Ops: []api.Op{
			{Kind: api.OpAdd, Path: "b/c", Down: bottom, Lines: []string{"one", "", "three"}},
			{Kind: api.OpKill, Path: "a", Up: lineOf(5, 0)},
			{Kind: api.OpAdd, Path: "a", Up: lineOf(3, 63), Down: lineOf(5, 2), Lines: []string{"x"}},
		},
	}
}

// fault is a change of the ordinary patch, and what Check must say then.
type fault struct {
	what   string
	change func(p *api.Patch)
	want   api.Errno
}

func holdCheck(t *testing.T, faults []fault) {
	t.Helper()
	for _, f := range faults {
		p := ordinary()
		f.change(&p)
		if got := patch.Check(p); got != f.want {
			t.Errorf("%s: %d, not %d", f.what, int(got), int(f.want))
		}
		b, e := patch.Encode(p)
		if e != f.want || (b != nil) != (e == api.OK) {
			t.Errorf("%s: Encode: %x %d", f.what, b, int(e))
		}
		h, e := patch.Name(p)
		if e != f.want || (h != api.Hash{}) != (e == api.OK) {
			t.Errorf("%s: Name: %x %d", f.what, h, int(e))
		}
	}
}

// headFaults are P10.1's ErrHead, and what lies just this side of it.
func headFaults() []fault {
	author := func(s string) func(*api.Patch) { return func(p *api.Patch) { p.Author = s } }
	at := func(n int) func(*api.Patch) { return func(p *api.Patch) { p.Time = n } }
	note := func(s string) func(*api.Patch) { return func(p *api.Patch) { p.Note = s } }
	return []fault{
		{"nothing", func(*api.Patch) {}, api.OK},
		{"no author", author(""), api.ErrHead},
		{"a path as the author", author("a.b"), api.ErrHead},
		{"a digit ahead", author("1a"), api.ErrHead},
		{"an author of 16 bytes", author(strings.Repeat("a", api.MaxName)), api.OK},
		{"an author of 17 bytes", author(strings.Repeat("a", api.MaxName+1)), api.ErrHead},
		{"time 0", at(0), api.OK},
		{"time -1", at(-1), api.ErrHead},
		{"the least time", at(math.MinInt), api.ErrHead},
		{"MaxTime", at(api.MaxTime), api.OK},
		{"MaxTime + 1", at(api.MaxTime + 1), api.ErrHead},
		{"the greatest time", at(math.MaxInt), api.ErrHead},
		{"no note", note(""), api.OK},
		{"any bytes in a note", note("\x00\n\xff\x80"), api.OK},
		{"a note of MaxNote bytes", note(strings.Repeat("\n", api.MaxNote)), api.OK},
		{"a note of MaxNote + 1 bytes", note(strings.Repeat("a", api.MaxNote+1)), api.ErrHead},
		{"a note of fewer runes", note(strings.Repeat("ä", api.MaxNote/2+1)), api.ErrHead},
	}
}

// depsFaults are P10.1's ErrDeps. 3 and 5 stay among them, as the operations need them.
func depsFaults() []fault {
	deps := func(l ...api.Hash) func(*api.Patch) { return func(p *api.Patch) { p.Deps = l } }
	last := func(b byte) api.Hash { return api.Hash{31: b} }
	many := func(n int) []api.Hash {
		var l []api.Hash
		for i := range n {
			l = append(l, hashOf(byte(i+1)))
		}
		return l
	}
	return []fault{
		{"one more behind", deps(hashOf(3), hashOf(5), hashOf(255)), api.OK},
		{"one twice", deps(hashOf(3), hashOf(3), hashOf(5)), api.ErrDeps},
		{"the last one twice", deps(hashOf(3), hashOf(5), hashOf(5)), api.ErrDeps},
		{"they fall", deps(hashOf(5), hashOf(3)), api.ErrDeps},
		{"they fall at the end", deps(hashOf(3), hashOf(5), hashOf(4)), api.ErrDeps},
		{"noughts ahead", deps(api.Hash{}, hashOf(3), hashOf(5)), api.ErrDeps},
		{"noughts behind", deps(hashOf(3), hashOf(5), api.Hash{}), api.ErrDeps},
		{"noughts alone", deps(api.Hash{}), api.ErrDeps},
		{"noughts twice", deps(api.Hash{}, api.Hash{}), api.ErrDeps},
		{"they rise in the last byte", deps(last(1), last(2), hashOf(3), hashOf(5)), api.OK},
		{"they fall in the last byte", deps(last(2), last(1), hashOf(3), hashOf(5)), api.ErrDeps},
		{"bytes above 127 are above", deps(last(127), last(128), hashOf(3), hashOf(5)), api.OK},
		{"bytes above 127 are not below", deps(last(128), last(127), hashOf(3), hashOf(5)), api.ErrDeps},
		{"MaxDeps", deps(many(api.MaxDeps)...), api.OK},
		{"MaxDeps + 1", deps(many(api.MaxDeps + 1)...), api.ErrDeps},
	}
}

// opsFaults are P10.1's ErrOp of the list of operations.
func opsFaults() []fault {
	ops := func(n int, op api.Op) func(*api.Patch) {
		return func(p *api.Patch) {
			p.Ops = nil
			for range n {
				p.Ops = append(p.Ops, op)
			}
		}
	}
	add := func(n int) api.Op {
		return api.Op{Kind: api.OpAdd, Path: "p", Down: bottom, Lines: make([]string, n)}
	}
	both := func(a, b int) func(*api.Patch) {
		return func(p *api.Patch) { p.Ops = []api.Op{add(a), p.Ops[1], add(b)} }
	}
	kill := api.Op{Kind: api.OpKill, Path: "p", Up: lineOf(3, 0)}
	return []fault{
		{"no operations", ops(0, kill), api.ErrOp},
		{"an empty list of operations", func(p *api.Patch) { p.Ops = []api.Op{} }, api.ErrOp},
		{"MaxOps", ops(api.MaxOps, kill), api.OK},
		{"MaxOps + 1", ops(api.MaxOps+1, kill), api.ErrOp},
		{"MaxOps that add", ops(api.MaxOps, add(4)), api.OK},
		{"one line too many in each", ops(api.MaxOps, add(5)), api.ErrOp},
		{"MaxLines in one", ops(1, add(api.MaxLines)), api.OK},
		{"MaxLines + 1 in one", ops(1, add(api.MaxLines+1)), api.ErrOp},
		{"MaxLines in two", both(api.MaxLines-1, 1), api.OK},
		{"MaxLines + 1 in two", both(api.MaxLines-1, 2), api.ErrOp},
		{"MaxLines twice", both(api.MaxLines, api.MaxLines), api.ErrOp},
		{"a bad one behind", func(p *api.Patch) { p.Ops[2].Path = "" }, api.ErrOp},
		{"a bad one between", func(p *api.Patch) { p.Ops[1].Path = "" }, api.ErrOp},
		{"a bad one ahead", func(p *api.Patch) { p.Ops[0].Path = "" }, api.ErrOp},
		{"very many", ops(1<<16, kill), api.ErrOp},
	}
}

// pathFaults are P10.1's ErrOp of kinds and paths.
func pathFaults() []fault {
	var out []fault
	for _, k := range []int{0, 3, -1, 257, 258, math.MinInt, math.MaxInt} {
		out = append(out,
			fault{"another kind", func(p *api.Patch) { p.Ops[0].Kind = k }, api.ErrOp},
			fault{"another kind", func(p *api.Patch) { p.Ops[1].Kind = k }, api.ErrOp})
	}
	for _, s := range []string{"", "a/", "..", "a//b", "A", strings.Repeat("a/", 8) + "a", strings.Repeat("a", 17)} {
		out = append(out,
			fault{"no path " + s, func(p *api.Patch) { p.Ops[0].Path = s }, api.ErrOp},
			fault{"no path " + s, func(p *api.Patch) { p.Ops[1].Path = s }, api.ErrOp})
	}
	long := strings.Repeat("abcdefgh/", 7) + "a"
	return append(out,
		fault{"a path of MaxPath bytes", func(p *api.Patch) { p.Ops[0].Path = long }, api.OK},
		fault{"a path of MaxPath + 1 bytes", func(p *api.Patch) { p.Ops[0].Path = long + "b" }, api.ErrOp})
}

// addFaults are P10.1's ErrOp of OpAdd.
func addFaults() []fault {
	lines := func(l ...string) func(*api.Patch) { return func(p *api.Patch) { p.Ops[0].Lines = l } }
	between := func(up, down api.Vertex) func(*api.Patch) {
		return func(p *api.Patch) { p.Ops[0].Up, p.Ops[0].Down = up, down }
	}
	top := api.Vertex{}
	out := []fault{
		{"no lines", lines(), api.ErrOp},
		{"an empty line", lines(""), api.OK},
		{"a line of MaxLine bytes", lines("a", strings.Repeat("a", api.MaxLine)), api.OK},
		{"a line of MaxLine + 1 bytes", lines("a", strings.Repeat("a", api.MaxLine+1)), api.ErrOp},
		{"the byte 10", lines("a", "\n"), api.ErrOp},
		{"the byte 10 at the end", lines("a\n", "b"), api.ErrOp},
		{"the byte 10 ahead", lines("\na"), api.ErrOp},
		{"the byte 13", lines("a\r", "\x00\xff\x0b\x09"), api.OK},
		{"from Top to Bottom", between(top, bottom), api.OK},
		{"from Bottom", between(bottom, lineOf(3, 0)), api.ErrOp},
		{"from Bottom to Bottom", between(bottom, bottom), api.ErrOp},
		{"to Top", between(lineOf(3, 0), top), api.ErrOp},
		{"from Top to Top", between(top, top), api.ErrOp},
		{"from Bottom to Top", between(bottom, top), api.ErrOp},
		{"from a line to itself", between(lineOf(3, 1), lineOf(3, 1)), api.ErrOp},
		{"from a line to another one of the same patch", between(lineOf(3, 1), lineOf(3, 0)), api.OK},
		{"from a line to the same number of another patch", between(lineOf(3, 1), lineOf(5, 1)), api.OK},
	}
	for _, n := range []int{2, -1, math.MaxInt} {
		v := api.Vertex{Line: n}
		out = append(out, fault{"up: noughts", between(v, bottom), api.ErrOp}, fault{"down: noughts", between(top, v), api.ErrOp})
	}
	for _, v := range foreign() {
		out = append(out, fault{"up: no line of a dep", between(v, bottom), api.ErrOp}, fault{"down: no line of a dep", between(top, v), api.ErrOp})
	}
	for _, v := range own() {
		out = append(out, fault{"up: a line of a dep", between(v, bottom), api.OK}, fault{"down: a line of a dep", between(top, v), api.OK})
	}
	return out
}

// own are lines of deps, at the edges; foreign are none.
func own() []api.Vertex {
	return []api.Vertex{lineOf(3, 0), lineOf(3, 63), lineOf(5, 0), lineOf(5, 63)}
}

func foreign() []api.Vertex {
	return []api.Vertex{lineOf(4, 0), lineOf(4, 1), lineOf(3, -1), lineOf(3, 64), lineOf(5, -1), lineOf(5, 64), lineOf(3, math.MinInt), lineOf(3, math.MaxInt), {Patch: api.Hash{0: 3}}, {Patch: api.Hash{31: 5}, Line: 1}}
}

// killFaults are P10.1's ErrOp of OpKill.
func killFaults() []fault {
	up := func(v api.Vertex) func(*api.Patch) { return func(p *api.Patch) { p.Ops[1].Up = v } }
	down := func(v api.Vertex) func(*api.Patch) { return func(p *api.Patch) { p.Ops[1].Down = v } }
	lines := func(l []string) func(*api.Patch) { return func(p *api.Patch) { p.Ops[1].Lines = l } }
	out := []fault{
		{"Top dies", up(api.Vertex{}), api.ErrOp},
		{"Bottom dies", up(bottom), api.ErrOp},
		{"a kill with Bottom", down(bottom), api.ErrOp},
		{"a kill with a line down", down(lineOf(3, 0)), api.ErrOp},
		{"a kill with its own line down", down(lineOf(5, 0)), api.ErrOp},
		{"a kill with a negative line down", down(api.Vertex{Line: -1}), api.ErrOp},
		{"a kill with lines", lines([]string{"a"}), api.ErrOp},
		{"a kill with an empty line", lines([]string{""}), api.ErrOp},
		{"a kill with an empty list", lines([]string{}), api.OK},
	}
	for _, v := range foreign() {
		out = append(out, fault{"what is no line dies", up(v), api.ErrOp})
	}
	for _, v := range own() {
		out = append(out, fault{"a line dies", up(v), api.OK})
	}
	return out
}

// P10.1, and the errors of P10.2 and P10.4: each thing that may not be, and what lies just this side of it.
func TestCheckHead(t *testing.T)  { holdCheck(t, headFaults()) }
func TestCheckDeps(t *testing.T)  { holdCheck(t, depsFaults()) }
func TestCheckOps(t *testing.T)   { holdCheck(t, opsFaults()) }
func TestCheckPaths(t *testing.T) { holdCheck(t, pathFaults()) }
func TestCheckAdds(t *testing.T)  { holdCheck(t, addFaults()) }
func TestCheckKills(t *testing.T) { holdCheck(t, killFaults()) }

// P10.1: of several faults the one that the chapter names first.
func TestCheckOrder(t *testing.T) {
	for _, h := range headFaults() {
		for _, d := range depsFaults() {
			for _, o := range append(killFaults(), pathFaults()...) {
				if d.what == "MaxDeps" { // the operations may name hashes then that are foreign otherwise
					continue
				}
				p := ordinary()
				h.change(&p)
				d.change(&p)
				o.change(&p)
				want := cmp.Or(h.want, d.want, o.want)
				if got := patch.Check(p); got != want {
					t.Fatalf("%s, %s, %s: %d, not %d", h.what, d.what, o.what, int(got), int(want))
				}
			}
		}
	}
}

// No patch at all.
func TestCheckNothing(t *testing.T) {
	if e := patch.Check(api.Patch{}); e != api.ErrHead {
		t.Error(int(e))
	}
	if e := patch.Check(api.Patch{Author: "a"}); e != api.ErrOp {
		t.Error(int(e))
	}
}
