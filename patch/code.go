package patch

import (
	"slices"

	"ingot/api"
	"ingot/octet"
)

// The first bytes of a patch and of vertices.
const (
	patchMark  = 0x50
	topMark    = 0
	bottomMark = 1
	lineMark   = 2
)

// writer writes a patch that Check takes.
type writer struct {
	bytes []byte
	deps  []api.Hash
}

func (w *writer) mark(m byte) { w.bytes = append(w.bytes, m) }

// number puts the number behind nothing first, as octet copies all that it is to put a number behind.
func (w *writer) number(n int) { w.bytes = append(w.bytes, octet.Put(nil, uint64(n))...) }

func (w *writer) text(s string) { w.bytes = append(w.bytes, octet.PutText(nil, s)...) }

func (w *writer) patch(p api.Patch) {
	w.mark(patchMark)
	w.text(p.Author)
	w.number(p.Time)
	w.text(p.Note)
	w.number(len(p.Deps))
	for _, dep := range p.Deps {
		w.bytes = append(w.bytes, dep[:]...)
	}
	w.number(len(p.Ops))
	for _, op := range p.Ops {
		w.op(op)
	}
}

func (w *writer) op(op api.Op) {
	w.mark(byte(op.Kind))
	w.text(op.Path)
	w.vertex(op.Up)
	if op.Kind != api.OpAdd {
		return
	}
	w.vertex(op.Down)
	w.number(len(op.Lines))
	for _, line := range op.Lines {
		w.text(line)
	}
}

func (w *writer) vertex(v api.Vertex) {
	switch v {
	case top():
		w.mark(topMark)
	case bottom():
		w.mark(bottomMark)
	default:
		w.mark(lineMark)
		w.number(slices.Index(w.deps, v.Patch))
		w.number(v.Line)
	}
}

// reader reads what writer wrote. Each of its calls gives up by a panic, so that none has to ask how the one ahead of it went.
type reader struct {
	from *octet.Reader
	deps []api.Hash
}

// read reads a patch that Check takes. It panics at bytes that are none.
func read(b []byte) api.Patch {
	r := reader{from: octet.Over(b)}
	p := r.patch()
	need(r.from.End() == api.OK && Check(p) == api.OK)
	return p
}

// need gives up, unless it holds.
func need(holds bool) {
	if !holds {
		panic(api.ErrCode)
	}
}

// sure tells what was read, if it was.
func sure[T any](read T, e api.Errno) T {
	need(e == api.OK)
	return read
}

func (r *reader) mark() int { return int(sure(r.from.Byte())) }

// number reads a number that is at most so great: what is greater may be no int.
func (r *reader) number(most int) int {
	n := sure(r.from.Uint())
	need(n <= uint64(most))
	return int(n)
}

func (r *reader) text(most int) string { return sure(r.from.Text(most)) }

func (r *reader) hash() api.Hash {
	var h api.Hash
	for i := range h {
		h[i] = sure(r.from.Byte())
	}
	return h
}

func (r *reader) patch() api.Patch {
	need(r.mark() == patchMark)
	var p api.Patch
	p.Author = r.text(api.MaxName)
	p.Time = r.number(api.MaxTime)
	p.Note = r.text(api.MaxNote)
	for range r.number(api.MaxDeps) {
		r.deps = append(r.deps, r.hash())
	}
	p.Deps = r.deps
	for range r.number(api.MaxOps) {
		p.Ops = append(p.Ops, r.op())
	}
	return p
}

func (r *reader) op() api.Op {
	var op api.Op
	op.Kind = r.mark()
	op.Path = r.text(api.MaxPath)
	op.Up = r.vertex()
	if op.Kind != api.OpAdd {
		return op
	}
	op.Down = r.vertex()
	for range r.number(api.MaxLines) {
		op.Lines = append(op.Lines, r.text(api.MaxLine))
	}
	return op
}

func (r *reader) vertex() api.Vertex {
	switch m := r.mark(); m {
	case topMark:
		return top()
	case bottomMark:
		return bottom()
	default:
		need(m == lineMark)
		return r.line()
	}
}

func (r *reader) line() api.Vertex {
	place := r.number(api.MaxDeps)
	need(place < len(r.deps))
	return api.Vertex{Patch: r.deps[place], Line: r.number(api.MaxLines)}
}
