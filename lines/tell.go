package lines

import (
	"bytes"
	"cmp"
	"math/bits"
	"slices"

	"ingot/api"
)

// sheet is a graph's lines by numbers, which rise as their vertices do: they are gone through often to put them in order.
type sheet struct {
	vertices []api.Vertex
	lines    []*line
	from     [][]int // of each line, the lines from which steps lead to it
}

func (g *Graph) sheet() sheet {
	s := sheet{vertices: g.rising()}
	numbers := make(map[api.Vertex]int, len(s.vertices))
	for n, v := range s.vertices {
		numbers[v] = n
	}
	for _, v := range s.vertices {
		l := g.lines[v]
		var from []int
		for _, u := range l.from {
			if n, is := numbers[u]; is { // Top is no line
				from = append(from, n)
			}
		}
		s.lines = append(s.lines, l)
		s.from = append(s.from, from)
	}
	return s
}

func (g *Graph) rising() []api.Vertex {
	out := make([]api.Vertex, 0, len(g.lines))
	for v := range g.lines {
		out = append(out, v)
	}
	slices.SortFunc(out, func(a, b api.Vertex) int {
		return cmp.Or(bytes.Compare(a.Patch[:], b.Patch[:]), cmp.Compare(a.Line, b.Line))
	})
	return out
}

// order tells all lines' numbers in the order in which they are shown.
func (s sheet) order() []int {
	left := make([]int, len(s.lines))
	for n := range left {
		left[n] = n
	}
	told := make([]bool, len(s.lines))
	out := make([]int, 0, len(s.lines))
	last := -1 // Top: all that may come first has a step from it
	for len(left) > 0 {
		at := s.next(left, told, last)
		last = left[at]
		told[last] = true
		out = append(out, last)
		left = slices.Delete(left, at, at+1)
	}
	return out
}

// next tells which of those that are left, rising, comes next: the first one with a step from the last one, else the
// first one, of those ahead of which all was told. There is one, as steps don't go round.
func (s sheet) next(left []int, told []bool, last int) int {
	least := -1
look:
	for at, n := range left {
		follows := false
		for _, from := range s.from[n] {
			if !told[from] {
				continue look
			}
			follows = follows || from == last
		}
		if follows {
			return at
		}
		if least < 0 {
			least = at
		}
	}
	return least
}

// Shown tells all lines in order.
func (g *Graph) Shown() []api.Shown {
	if !g.isMade() {
		return nil
	}
	s := g.sheet()
	out := make([]api.Shown, 0, len(s.lines))
	for _, n := range s.order() {
		l := s.lines[n]
		out = append(out, api.Shown{Vertex: s.vertices[n], Text: l.text, Kills: len(l.kills)})
	}
	return out
}

// Text tells the living lines' texts in order.
func (g *Graph) Text() []string {
	var out []string
	for _, l := range g.Shown() {
		if l.Kills == 0 {
			out = append(out, l.Text)
		}
	}
	return out
}

// set is a set of lines by their numbers, as bits.
type set [(api.MaxVertices + 63) / 64]uint64

func (s *set) put(n int) { s[n/64] |= 1 << (n % 64) }

func (s *set) join(other set) {
	for i, word := range other {
		s[i] |= word
	}
}

func (s set) both(other set) int {
	n := 0
	for i, word := range other {
		n += bits.OnesCount64(s[i] & word)
	}
	return n
}

// Conflicts tells how many pairs of living lines have no order. In the order in which lines are shown none has another
// one ahead of it that comes later: so each is held against the living ones that came before.
func (g *Graph) Conflicts() int {
	if !g.isMade() {
		return 0
	}
	s := g.sheet()
	ahead := make([]set, len(s.lines))
	var living set
	pairs, before := 0, 0
	for _, n := range s.order() {
		for _, from := range s.from[n] {
			ahead[n].join(ahead[from])
			ahead[n].put(from)
		}
		if s.lines[n].isAlive() {
			pairs += before - ahead[n].both(living)
			living.put(n)
			before++
		}
	}
	return pairs
}
