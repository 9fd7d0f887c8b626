package deps

import (
	"slices"

	"ingot/api"
)

// Order tells all names, each behind those that it needs.
func Order(l []api.Item) ([]api.Hash, api.Errno) {
	switch {
	case isLong(l):
		return nil, api.ErrLong
	case len(namesOf(l)) < len(l):
		return nil, api.ErrThere
	case len(Missing(l)) > 0:
		return nil, api.ErrMissing
	}
	out := orderOf(l)
	if len(out) < len(l) {
		return nil, api.ErrLoop
	}
	return out, api.OK
}

// web is a closed list's names by numbers, which rise as they do.
type web struct {
	names []api.Hash
	above [][]int // of each name, who has it among its deps: as often as it has
	waits []int   // of each name, how many of its deps were not told yet
}

func webOf(l []api.Item) web {
	w := web{names: rising(namesOf(l)), above: make([][]int, len(l)), waits: make([]int, len(l))}
	numbers := make(map[api.Hash]int, len(l))
	for n, name := range w.names {
		numbers[name] = n
	}
	for _, item := range l {
		n := numbers[item.Name]
		w.waits[n] = len(item.Deps)
		for _, dep := range item.Deps {
			w.above[numbers[dep]] = append(w.above[numbers[dep]], n)
		}
	}
	return w
}

// orderOf tells the names of a closed list in order, but for those that need themselves and all above these: they wait
// for each other.
func orderOf(l []api.Item) []api.Hash {
	w := webOf(l)
	var out []api.Hash
	var ready []int // rising
	for n, waits := range w.waits {
		if waits == 0 {
			ready = append(ready, n)
		}
	}
	for len(ready) > 0 {
		least := ready[0]
		ready = slices.Delete(ready, 0, 1)
		out = append(out, w.names[least])
		for _, n := range w.above[least] {
			w.waits[n]--
			if w.waits[n] == 0 {
				at, _ := slices.BinarySearch(ready, n)
				ready = slices.Insert(ready, at, n)
			}
		}
	}
	return out
}
