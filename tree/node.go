package tree

import (
	"iter"
	"sort"

	"ingot/api"
)

const (
	mostKeys  = 7 // of a node
	leastKeys = 3 // of a node that is not the root
)

// node is a node of a tree, nil where there is none. Nothing of it is changed once it is made: nodes share parts of each other's lists.
type node struct {
	pairs []api.Pair
	kids  []*node // of a leaf none
}

// halves is what stands where one node stood: one node, or two with a pair between them.
type halves struct {
	left   *node
	middle api.Pair
	right  *node // nil: one node is enough
}

func (n *node) isLeaf() bool { return len(n.kids) == 0 }

func (n *node) isSmall() bool { return len(n.pairs) < leastKeys }

// place finds where a key stands among a node's keys, or would, and whether it stands there.
func (n *node) place(key string) (int, bool) {
	i := sort.Search(len(n.pairs), func(i int) bool { return n.pairs[i].Key >= key })
	return i, i < len(n.pairs) && n.pairs[i].Key == key
}

func (n *node) get(key string) (string, bool) {
	for n != nil {
		i, is := n.place(key)
		switch {
		case is:
			return n.pairs[i].Value, true
		case n.isLeaf():
			return "", false
		}
		n = n.kids[i]
	}
	return "", false
}

// depth looks at one way alone, as all leaves are equally deep.
func (n *node) depth() int {
	if n == nil {
		return 0
	}
	if n.isLeaf() {
		return 1
	}
	return 1 + n.kids[0].depth()
}

// from tells the pairs whose keys are not below a key, rising.
func (n *node) from(key string) iter.Seq2[string, string] {
	return func(yield func(string, string) bool) {
		if n == nil {
			return
		}
		first, _ := n.place(key)
		for i := first; i <= len(n.pairs); i++ {
			if !n.isLeaf() {
				for k, v := range n.kids[i].from(key) {
					if !yield(k, v) {
						return
					}
				}
			}
			if i < len(n.pairs) && !yield(n.pairs[i].Key, n.pairs[i].Value) {
				return
			}
		}
	}
}

// put tells what a node becomes with a pair, in the place of one of the same key.
func (n *node) put(p api.Pair) halves {
	if n == nil {
		return halves{left: &node{pairs: []api.Pair{p}}}
	}
	i, is := n.place(p.Key)
	switch {
	case is:
		return halves{left: &node{spliced(n.pairs, i, i+1, p), n.kids}}
	case n.isLeaf():
		return cut(spliced(n.pairs, i, i, p), nil)
	}
	h := n.kids[i].put(p)
	if h.right == nil {
		return halves{left: n.withKid(i, h.left)}
	}
	return cut(spliced(n.pairs, i, i, h.middle), spliced(n.kids, i, i+1, h.left, h.right))
}

// without tells what a node becomes without a key that it has, or a node below it; that may be too small.
func (n *node) without(key string) *node {
	i, is := n.place(key)
	switch {
	case n.isLeaf():
		return &node{pairs: spliced(n.pairs, i, i+1)}
	case is:
		// The kids on both sides need a pair between them: the greatest one on the left comes up.
		up := n.kids[i].last()
		raised := &node{spliced(n.pairs, i, i+1, up), n.kids}
		return raised.withKid(i, n.kids[i].without(up.Key)).mended(i)
	}
	return n.withKid(i, n.kids[i].without(key)).mended(i)
}

// last tells the pair of the greatest key.
func (n *node) last() api.Pair {
	for !n.isLeaf() {
		n = n.kids[len(n.kids)-1]
	}
	return n.pairs[len(n.pairs)-1]
}

func (n *node) withKid(i int, kid *node) *node {
	return &node{n.pairs, spliced(n.kids, i, i+1, kid)}
}

// mended tells a node whose kid i is not too small: it is put together with the one beside it, and cut again if that is too much.
func (n *node) mended(i int) *node {
	if !n.kids[i].isSmall() {
		return n
	}
	i = max(i-1, 0)
	left, right := n.kids[i], n.kids[i+1]
	pairs := append(spliced(left.pairs, len(left.pairs), len(left.pairs), n.pairs[i]), right.pairs...)
	kids := spliced(left.kids, len(left.kids), len(left.kids), right.kids...)
	h := cut(pairs, kids)
	if h.right == nil {
		return &node{spliced(n.pairs, i, i+1), spliced(n.kids, i, i+2, h.left)}
	}
	return &node{spliced(n.pairs, i, i+1, h.middle), spliced(n.kids, i, i+2, h.left, h.right)}
}

// asRoot tells the root that a node is: one that has no key left gives way to its only kid, if it has one.
func (n *node) asRoot() *node {
	switch {
	case len(n.pairs) > 0:
		return n
	case n.isLeaf():
		return nil
	}
	return n.kids[0]
}

// whole tells one node again, above the halves if there are two.
func (h halves) whole() *node {
	if h.right == nil {
		return h.left
	}
	return &node{[]api.Pair{h.middle}, []*node{h.left, h.right}}
}

// cut tells one node of lists, or two where they are too long for one: pairs are at least eight then, so that both have enough.
func cut(pairs []api.Pair, kids []*node) halves {
	if len(pairs) <= mostKeys {
		return halves{left: &node{pairs, kids}}
	}
	i := len(pairs) / 2
	left := &node{pairs: part(pairs, 0, i)}
	right := &node{pairs: part(pairs, i+1, len(pairs))}
	if len(kids) > 0 {
		left.kids = part(kids, 0, i+1)
		right.kids = part(kids, i+1, len(kids))
	}
	return halves{left, pairs[i], right}
}

// part tells a part of a list without the room behind it: what is appended to one half must not come into the other one.
func part[T any](list []T, from, until int) []T { return list[from:until:until] }

// spliced tells a list with others in the place of its elements from i to j. The list stays as it is: the part ahead of i has no room, so appending copies it.
func spliced[T any](list []T, i, j int, others ...T) []T {
	return append(append(part(list, 0, i), others...), list[j:]...)
}
