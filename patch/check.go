package patch

import (
	"bytes"
	"slices"
	"strings"

	"ingot/api"
	"ingot/names"
)

func top() api.Vertex { return api.Vertex{} }

func bottom() api.Vertex { return api.Vertex{Line: 1} }

func isHead(p api.Patch) bool {
	return names.Name(p.Author) && p.Time >= 0 && p.Time <= api.MaxTime && len(p.Note) <= api.MaxNote
}

func areDeps(deps []api.Hash) bool {
	if len(deps) > api.MaxDeps {
		return false
	}
	// The first one must be above noughts, each other one above the one ahead: so none is noughts.
	last := api.Hash{}
	for _, dep := range deps {
		if bytes.Compare(last[:], dep[:]) >= 0 {
			return false
		}
		last = dep
	}
	return true
}

func areOps(ops []api.Op, deps []api.Hash) bool {
	if len(ops) < 1 || len(ops) > api.MaxOps || !areFewLines(ops) {
		return false
	}
	for _, op := range ops {
		if !names.Path(op.Path) || !isAdd(op, deps) && !isKill(op, deps) {
			return false
		}
	}
	return true
}

// areFewLines counts the lines of all operations: one that adds none may have none.
func areFewLines(ops []api.Op) bool {
	left := api.MaxLines
	for _, op := range ops {
		if len(op.Lines) > left {
			return false
		}
		left -= len(op.Lines)
	}
	return true
}

func isAdd(op api.Op, deps []api.Hash) bool {
	return op.Kind == api.OpAdd && len(op.Lines) > 0 && !slices.ContainsFunc(op.Lines, isNoLine) &&
		(op.Up == top() || isLineOf(deps, op.Up)) &&
		(op.Down == bottom() || isLineOf(deps, op.Down)) &&
		op.Up != op.Down
}

func isNoLine(text string) bool {
	return len(text) > api.MaxLine || strings.Contains(text, "\n")
}

func isKill(op api.Op, deps []api.Hash) bool {
	return op.Kind == api.OpKill && isLineOf(deps, op.Up) && op.Down == (api.Vertex{}) && len(op.Lines) == 0
}

// isLineOf tells whether a vertex may be a line that one of deps adds.
func isLineOf(deps []api.Hash, v api.Vertex) bool {
	return v.Line >= 0 && v.Line < api.MaxLines && slices.Contains(deps, v.Patch)
}
