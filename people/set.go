package people

import (
	"maps"
	"slices"

	"ingot/api"
	"ingot/names"
)

// set is names of which nothing more is kept.
type set map[string]struct{}

func (s set) has(name string) bool {
	_, is := s[name]
	return is
}

func (s set) add(name string) { s[name] = struct{}{} }

// rising tells a map's names in their order.
func rising[V any](m map[string]V) []string { return slices.Sorted(maps.Keys(m)) }

// mayBegin tells what speaks against a name for something new in a map.
func mayBegin[V any](m map[string]V, name string) api.Errno {
	if !names.Name(name) {
		return api.ErrName
	}
	if _, is := m[name]; is {
		return api.ErrThere
	}
	return api.OK
}
