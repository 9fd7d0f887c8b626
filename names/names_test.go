package names_test

import (
	"iter"
	"math/rand"
	"regexp"
	"slices"
	"strings"
	"testing"

	"ingot/api"
	"ingot/names"
)

// What names and parts are, as the library's patterns say it; they look at bytes, as the texts below have none beyond ASCII wherever they match.
var (
	namePattern = regexp.MustCompile(`\A[a-z][a-z0-9-]{0,15}\z`)
	partPattern = regexp.MustCompile(`\A[a-z0-9._-]{1,16}\z`)
)

func isName(s string) bool { return namePattern.MatchString(s) }

// isPath says it by the library's Split, part by part.
func isPath(s string) bool {
	parts := strings.Split(s, "/")
	for _, part := range parts {
		if !partPattern.MatchString(part) || part == "." || part == ".." {
			return false
		}
	}
	return len(parts) <= 8 && len(s) <= 64
}

// partsOf tells the parts that a path must have, nothing of what is no path.
func partsOf(path string) []string {
	if !isPath(path) {
		return nil
	}
	return strings.Split(path, "/")
}

func covers(prefix, path string) bool {
	if !isPath(path) || prefix != "" && !isPath(prefix) {
		return false
	}
	first, all := partsOf(prefix), partsOf(path)
	return len(first) <= len(all) && slices.Equal(first, all[:len(first)])
}

// told tells what an iterator tells; it holds the numbers to 0, 1, 2 and so on.
func told(t *testing.T, seq iter.Seq2[int, string]) []string {
	t.Helper()
	var out []string
	for i, part := range seq {
		if i != len(out) {
			t.Fatalf("the part %q has the number %d, not %d", part, i, len(out))
		}
		out = append(out, part)
	}
	return out
}

// texts tells all texts of up to so many of the pieces.
func texts(pieces []string, most int) []string {
	all, last := []string{""}, []string{""}
	for range most {
		var next []string
		for _, s := range last {
			for _, piece := range pieces {
				next = append(next, s+piece)
			}
		}
		all, last = append(all, next...), next
	}
	return all
}

// wide are texts with slashes, points and bytes that may stand nowhere, and the edges that the chapter names.
func wide() []string {
	out := texts([]string{"a", "b", ".", "/", "1", "-", "A"}, 5)
	for _, part := range []string{"a", "a.", "ab", strings.Repeat("c", 7), strings.Repeat("d", 15), strings.Repeat("e", 16), strings.Repeat("f", 17)} {
		for n := range 12 {
			path := strings.Repeat(part+"/", n)
			out = append(out, path, path+part, path+part+"g", path+part+"gh", path+part+"/..", path+part+"/.", path+part+"/...")
		}
	}
	return out
}

// P9.1: names of one byte, of two and three, of all bytes that there are.
func TestNameBytes(t *testing.T) {
	for c := range 256 {
		b := string([]byte{byte(c)})
		for _, s := range []string{b, "a" + b, b + "a", "a" + b + "a", "a-" + b, "0" + b, strings.Repeat("a", 15) + b, strings.Repeat("a", 16) + b} {
			if got := names.Name(s); got != isName(s) {
				t.Errorf("%q: %v", s, got)
			}
		}
	}
	for _, s := range texts([]string{"a", "z", "0", "9", "-", ".", "_", "/", "\x00", "ä"}, 4) {
		if got := names.Name(s); got != isName(s) {
			t.Errorf("%q: %v", s, got)
		}
	}
}

// P9.1: the edges that the chapter names.
func TestNameEdges(t *testing.T) {
	for s, is := range map[string]bool{
		"": false, "a": true, "z": true, "0": false, "-": false, "-a": false, "a-": true, "a--0": true,
		strings.Repeat("a", api.MaxName):         true,
		strings.Repeat("a", api.MaxName+1):       false,
		"a" + strings.Repeat("-", api.MaxName-1): true,
		strings.Repeat("a", 1<<16):               false,
		"A":                                      false,
		"aB":                                     false,
		"a_b":                                    false,
		"a.b":                                    false,
		"a/b":                                    false,
		"a b":                                    false,
		"a\n":                                    false,
		"\xc3\xa4":                               false,
		"a\xff":                                  false,
		"`":                                      false,
		"{":                                      false,
		"a:":                                     false,
	} {
		if got := names.Name(s); got != is {
			t.Errorf("%q: %v", s, got)
		}
	}
}

// P9.1: paths with all bytes that there are.
func TestPathBytes(t *testing.T) {
	for c := range 256 {
		b := string([]byte{byte(c)})
		for _, s := range []string{b, "a" + b, b + "a", "a/" + b, b + "/a", "a/b" + b + "c/d", strings.Repeat("a", 15) + b, strings.Repeat("a", 16) + b, "." + b, ".." + b} {
			if got := names.Path(s); got != isPath(s) {
				t.Errorf("%q: %v", s, got)
			}
		}
	}
}

// P9.1: the edges that the chapter names.
func TestPathEdges(t *testing.T) {
	full := strings.Repeat("a", api.MaxName)
	for s, is := range map[string]bool{
		"": false, "/": false, "a": true, "0": true, "-": true, "_": true, ".": false, "..": false, "...": true,
		".a": true, "..a": true, "a..": true, "a/.": false, "./a": false, "a/../b": false, "a/.../b": true,
		"/a": false, "a/": false, "a//b": false, "a/b/": false, "//": false,
		full: true, full + "a": false, "a/" + full: true, "a/" + full + "a": false, full + "a/b": false,
		strings.Repeat("a/", api.MaxParts-1) + "a": true,
		strings.Repeat("a/", api.MaxParts) + "a":   false,
		strings.Repeat("a/", api.MaxParts):         false,
		strings.Repeat(full+"/", 3) + full[:13]:    true, // MaxPath bytes
		strings.Repeat(full+"/", 3) + full[:14]:    false,
		strings.Repeat(full[:7]+"/", 7) + full[:8]: true, // MaxPath bytes, MaxParts parts
		strings.Repeat(full[:7]+"/", 7) + full[:9]: false,
		strings.Repeat("a/", 1<<16):                false,
		"A":                                        false,
		"a b":                                      false,
		"a\\b":                                     false,
		"a\x00":                                    false,
		"a/\xc3\xa4":                               false,
	} {
		if got := names.Path(s); got != is {
			t.Errorf("%q: %v", s, got)
		}
	}
	for _, s := range wide() {
		if got := names.Path(s); got != isPath(s) {
			t.Errorf("%q: %v", s, got)
		}
	}
}

// P9.2: parts as the library splits paths, nothing of what is no path.
func TestParts(t *testing.T) {
	for _, s := range wide() {
		if got := told(t, names.Parts(s)); !slices.Equal(got, partsOf(s)) {
			t.Errorf("%q: %q", s, got)
		}
	}
}

// Rule 8: the parts may be told again, and left anywhere.
func TestPartsAgain(t *testing.T) {
	seq := names.Parts("a/b/c")
	for leave := range 3 {
		n := 0
		for i := range seq {
			n++
			if i == leave {
				break
			}
		}
		if n != leave+1 {
			t.Errorf("left at %d: %d were told", leave, n)
		}
		if got := told(t, seq); !slices.Equal(got, []string{"a", "b", "c"}) {
			t.Errorf("again: %q", got)
		}
	}
	for _, part := range seq {
		if got := told(t, seq); len(got) != 3 {
			t.Errorf("within %q: %q", part, got)
		}
	}
}

// P9.2: the path without its last part.
func TestParent(t *testing.T) {
	for _, s := range wide() {
		want, is := "", false
		if parts := partsOf(s); len(parts) > 1 {
			want, is = strings.Join(parts[:len(parts)-1], "/"), true
		}
		if got, ok := names.Parent(s); got != want || ok != is {
			t.Errorf("%q: %q %v", s, got, ok)
		}
	}
	for s, want := range map[string]string{"a/b/c": "a/b", "a/b": "a", ".../.a": "...", "a": "", "": "", "a/": "", "/a": "", "a//b": "", "a/b/..": ""} {
		if got, is := names.Parent(s); got != want || is != (want != "") {
			t.Errorf("%q: %q %v", s, got, is)
		}
	}
}

// P9.3: the chapter's example, and the edges: the empty prefix, all parts, no paths.
func TestCovers(t *testing.T) {
	for _, c := range []struct {
		prefix, path string
		want         bool
	}{
		{"a/b", "a/b/c", true}, {"a/b", "a/bc", false},
		{"", "a", true}, {"", "a/b", true}, {"a", "a", true}, {"a/b", "a/b", true}, {"a", "a/b/c", true},
		{"a/b", "a", false}, {"a/b/c", "a/b", false}, {"b", "a/b", false}, {"a", "ab", false}, {"a", "b/a", false},
		{"", "", false}, {"a", "", false}, {"", "a/", false}, {"", "/a", false}, {"a", "a/", false}, {"a", "a//b", false}, {"a", "a/..", false},
		{"a/", "a/b", false}, {"/", "a", false}, {"/a", "a", false}, {".", "a", false}, {"a/", "a/", false}, {"..", "..", false},
		{"A", "A", false}, {"A", "A/b", false}, {"", "A", false},
	} {
		if got := names.Covers(c.prefix, c.path); got != c.want {
			t.Errorf("Covers(%q, %q): %v", c.prefix, c.path, got)
		}
	}
}

// few are texts of which each is held to each: paths one within another, and what is no path.
func few() []string {
	out := texts([]string{"a", "b", "/"}, 5)
	return append(out, "A", "a/A", ".", "..", "a/.", "a/..", "...", ".../a", strings.Repeat("a/", 7)+"a", strings.Repeat("a/", 8)+"a", strings.Repeat("a/", 7), strings.Repeat("a/", 6)+"a")
}

// P9.3: held to the parts, as lists.
func TestCoversByParts(t *testing.T) {
	for _, prefix := range few() {
		for _, path := range few() {
			if got := names.Covers(prefix, path); got != covers(prefix, path) {
				t.Errorf("Covers(%q, %q): %v", prefix, path, got)
			}
		}
	}
}

// P9.5: a prefix covers a path just if it is empty, or the path itself, or covers its parent.
func TestTree(t *testing.T) {
	for _, path := range few() {
		if !names.Path(path) {
			continue
		}
		parent, is := names.Parent(path)
		if is && !names.Path(parent) {
			t.Errorf("the parent %q of %q is no path", parent, path)
		}
		for _, prefix := range few() {
			want := prefix == "" || prefix == path || is && names.Covers(prefix, parent)
			if got := names.Covers(prefix, path); got != want {
				t.Errorf("Covers(%q, %q): %v", prefix, path, got)
			}
		}
	}
}

// P9.4: the chapter's example, and the edges: none, several that are the same, no path.
func TestLongest(t *testing.T) {
	for _, c := range []struct {
		prefixes []string
		path     string
		want     int
	}{
		{[]string{"", "a", "a/b", "a"}, "a/x", 1},
		{[]string{"", "a", "a/b", "a"}, "a/b", 2},
		{[]string{"a/b", "a", ""}, "a/b/c", 0},
		{[]string{"", ""}, "a", 0},
		{[]string{"b", ""}, "a", 1},
		{[]string{"a/b/c/d", "longer/than/all", "a"}, "a/b", 2},
		{[]string{"b", "a/b", "a/"}, "a", -1},
		{nil, "a", -1},
		{[]string{}, "a", -1},
		{[]string{"", "a"}, "", -1},
		{[]string{"", "a", "a/"}, "a/", -1},
		{[]string{"", "a"}, "a//b", -1},
	} {
		if got := names.Longest(c.prefixes, c.path); got != c.want {
			t.Errorf("Longest(%q, %q): %d, not %d", c.prefixes, c.path, got, c.want)
		}
	}
}

// longest says it word by word: all that cover, then those of the most bytes, then the first.
func longest(prefixes []string, path string) int {
	most, at := -1, -1
	for i := len(prefixes) - 1; i >= 0; i-- {
		if covers(prefixes[i], path) && len(prefixes[i]) >= most {
			most, at = len(prefixes[i]), i
		}
	}
	return at
}

// P9.4: lists by chance; rule 4: what is handed in stays.
func TestLongestByChance(t *testing.T) {
	chance := rand.New(rand.NewSource(9))
	all := few()
	for range 20000 {
		var prefixes []string
		for range chance.Intn(8) {
			prefixes = append(prefixes, all[chance.Intn(len(all))])
		}
		before, path := slices.Clone(prefixes), all[chance.Intn(len(all))]
		if got := names.Longest(prefixes, path); got != longest(prefixes, path) {
			t.Errorf("Longest(%q, %q): %d", prefixes, path, got)
		}
		if !slices.Equal(before, prefixes) {
			t.Fatalf("%q were made %q", before, prefixes)
		}
	}
}
