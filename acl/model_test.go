package acl_test

import (
	"math/rand"
	"slices"
	"strings"
	"testing"

	"ingot/acl"
	"ingot/api"
)

const (
	letters = "abcdefghijklmnopqrstuvwxyz"
	digits  = "0123456789"
)

// isName tells names by the words of chapter 9.
func isName(s string) bool {
	return s != "" && len(s) <= 16 && strings.Contains(letters, s[:1]) && strings.Trim(s, letters+digits+"-") == ""
}

// isPath tells paths by the words of chapter 9.
func isPath(s string) bool {
	parts := strings.Split(s, "/")
	if len(s) > 64 || len(parts) > 8 {
		return false
	}
	return !slices.ContainsFunc(parts, func(part string) bool {
		return part == "" || len(part) > 16 || part == "." || part == ".." || strings.Trim(part, letters+digits+"-._") != ""
	})
}

// isRule tells rules by the words of the chapter.
func isRule(r api.Rule) bool {
	who := r.Who == "*" || strings.HasPrefix(r.Who, "u:") && isName(r.Who[2:]) || strings.HasPrefix(r.Who, "t:") && isName(r.Who[2:])
	return who && (r.Channel == "" || isName(r.Channel)) && (r.Prefix == "" || isPath(r.Prefix)) && (r.Right == 1 || r.Right == 2)
}

// called tells every Who that means someone.
func called(s api.Subject) []string {
	out := []string{"*", "u:" + s.User}
	for _, team := range s.Teams {
		out = append(out, "t:"+team)
	}
	return out
}

// above tells all prefixes that cover a path: the path itself first, the empty one last; of what is no path none.
func above(path string) []string {
	if !isPath(path) {
		return nil
	}
	out := []string{path}
	for {
		at := strings.LastIndex(path, "/")
		if at < 0 {
			return append(out, "")
		}
		path = path[:at]
		out = append(out, path)
	}
}

func matches(r api.Rule, s api.Subject, channel, path string, right int) bool {
	return isRule(r) && r.Right == right && (r.Channel == "" || r.Channel == channel) &&
		slices.Contains(above(path), r.Prefix) && slices.Contains(called(s), r.Who)
}

// decide goes up from the path to the first prefix of which a rule that matches speaks.
func decide(l []api.Rule, s api.Subject, channel, path string, right int) bool {
	if !isPath(path) || right != 1 && right != 2 {
		return false
	}
	for _, prefix := range above(path) {
		may, might := 0, 0
		for _, r := range l {
			if r.Prefix == prefix && matches(r, s, channel, path, right) {
				might++
				if !r.Deny {
					may++
				}
			}
		}
		if might > 0 {
			return may == might
		}
	}
	return s.Role == 2
}

// asked is one question.
type asked struct {
	subject       api.Subject
	channel, path string
	right         int
}

func (a asked) decide(l []api.Rule) bool { return acl.Decide(l, a.subject, a.channel, a.path, a.right) }

func (a asked) matches(r api.Rule) bool {
	return acl.Matches(r, a.subject, a.channel, a.path, a.right)
}

// chances are what rules and questions are made of: few enough to meet often.
type chances struct{ *rand.Rand }

func (c chances) one(list ...string) string { return list[c.Intn(len(list))] }

func (c chances) path() string {
	return c.one("a", "b", "a/b", "a/b/c", "a/b/c/d", "a/bc", "a/c", "ab", "a.b", "a", "a/b", "a/", "", "A")
}

func (c chances) rule() api.Rule {
	return api.Rule{
		Who:     c.one("*", "*", "u:ann", "u:ann", "u:bob", "t:ops", "t:ops", "t:dev", "u:ops", "t:ann", "u:", "", "ann"),
		Channel: c.one("", "", "", "main", "main", "side", "A"),
		Prefix:  c.one("", "", c.path()),
		Right:   []int{1, 1, 1, 2, 2, 0, 3}[c.Intn(7)],
		Deny:    c.Intn(2) == 0,
	}
}

func (c chances) rules() []api.Rule {
	out := make([]api.Rule, c.Intn(8))
	for i := range out {
		out[i] = c.rule()
	}
	return out
}

func (c chances) ask() asked {
	s := api.Subject{User: c.one("ann", "ann", "bob", "cy", "", "ops"), Role: c.Intn(4)}
	for _, team := range []string{"ops", "dev", "ann", ""} {
		if c.Intn(3) == 0 {
			s.Teams = append(s.Teams, team)
		}
	}
	return asked{s, c.one("main", "main", "side", "", "A"), c.path(), []int{1, 1, 1, 2, 2, 0, 3, -1}[c.Intn(8)]}
}

// P17.1 to P17.4: rules and questions by chance, held against the model.
func TestChance(t *testing.T) {
	c := chances{rand.New(rand.NewSource(1))}
	for range 30000 {
		l, a := c.rules(), c.ask()
		for _, r := range l {
			if got := acl.Right(r); got != isRule(r) {
				t.Fatalf("Right(%+v): %v", r, got)
			}
			if got := a.matches(r); got != matches(r, a.subject, a.channel, a.path, a.right) {
				t.Fatalf("Matches(%+v) of %+v: %v", r, a, got)
			}
		}
		if got := a.decide(l); got != decide(l, a.subject, a.channel, a.path, a.right) {
			t.Fatalf("Decide(%+v) of %+v: %v", l, a, got)
		}
		var paths, want []string
		for range c.Intn(6) {
			path := c.path()
			paths = append(paths, path)
			if decide(l, a.subject, a.channel, path, a.right) {
				want = append(want, path)
			}
		}
		if got := acl.Filter(l, a.subject, a.channel, paths, a.right); !slices.Equal(got, want) {
			t.Fatalf("Filter(%+v) of %+v, %q: %q, not %q", l, a, paths, got, want)
		}
		if got := acl.All(l, a.subject, a.channel, paths, a.right); got != (len(paths) == len(want)) {
			t.Fatalf("All(%+v) of %+v, %q: %v", l, a, paths, got)
		}
	}
}

// P17.5 (monotone), P17.7 (apart): one rule more, at any place.
func TestOneRuleMore(t *testing.T) {
	c := chances{rand.New(rand.NewSource(2))}
	for range 30000 {
		l, a, r := c.rules(), c.ask(), c.rule()
		ahead := a.decide(l)
		behind := a.decide(slices.Insert(slices.Clone(l), c.Intn(len(l)+1), r))
		switch {
		case !r.Deny && ahead && !behind:
			t.Fatalf("P17.5: %+v takes a right away from %+v: %+v", r, l, a)
		case r.Deny && !ahead && behind:
			t.Fatalf("P17.5: %+v with %+v gives a right: %+v", r, l, a)
		case !a.matches(r) && ahead != behind:
			t.Fatalf("P17.7: %+v does not match, but changes %+v: %+v", r, l, a)
		}
	}
}

// P17.6 (any order): rules shuffled, some of them there twice.
func TestAnyOrder(t *testing.T) {
	c := chances{rand.New(rand.NewSource(3))}
	for range 30000 {
		l, a := c.rules(), c.ask()
		other := slices.Clone(l)
		for _, r := range l {
			if c.Intn(3) == 0 {
				other = append(other, r)
			}
		}
		c.Shuffle(len(other), func(i, j int) { other[i], other[j] = other[j], other[i] })
		paths := []string{a.path, "a", "a/b/c", "b"}
		if a.decide(l) != a.decide(other) {
			t.Fatalf("%+v and %+v: %+v", l, other, a)
		}
		if !slices.Equal(acl.Filter(l, a.subject, a.channel, paths, a.right), acl.Filter(other, a.subject, a.channel, paths, a.right)) {
			t.Fatalf("Filter: %+v and %+v: %+v", l, other, a)
		}
		if acl.All(l, a.subject, a.channel, paths, a.right) != acl.All(other, a.subject, a.channel, paths, a.right) {
			t.Fatalf("All: %+v and %+v: %+v", l, other, a)
		}
	}
}
