package acl_test

import (
	"math"
	"slices"
	"strings"
	"testing"

	"ingot/acl"
	"ingot/api"
)

var (
	long16 = strings.Repeat("n", 16)
	long17 = strings.Repeat("n", 17)
	path64 = strings.Repeat("abcdefghijklmno/", 4)[:63] + "p"
	path65 = path64[:48] + "/" + strings.Repeat("q", 16)
	parts8 = "a/b/c/d/e/f/g/h"
	parts9 = "a/b/c/d/e/f/g/h/i"
)

// noNumbers are no rights.
var noNumbers = []int{0, 3, 4, -1, -2, math.MinInt, math.MaxInt, 1 << 32, 1<<32 + 1}

// The chapter's example.
func TestExample(t *testing.T) {
	l := []api.Rule{{Who: "*", Right: api.Read}, {Who: "u:ann", Prefix: "a", Right: api.Read, Deny: true}, {Who: "t:ops", Prefix: "a/b", Right: api.Read}}
	ann := api.Subject{User: "ann", Teams: []string{"ops"}, Role: api.RoleMember}
	for path, want := range map[string]bool{"c": true, "a/x": false, "a/b/c": true} {
		if got := acl.Decide(l, ann, "main", path, api.Read); got != want {
			t.Error(path, got)
		}
	}
}

// The lengths that the tests lean on.
func TestLengths(t *testing.T) {
	if len(path64) != api.MaxPath || len(path65) != api.MaxPath+1 || len(long16) != api.MaxName || strings.Count(parts8, "/") != api.MaxParts-1 {
		t.Error(len(path64), len(path65), len(long16))
	}
}

// P17.1: each field by itself, at its edges, and wrong.
func TestRight(t *testing.T) {
	good := api.Rule{Who: "u:ann", Channel: "main", Prefix: "a/b", Right: api.Read}
	try := func(r api.Rule, want bool) {
		t.Helper()
		for _, r.Deny = range []bool{false, true} {
			if got := acl.Right(r); got != want {
				t.Errorf("%+v: %v", r, got)
			}
		}
	}
	whos := func(want bool, list ...string) {
		t.Helper()
		for _, who := range list {
			r := good
			r.Who = who
			try(r, want)
		}
	}
	whos(true, "*", "u:a", "t:a", "u:"+long16, "t:"+long16, "u:a-1", "t:t", "u:u", "u:ann", "t:a-")
	whos(false, "", "**", "* ", " *", "*:", "*:a", "*a", "*u:a", "u", "t", ":", ":a", "u:", "t:", "U:a", "T:a", "u:"+long17, "t:"+long17, "u:1", "t:-a", "u:A", "u::a", "u:a:b", "u:*", "t:*",
		"ut:a", "u:t:a", "x:a", "a", "ann", "ua", "u a", "u:a ", " u:a", "u: a", "u:a.b", "t:a_b", "t:a/b", "u:é", "u:\x00", "u:a\x00", "\xff", "u\xff", "u:a\n", "u.a", "u:"+strings.Repeat("a", 1<<16))
	for channel, want := range map[string]bool{
		"": true, "a": true, "main": true, long16: true, "a-0": true,
		long17: false, "*": false, "A": false, "0": false, "-": false, "a/b": false, "a.b": false, "a_b": false, " ": false, "main ": false, "\x00": false, "é": false,
	} {
		r := good
		r.Channel = channel
		try(r, want)
	}
	for prefix, want := range map[string]bool{
		"": true, "a": true, "a/b": true, "0": true, "-": true, "_": true, "...": true, ".a": true, "a.b/c_d/e-f": true, long16: true, path64: true, parts8: true,
		"/": false, "a/": false, "/a": false, "a//b": false, ".": false, "..": false, "a/.": false, "../a": false, "a/../b": false, "*": false, "a/*": false, "A": false, long17: false, path65: false, parts9: false, " ": false, "a b": false, "a\x00": false, "é": false,
	} {
		r := good
		r.Prefix = prefix
		try(r, want)
	}
	for _, right := range []int{api.Read, api.Write} {
		try(api.Rule{Who: "*", Right: right}, true)
	}
	for _, right := range noNumbers {
		try(api.Rule{Who: "*", Right: right}, false)
	}
	try(api.Rule{}, false)
}

// P17.2: a rule that matches, and each thing that it hangs on turned by itself.
func TestMatches(t *testing.T) {
	full := api.Rule{Who: "u:ann", Channel: "main", Prefix: "a/b", Right: api.Read}
	team, all, empty := full, full, api.Rule{Who: "*", Right: api.Write}
	team.Who, all.Who = "t:ops", "*"
	ann := api.Subject{User: "ann", Teams: []string{"dev", "ops", "dev"}, Role: api.RoleNone}
	bob := api.Subject{User: "bob", Role: api.RoleOwner}
	for i, c := range []struct {
		rule          api.Rule
		subject       api.Subject
		channel, path string
		right         int
		want          bool
	}{
		{full, ann, "main", "a/b", api.Read, true},
		{full, ann, "main", "a/b/c", api.Read, true},
		{full, ann, "main", "a", api.Read, false},
		{full, ann, "main", "a/bc", api.Read, false},
		{full, ann, "main", "a/b.c", api.Read, false},
		{full, ann, "main", "c/a/b", api.Read, false},
		{full, ann, "main", "a/b/", api.Read, false},
		{full, ann, "main", "", api.Read, false},
		{full, ann, "main", "a/b", api.Write, false},
		{full, ann, "main", "a/b", 0, false},
		{full, ann, "main", "a/b", 3, false},
		{full, ann, "side", "a/b", api.Read, false},
		{full, ann, "", "a/b", api.Read, false},
		{full, ann, "mai", "a/b", api.Read, false},
		{full, ann, "mainly", "a/b", api.Read, false},
		{full, bob, "main", "a/b", api.Read, false},
		{full, api.Subject{}, "main", "a/b", api.Read, false},
		{full, api.Subject{User: "an"}, "main", "a/b", api.Read, false},
		{full, api.Subject{User: "anna"}, "main", "a/b", api.Read, false},
		{full, api.Subject{User: "u:ann"}, "main", "a/b", api.Read, false},
		{full, api.Subject{User: "bob", Teams: []string{"ann", "u:ann"}}, "main", "a/b", api.Read, false},
		{team, ann, "main", "a/b", api.Read, true},
		{team, bob, "main", "a/b", api.Read, false},
		{team, api.Subject{User: "ops"}, "main", "a/b", api.Read, false},
		{team, api.Subject{User: "ops", Teams: []string{"op", "opss", "t:ops", ""}}, "main", "a/b", api.Read, false},
		{team, api.Subject{Teams: []string{"ops"}}, "main", "a/b", api.Read, true},
		{all, ann, "main", "a/b", api.Read, true},
		{all, api.Subject{}, "main", "a/b", api.Read, true},
		{all, api.Subject{User: "No Name", Teams: []string{"", "*"}, Role: -7}, "main", "a/b", api.Read, true},
		{all, bob, "side", "a/b", api.Read, false},
		{empty, bob, "main", "a", api.Write, true},
		{empty, bob, "", parts8, api.Write, true},
		{empty, bob, "No Channel", path64, api.Write, true},
		{empty, bob, "main", "", api.Write, false},
		{empty, bob, "main", "/", api.Write, false},
		{empty, bob, "main", path65, api.Write, false},
		{empty, bob, "main", parts9, api.Write, false},
		{empty, bob, "main", "a", api.Read, false},
	} {
		for _, c.rule.Deny = range []bool{false, true} {
			if got := acl.Matches(c.rule, c.subject, c.channel, c.path, c.right); got != c.want {
				t.Errorf("%d: %+v: %v", i, c, got)
			}
		}
	}
}

// P17.2: what is no rule matches nothing, however much it is like what is asked.
func TestNoRuleMatchesNothing(t *testing.T) {
	for i, c := range []struct {
		rule          api.Rule
		subject       api.Subject
		channel, path string
		right         int
	}{
		{api.Rule{}, api.Subject{}, "", "a", 0},
		{api.Rule{Who: "u:", Right: 1}, api.Subject{}, "main", "a", 1},
		{api.Rule{Who: "t:", Right: 1}, api.Subject{Teams: []string{""}}, "main", "a", 1},
		{api.Rule{Who: "u:Ann", Right: 1}, api.Subject{User: "Ann"}, "main", "a", 1},
		{api.Rule{Who: "t:a b", Right: 1}, api.Subject{Teams: []string{"a b"}}, "main", "a", 1},
		{api.Rule{Who: "u:" + long17, Right: 1}, api.Subject{User: long17}, "main", "a", 1},
		{api.Rule{Who: "*", Right: 3}, api.Subject{}, "main", "a", 3},
		{api.Rule{Who: "*", Right: -1}, api.Subject{}, "main", "a", -1},
		{api.Rule{Who: "*", Channel: "Main", Right: 1}, api.Subject{}, "Main", "a", 1},
		{api.Rule{Who: "*", Channel: long17, Right: 1}, api.Subject{}, long17, "a", 1},
		{api.Rule{Who: "*", Prefix: "a/", Right: 1}, api.Subject{}, "main", "a/", 1},
		{api.Rule{Who: "*", Prefix: "a/", Right: 1}, api.Subject{}, "main", "a/b", 1},
		{api.Rule{Who: "*", Prefix: path65, Right: 1}, api.Subject{}, "main", path65, 1},
	} {
		if acl.Matches(c.rule, c.subject, c.channel, c.path, c.right) {
			t.Errorf("%d: %+v", i, c)
		}
		if acl.Decide([]api.Rule{c.rule}, c.subject, c.channel, "a", 1) {
			t.Errorf("%d: Decide: %+v", i, c)
		}
		c.rule.Deny, c.subject.Role = true, api.RoleOwner
		if !acl.Decide([]api.Rule{c.rule}, c.subject, c.channel, "a/b", 1) {
			t.Errorf("%d: Decide, as an owner: %+v", i, c)
		}
	}
}

// P17.3: what is no path and no right is denied, to owners and to those whom a rule lets, too.
func TestDecideWrong(t *testing.T) {
	l := []api.Rule{{Who: "*", Right: api.Read}, {Who: "*", Right: api.Write}}
	owner := api.Subject{User: "ann", Role: api.RoleOwner}
	for _, rules := range [][]api.Rule{nil, {}, l} {
		for _, path := range []string{"", "/", "a/", "/a", "a//b", ".", "..", "a/..", "A", "a b", long17, path65, parts9, "é", "\x00", strings.Repeat("a/", 1<<16)} {
			if acl.Decide(rules, owner, "main", path, api.Read) || acl.Decide(rules, owner, "main", path, api.Write) {
				t.Errorf("%q", path)
			}
		}
		for _, right := range noNumbers {
			if acl.Decide(rules, owner, "main", "a", right) {
				t.Error(right)
			}
		}
		if !acl.Decide(rules, owner, "main", path64, api.Read) || !acl.Decide(rules, owner, "No Channel", parts8, api.Write) {
			t.Error("a path at its edges")
		}
	}
}

// P17.3: where no rule matches, owners may, and nobody else.
func TestDecideRoles(t *testing.T) {
	other := []api.Rule{{Who: "u:bob", Right: api.Read}, {Who: "u:bob", Right: api.Read, Deny: true}, {Who: "*", Channel: "side", Right: api.Read, Deny: true}, {Who: "*", Prefix: "b", Right: api.Read, Deny: true}, {Who: "*", Right: api.Write, Deny: true}}
	for _, l := range [][]api.Rule{nil, other} {
		for _, role := range []int{api.RoleNone, api.RoleMember, api.RoleOwner, 3, -1, math.MinInt, math.MaxInt} {
			s := api.Subject{User: "ann", Teams: []string{"ops"}, Role: role}
			if got := acl.Decide(l, s, "main", "a", api.Read); got != (role == api.RoleOwner) {
				t.Error(role, got)
			}
		}
	}
}

// P17.3: the longest prefix has its say, a Deny among several of it, and of owners too.
func TestDecideLongest(t *testing.T) {
	rule := func(who, prefix string, deny bool) api.Rule {
		return api.Rule{Who: who, Prefix: prefix, Right: api.Read, Deny: deny}
	}
	ann := api.Subject{User: "ann", Teams: []string{"ops"}, Role: api.RoleMember}
	for i, c := range []struct {
		rules []api.Rule
		want  bool
	}{
		{[]api.Rule{rule("*", "", false)}, true},
		{[]api.Rule{rule("*", "", true)}, false},
		{[]api.Rule{rule("*", "", true), rule("u:ann", "a", false)}, true},
		{[]api.Rule{rule("u:ann", "", true), rule("*", "a", false)}, true},
		{[]api.Rule{rule("u:ann", "a", false), rule("*", "a/b", true)}, false},
		{[]api.Rule{rule("u:ann", "", false), rule("*", "", true)}, false},
		{[]api.Rule{rule("*", "", true), rule("u:ann", "", false)}, false},
		{[]api.Rule{rule("t:ops", "a/b", true), rule("u:ann", "a/b", false)}, false},
		{[]api.Rule{rule("*", "a", true), rule("*", "a", true), rule("t:ops", "a/b", false)}, true},
		{[]api.Rule{rule("*", "a/b/c", false), rule("*", "a/b", true), rule("*", "a", true), rule("*", "", true)}, true},
		{[]api.Rule{rule("*", "a/b/c/d", true), rule("*", "a/b", false)}, true},
		{[]api.Rule{rule("*", "a/bb", true), rule("*", "a", false)}, true},
		{[]api.Rule{rule("u:bob", "a/b/c", true), rule("t:dev", "a/b/c", true), rule("*", "a", false)}, true},
		{[]api.Rule{{Who: "*", Channel: "main", Right: api.Read}, rule("*", "", true)}, false},
		{[]api.Rule{{Who: "*", Channel: "side", Prefix: "a/b", Right: api.Read, Deny: true}, rule("*", "", false)}, true},
		{[]api.Rule{{Who: "*", Prefix: "a/b", Right: api.Write, Deny: true}, rule("*", "", false)}, true},
	} {
		for _, ann.Role = range []int{api.RoleNone, api.RoleMember, api.RoleOwner} {
			if got := acl.Decide(c.rules, ann, "main", "a/b/c", api.Read); got != c.want {
				t.Errorf("%d, role %d: %v", i, ann.Role, got)
			}
			slices.Reverse(c.rules)
		}
	}
}

// P17.4: of no paths, of the same path several times, of what is no path.
func TestAllFilter(t *testing.T) {
	l := []api.Rule{{Who: "*", Right: api.Read}, {Who: "u:ann", Prefix: "a", Right: api.Read, Deny: true}, {Who: "t:ops", Prefix: "a/b", Right: api.Read}}
	ann := api.Subject{User: "ann", Teams: []string{"ops"}, Role: api.RoleMember}
	for i, c := range []struct {
		paths []string
		right int
		want  []string
	}{
		{nil, api.Read, nil},
		{[]string{}, api.Read, nil},
		{nil, 0, nil},
		{nil, api.Write, nil},
		{[]string{"c"}, api.Read, []string{"c"}},
		{[]string{"a"}, api.Read, nil},
		{[]string{"z", "c", "a/b", "z"}, api.Read, []string{"z", "c", "a/b", "z"}},
		{[]string{"a", "z", "a/x", "c", "", "a/b/c", "a/", "z"}, api.Read, []string{"z", "c", "a/b/c", "z"}},
		{[]string{"c", "d", "a"}, api.Read, []string{"c", "d"}},
		{[]string{""}, api.Read, nil},
		{[]string{"c", "d"}, api.Write, nil},
		{[]string{"c", "d"}, 3, nil},
	} {
		if got := acl.Filter(l, ann, "main", c.paths, c.right); !slices.Equal(got, c.want) {
			t.Errorf("%d: Filter: %q", i, got)
		}
		if got := acl.All(l, ann, "main", c.paths, c.right); got != (len(c.want) == len(c.paths)) {
			t.Errorf("%d: All: %v", i, got)
		}
	}
}

// Rules 4 and 8: nothing that is handed in is changed, what lies behind a list's length neither read nor written; what is handed out is new.
func TestMemory(t *testing.T) {
	denies := api.Rule{Who: "*", Prefix: "c", Right: api.Read, Deny: true}
	rules := []api.Rule{{Who: "*", Right: api.Read}, {Who: "t:ops", Prefix: "b", Right: api.Read, Deny: true}, denies, denies}
	teams := []string{"dev", "ops", "ops"}
	paths := []string{"a", "b", "c", "d", "d"}
	rules2, teams2, paths2 := slices.Clone(rules), slices.Clone(teams), slices.Clone(paths)
	s := api.Subject{User: "ann", Teams: teams[:1]}
	ask := func() []string {
		acl.Matches(rules[0], s, "main", "a", api.Read)
		acl.Decide(rules[:2], s, "main", "c", api.Read)
		acl.All(rules[:2], s, "main", paths[:4], api.Read)
		return acl.Filter(rules[:2], s, "main", paths[:4], api.Read)
	}
	got := ask()
	if !slices.Equal(got, []string{"a", "b", "c", "d"}) {
		t.Errorf("%q", got)
	}
	got = append(got, "x")
	room := got[:cap(got)]
	for i := range room {
		room[i] = "x"
	}
	if again := ask(); !slices.Equal(again, []string{"a", "b", "c", "d"}) {
		t.Errorf("%q", again)
	}
	if !slices.Equal(rules, rules2) || !slices.Equal(teams, teams2) || !slices.Equal(paths, paths2) {
		t.Error(rules, teams, paths)
	}
}
