package people_test

import (
	"fmt"
	"math"
	"slices"
	"strings"
	"testing"

	"ingot/api"
	"ingot/people"
)

func want(t *testing.T, what string, got, is api.Errno) {
	t.Helper()
	if got != is {
		t.Errorf("%s: %d, not %d", what, int(got), int(is))
	}
}

// noNames are texts that are no names.
var noNames = []string{"", "A", "aB", "0a", "-a", "a b", "a.b", "a_b", "a/b", "é", "abcdefghijklmnopq", "a\x00", "\xff", "a\n"}

// The chapter's example; people without anybody.
func TestExample(t *testing.T) {
	p := people.New()
	hold(t, "new", p, newModel())
	want(t, "AddUser", p.AddUser("ann"), api.OK)
	want(t, "AddOrg", p.AddOrg("org", "ann"), api.OK)
	want(t, "Leave", p.Leave("org", "ann"), api.ErrLast)
}

// newOrdinary makes the users ann, bob, cy, dan; the organisation o of ann, with bob and cy, the team t with bob and cy,
// u with bob, and v with nobody; the organisation p of dan with the team t without anybody.
func newOrdinary(t *testing.T) (*people.People, *model) {
	t.Helper()
	p, m := people.New(), newModel()
	for _, user := range []string{"dan", "bob", "cy", "ann"} {
		want(t, "AddUser", p.AddUser(user), m.addUser(user))
	}
	want(t, "AddOrg", p.AddOrg("p", "dan"), m.addOrg("p", "dan"))
	want(t, "AddOrg", p.AddOrg("o", "ann"), m.addOrg("o", "ann"))
	want(t, "Join", p.Join("o", "cy", api.RoleMember), m.join("o", "cy", api.RoleMember))
	want(t, "Join", p.Join("o", "bob", api.RoleMember), m.join("o", "bob", api.RoleMember))
	for _, team := range []string{"v", "t", "u"} {
		want(t, "AddTeam", p.AddTeam("o", team), m.addTeam("o", team))
	}
	want(t, "AddTeam", p.AddTeam("p", "t"), m.addTeam("p", "t"))
	for _, in := range []place{{"o", "u", "bob"}, {"o", "t", "cy"}, {"o", "t", "bob"}} {
		want(t, "Put", p.Put(in.org, in.team, in.user), m.put(in.org, in.team, in.user))
	}
	hold(t, "ordinary", p, m)
	return p, m
}

// P15.4: what is told of an ordinary one, word by word.
func TestTold(t *testing.T) {
	p, _ := newOrdinary(t)
	for _, c := range []struct {
		what string
		got  []string
		want string
	}{
		{"Users", p.Users(), "ann bob cy dan"},
		{"Orgs", p.Orgs(), "o p"},
		{"Members of o", p.Members("o"), "ann bob cy"},
		{"Members of p", p.Members("p"), "dan"},
		{"Members of none", p.Members("none"), ""},
		{"Members of a user", p.Members("ann"), ""},
		{"Teams of o", p.Teams("o"), "t u v"},
		{"Teams of p", p.Teams("p"), "t"},
		{"Teams of none", p.Teams(""), ""},
	} {
		if strings.Join(c.got, " ") != c.want {
			t.Errorf("%s: %q, not %q", c.what, c.got, c.want)
		}
	}
	for _, c := range []struct {
		org, user string
		want      api.Subject
	}{
		{"o", "ann", api.Subject{User: "ann", Role: api.RoleOwner}},
		{"o", "bob", api.Subject{User: "bob", Teams: []string{"t", "u"}, Role: api.RoleMember}},
		{"o", "cy", api.Subject{User: "cy", Teams: []string{"t"}, Role: api.RoleMember}},
		{"o", "dan", api.Subject{User: "dan"}},
		{"p", "bob", api.Subject{User: "bob"}},
		{"p", "dan", api.Subject{User: "dan", Role: api.RoleOwner}},
		{"none", "ann", api.Subject{User: "ann"}},
		{"o", "No Name.", api.Subject{User: "No Name."}},
		{"o", "", api.Subject{}},
	} {
		if got := p.Subject(c.org, c.user); !sameSubject(got, c.want) {
			t.Errorf("Subject of %q and %q: %v, not %v", c.org, c.user, got, c.want)
		}
	}
}

// P15.4: names rise byte by byte, one that begins another one ahead of it, in whatever order they came.
func TestRising(t *testing.T) {
	order := []string{"a", "a-", "a-b", "a0", "a9", "aa", "ab", "b", "b-a", "ba", "z", "z-", "z0", "za", "zz", "zzzzzzzzzzzzzzzz"}
	p := people.New()
	for i := range order {
		want(t, "AddUser", p.AddUser(order[(i*7+3)%len(order)]), api.OK)
	}
	if got := p.Users(); !slices.Equal(got, order) {
		t.Errorf("%q", got)
	}
	some := []string{"a", "a-", "a-b", "a0", "aa", "ab", "b", "b-a"}
	for i := range some {
		want(t, "AddOrg", p.AddOrg(some[(i*3+2)%8], "z"), api.OK)
	}
	for i := range some {
		want(t, "AddTeam", p.AddTeam("aa", some[(i*5+1)%8]), api.OK)
	}
	for i := range order {
		want(t, "Join", p.Join("aa", order[(i*5+1)%len(order)], api.RoleOwner), api.OK)
	}
	for i := range some {
		want(t, "Put", p.Put("aa", some[(i*3+1)%8], "ab"), api.OK)
	}
	for range 20 { // whatever order a map may be gone through
		if got := p.Orgs(); !slices.Equal(got, some) {
			t.Errorf("Orgs: %q", got)
		}
		if got := p.Teams("aa"); !slices.Equal(got, some) {
			t.Errorf("Teams: %q", got)
		}
		if got := p.Subject("aa", "ab").Teams; !slices.Equal(got, some) {
			t.Errorf("Subject: %q", got)
		}
		if got := p.Members("aa"); !slices.Equal(got, order) {
			t.Errorf("Members: %q", got)
		}
	}
}

// P15.1: each error of AddUser; with an error nothing has changed.
func TestAddUser(t *testing.T) {
	p, m := newOrdinary(t)
	for _, user := range noNames {
		want(t, fmt.Sprintf("AddUser of %q", user), p.AddUser(user), api.ErrName)
	}
	want(t, "AddUser again", p.AddUser("ann"), api.ErrThere)
	hold(t, "behind errors", p, m)
	for _, user := range []string{"o", "t", "x", "a-0", "abcdefghijklmnop"} { // an organisation's or a team's name, too
		want(t, "AddUser", p.AddUser(user), m.addUser(user))
	}
	hold(t, "added", p, m)
}

// P15.1: MaxUsers may be there, not one more.
func TestUsersLong(t *testing.T) {
	p, m := newOrdinary(t)
	for i := range 60 {
		user := fmt.Sprint("n", i)
		want(t, "AddUser", p.AddUser(user), api.OK)
		m.addUser(user)
	}
	want(t, "one more", p.AddUser("more"), api.ErrLong)
	want(t, "one that is there", p.AddUser("n7"), api.ErrThere)
	want(t, "one that is no name", p.AddUser("More"), api.ErrName)
	hold(t, "full", p, m)
}

// P15.1: each error of AddOrg, of several the first one; with an error nothing has changed.
func TestAddOrg(t *testing.T) {
	p, m := newOrdinary(t)
	for _, org := range noNames {
		want(t, fmt.Sprintf("AddOrg of %q", org), p.AddOrg(org, "ann"), api.ErrName)
		want(t, fmt.Sprintf("AddOrg of %q by none", org), p.AddOrg(org, org), api.ErrName)
	}
	want(t, "AddOrg again", p.AddOrg("o", "bob"), api.ErrThere)
	want(t, "AddOrg again, by none", p.AddOrg("o", "none"), api.ErrThere)
	for _, owner := range append(slices.Clone(noNames), "none", "o", "t") {
		want(t, "AddOrg by none", p.AddOrg("new", owner), api.ErrMissing)
	}
	hold(t, "behind errors", p, m)
	want(t, "AddOrg", p.AddOrg("ann", "bob"), m.addOrg("ann", "bob")) // a user's name, too
	want(t, "AddOrg", p.AddOrg("abcdefghijklmnop", "ann"), m.addOrg("abcdefghijklmnop", "ann"))
	hold(t, "added", p, m)
	if s := p.Subject("ann", "bob"); s.Role != api.RoleOwner || !slices.Equal(p.Members("ann"), []string{"bob"}) || len(p.Teams("ann")) != 0 {
		t.Error(s, p.Members("ann"), p.Teams("ann"))
	}
}

// P15.1: MaxOrgs may be there, not one more.
func TestOrgsLong(t *testing.T) {
	p, m := newOrdinary(t)
	for i := range 6 {
		org := fmt.Sprint("n", i)
		want(t, "AddOrg", p.AddOrg(org, "ann"), api.OK)
		m.addOrg(org, "ann")
	}
	want(t, "one more", p.AddOrg("more", "ann"), api.ErrLong)
	want(t, "one more by none", p.AddOrg("more", "none"), api.ErrMissing)
	want(t, "one that is there", p.AddOrg("n3", "none"), api.ErrThere)
	want(t, "one that is no name", p.AddOrg("More", "none"), api.ErrName)
	hold(t, "full", p, m)
}

// P15.2: each error of Join, of several the first one; with an error nothing has changed.
func TestJoinErrors(t *testing.T) {
	p, m := newOrdinary(t)
	for _, as := range []int{api.RoleMember, api.RoleOwner, api.RoleNone, 3, -1, math.MaxInt, math.MinInt} {
		for _, org := range append(slices.Clone(noNames), "none", "ann") {
			want(t, "Join of none", p.Join(org, "ann", as), api.ErrMissing)
			want(t, "Join of none by none", p.Join(org, "none", as), api.ErrMissing)
		}
		for _, user := range append(slices.Clone(noNames), "none", "o") {
			want(t, "Join by none", p.Join("o", user, as), api.ErrMissing)
		}
	}
	for _, as := range []int{api.RoleNone, 3, 4, -1, 257, 258, 1<<32 + 1, 1<<32 + 2, math.MaxInt, math.MinInt} {
		want(t, "Join as none", p.Join("o", "bob", as), api.ErrArg)
		want(t, "Join of one who is none as none", p.Join("o", "dan", as), api.ErrArg)
		want(t, "Join of the only owner as none", p.Join("o", "ann", as), api.ErrArg)
	}
	want(t, "Join of the only owner", p.Join("o", "ann", api.RoleMember), api.ErrLast)
	want(t, "Join of the only owner, alone", p.Join("p", "dan", api.RoleMember), api.ErrLast)
	hold(t, "behind errors", p, m)
}

// P15.2: another role goes, teams stay; an owner goes where another one is.
func TestJoin(t *testing.T) {
	p, m := newOrdinary(t)
	for _, c := range []struct {
		what, user string
		as         int
		want       api.Errno
	}{
		{"a member again", "bob", api.RoleMember, api.OK},
		{"the only owner again", "ann", api.RoleOwner, api.OK},
		{"a new member", "dan", api.RoleMember, api.OK},
		{"a member as an owner", "bob", api.RoleOwner, api.OK},
		{"an owner as an owner", "bob", api.RoleOwner, api.OK},
		{"one of two owners as a member", "ann", api.RoleMember, api.OK},
		{"the other one as a member", "bob", api.RoleMember, api.ErrLast},
		{"a third one as an owner", "dan", api.RoleOwner, api.OK},
		{"the other one as a member", "bob", api.RoleMember, api.OK},
		{"the third one as a member", "dan", api.RoleMember, api.ErrLast},
	} {
		want(t, c.what, p.Join("o", c.user, c.as), c.want)
		want(t, c.what+", the model", m.join("o", c.user, c.as), c.want)
		hold(t, c.what, p, m)
	}
	if s := p.Subject("o", "bob"); !slices.Equal(s.Teams, []string{"t", "u"}) {
		t.Error("a role that goes took teams along", s)
	}
}

// P15.2: each error of Leave; who leaves is in no team, not when they come again either.
func TestLeave(t *testing.T) {
	p, m := newOrdinary(t)
	for _, org := range append(slices.Clone(noNames), "none", "ann") {
		want(t, "Leave of none", p.Leave(org, "ann"), api.ErrMissing)
	}
	for _, user := range append(slices.Clone(noNames), "none", "o", "dan") { // dan is a user, no member
		want(t, "Leave by none", p.Leave("o", user), api.ErrMissing)
	}
	want(t, "the only owner", p.Leave("o", "ann"), api.ErrLast)
	want(t, "the only owner, alone", p.Leave("p", "dan"), api.ErrLast)
	hold(t, "behind errors", p, m)
	want(t, "a member", p.Leave("o", "bob"), m.leave("o", "bob"))
	hold(t, "a member left", p, m)
	want(t, "again", p.Leave("o", "bob"), api.ErrMissing)
	want(t, "Out", p.Out("o", "t", "bob"), api.ErrMissing)
	want(t, "Join", p.Join("o", "bob", api.RoleOwner), m.join("o", "bob", api.RoleOwner))
	hold(t, "came again", p, m)
	if s := p.Subject("o", "bob"); len(s.Teams) != 0 {
		t.Error("one who left is in teams", s)
	}
	want(t, "Put", p.Put("o", "t", "bob"), m.put("o", "t", "bob"))
	want(t, "one of two owners", p.Leave("o", "ann"), m.leave("o", "ann"))
	hold(t, "an owner left", p, m)
	want(t, "the other one", p.Leave("o", "bob"), api.ErrLast)
	hold(t, "the last one stays", p, m)
}

// P15.3: each error of AddTeam, of several the first one; MaxTeams for each organisation, not one more.
func TestAddTeam(t *testing.T) {
	p, m := newOrdinary(t)
	for _, team := range noNames {
		want(t, fmt.Sprintf("AddTeam of %q", team), p.AddTeam("o", team), api.ErrName)
		want(t, fmt.Sprintf("AddTeam of %q for none", team), p.AddTeam("none", team), api.ErrMissing)
		want(t, fmt.Sprintf("AddTeam for %q", team), p.AddTeam(team, "new"), api.ErrMissing)
	}
	want(t, "AddTeam again", p.AddTeam("o", "t"), api.ErrThere)
	want(t, "AddTeam for a user", p.AddTeam("ann", "t"), api.ErrMissing)
	hold(t, "behind errors", p, m)
	for _, team := range []string{"ann", "o", "abcdefghijklmnop", "a-1", "x"} { // a user's or an organisation's name, too
		want(t, "AddTeam", p.AddTeam("o", team), api.OK)
		m.addTeam("o", team)
	}
	want(t, "one more", p.AddTeam("o", "more"), api.ErrLong)
	want(t, "one that is there", p.AddTeam("o", "v"), api.ErrThere)
	want(t, "one that is no name", p.AddTeam("o", "More"), api.ErrName)
	hold(t, "full", p, m)
	for i := range 7 {
		team := fmt.Sprint("n", i)
		want(t, "AddTeam of the other one", p.AddTeam("p", team), m.addTeam("p", team))
	}
	want(t, "one more of the other one", p.AddTeam("p", "more"), api.ErrLong)
	hold(t, "both full", p, m)
}

// P15.3: each error of Put, of several the first one; with an error nothing has changed.
func TestPut(t *testing.T) {
	p, m := newOrdinary(t)
	for _, name := range append(slices.Clone(noNames), "none", "dan") {
		want(t, "Put of none", p.Put(name, "t", "bob"), api.ErrMissing)
		want(t, "Put into none", p.Put("o", name, "bob"), api.ErrMissing)
		want(t, "Put by none", p.Put("o", "t", name), api.ErrMissing) // dan is a user, no member
	}
	want(t, "Put into another one's team", p.Put("p", "u", "dan"), api.ErrMissing)
	want(t, "Put of another one's member", p.Put("p", "t", "bob"), api.ErrMissing)
	want(t, "Put again", p.Put("o", "t", "bob"), api.ErrThere)
	hold(t, "behind errors", p, m)
	for _, in := range []place{{"o", "v", "bob"}, {"o", "t", "ann"}, {"p", "t", "dan"}} { // an owner, too
		want(t, "Put", p.Put(in.org, in.team, in.user), m.put(in.org, in.team, in.user))
		want(t, "Put again", p.Put(in.org, in.team, in.user), api.ErrThere)
	}
	hold(t, "put", p, m)
}

// P15.3: each error of Out; who is out is so of that team alone.
func TestOut(t *testing.T) {
	p, m := newOrdinary(t)
	for _, name := range append(slices.Clone(noNames), "none", "dan", "ann") {
		want(t, "Out of none", p.Out(name, "t", "bob"), api.ErrMissing)
		want(t, "Out of no team", p.Out("o", name, "bob"), api.ErrMissing)
		want(t, "Out by none", p.Out("o", "t", name), api.ErrMissing) // ann is a member, not in the team
	}
	want(t, "Out of another team", p.Out("o", "v", "bob"), api.ErrMissing)
	want(t, "Out of another one's team", p.Out("p", "t", "bob"), api.ErrMissing)
	hold(t, "behind errors", p, m)
	want(t, "Out", p.Out("o", "t", "bob"), m.out("o", "t", "bob"))
	hold(t, "out", p, m)
	want(t, "Out again", p.Out("o", "t", "bob"), api.ErrMissing)
	want(t, "Put", p.Put("o", "t", "bob"), m.put("o", "t", "bob"))
	hold(t, "in again", p, m)
	want(t, "Out", p.Out("o", "t", "bob"), m.out("o", "t", "bob"))
	want(t, "Out", p.Out("o", "t", "cy"), m.out("o", "t", "cy"))
	hold(t, "a team without anybody is there", p, m)
}

// P15.7: two organisations with teams and members of the same names.
func TestApart(t *testing.T) {
	p, m := newOrdinary(t)
	for _, user := range []string{"ann", "bob"} {
		want(t, "Join", p.Join("p", user, api.RoleMember), m.join("p", user, api.RoleMember))
		want(t, "Put", p.Put("p", "t", user), m.put("p", "t", user))
	}
	ahead := tell(p, "p")
	want(t, "Leave", p.Leave("o", "bob"), m.leave("o", "bob"))
	want(t, "Out", p.Out("o", "t", "cy"), m.out("o", "t", "cy"))
	want(t, "AddTeam", p.AddTeam("o", "w"), m.addTeam("o", "w"))
	want(t, "Join", p.Join("o", "dan", api.RoleOwner), m.join("o", "dan", api.RoleOwner))
	want(t, "Leave", p.Leave("o", "ann"), m.leave("o", "ann"))
	want(t, "Put", p.Put("o", "w", "dan"), m.put("o", "w", "dan"))
	if got := tell(p, "p"); !sameTold(got, ahead) {
		t.Errorf("%v, not %v", got, ahead)
	}
	hold(t, "apart", p, m)
	want(t, "an owner there is none here", p.Join("p", "dan", api.RoleMember), api.ErrLast)
}

// Two people that were made are apart.
func TestTwo(t *testing.T) {
	p, m := newOrdinary(t)
	other := people.New()
	want(t, "AddUser", other.AddUser("zoe"), api.OK)
	want(t, "AddOrg", other.AddOrg("o", "zoe"), api.OK)
	want(t, "AddTeam", other.AddTeam("o", "z"), api.OK)
	hold(t, "beside another one", p, m)
}

// Rule 1: people that no call made.
func TestNotMade(t *testing.T) {
	for what, p := range map[string]*people.People{"nil": nil, "plain": {}} {
		for i, e := range []api.Errno{
			p.AddUser("ann"), p.AddUser(""), p.AddOrg("o", "ann"), p.AddOrg("", ""), p.Join("o", "ann", api.RoleOwner), p.Join("", "", 7),
			p.Leave("o", "ann"), p.AddTeam("o", "t"), p.AddTeam("", ""), p.Put("o", "t", "ann"), p.Out("o", "t", "ann"),
		} {
			want(t, fmt.Sprint(what, i), e, api.ErrNil)
		}
		if len(p.Users())+len(p.Orgs())+len(p.Members("o"))+len(p.Teams("o")) != 0 {
			t.Error(what, "tells something")
		}
		if s := p.Subject("o", "ann"); !sameSubject(s, api.Subject{User: "ann"}) {
			t.Error(what, s)
		}
	}
}

// Rule 4: what is handed out is new memory, spare room too.
func TestMemory(t *testing.T) {
	p, m := newOrdinary(t)
	lists := func() [][]string {
		return [][]string{p.Users(), p.Orgs(), p.Members("o"), p.Teams("o"), p.Subject("o", "bob").Teams}
	}
	kept := lists()
	for _, list := range lists() {
		list = list[:cap(list)]
		for i := range list {
			list[i] = "spoilt"
		}
	}
	hold(t, "behind spoilt lists", p, m)
	want(t, "AddUser", p.AddUser("aa"), api.OK)
	want(t, "AddOrg", p.AddOrg("aa", "aa"), api.OK)
	want(t, "Join", p.Join("o", "aa", api.RoleMember), api.OK)
	want(t, "AddTeam", p.AddTeam("o", "aa"), api.OK)
	want(t, "Put", p.Put("o", "aa", "bob"), api.OK)
	for i, is := range []string{"ann bob cy dan", "o p", "ann bob cy", "t u v", "t u"} {
		if strings.Join(kept[i], " ") != is {
			t.Errorf("a list that was handed out is now %q", kept[i])
		}
	}
}
