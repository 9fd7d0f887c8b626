package people_test

import (
	"math"
	"math/rand"
	"slices"
	"strings"
	"testing"

	"ingot/api"
	"ingot/people"
)

// role is one that a user has in an organisation.
type role struct {
	org, user string
	role      int
}

// place is one in a team; of the team itself, the user is empty.
type place struct{ org, team, user string }

// model is people in the words of the chapter: plain lists, gone through each time.
type model struct {
	users, orgs []string
	roles       []role
	teams       []place
	places      []place
}

func newModel() *model { return &model{} }

// isName tells names by the words of chapter 9.
func isName(s string) bool {
	const letters, others = "abcdefghijklmnopqrstuvwxyz", "0123456789-"
	return s != "" && len(s) <= 16 && strings.Contains(letters, s[:1]) && strings.Trim(s, letters+others) == ""
}

func (m *model) addUser(user string) api.Errno {
	switch {
	case !isName(user):
		return api.ErrName
	case slices.Contains(m.users, user):
		return api.ErrThere
	case len(m.users) == 64:
		return api.ErrLong
	}
	m.users = append(m.users, user)
	return api.OK
}

func (m *model) addOrg(org, owner string) api.Errno {
	switch {
	case !isName(org):
		return api.ErrName
	case slices.Contains(m.orgs, org):
		return api.ErrThere
	case !slices.Contains(m.users, owner):
		return api.ErrMissing
	case len(m.orgs) == 8:
		return api.ErrLong
	}
	m.orgs = append(m.orgs, org)
	m.roles = append(m.roles, role{org, owner, api.RoleOwner})
	return api.OK
}

func (m *model) roleOf(org, user string) int {
	for _, r := range m.roles {
		if r.org == org && r.user == user {
			return r.role
		}
	}
	return api.RoleNone
}

func (m *model) isOnlyOwner(org, user string) bool {
	var owners []string
	for _, r := range m.roles {
		if r.org == org && r.role == api.RoleOwner {
			owners = append(owners, r.user)
		}
	}
	return slices.Equal(owners, []string{user})
}

func (m *model) unrole(org, user string) {
	m.roles = slices.DeleteFunc(m.roles, func(r role) bool { return r.org == org && r.user == user })
}

func (m *model) join(org, user string, as int) api.Errno {
	switch {
	case !slices.Contains(m.orgs, org), !slices.Contains(m.users, user):
		return api.ErrMissing
	case as != 1 && as != 2:
		return api.ErrArg
	case as == 1 && m.isOnlyOwner(org, user):
		return api.ErrLast
	}
	m.unrole(org, user)
	m.roles = append(m.roles, role{org, user, as})
	return api.OK
}

func (m *model) leave(org, user string) api.Errno {
	switch {
	case !slices.Contains(m.orgs, org), m.roleOf(org, user) == api.RoleNone:
		return api.ErrMissing
	case m.isOnlyOwner(org, user):
		return api.ErrLast
	}
	m.unrole(org, user)
	m.places = slices.DeleteFunc(m.places, func(p place) bool { return p.org == org && p.user == user })
	return api.OK
}

func (m *model) addTeam(org, team string) api.Errno {
	switch {
	case !slices.Contains(m.orgs, org):
		return api.ErrMissing
	case !isName(team):
		return api.ErrName
	case slices.Contains(m.teams, place{org: org, team: team}):
		return api.ErrThere
	case len(m.teamsOf(org)) == 8:
		return api.ErrLong
	}
	m.teams = append(m.teams, place{org: org, team: team})
	return api.OK
}

func (m *model) put(org, team, user string) api.Errno {
	switch {
	case !slices.Contains(m.teams, place{org: org, team: team}), m.roleOf(org, user) == api.RoleNone:
		return api.ErrMissing
	case slices.Contains(m.places, place{org, team, user}):
		return api.ErrThere
	}
	m.places = append(m.places, place{org, team, user})
	return api.OK
}

func (m *model) out(org, team, user string) api.Errno {
	at := slices.Index(m.places, place{org, team, user})
	if at < 0 {
		return api.ErrMissing
	}
	m.places = slices.Delete(m.places, at, at+1)
	return api.OK
}

func (m *model) members(org string) []string {
	var out []string
	for _, r := range m.roles {
		if r.org == org {
			out = append(out, r.user)
		}
	}
	slices.Sort(out)
	return out
}

func (m *model) teamsOf(org string) []string {
	var out []string
	for _, p := range m.teams {
		if p.org == org {
			out = append(out, p.team)
		}
	}
	slices.Sort(out)
	return out
}

func (m *model) subject(org, user string) api.Subject {
	out := api.Subject{User: user, Role: m.roleOf(org, user)}
	for _, p := range m.places {
		if p.org == org && p.user == user {
			out.Teams = append(out.Teams, p.team)
		}
	}
	slices.Sort(out.Teams)
	return out
}

func sameSubject(a, b api.Subject) bool {
	return a.User == b.User && a.Role == b.Role && slices.Equal(a.Teams, b.Teams)
}

// strange are texts that name nothing.
var strange = []string{"", "nobody", "Ann", "ann ", "o.", "\xff", "ann\x00", "an"}

// hold holds all that people tell against the model: of all that is there, and of what is not.
func hold(t *testing.T, what string, p *people.People, m *model) {
	t.Helper()
	if got := p.Users(); !slices.Equal(got, slices.Sorted(slices.Values(m.users))) {
		t.Errorf("%s: users %q, not %q", what, got, m.users)
	}
	if got := p.Orgs(); !slices.Equal(got, slices.Sorted(slices.Values(m.orgs))) {
		t.Errorf("%s: organisations %q, not %q", what, got, m.orgs)
	}
	for _, org := range append(slices.Clone(strange), m.orgs...) {
		holdOrg(t, what, p, m, org)
	}
}

func holdOrg(t *testing.T, what string, p *people.People, m *model, org string) {
	t.Helper()
	if got := p.Members(org); !slices.Equal(got, m.members(org)) {
		t.Errorf("%s: members of %q: %q, not %q", what, org, got, m.members(org))
	}
	if got := p.Teams(org); !slices.Equal(got, m.teamsOf(org)) {
		t.Errorf("%s: teams of %q: %q, not %q", what, org, got, m.teamsOf(org))
	}
	for _, user := range append(slices.Clone(strange), m.users...) {
		if got := p.Subject(org, user); !sameSubject(got, m.subject(org, user)) {
			t.Errorf("%s: %q in %q: %v, not %v", what, user, org, got, m.subject(org, user))
		}
	}
}

// holdFollows holds what follows of the promises, out of what is told alone.
func holdFollows(t *testing.T, p *people.People) {
	t.Helper()
	for _, org := range p.Orgs() {
		owners := 0
		for _, user := range p.Users() {
			s := p.Subject(org, user)
			if s.Role == api.RoleOwner {
				owners++
			}
			if member := slices.Contains(p.Members(org), user); member != (s.Role != api.RoleNone) || !member && len(s.Teams) > 0 {
				t.Errorf("P15.6: %q is in %q: %v, a member: %v", user, org, s, member)
			}
		}
		if owners == 0 {
			t.Errorf("P15.5: %q has no owner", org)
		}
	}
}

// told is what is told of an organisation.
type told struct {
	members, teams []string
	subjects       []api.Subject
}

func tell(p *people.People, org string) told {
	out := told{members: p.Members(org), teams: p.Teams(org)}
	for _, user := range p.Users() {
		out.subjects = append(out.subjects, p.Subject(org, user))
	}
	return out
}

func sameTold(a, b told) bool {
	return slices.Equal(a.members, b.members) && slices.Equal(a.teams, b.teams) && slices.EqualFunc(a.subjects, b.subjects, sameSubject)
}

// chance makes one call of both by chance, and tells which organisation it names.
func chance(r *rand.Rand, p *people.People, m *model) (org string, got, want api.Errno) {
	one := func(list ...string) string { return list[r.Intn(len(list))] }
	org = one("o", "p", "q", "o-1", "o", "p", "O", "none")
	user := one("ann", "bob", "cy", "dan", "eve", "a", "Ann", "none")
	team := one("t", "u", "t-1", "ann", "o", "T")
	switch as := r.Intn(9); r.Intn(10) {
	case 0:
		return "", p.AddUser(user), m.addUser(user)
	case 1:
		return org, p.AddOrg(org, user), m.addOrg(org, user)
	case 2, 3:
		kinds := []int{1, 2, 1, 2, 1, 0, 3, -1, math.MinInt}
		return org, p.Join(org, user, kinds[as]), m.join(org, user, kinds[as])
	case 4:
		return org, p.Leave(org, user), m.leave(org, user)
	case 5:
		return org, p.AddTeam(org, team), m.addTeam(org, team)
	case 6, 7, 8:
		return org, p.Put(org, team, user), m.put(org, team, user)
	}
	return org, p.Out(org, team, user), m.out(org, team, user)
}

// P15.1 to P15.7: calls by chance, held against the model behind each of them.
func TestChance(t *testing.T) {
	for seed := range int64(60) {
		r := rand.New(rand.NewSource(seed))
		p, m := people.New(), newModel()
		for range 300 {
			all := append(slices.Clone(m.orgs), "none")
			ahead := make([]told, len(all))
			for i, other := range all {
				ahead[i] = tell(p, other)
			}
			named, got, want := chance(r, p, m)
			if got != want {
				t.Fatalf("seed %d: %d, not %d", seed, int(got), int(want))
			}
			for i, other := range all {
				if named != "" && other != named && !sameTold(ahead[i], tell(p, other)) {
					t.Fatalf("P15.7: seed %d: a call that names %q changed %q", seed, named, other)
				}
			}
			holdFollows(t, p)
		}
		hold(t, "by chance", p, m)
	}
}

// P15.1, P15.3, P15.4: full of all there may be.
func TestChanceOfMany(t *testing.T) {
	r := rand.New(rand.NewSource(1))
	p, m := people.New(), newModel()
	name := func(n int) string { return "n" + string(rune('a'+r.Intn(3))) + string(rune('a'+r.Intn(n))) }
	for range 3000 {
		org, user, team := name(4), name(26), name(4)
		var got, want api.Errno
		switch r.Intn(6) {
		case 0:
			got, want = p.AddUser(user), m.addUser(user)
		case 1:
			got, want = p.AddOrg(org, user), m.addOrg(org, user)
		case 2:
			as := 1 + r.Intn(2)
			got, want = p.Join(org, user, as), m.join(org, user, as)
		case 3:
			got, want = p.AddTeam(org, team), m.addTeam(org, team)
		case 4:
			got, want = p.Put(org, team, user), m.put(org, team, user)
		case 5:
			if r.Intn(4) == 0 {
				got, want = p.Leave(org, user), m.leave(org, user)
			}
		}
		if got != want {
			t.Fatalf("%q %q %q: %d, not %d", org, team, user, int(got), int(want))
		}
	}
	if len(m.users) != api.MaxUsers || len(m.orgs) != api.MaxOrgs {
		t.Fatal("not full", len(m.users), len(m.orgs))
	}
	hold(t, "full", p, m)
	holdFollows(t, p)
}
