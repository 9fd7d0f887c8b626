package people

import "ingot/api"

// teams are an organisation's, by their names: who is in each of them. Who may be in one is the organisation's to say.
type teams map[string]set

func (t teams) isTeam(team string) bool {
	_, is := t[team]
	return is
}

// addTeam takes a new team in, without anybody.
func (t teams) addTeam(team string) api.Errno {
	if e := mayBegin(t, team); e != api.OK {
		return e
	}
	if len(t) >= api.MaxTeams {
		return api.ErrLong
	}
	t[team] = set{}
	return api.OK
}

// putInTeam takes a user into a team that is there.
func (t teams) putInTeam(team, user string) api.Errno {
	if t[team].has(user) {
		return api.ErrThere
	}
	t[team].add(user)
	return api.OK
}

// outOfTeam takes a user out of a team.
func (t teams) outOfTeam(team, user string) api.Errno {
	// A team that is not there is an empty one here: either is missing.
	if !t[team].has(user) {
		return api.ErrMissing
	}
	delete(t[team], user)
	return api.OK
}

func (t teams) outOfTeams(user string) {
	for _, inside := range t {
		delete(inside, user)
	}
}

func (t teams) teamNames() []string { return rising(t) }

// teamsOf tells the teams that a user is in.
func (t teams) teamsOf(user string) []string {
	var out []string
	for _, team := range t.teamNames() {
		if t[team].has(user) {
			out = append(out, team)
		}
	}
	return out
}
