package people

import "ingot/api"

// organisation is what one has: its members with their roles, and its teams.
type organisation struct {
	teams
	roles map[string]int
}

func newOrganisation(owner string) *organisation {
	return &organisation{teams: teams{}, roles: map[string]int{owner: api.RoleOwner}}
}

func (o *organisation) isMember(user string) bool {
	_, is := o.roles[user]
	return is
}

func (o *organisation) isLastOwner(user string) bool {
	if o.roles[user] != api.RoleOwner {
		return false
	}
	owners := 0
	for _, role := range o.roles {
		if role == api.RoleOwner {
			owners++
		}
	}
	return owners == 1
}
