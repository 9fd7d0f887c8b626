package acl

import (
	"slices"

	"ingot/api"
	"ingot/names"
)

// What a rule's Who is, or begins with. The last two are followed by a name.
const (
	everyone = "*"
	aUser    = "u:"
	aTeam    = "t:"
)

// split tells what a rule's Who begins with, and what stands behind that.
func split(who string) (kind, name string) {
	at := min(len(who), len(aUser))
	return who[:at], who[at:]
}

func isWho(who string) bool {
	switch kind, name := split(who); kind {
	case everyone:
		return true
	case aUser, aTeam:
		return names.Name(name)
	}
	return false
}

// means tells whether the Who of a rule means someone.
func means(who string, s api.Subject) bool {
	kind, name := split(who)
	called := s.Teams
	switch kind {
	case everyone:
		return true
	case aUser:
		called = []string{s.User}
		fallthrough // the one name of a user is looked for as those of the teams are
	case aTeam:
		return slices.Contains(called, name)
	}
	return false
}
