package review

import (
	"slices"

	"ingot/api"
)

// vote is what a vote is.
type vote int

const (
	none vote = iota // of who has not voted, or takes a vote back
	forIt
	against
)

// proposal is a patch that was proposed. Whether it is open, the board knows.
type proposal struct {
	author  string
	channel string
	patch   api.Hash
	votes   map[string]vote // by who gave them
	talk    []api.Pair
}

func (p *proposal) isOf(channel string, patch api.Hash) bool {
	return p.channel == channel && p.patch == patch
}

// turn lets a user's vote go, and puts the one that is given in its place; none leaves that place empty.
func (p *proposal) turn(user string, given vote) api.Errno {
	switch _, voted := p.votes[user]; {
	case !voted && given == none:
		return api.ErrMissing
	case voted:
		delete(p.votes, user)
		fallthrough // the vote that is given comes the same way, whether or not another one went
	default:
		if given != none {
			p.votes[user] = given
		}
	}
	return api.OK
}

// voters tells who voted so, rising.
func (p *proposal) voters(so vote) []string {
	var out []string
	for user, v := range p.votes {
		if v == so {
			out = append(out, user)
		}
	}
	slices.Sort(out)
	return out
}
