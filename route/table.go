package route

import (
	"iter"
	"strings"

	"ingot/api"
)

const slash = "/"

// row is one of the table: the shape is the target without its first /.
type row struct {
	method string
	shape  string
	kind   int
}

func table() [api.CallAudit]row {
	return [api.CallAudit]row{
		{"POST", "users", api.CallSignup},
		{"POST", "tokens", api.CallToken},
		{"DELETE", "tokens/ARG", api.CallRevoke},
		{"POST", "orgs", api.CallOrg},
		{"PUT", "orgs/ORG/members/ARG", api.CallJoin},
		{"DELETE", "orgs/ORG/members/ARG", api.CallLeave},
		{"POST", "orgs/ORG/teams", api.CallTeam},
		{"PUT", "orgs/ORG/teams/ARG", api.CallPut},
		{"POST", "orgs/ORG/rules", api.CallRule},
		{"DELETE", "orgs/ORG/rules/ID", api.CallUnrule},
		{"POST", "orgs/ORG/channels", api.CallChannel},
		{"POST", "orgs/ORG/channels/CHANNEL/fork", api.CallFork},
		{"PUT", "orgs/ORG/channels/CHANNEL/policy", api.CallPolicy},
		{"POST", "orgs/ORG/channels/CHANNEL/patches", api.CallApply},
		{"DELETE", "orgs/ORG/channels/CHANNEL/patches/ARG", api.CallUnapply},
		{"GET", "orgs/ORG/channels/CHANNEL/files/PATH", api.CallText},
		{"GET", "orgs/ORG/channels/CHANNEL/log", api.CallLog},
		{"POST", "orgs/ORG/channels/CHANNEL/proposals", api.CallPropose},
		{"POST", "orgs/ORG/proposals/ID/votes", api.CallVote},
		{"POST", "orgs/ORG/proposals/ID/talk", api.CallSay},
		{"GET", "orgs/ORG/proposals/ID", api.CallProposal},
		{"POST", "orgs/ORG/channels/CHANNEL/queue/ID", api.CallQueue},
		{"POST", "orgs/ORG/channels/CHANNEL/merge", api.CallMerge},
		{"GET", "orgs/ORG/audit", api.CallAudit},
	}
}

// rowOf tells the row of a kind.
func rowOf(kind int) (row, bool) {
	for _, r := range table() {
		if r.kind == kind {
			return r, true
		}
	}
	return row{}, false
}

// shapesOf tells the rows whose shape a target has, in the table's order, whatever their methods.
func shapesOf(target string) iter.Seq[row] {
	return func(yield func(row) bool) {
		takes := takers()
	rows:
		for _, r := range table() {
			parts, is := r.split(target)
			if !is {
				continue
			}
			for i, word := range r.words() {
				if _, stands := takes[word]; !stands && parts[i] != word {
					continue rows
				}
			}
			if !yield(r) {
				return
			}
		}
	}
}

func (r row) words() []string { return strings.Split(r.shape, slash) }

// split tells a target's parts, one for each word of the row, if it has as many. All that stands where the row has a path is one of them.
func (r row) split(target string) ([]string, bool) {
	rest, is := strings.CutPrefix(target, slash)
	words := r.words()
	parts := strings.SplitN(rest, slash, len(words))
	if !is || len(parts) < len(words) {
		return nil, false
	}
	last := len(words) - 1
	return parts, words[last] == pathWord || !strings.Contains(parts[last], slash)
}
