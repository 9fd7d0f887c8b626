package forge

import (
	"cmp"
	"slices"
	"strconv"
	"strings"

	"ingot/api"
)

// Dump tells the state.
func (f *Forge) Dump() []api.Pair {
	if !f.isMade() {
		return nil
	}
	var out []api.Pair
	for _, user := range f.people.Users() {
		out = append(out, api.Pair{Key: "user " + user})
	}
	for name, o := range f.orgs {
		for _, p := range slices.Concat(f.peoplePairs(name), o.pairs()) {
			out = append(out, api.Pair{Key: "org " + name + " " + p.Key, Value: p.Value})
		}
	}
	slices.SortFunc(out, func(a, b api.Pair) int { return cmp.Compare(a.Key, b.Key) })
	return out
}

// peoplePairs tells an organisation's members and teams.
func (f *Forge) peoplePairs(org string) []api.Pair {
	var members []string
	for _, user := range f.people.Members(org) {
		members = append(members, user+" "+strconv.Itoa(f.people.Subject(org, user).Role))
	}
	out := []api.Pair{{Key: "members", Value: listText(members)}}
	for _, team := range f.people.Teams(org) {
		out = append(out, api.Pair{Key: "team " + team, Value: listText(f.inTeam(org, team))})
	}
	return out
}

// inTeam tells who is in a team.
func (f *Forge) inTeam(org, team string) []string {
	return slices.DeleteFunc(f.people.Members(org), func(user string) bool {
		return !slices.Contains(f.people.Subject(org, user).Teams, team)
	})
}

// listText tells texts with a comma behind each.
func listText(l []string) string {
	var out strings.Builder
	for _, s := range l {
		out.WriteString(s + ",")
	}
	return out.String()
}

// pairs tells what an organisation has beside its members and teams.
func (o *organisation) pairs() []api.Pair {
	out := []api.Pair{
		{Key: "used", Value: strconv.Itoa(o.bytes.Used())},
		{Key: "head", Value: o.headText()},
	}
	for _, r := range o.rules {
		out = append(out, api.Pair{Key: "rule " + strconv.Itoa(r.number), Value: ruleText(r.rule)})
	}
	for channel, l := range o.lanes {
		out = append(out,
			api.Pair{Key: "policy " + channel, Value: strconv.Itoa(l.policy.Approvals) + "," + digit(l.policy.Veto)},
			api.Pair{Key: "queue " + channel, Value: l.queueText()})
	}
	for _, p := range o.pool.Pairs() {
		out = append(out, api.Pair{Key: "pool " + p.Key, Value: p.Value})
	}
	for i := range o.patches {
		p, _ := o.board.Proposal(i + 1)
		out = append(out, api.Pair{Key: "proposal " + strconv.Itoa(p.Id), Value: o.proposalText(p)})
	}
	return out
}

func ruleText(r api.Rule) string {
	return strings.Join([]string{r.Who, r.Channel, r.Prefix, strconv.Itoa(r.Right), digit(r.Deny)}, ",")
}

// queueText tells which proposals wait, and which have ended, and how.
func (l *lane) queueText() string {
	var waiting, ended []string
	for _, id := range l.queue.Waiting() {
		waiting = append(waiting, strconv.Itoa(id))
	}
	for _, e := range l.queue.Ended() {
		ended = append(ended, strconv.Itoa(e.Proposal)+":"+strconv.Itoa(e.End)+":"+strconv.Itoa(int(e.Why)))
	}
	return listText(waiting) + ";" + listText(ended)
}
