package forge

import (
	"slices"

	"ingot/api"
	"ingot/audit"
	"ingot/pool"
	"ingot/queue"
	"ingot/quota"
	"ingot/review"
)

// organisation is what one has beside its members and teams.
type organisation struct {
	limits   api.Limits
	pool     *pool.Pool
	lanes    map[string]*lane // by the channels' names
	rules    []numbered       // in the order in which they were made
	lastRule int              // the number of the rule that was made last
	board    *review.Board
	patches  []api.Patch // of the proposals, in the order of their numbers
	log      *audit.Log
	entries  int // of the log
	bytes    *quota.Meter
	requests map[string]*quota.Meter // by the users' names
}

// lane is what a channel has beside its patches.
type lane struct {
	policy api.Policy
	queue  *queue.Queue
}

// numbered is a rule with its number.
type numbered struct {
	number int
	rule   api.Rule
}

// newOrganisation makes one without channels; ErrArg, if its limits may not be.
func newOrganisation(limits api.Limits) (*organisation, api.Errno) {
	bytes, e := quota.New(limits)
	if e != api.OK {
		return nil, e
	}
	return &organisation{
		limits:   limits,
		pool:     pool.New(),
		lanes:    map[string]*lane{},
		board:    review.New(),
		log:      audit.New(),
		bytes:    bytes,
		requests: map[string]*quota.Meter{},
	}, api.OK
}

// meterOf tells the meter of a user's requests.
func (o *organisation) meterOf(user string) *quota.Meter {
	if o.requests[user] == nil {
		o.requests[user], _ = quota.New(o.limits) // the limits may be, as the organisation is there
	}
	return o.requests[user]
}

func (o *organisation) addLane(channel string) {
	o.lanes[channel] = &lane{queue: queue.New()}
}

func (o *organisation) ruleList() []api.Rule {
	var out []api.Rule
	for _, r := range o.rules {
		out = append(out, r.rule)
	}
	return out
}

func (o *organisation) placeOfRule(number int) int {
	return slices.IndexFunc(o.rules, func(r numbered) bool { return r.number == number })
}

// land applies a patch to a channel, if there are bytes left for it.
func (o *organisation) land(channel string, p api.Patch) (api.Hash, api.Errno) {
	before := o.pool.Bytes()
	h, e := o.pool.Apply(channel, p)
	if e != api.OK {
		return api.Hash{}, e
	}
	if e := o.bytes.Charge(o.pool.Bytes() - before); e != api.OK {
		o.pool.Unapply(channel, h) // which was just applied: no other one needs it
		return api.Hash{}, e
	}
	return h, api.OK
}

// takeBack undoes a landing.
func (o *organisation) takeBack(channel string, h api.Hash) api.Errno {
	before := o.pool.Bytes()
	if e := o.pool.Unapply(channel, h); e != api.OK {
		return e
	}
	return o.bytes.Refund(before - o.pool.Bytes())
}
