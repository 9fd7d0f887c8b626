package forge

import (
	"strconv"
	"strings"

	"ingot/acl"
	"ingot/api"
	"ingot/hash"
)

func (w *work) makeChannel() api.Reply {
	w.ownerOnly()
	name := w.field("name")
	need(w.org.pool.Make(name))
	w.org.addLane(name)
	return answerMade("")
}

func (w *work) fork() api.Reply {
	w.ownerOnly()
	to := w.field("to")
	need(w.org.pool.Fork(w.call.Channel, to))
	w.org.addLane(to)
	return answerMade("")
}

func (w *work) setPolicy() api.Reply {
	w.ownerOnly()
	l, approvals := w.lane(), w.number("approvals")
	failIf(approvals < 0 || approvals > api.MaxUsers, api.ErrArg)
	l.policy = api.Policy{Approvals: approvals, Veto: w.isSet("veto")}
	return answer("")
}

// mayChange tells whether the user may bring a patch into a channel, or take it back, without a proposal.
func (w *work) mayChange(l *lane, p api.Patch) bool {
	return l.policy.Approvals == 0 && w.may(api.Write, w.call.Channel, p)
}

func (w *work) apply() api.Reply {
	l, p := w.lane(), w.patch()
	refuseIf(p.Author != w.user || !w.mayChange(l, p), statusForbidden)
	h := sure(w.org.land(w.call.Channel, p))
	return answerMade(hash.Hex(h[:]) + lineEnd)
}

func (w *work) unapply() api.Reply {
	l, h := w.lane(), hashOf(w.call.Arg)
	p, is := w.org.pool.Channel(w.call.Channel).Patch(h)
	failIf(!is, api.ErrMissing)
	refuseIf(!w.mayChange(l, p), statusForbidden)
	need(w.org.takeBack(w.call.Channel, h))
	return answer("")
}

func hashOf(text string) api.Hash {
	b := sure(hash.Unhex(text))
	failIf(len(b) != len(api.Hash{}), api.ErrArg)
	return api.Hash(b)
}

func (w *work) showText() api.Reply {
	w.lane()
	channel, path := w.call.Channel, w.call.Arg
	refuseIf(!acl.Decide(w.org.ruleList(), w.subject(), channel, path, api.Read), statusForbidden)
	c := w.org.pool.Channel(channel)
	shown := c.Shown(path)
	failIf(len(shown) == 0, api.ErrMissing)
	var out strings.Builder
	out.WriteString("conflicts " + strconv.Itoa(c.Conflicts(path)) + lineEnd)
	for _, s := range shown {
		if s.Kills == 0 {
			out.WriteString(s.Text + lineEnd)
		}
	}
	return answer(out.String())
}

func (w *work) showLog() api.Reply {
	w.lane()
	c := w.org.pool.Channel(w.call.Channel)
	var out strings.Builder
	for _, h := range c.Log() {
		if p, _ := c.Patch(h); w.may(api.Read, w.call.Channel, p) {
			out.WriteString(hash.Hex(h[:]) + lineEnd)
		}
	}
	return answer(out.String())
}
