package forge

import (
	"strconv"
	"strings"

	"ingot/api"
	"ingot/fields"
	"ingot/hash"
	"ingot/patch"
	"ingot/review"
)

func (w *work) propose() api.Reply {
	w.lane()
	p := w.patch()
	refuseIf(p.Author != w.user || !w.may(api.Read, w.call.Channel, p), statusForbidden)
	h := sure(patch.Name(p))
	id := sure(w.org.board.Propose(w.user, w.call.Channel, h))
	w.org.patches = append(w.org.patches, p)
	return answerMade(strconv.Itoa(id) + lineEnd)
}

// proposal finds the proposal that the call names.
func (w *work) proposal() api.Proposal {
	p, is := w.org.board.Proposal(w.call.Id)
	failIf(!is, api.ErrMissing)
	return p
}

// needRight refuses, unless the user has a right to all paths of a proposal's patch.
func (w *work) needRight(right int, p api.Proposal) {
	refuseIf(!w.may(right, p.Channel, w.org.patchOf(p.Id)), statusForbidden)
}

func (o *organisation) patchOf(id int) api.Patch { return o.patches[id-1] }

func (w *work) vote() api.Reply {
	p := w.proposal()
	w.needRight(api.Write, p)
	switch w.field("vote") {
	case "yes":
		need(w.org.board.Vote(p.Id, w.user, true))
	case "no":
		need(w.org.board.Vote(p.Id, w.user, false))
	case "none":
		need(w.org.board.Unvote(p.Id, w.user))
	default:
		need(api.ErrArg)
	}
	return answer("")
}

func (w *work) say() api.Reply {
	p := w.proposal()
	w.needRight(api.Read, p)
	need(w.org.board.Say(p.Id, w.user, w.field("text")))
	return answer("")
}

func (w *work) showProposal() api.Reply {
	p := w.proposal()
	w.needRight(api.Read, p)
	return answer(w.org.proposalText(p))
}

func (o *organisation) proposalText(p api.Proposal) string {
	var out strings.Builder
	for _, line := range []string{
		"open " + digit(p.Open),
		"author " + p.Author,
		"channel " + p.Channel,
		"patch " + hash.Hex(p.Patch[:]),
		strings.Join(append([]string{"yes"}, p.Yes...), " "),
		strings.Join(append([]string{"no"}, p.No...), " "),
		"passes " + digit(review.Passes(p, o.lanes[p.Channel].policy)),
	} {
		out.WriteString(line + lineEnd)
	}
	for _, remark := range p.Talk {
		out.WriteString("say " + remark.Key + " " + fields.Escape(remark.Value) + lineEnd)
	}
	return out.String()
}

func digit(is bool) string {
	if is {
		return "1"
	}
	return "0"
}

func (w *work) enqueue() api.Reply {
	l, p := w.lane(), w.proposal()
	failIf(p.Channel != w.call.Channel, api.ErrMissing)
	w.needRight(api.Write, p)
	failIf(!p.Open, api.ErrClosed)
	need(l.queue.Put(p.Id))
	return answer(strconv.Itoa(l.queue.Place(p.Id)) + lineEnd)
}

func (w *work) merge() api.Reply {
	l := w.lane()
	refuseIf(w.subject().Role == api.RoleNone, statusForbidden)
	end := sure(l.queue.Step(func(id int) api.Errno { return w.org.try(l.policy, id) }))
	return answer(strconv.Itoa(end.Proposal) + " " + strconv.Itoa(end.End) + " " + strconv.Itoa(int(end.Why)) + lineEnd)
}

// try lands the patch of a proposal that waits, if it passes by its channel's policy, and closes the proposal.
func (o *organisation) try(policy api.Policy, id int) api.Errno {
	p, _ := o.board.Proposal(id)
	switch {
	case !p.Open:
		return api.ErrClosed
	case !review.Passes(p, policy):
		return api.ErrNeeded
	}
	if _, e := o.land(p.Channel, o.patchOf(id)); e != api.OK {
		return e
	}
	return o.board.Close(id)
}
