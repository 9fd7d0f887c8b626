package forge

import (
	"slices"
	"strconv"

	"ingot/acl"
	"ingot/api"
)

func (w *work) makeRule() api.Reply {
	w.ownerOnly()
	rule := api.Rule{
		Who:     w.field("who"),
		Channel: w.field("channel"),
		Prefix:  w.field("prefix"),
		Right:   rightOf(w.field("right")),
		Deny:    w.isSet("deny"),
	}
	failIf(!acl.Right(rule), api.ErrArg)
	failIf(len(w.org.rules) >= api.MaxRules, api.ErrLong)
	w.org.lastRule++
	w.org.rules = append(w.org.rules, numbered{w.org.lastRule, rule})
	return answerMade(strconv.Itoa(w.org.lastRule) + lineEnd)
}

// rightOf tells a right; what is none makes no rule.
func rightOf(text string) int {
	switch text {
	case "read":
		return api.Read
	case "write":
		return api.Write
	}
	return 0
}

func (w *work) dropRule() api.Reply {
	w.ownerOnly()
	at := w.org.placeOfRule(w.call.Id)
	failIf(at < 0, api.ErrMissing)
	w.org.rules = slices.Delete(w.org.rules, at, at+1)
	return answer("")
}
