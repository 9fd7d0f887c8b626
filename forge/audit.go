package forge

import (
	"strconv"
	"strings"

	"ingot/api"
	"ingot/fields"
	"ingot/hash"
)

// isNoted tells whether the call is of a kind that an organisation's audit log notes.
func (w *work) isNoted() bool {
	switch w.call.Kind {
	case api.CallText, api.CallLog, api.CallProposal, api.CallAudit:
		return false
	}
	return w.call.Kind >= api.CallOrg
}

// what tells what the audit log says of the call.
func (w *work) what() string {
	return strings.Join([]string{
		strconv.Itoa(w.call.Kind),
		fields.Escape(w.call.Channel),
		fields.Escape(w.call.Arg),
		strconv.Itoa(max(w.call.Id, 0)),
	}, " ")
}

// note puts an entry of a call that answered into the audit log. That there is room for it was asked ahead of what the call did.
func (w *work) note() {
	e := sure(w.org.log.Append(w.tick, w.user, w.what()))
	w.org.entries = e.Seq
}

func (w *work) showAudit() api.Reply {
	w.ownerOnly()
	var out strings.Builder
	for _, e := range w.org.log.Entries() {
		out.WriteString(strconv.Itoa(e.Seq) + " " + strconv.Itoa(e.Tick) + " " + e.Who + " " + e.What + lineEnd)
	}
	out.WriteString(w.org.headText() + lineEnd)
	return answer(out.String())
}

func (o *organisation) headText() string {
	head := o.log.Head()
	return hash.Hex(head[:])
}
