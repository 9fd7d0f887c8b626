package forge

import (
	"strconv"

	"ingot/acl"
	"ingot/api"
	"ingot/fields"
	"ingot/hash"
	"ingot/patch"
)

const (
	plainText  = "text/plain"
	lineEnd    = "\n"
	mostDigits = 12 // of a number's field
)

// work is a call that is under way. What it does gives up by a panic with an error: a refusal, or the api.Errno with which the call fails.
type work struct {
	*Forge
	call api.Call
	user string        // who calls; of kinds from CallRevoke on
	org  *organisation // where; of kinds from CallJoin on, and of CallOrg once it is there
}

// refusal is a status with which a call is refused.
type refusal int

func (r refusal) Error() string { return "refused with " + strconv.Itoa(int(r)) }

func refuseIf(is bool, status int) {
	if is {
		panic(refusal(status))
	}
}

func failIf(is bool, e api.Errno) {
	if is {
		panic(e)
	}
}

// need fails with what a layer answered, unless that is OK.
func need(e api.Errno) { failIf(e != api.OK, e) }

// sure tells what a layer answered beside its error, if that is OK.
func sure[T any](told T, e api.Errno) T {
	need(e)
	return told
}

func answer(text string) api.Reply {
	return api.Reply{Status: statusDone, Type: plainText, Body: text}
}

func answerMade(text string) api.Reply {
	return api.Reply{Status: statusMade, Type: plainText, Body: text}
}

func fail(e api.Errno) api.Reply {
	return api.Reply{Status: Status(e), Type: plainText, Body: strconv.Itoa(int(e)) + lineEnd}
}

// reply carries the call out, and tells what it answers, or with what it gave up.
func (w *work) reply() (r api.Reply) {
	defer func() {
		switch e := recover().(type) {
		case refusal:
			r = api.Reply{Status: int(e)}
		case api.Errno:
			r = fail(e)
		}
	}()
	return w.carryOut()
}

func (w *work) carryOut() api.Reply {
	do, is := deeds()[w.call.Kind]
	refuseIf(!is, statusMissing)
	if w.call.Kind >= api.CallRevoke {
		w.user = sure(w.book.Check(w.call.Token, w.tick))
	}
	failIf(w.isNoted() && len(w.what()) > api.MaxWhat, api.ErrLong)
	if w.call.Kind >= api.CallJoin {
		w.enter()
	}
	r := do(w)
	if w.isNoted() {
		w.note()
	}
	return r
}

// enter finds the organisation, and counts the request there.
func (w *work) enter() {
	o, is := w.orgs[w.call.Org]
	refuseIf(!is, statusMissing)
	w.org = o
	need(o.meterOf(w.user).Hit(w.tick))
	failIf(w.isNoted() && o.entries >= api.MaxEntries, api.ErrLong)
}

// field tells the value of a field; empty, if there is none.
func (w *work) field(key string) string {
	value, _ := fields.Get(w.call.Form, key)
	return value
}

func (w *work) isSet(key string) bool { return w.field(key) == "1" }

// number tells what a number's field says.
func (w *work) number(key string) int {
	text := w.field(key)
	if len(text) < 1 || len(text) > mostDigits {
		return -1
	}
	n := 0
	for i := range len(text) {
		if text[i] < '0' || text[i] > '9' {
			return -1
		}
		n = n*10 + int(text[i]-'0')
	}
	return n
}

// patch tells the patch that the call has in its field.
func (w *work) patch() api.Patch {
	return sure(patch.Decode(sure(hash.Unhex(w.field("patch")))))
}

func (w *work) subject() api.Subject { return w.people.Subject(w.call.Org, w.user) }

func (w *work) ownerOnly() {
	refuseIf(w.subject().Role != api.RoleOwner, statusForbidden)
}

// may tells whether the user has a right to all paths of a patch in a channel.
func (w *work) may(right int, channel string, p api.Patch) bool {
	return acl.All(w.org.ruleList(), w.subject(), channel, patch.Paths(p), right)
}

// lane finds what the channel has that the call names; the call fails, if there is no such channel.
func (w *work) lane() *lane {
	l, is := w.org.lanes[w.call.Channel]
	failIf(!is, api.ErrMissing)
	return l
}
