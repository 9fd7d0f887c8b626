package forge

import (
	"ingot/api"
	"ingot/hash"
)

// The limits of an organisation that names none.
const (
	usualBytes  = 65536
	usualRate   = 1000
	usualWindow = 100
)

func (w *work) signUp() api.Reply {
	name, secret := w.field("name"), w.field("secret")
	failIf(len(secret) < 1 || len(secret) > api.MaxPath, api.ErrArg)
	need(w.people.AddUser(name))
	w.accounts[name] = account{secret}
	return answerMade(name + lineEnd)
}

func (w *work) giveToken() api.Reply {
	user, length := w.field("user"), w.number("for")
	a, is := w.accounts[user]
	refuseIf(!is || !hash.Equal([]byte(a.secret), []byte(w.field("secret"))), statusUnknown)
	failIf(length < 1, api.ErrArg)
	return answerMade(sure(w.book.Issue(user, w.tick, w.tick+length)) + lineEnd)
}

func (w *work) revoke() api.Reply {
	owner := sure(w.book.Check(w.call.Arg, w.tick))
	refuseIf(owner != w.user, statusForbidden)
	need(w.book.Revoke(w.call.Arg))
	return answer("")
}

func (w *work) begin() api.Reply {
	name := w.field("name")
	o := sure(newOrganisation(api.Limits{
		Bytes:  w.numberOr("bytes", usualBytes),
		Rate:   w.numberOr("rate", usualRate),
		Window: w.numberOr("window", usualWindow),
	}))
	need(w.people.AddOrg(name, w.user))
	w.orgs[name], w.org = o, o
	return answerMade(name + lineEnd)
}

// numberOr tells what a number's field says; something usual, if the field is empty.
func (w *work) numberOr(key string, usual int) int {
	if w.field(key) == "" {
		return usual
	}
	return w.number(key)
}

func (w *work) join() api.Reply {
	w.ownerOnly()
	need(w.people.Join(w.call.Org, w.call.Arg, roleOf(w.field("role"))))
	return answer("")
}

func roleOf(text string) int {
	switch text {
	case "member":
		return api.RoleMember
	case "owner":
		return api.RoleOwner
	}
	return api.RoleNone
}

func (w *work) leave() api.Reply {
	if w.call.Arg != w.user {
		w.ownerOnly()
	}
	need(w.people.Leave(w.call.Org, w.call.Arg))
	return answer("")
}

func (w *work) makeTeam() api.Reply {
	w.ownerOnly()
	need(w.people.AddTeam(w.call.Org, w.field("name")))
	return answerMade("")
}

func (w *work) putInTeam() api.Reply {
	w.ownerOnly()
	put := w.people.Put
	if w.isSet("out") {
		put = w.people.Out
	}
	need(put(w.call.Org, w.call.Arg, w.field("user")))
	return answer("")
}
