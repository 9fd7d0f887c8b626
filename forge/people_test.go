package forge_test

import (
	"strconv"
	"strings"
	"testing"

	"ingot/api"
	"ingot/forge"
)

// CallSignup: secrets of 1 to MaxPath bytes, asked ahead of the name; names; MaxUsers.
func TestSignup(t *testing.T) {
	w := &world{t, forge.New(nil), 0, map[string]string{}}
	up := api.Call{Kind: api.CallSignup}
	for _, secret := range []string{"", times(65), times(1 << 16)} {
		w.fail(api.ErrArg, "", up, "name", "ann", "secret", secret)
		w.fail(api.ErrArg, "", up, "name", "Ann", "secret", secret)
	}
	w.fail(api.ErrArg, "", up, "name", "ann")
	w.fail(api.ErrArg, "", up)
	for _, name := range []string{"", "Ann", "1", "a.b", times(17)} {
		w.fail(api.ErrName, "", up, "name", name, "secret", "s")
	}
	w.made("ann\n", "", up, "name", "ann", "secret", times(64))
	w.fail(api.ErrThere, "", up, "name", "ann", "secret", "other")
	w.fail(api.ErrArg, "", up, "name", "ann", "secret", "")
	w.made(times(16)+"\n", "", up, "name", times(16), "secret", "\x00\xff \n")
	for i := 2; i < api.MaxUsers; i++ {
		name := "u" + strconv.Itoa(i)
		w.made(name+"\n", "", up, "name", name, "secret", "s")
	}
	w.fail(api.ErrLong, "", up, "name", "more", "secret", "s")
	w.fail(api.ErrThere, "", up, "name", "u9", "secret", "s")
	if got := w.f.Dump(); len(got) != api.MaxUsers || got[0] != (api.Pair{Key: "user " + times(16)}) || got[1] != (api.Pair{Key: "user ann"}) {
		t.Error(got)
	}
	if r := w.do("", api.Call{Kind: api.CallToken}, "user", "ann", "secret", times(64), "for", "1"); r.Status != 201 {
		t.Error(r)
	}
	if r := w.do("", api.Call{Kind: api.CallToken}, "user", times(16), "secret", "\x00\xff \n", "for", "1"); r.Status != 201 {
		t.Error(r)
	}
}

// CallToken: who is unknown is refused, ahead of a time that may not be.
func TestGiveToken(t *testing.T) {
	w := newWorld(t)
	give := api.Call{Kind: api.CallToken}
	for _, l := range [][]string{
		nil, {"user", "ann"}, {"secret", "s-ann"}, {"user", "", "secret", ""}, {"user", "ann", "secret", ""}, {"user", "ann", "secret", "s-an"}, {"user", "ann", "secret", "s-annn"}, {"user", "ann", "secret", "S-ann"}, {"user", "ann", "secret", "s-bob"},
		{"user", "eve", "secret", "s-ann"}, {"user", "eve", "secret", ""}, {"user", "Ann", "secret", "s-ann"}, {"name", "ann", "secret", "s-ann"},
	} {
		w.refuse(401, "", give, l...)
		w.refuse(401, "", give, append(l, "for", "5")...)
	}
	for _, length := range []string{"", "0", "000", "-1", "+1", " 1", "1 ", "x", "1x", "1.5", "1e3", "0x1", "1_0", "٣", "1000000000000", "0000000000001", "999999999999999999999", times(1 << 16)} {
		w.fail(api.ErrArg, "", give, "user", "ann", "secret", "s-ann", "for", length)
	}
	w.fail(api.ErrArg, "", give, "user", "ann", "secret", "s-ann")
	for length, until := range map[string]string{"1": "1", "001": "1", "000000000007": "7", "999999999999": "999999999999"} {
		if r := w.do("", give, "user", "ann", "secret", "s-ann", "for", length); r.Status != 201 || strings.Split(r.Body, ".")[2] != until || strings.Split(r.Body, ".")[1] != "ann" {
			t.Error(length, r)
		}
	}
	w.now = 30
	if r := w.do("", give, "user", "bob", "secret", "s-bob", "for", "12"); r.Status != 201 || !strings.HasPrefix(r.Body, "9.bob.42.") {
		t.Error(r)
	}
	for range api.MaxTokens - 9 {
		if r := w.do("", give, "user", "bob", "secret", "s-bob", "for", "12"); r.Status != 201 {
			t.Fatal(r)
		}
	}
	w.fail(api.ErrLong, "", give, "user", "bob", "secret", "s-bob", "for", "12")
	w.fail(api.ErrArg, "", give, "user", "bob", "secret", "s-bob", "for", "0")
	w.refuse(401, "", give, "user", "bob", "secret", "s", "for", "12")
}

// A token holds up to its time, and says who calls.
func TestTokenHolds(t *testing.T) {
	w := newWorld(t)
	w.now = 10
	w.tokens["short"] = w.token("ann", 5)
	for w.now = 10; w.now < 15; w.now++ {
		w.made("", "short", in(api.CallTeam, ""), "name", "t"+strconv.Itoa(w.now-10))
	}
	w.fail(api.ErrExpired, "short", in(api.CallTeam, ""), "name", "more")
	if r := w.do("ann", in(api.CallAudit, "")); !strings.Contains(r.Body, "8 14 ann 7   0\n") {
		t.Error(r.Body)
	}
}

// CallRevoke: a token of one's own that holds, nobody else's.
func TestRevoke(t *testing.T) {
	w := newWorld(t)
	back := func(text string) api.Call { return api.Call{Kind: api.CallRevoke, Arg: text} }
	other, short, bobs := w.token("ann", 50), w.token("ann", 5), w.token("bob", 50)
	for _, text := range []string{"", "x", other + "x", other[:len(other)-1], strings.ToUpper(other), strings.Replace(other, "ann", "bob", 1), times(1 << 16)} {
		w.fail(api.ErrToken, "ann", back(text))
	}
	w.refuse(403, "ann", back(bobs))
	w.refuse(403, "bob", back(other))
	w.now = 5
	w.fail(api.ErrExpired, "ann", back(short))
	w.fail(api.ErrExpired, "bob", back(short))
	w.tokens["other"] = other
	w.answer("", "other", in(api.CallLog, "main"))
	w.answer("", "ann", back(other))
	w.fail(api.ErrRevoked, "ann", back(other))
	w.fail(api.ErrRevoked, "bob", back(other))
	w.fail(api.ErrRevoked, "other", in(api.CallLog, "main"))
	w.answer("", "bob", back(w.tokens["bob"]))
	w.fail(api.ErrRevoked, "bob", back(bobs))
	w.tokens["bob"] = bobs
	w.answer("", "bob", back(bobs))
	w.answer("", "ann", in(api.CallLog, "main"))
	w.answer("1 0 ann 4   0\n2 0 ann 11   0\n3 0 ann 5  bob 0\n"+w.value("org o head")+"\n", "ann", in(api.CallAudit, "")) // it is noted nowhere
}

// CallOrg: limits that may not be come ahead of a name; MaxOrgs; who called is the owner.
func TestOrg(t *testing.T) {
	w := newWorld(t)
	begin := api.Call{Kind: api.CallOrg}
	for _, key := range []string{"bytes", "rate", "window"} {
		for _, n := range []string{"-1", "x", " ", "1000000000000", "+5", "1.0"} {
			w.fail(api.ErrArg, "cy", begin, "name", "p", key, n)
			w.fail(api.ErrArg, "cy", begin, "name", "o", key, n)
			w.fail(api.ErrArg, "cy", begin, key, n)
		}
	}
	w.fail(api.ErrArg, "cy", begin, "name", "p", "window", "0")
	w.fail(api.ErrThere, "cy", begin, "name", "o")
	for _, name := range []string{"", "P", "p q", "1", times(17)} {
		w.fail(api.ErrName, "cy", begin, "name", name)
	}
	w.made("p\n", "cy", api.Call{Kind: api.CallOrg, Org: "o", Channel: "c", Arg: "d e", Id: 7}, "name", "p", "bytes", "", "rate", "007", "window", "999999999999")
	w.holds("org p members", "cy 2,")
	w.holds("org p used", "0")
	w.answer("1 0 cy 4 c d+e 7\n"+w.value("org p head")+"\n", "cy", api.Call{Kind: api.CallAudit, Org: "p"})
	for range 6 {
		w.refuse(403, "ann", api.Call{Kind: api.CallTeam, Org: "p"}, "name", "x")
		w.do("cy", api.Call{Kind: api.CallAudit, Org: "p"})
	}
	w.fail(api.ErrRate, "cy", api.Call{Kind: api.CallAudit, Org: "p"})
	w.made(times(16)+"\n", "ann", begin, "name", times(16), "bytes", "0", "rate", "999999999999", "window", "1")
	for i := 3; i < api.MaxOrgs; i++ {
		w.made("q"+strconv.Itoa(i)+"\n", "bob", begin, "name", "q"+strconv.Itoa(i), "rate", "", "window", "")
	}
	w.fail(api.ErrLong, "dee", begin, "name", "more")
	w.fail(api.ErrThere, "dee", begin, "name", "o")
	w.fail(api.ErrArg, "dee", begin, "name", "more", "rate", "x")
}

// CallOrg: limits that are not named are 65536 bytes, 1000 requests, 100 ticks.
func TestUsualLimits(t *testing.T) {
	w := newWorld(t)
	for range 1000 {
		if r := w.f.Do(api.Call{Kind: api.CallLog, Org: "o", Channel: "main", Token: w.tokens["cy"]}, 99); r.Status != 200 {
			t.Fatal(r)
		}
	}
	w.now = 99
	w.fail(api.ErrRate, "cy", in(api.CallLog, "main"))
	w.now = 100
	w.answer("", "cy", in(api.CallLog, "main"))
	used := 0
	for i := 0; used+13000 <= 65536; i++ {
		p := patchBy("ann", strconv.Itoa(i), add("a", top, bottom, manyLines(64, 200)...))
		w.apply(p)
		used += sizeOf(p)
	}
	room := 65536 - used
	fits := exact(room)
	w.fail(api.ErrQuota, "ann", in(api.CallApply, "main"), "patch", codeOf(exact(room+1)))
	w.apply(fits)
	w.holds("org o used", "65536")
	w.fail(api.ErrQuota, "ann", in(api.CallApply, "main"), "patch", codeOf(one("ann", "z", "")))
}

func manyLines(n, size int) []string {
	var out []string
	for range n {
		out = append(out, times(size))
	}
	return out
}

// exact makes a patch of ann's of just so many bytes.
func exact(size int) api.Patch {
	for n := 1; n <= 64; n++ {
		p := patchBy("ann", "", add("exact", top, bottom, manyLines(n, 0)...))
		left := size - sizeOf(p)
		for i := range p.Ops[0].Lines {
			take := min(left, 200)
			if take > 127 {
				take = min(left-1, 200) // the length takes a byte more
			}
			p.Ops[0].Lines[i] = times(take)
			left = size - sizeOf(p)
		}
		if left == 0 {
			return p
		}
	}
	panic("no patch of that size")
}

// CallJoin: roles by their words; errors of people.
func TestJoin(t *testing.T) {
	w := newWorld(t)
	join := func(user string) api.Call { return of(api.CallJoin, user) }
	for _, user := range []string{"bob", "cy"} {
		w.refuse(403, user, join("cy"), "role", "owner")
		w.refuse(403, user, join("nobody"), "role", "x")
	}
	for _, role := range []string{"", "none", "Member", "owners", "1", "2"} {
		w.fail(api.ErrArg, "ann", join("cy"), "role", role)
		w.fail(api.ErrMissing, "ann", join("nobody"), "role", role)
	}
	w.fail(api.ErrArg, "ann", join("cy"))
	w.fail(api.ErrMissing, "ann", join(""), "role", "member")
	w.fail(api.ErrLast, "ann", join("ann"), "role", "member")
	w.answer("", "ann", join("cy"), "role", "member")
	w.answer("", "ann", join("bob"), "role", "owner")
	w.holds("org o members", "ann 2,bob 2,cy 1,")
	w.answer("", "bob", join("ann"), "role", "member")
	w.refuse(403, "ann", join("dee"), "role", "member")
	w.answer("", "bob", join("bob"), "role", "owner")
	w.holds("org o members", "ann 1,bob 2,cy 1,")
}

// CallLeave: others by owners, oneself by oneself.
func TestLeave(t *testing.T) {
	w := newWorld(t)
	leave := func(user string) api.Call { return of(api.CallLeave, user) }
	w.refuse(403, "bob", leave("ann"))
	w.refuse(403, "cy", leave("bob"))
	w.refuse(403, "bob", leave("nobody"))
	w.fail(api.ErrMissing, "cy", leave("cy"))
	w.fail(api.ErrMissing, "ann", leave("cy"))
	w.fail(api.ErrMissing, "ann", leave("nobody"))
	w.fail(api.ErrLast, "ann", leave("ann"))
	w.made("", "ann", in(api.CallTeam, ""), "name", "ops")
	w.answer("", "ann", of(api.CallPut, "ops"), "user", "bob")
	w.answer("", "bob", leave("bob"))
	w.holds("org o members", "ann 2,")
	w.holds("org o team ops", "")
	w.answer("", "ann", of(api.CallJoin, "cy"), "role", "owner")
	w.answer("", "cy", leave("ann"))
	w.refuse(403, "ann", of(api.CallJoin, "ann"), "role", "owner")
	w.holds("org o members", "cy 2,")
}

// CallTeam, CallPut: by owners; errors of people.
func TestTeams(t *testing.T) {
	w := newWorld(t)
	team, ops := in(api.CallTeam, ""), of(api.CallPut, "ops")
	w.refuse(403, "bob", team, "name", "ops")
	w.refuse(403, "cy", team, "name", "Ops")
	w.fail(api.ErrName, "ann", team, "name", "Ops")
	w.fail(api.ErrName, "ann", team)
	w.made("", "ann", team, "name", "ops")
	w.fail(api.ErrThere, "ann", team, "name", "ops")
	w.refuse(403, "bob", ops, "user", "bob")
	w.refuse(403, "bob", ops, "user", "bob", "out", "1")
	w.fail(api.ErrMissing, "ann", ops, "user", "cy")
	w.fail(api.ErrMissing, "ann", ops)
	w.fail(api.ErrMissing, "ann", of(api.CallPut, "none"), "user", "bob")
	w.fail(api.ErrMissing, "ann", ops, "user", "bob", "out", "1")
	w.answer("", "ann", ops, "user", "bob")
	w.fail(api.ErrThere, "ann", ops, "user", "bob")
	for _, out := range []string{"", "0", "2", "11", "true", " 1"} {
		w.fail(api.ErrThere, "ann", ops, "user", "bob", "out", out)
	}
	w.answer("", "ann", ops, "user", "ann", "out", "x")
	w.holds("org o team ops", "ann,bob,")
	w.fail(api.ErrMissing, "ann", of(api.CallPut, "none"), "user", "bob", "out", "1")
	w.answer("", "ann", ops, "user", "bob", "out", "1")
	w.fail(api.ErrMissing, "ann", ops, "user", "bob", "out", "1")
	w.holds("org o team ops", "ann,")
	for i := 1; i < api.MaxTeams; i++ {
		w.made("", "ann", team, "name", "t"+strconv.Itoa(i))
	}
	w.fail(api.ErrLong, "ann", team, "name", "more")
}

// CallRule, CallUnrule: what makes a rule, its number, which never comes again.
func TestRules(t *testing.T) {
	w := newWorld(t)
	rule := in(api.CallRule, "")
	w.refuse(403, "bob", rule, "who", "*", "right", "read")
	w.refuse(403, "cy", rule)
	for _, l := range [][]string{
		nil, {"who", "*"}, {"right", "read"}, {"who", "*", "right", "none"}, {"who", "*", "right", "Read"}, {"who", "*", "right", "1"}, {"who", "bob", "right", "read"}, {"who", "u:", "right", "read"}, {"who", "u:Bob", "right", "read"}, {"who", "x:bob", "right", "read"},
		{"who", "*", "right", "read", "channel", "Main"}, {"who", "*", "right", "read", "channel", "a/b"}, {"who", "*", "right", "read", "prefix", "a/"}, {"who", "*", "right", "read", "prefix", ".."}, {"who", "*", "right", ""},
	} {
		w.fail(api.ErrArg, "ann", rule, l...)
	}
	w.rule(1, "who", "*", "right", "read")
	w.rule(2, "who", "u:bob", "right", "write", "channel", "main", "prefix", "a/b", "deny", "1")
	w.rule(3, "who", "t:ops", "right", "write", "deny", "0")
	w.rule(4, "who", "u:nobody", "right", "read", "channel", "none", "prefix", "x", "deny", "yes")
	w.holds("org o rule 1", "*,,,1,0")
	w.holds("org o rule 2", "u:bob,main,a/b,2,1")
	w.holds("org o rule 3", "t:ops,,,2,0")
	w.holds("org o rule 4", "u:nobody,none,x,1,0")
	w.refuse(403, "bob", at(api.CallUnrule, 1))
	w.refuse(403, "bob", at(api.CallUnrule, 9))
	for _, id := range []int{0, -1, 5, 1 << 40} {
		w.fail(api.ErrMissing, "ann", at(api.CallUnrule, id))
	}
	w.answer("", "ann", at(api.CallUnrule, 4))
	w.answer("", "ann", at(api.CallUnrule, 2))
	w.fail(api.ErrMissing, "ann", at(api.CallUnrule, 2))
	w.rule(5, "who", "*", "right", "read")
	for i := 4; i <= api.MaxRules; i++ {
		w.rule(i+2, "who", "*", "right", "read")
	}
	w.fail(api.ErrLong, "ann", rule, "who", "*", "right", "read")
	w.fail(api.ErrArg, "ann", rule, "who", "*", "right", "")
	w.answer("", "ann", at(api.CallUnrule, 66))
	w.rule(67, "who", "*", "right", "read")
	w.fail(api.ErrLong, "ann", rule, "who", "*", "right", "read")
}
