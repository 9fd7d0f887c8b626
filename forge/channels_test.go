package forge_test

import (
	"strconv"
	"strings"
	"testing"

	"ingot/api"
)

// CallChannel, CallFork: by owners; errors of pool.
func TestChannels(t *testing.T) {
	w := newWorld(t)
	channel, fork := in(api.CallChannel, ""), in(api.CallFork, "main")
	for _, user := range []string{"bob", "cy"} {
		w.refuse(403, user, channel, "name", "x")
		w.refuse(403, user, fork, "to", "x")
		w.refuse(403, user, in(api.CallFork, "none"), "to", "x")
	}
	w.fail(api.ErrThere, "ann", channel, "name", "main")
	w.fail(api.ErrName, "ann", channel, "name", "Main")
	w.fail(api.ErrName, "ann", channel)
	w.fail(api.ErrMissing, "ann", in(api.CallFork, "none"), "to", "Main")
	w.fail(api.ErrThere, "ann", fork, "to", "main")
	w.fail(api.ErrName, "ann", fork, "to", "Main")
	w.fail(api.ErrName, "ann", fork)
	p := one("ann", "a", "x")
	w.apply(p)
	w.answer("", "ann", in(api.CallPolicy, "main"), "approvals", "2", "veto", "1")
	w.propose(1, one("ann", "b", "y"))
	w.answer("0\n", "ann", api.Call{Kind: api.CallQueue, Org: "o", Channel: "main", Id: 1})
	w.made("", "ann", fork, "to", "next")
	w.answer(hexOf(p)+"\n", "ann", in(api.CallLog, "next"))
	w.holds("org o policy next", "0,0")
	w.holds("org o queue next", ";")
	w.holds("org o policy main", "2,1")
	w.holds("org o queue main", "1,;")
	w.holds("org o used", strconv.Itoa(sizeOf(p)))
	w.fail(api.ErrMissing, "ann", in(api.CallMerge, "next"))
	for i := 2; i < api.MaxChannels; i++ {
		w.made("", "ann", channel, "name", "c"+strconv.Itoa(i))
	}
	w.fail(api.ErrLong, "ann", channel, "name", "more")
	w.fail(api.ErrLong, "ann", fork, "to", "more")
	w.fail(api.ErrThere, "ann", fork, "to", "c2")
}

// CallPolicy: by owners; the channel ahead of the number.
func TestPolicy(t *testing.T) {
	w := newWorld(t)
	w.refuse(403, "bob", in(api.CallPolicy, "main"), "approvals", "1")
	w.refuse(403, "bob", in(api.CallPolicy, "none"))
	w.holds("org o policy main", "0,0")
	w.fail(api.ErrMissing, "ann", in(api.CallPolicy, "none"), "approvals", "1")
	w.fail(api.ErrMissing, "ann", in(api.CallPolicy, ""))
	for _, n := range []string{"", "-1", "65", "x", "999999999999", "1000000000000"} {
		w.fail(api.ErrArg, "ann", in(api.CallPolicy, "main"), "approvals", n)
	}
	w.fail(api.ErrArg, "ann", in(api.CallPolicy, "main"), "veto", "1")
	for _, c := range []struct{ approvals, veto, value string }{{"64", "1", "64,1"}, {"1", "0", "1,0"}, {"0", "1", "0,1"}, {"007", "", "7,0"}, {"3", "yes", "3,0"}, {"0", "", "0,0"}} {
		w.answer("", "ann", in(api.CallPolicy, "main"), "approvals", c.approvals, "veto", c.veto)
		w.holds("org o policy main", c.value)
	}
}

// CallApply: the channel, then the patch, then who; errors of landing.
func TestApply(t *testing.T) {
	w := newWorld(t)
	apply := in(api.CallApply, "main")
	good := codeOf(one("ann", "a", "x"))
	for _, user := range []string{"ann", "bob", "cy"} {
		w.fail(api.ErrMissing, user, in(api.CallApply, "none"), "patch", "zz")
		for _, code := range []string{"z", "0", "zz", strings.ToUpper(good), good + "0", " " + good} {
			w.fail(api.ErrText, user, apply, "patch", code)
		}
		for _, code := range []string{"", "00", good + "00", good[2:]} {
			w.fail(api.ErrCode, user, apply, "patch", code)
		}
		w.fail(api.ErrCode, user, apply)
	}
	w.refuse(403, "bob", apply, "patch", codeOf(one("bob", "a", "x"))) // who may write nothing
	w.rule(1, "who", "u:bob", "right", "write", "prefix", "a")
	w.refuse(403, "bob", apply, "patch", good)                         // another one's patch
	w.refuse(403, "ann", apply, "patch", codeOf(one("bob", "a", "x"))) // likewise
	w.refuse(403, "bob", apply, "patch", codeOf(patchBy("bob", "", add("a", top, bottom, "x"), add("b", top, bottom, "x"))))
	w.apply(patchBy("bob", "", add("a", top, bottom, "x"), add("a/b", top, bottom, "y")))
	w.refuse(403, "cy", apply, "patch", codeOf(one("cy", "a", "x")))
	w.rule(2, "who", "u:cy", "right", "write", "channel", "main")
	w.apply(one("cy", "z", "no member, but allowed"))
	w.made("", "ann", in(api.CallChannel, ""), "name", "other")
	w.refuse(403, "cy", in(api.CallApply, "other"), "patch", codeOf(one("cy", "z", "x")))
	w.apply(one("ann", "a", "x"))
	w.fail(api.ErrThere, "ann", apply, "patch", good)
	w.refuse(403, "bob", apply, "patch", good)
	missing := patchBy("ann", "", kill("a", api.Vertex{Patch: api.Hash{1}}))
	w.fail(api.ErrMissing, "ann", apply, "patch", codeOf(missing))
	v := api.Vertex{Patch: nameOf(one("ann", "a", "x"))}
	w.fail(api.ErrMissing, "ann", apply, "patch", codeOf(patchBy("ann", "", kill("b", v))))
	w.apply(patchBy("ann", "", kill("a", v), add("a", v, bottom, "behind it")))
	other := api.Vertex{Patch: nameOf(patchBy("ann", "", kill("a", v), add("a", v, bottom, "behind it")))}
	w.fail(api.ErrOrder, "ann", apply, "patch", codeOf(patchBy("ann", "", add("a", other, v, "turned round"))))
}

// CallApply: a channel that asks for approvals takes no patch, whoever comes; one that has a veto alone does.
func TestGated(t *testing.T) {
	w := newWorld(t)
	w.apply(one("ann", "a", "x"))
	w.answer("", "ann", in(api.CallPolicy, "main"), "approvals", "1")
	w.refuse(403, "ann", in(api.CallApply, "main"), "patch", codeOf(one("ann", "a", "y")))
	w.refuse(403, "ann", in(api.CallApply, "main"), "patch", codeOf(one("ann", "a", "x")))
	w.refuse(403, "ann", api.Call{Kind: api.CallUnapply, Org: "o", Channel: "main", Arg: hexOf(one("ann", "a", "x"))})
	w.answer("", "ann", in(api.CallPolicy, "main"), "approvals", "0", "veto", "1")
	w.apply(one("ann", "a", "y"))
	w.answer("", "ann", api.Call{Kind: api.CallUnapply, Org: "o", Channel: "main", Arg: hexOf(one("ann", "a", "x"))})
}

// CallUnapply: the channel, the hash, the patch, who, what needs it.
func TestUnapply(t *testing.T) {
	w := newWorld(t)
	p := patchBy("ann", "", add("a", top, bottom, "x"), add("b", top, bottom, "x"))
	q := patchBy("ann", "", kill("a", api.Vertex{Patch: nameOf(p)}))
	w.apply(p)
	w.apply(q)
	w.made("", "ann", in(api.CallChannel, ""), "name", "other")
	back := func(channel, h string) api.Call {
		return api.Call{Kind: api.CallUnapply, Org: "o", Channel: channel, Arg: h}
	}
	for _, user := range []string{"ann", "bob", "cy"} {
		w.fail(api.ErrMissing, user, back("none", "zz"))
		for _, h := range []string{"z", "0", hexOf(p)[1:], strings.ToUpper(hexOf(p)), hexOf(p) + "g"} {
			w.fail(api.ErrText, user, back("main", h))
		}
		for _, h := range []string{"", "00", hexOf(p)[2:], hexOf(p) + "00"} {
			w.fail(api.ErrArg, user, back("main", h))
		}
		w.fail(api.ErrMissing, user, back("main", strings.Repeat("0", 64)))
		w.fail(api.ErrMissing, user, back("other", hexOf(p)))
	}
	w.rule(1, "who", "u:bob", "right", "write", "prefix", "a")
	w.refuse(403, "bob", back("main", hexOf(p)))
	w.fail(api.ErrNeeded, "ann", back("main", hexOf(p)))
	w.answer("", "bob", back("main", hexOf(q))) // another one's patch, all of whose paths bob may write
	w.holds("org o used", strconv.Itoa(sizeOf(p)))
	w.refuse(403, "bob", back("main", hexOf(p)))
	w.answer("", "ann", back("main", hexOf(p)))
	w.fail(api.ErrMissing, "ann", back("main", hexOf(p)))
	w.holds("org o used", "0")
	w.fail(api.ErrMissing, "ann", file("main", "a"))
	w.apply(p)
}

// To land: bytes are charged once for all channels, and given back when the last one lets a patch go; one beyond the limit is taken back.
func TestBytes(t *testing.T) {
	p, q := one("ann", "a", "x"), one("ann", "b", "y")
	w := newWorld(t, "bytes", strconv.Itoa(sizeOf(p)+sizeOf(q)-1))
	other := in(api.CallApply, "other")
	w.made("", "ann", in(api.CallChannel, ""), "name", "other")
	w.apply(p)
	w.fail(api.ErrQuota, "ann", in(api.CallApply, "main"), "patch", codeOf(q))
	w.fail(api.ErrQuota, "ann", other, "patch", codeOf(q))
	w.fail(api.ErrMissing, "ann", file("main", "b"))
	w.answer(hexOf(p)+"\n", "ann", in(api.CallLog, "main"))
	w.made(hexOf(p)+"\n", "ann", other, "patch", codeOf(p))
	w.holds("org o used", strconv.Itoa(sizeOf(p)))
	back := func(channel string) api.Call {
		return api.Call{Kind: api.CallUnapply, Org: "o", Channel: channel, Arg: hexOf(p)}
	}
	w.answer("", "ann", back("main"))
	w.holds("org o used", strconv.Itoa(sizeOf(p)))
	w.fail(api.ErrQuota, "ann", in(api.CallApply, "main"), "patch", codeOf(q))
	w.answer("", "ann", back("other"))
	w.holds("org o used", "0")
	w.apply(q)
	w.holds("org o used", strconv.Itoa(sizeOf(q)))
	w.fail(api.ErrQuota, "ann", other, "patch", codeOf(p))
}

// To land: a limit that is just reached, and one of nothing.
func TestBytesEdge(t *testing.T) {
	p := one("ann", "a", "x")
	newWorld(t, "bytes", strconv.Itoa(sizeOf(p))).apply(p)
	w := newWorld(t, "bytes", "0")
	w.fail(api.ErrQuota, "ann", in(api.CallApply, "main"), "patch", codeOf(p))
	w.holds("org o used", "0")
}

// CallApply: MaxPatches of a channel; the limit of bytes is asked behind that.
func TestManyPatches(t *testing.T) {
	w := newWorld(t)
	var log strings.Builder
	for i := range api.MaxPatches {
		p := one("ann", "a/"+strconv.Itoa(i%50), strconv.Itoa(i))
		w.apply(p)
		log.WriteString(hexOf(p) + "\n")
	}
	w.fail(api.ErrLong, "ann", in(api.CallApply, "main"), "patch", codeOf(one("ann", "b", "x")))
	w.answer(log.String(), "ann", in(api.CallLog, "main"))
}

// CallText: the channel, who, the lines; dead lines are not told, but their path has lines.
func TestText(t *testing.T) {
	w := newWorld(t)
	p := patchBy("ann", "", add("a", top, bottom, "one", "", "three"), add("s/x", top, bottom, "\x00\xff %"))
	v := func(i int) api.Vertex { return api.Vertex{Patch: nameOf(p), Line: i} }
	w.apply(p)
	w.fail(api.ErrMissing, "ann", file("none", "a"))
	w.fail(api.ErrMissing, "cy", file("none", "a"))
	w.fail(api.ErrMissing, "ann", file("main", "b"))
	for _, path := range []string{"", "A", "a/", "/", "..", times(65)} {
		w.refuse(403, "ann", file("main", path)) // no path: nobody may read it
	}
	for _, user := range []string{"bob", "cy"} {
		w.refuse(403, user, file("main", "a"))
		w.refuse(403, user, file("main", "b"))
	}
	w.answer("conflicts 0\none\n\nthree\n", "ann", file("main", "a"))
	w.answer("conflicts 0\n\x00\xff %\n", "ann", file("main", "s/x"))
	w.fail(api.ErrMissing, "ann", file("main", "s"))
	w.rule(1, "who", "*", "right", "read", "prefix", "s")
	w.rule(2, "who", "u:ann", "right", "read", "prefix", "a", "deny", "1")
	w.rule(3, "who", "u:bob", "right", "read", "prefix", "a", "channel", "main")
	w.rule(4, "who", "u:cy", "right", "write", "prefix", "a")
	w.refuse(403, "ann", file("main", "a"))
	w.refuse(403, "cy", file("main", "a"))
	w.answer("conflicts 0\none\n\nthree\n", "bob", file("main", "a"))
	w.answer("conflicts 0\n\x00\xff %\n", "cy", file("main", "s/x"))
	w.made("", "ann", in(api.CallFork, "main"), "to", "next")
	w.refuse(403, "bob", file("next", "a"))
	w.apply(patchBy("ann", "", kill("a", v(0)), kill("a", v(1)), kill("s/x", v(3)), add("a", v(0), v(1), "two")))
	w.answer("conflicts 0\ntwo\nthree\n", "bob", file("main", "a"))
	w.answer("conflicts 0\n", "bob", file("main", "s/x"))
	for _, line := range []string{"p", "q", "r"} {
		w.apply(patchBy("ann", line, add("s/x", v(3), bottom, line)))
	}
	if r := w.do("cy", file("main", "s/x")); !strings.HasPrefix(r.Body, "conflicts 3\n") || len(r.Body) != len("conflicts 3\np\nq\nr\n") {
		t.Error(r)
	}
}

// CallLog: patches all of whose paths one may read, in the order in which they came.
func TestLog(t *testing.T) {
	w := newWorld(t)
	open, secret := one("ann", "a", "x"), one("ann", "s", "x")
	both := patchBy("ann", "", add("a/b", top, bottom, "y"), add("s", top, bottom, "y"))
	last := one("ann", "a", "z")
	for _, p := range []api.Patch{last, secret, both, open} {
		w.apply(p)
	}
	w.fail(api.ErrMissing, "ann", in(api.CallLog, "none"))
	w.fail(api.ErrMissing, "cy", in(api.CallLog, ""))
	w.answer(hexOf(last)+"\n"+hexOf(secret)+"\n"+hexOf(both)+"\n"+hexOf(open)+"\n", "ann", in(api.CallLog, "main"))
	w.answer("", "bob", in(api.CallLog, "main"))
	w.rule(1, "who", "t:ops", "right", "read", "prefix", "a")
	w.made("", "ann", in(api.CallTeam, ""), "name", "ops")
	w.answer("", "bob", in(api.CallLog, "main"))
	w.answer("", "ann", of(api.CallPut, "ops"), "user", "bob")
	w.answer(hexOf(last)+"\n"+hexOf(open)+"\n", "bob", in(api.CallLog, "main"))
	w.rule(2, "who", "u:bob", "right", "read", "prefix", "s", "channel", "main")
	w.answer(hexOf(last)+"\n"+hexOf(secret)+"\n"+hexOf(both)+"\n"+hexOf(open)+"\n", "bob", in(api.CallLog, "main"))
	w.rule(3, "who", "*", "right", "read", "prefix", "a/b", "deny", "1")
	w.answer(hexOf(last)+"\n"+hexOf(secret)+"\n"+hexOf(open)+"\n", "bob", in(api.CallLog, "main"))
	w.answer(hexOf(last)+"\n"+hexOf(secret)+"\n"+hexOf(open)+"\n", "ann", in(api.CallLog, "main"))
	w.answer("", "ann", at(api.CallUnrule, 1))
	w.answer(hexOf(secret)+"\n", "bob", in(api.CallLog, "main"))
	w.answer("", "cy", in(api.CallLog, "main"))
}
