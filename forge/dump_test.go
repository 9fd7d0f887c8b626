package forge_test

import (
	"slices"
	"strconv"
	"testing"

	"ingot/api"
	"ingot/forge"
	"ingot/patch"
)

// P26.3: all pairs of a small state.
func TestDump(t *testing.T) {
	w := newWorld(t)
	if got := forge.New(nil).Dump(); len(got) > 0 {
		t.Error(got)
	}
	p := one("ann", "a", "x")
	h := nameOf(p)
	w.apply(p)
	w.made("", "ann", in(api.CallFork, "main"), "to", "a")
	w.made("", "ann", in(api.CallTeam, ""), "name", "ops")
	w.made("", "ann", in(api.CallTeam, ""), "name", "empty")
	w.answer("", "ann", of(api.CallPut, "ops"), "user", "bob")
	w.answer("", "ann", of(api.CallPut, "ops"), "user", "ann")
	for i := range 11 {
		w.rule(i+1, "who", "*", "right", "read")
	}
	for i := range 9 {
		w.answer("", "ann", at(api.CallUnrule, i+1))
	}
	w.rule(12, "who", "u:bob", "right", "write", "channel", "main", "prefix", "a", "deny", "1")
	w.answer("", "ann", in(api.CallPolicy, "main"), "approvals", "3", "veto", "1")
	for i := range 3 {
		w.propose(i+1, one("ann", "b", strconv.Itoa(i)))
		w.answer(strconv.Itoa(i)+"\n", "ann", queueOf("main", i+1))
	}
	w.answer("1 2 130\n", "bob", in(api.CallMerge, "main"))
	w.made("o-x\n", "bob", api.Call{Kind: api.CallOrg}, "name", "o-x")
	text := func(i int) string {
		return "open 1\nauthor ann\nchannel main\npatch " + hexOf(one("ann", "b", strconv.Itoa(i))) + "\nyes\nno\npasses 0\n"
	}
	code, _ := patch.Encode(p)
	want := []api.Pair{
		{Key: "org o head", Value: w.value("org o head")},
		{Key: "org o members", Value: "ann 2,bob 1,"},
		{Key: "org o policy a", Value: "0,0"},
		{Key: "org o policy main", Value: "3,1"},
		{Key: "org o pool c/a", Value: string(h[:])},
		{Key: "org o pool c/main", Value: string(h[:])},
		{Key: "org o pool p/" + hexOf(p), Value: string(code)},
		{Key: "org o proposal 1", Value: text(0)},
		{Key: "org o proposal 2", Value: text(1)},
		{Key: "org o proposal 3", Value: text(2)},
		{Key: "org o queue a", Value: ";"},
		{Key: "org o queue main", Value: "2,3,;1:2:130,"},
		{Key: "org o rule 10", Value: "*,,,1,0"},
		{Key: "org o rule 11", Value: "*,,,1,0"},
		{Key: "org o rule 12", Value: "u:bob,main,a,2,1"},
		{Key: "org o team empty", Value: ""},
		{Key: "org o team ops", Value: "ann,bob,"},
		{Key: "org o used", Value: strconv.Itoa(len(code))},
		{Key: "org o-x head", Value: w.value("org o-x head")},
		{Key: "org o-x members", Value: "bob 2,"},
		{Key: "org o-x used", Value: "0"},
		{Key: "user ann"},
		{Key: "user bob"},
		{Key: "user cy"},
		{Key: "user dee"},
	}
	got := w.f.Dump()
	if !slices.Equal(got, want) {
		t.Errorf("%q\nnot\n%q", got, want)
	}
}

// P26.3: keys rise byte by byte: a rule's number 10 ahead of 2.
func TestDumpRises(t *testing.T) {
	w := newWorld(t)
	for i := range 25 {
		w.rule(i+1, "who", "*", "right", "read")
		w.propose(i+1, one("ann", "a", strconv.Itoa(i)))
	}
	dump := w.f.Dump()
	for i := 1; i < len(dump); i++ {
		if dump[i-1].Key >= dump[i].Key {
			t.Errorf("%q ahead of %q", dump[i-1].Key, dump[i].Key)
		}
	}
	if len(dump) != 4+1+1+1+1+1+1+25+25 {
		t.Error(len(dump))
	}
}
