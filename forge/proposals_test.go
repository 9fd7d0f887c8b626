package forge_test

import (
	"strconv"
	"strings"
	"testing"

	"ingot/api"
	"ingot/audit"
	"ingot/hash"
)

func queueOf(channel string, id int) api.Call {
	return api.Call{Kind: api.CallQueue, Org: "o", Channel: channel, Id: id}
}

// CallPropose: the channel, the patch, who; errors of review.
func TestPropose(t *testing.T) {
	w := newWorld(t)
	propose := in(api.CallPropose, "main")
	for _, user := range []string{"ann", "bob", "cy"} {
		w.fail(api.ErrMissing, user, in(api.CallPropose, "none"), "patch", "zz")
		w.fail(api.ErrText, user, propose, "patch", "zz")
		w.fail(api.ErrCode, user, propose, "patch", "00")
		w.fail(api.ErrCode, user, propose)
	}
	w.refuse(403, "ann", propose, "patch", codeOf(one("bob", "a", "x")))
	w.refuse(403, "bob", propose, "patch", codeOf(one("bob", "a", "x")))
	w.rule(1, "who", "u:bob", "right", "write")
	w.refuse(403, "bob", propose, "patch", codeOf(one("bob", "a", "x"))) // who writes does not read for that
	w.rule(2, "who", "u:bob", "right", "read", "prefix", "a", "channel", "main")
	w.refuse(403, "bob", propose, "patch", codeOf(patchBy("bob", "", add("a", top, bottom, "x"), add("b", top, bottom, "x"))))
	w.propose(1, one("bob", "a", "x"))
	w.fail(api.ErrThere, "bob", propose, "patch", codeOf(one("bob", "a", "x")))
	w.made("", "ann", in(api.CallChannel, ""), "name", "other")
	w.refuse(403, "bob", in(api.CallPropose, "other"), "patch", codeOf(one("bob", "a", "x")))
	w.propose(2, one("ann", "a", "x"))
	w.made("3\n", "ann", in(api.CallPropose, "other"), "patch", codeOf(one("ann", "a", "x")))
	w.apply(one("ann", "a", "applied"))
	w.propose(4, one("ann", "a", "applied"))
	w.propose(5, patchBy("ann", "", kill("a", api.Vertex{Patch: api.Hash{1}}))) // whether it can be applied is not asked
	for i := 6; i <= api.MaxOpen; i++ {
		w.propose(i, one("ann", "a", strconv.Itoa(i)))
	}
	w.fail(api.ErrLong, "ann", propose, "patch", codeOf(one("ann", "a", "more")))
	w.fail(api.ErrThere, "ann", propose, "patch", codeOf(one("ann", "a", "7")))
	w.answer("0\n", "ann", queueOf("main", 2))
	w.answer("2 1 0\n", "bob", in(api.CallMerge, "main"))
	w.propose(65, one("ann", "a", "more"))
	w.fail(api.ErrLong, "ann", propose, "patch", codeOf(one("ann", "a", "still more")))
}

// The kinds that name a proposal: one that is not there fails, whoever asks.
func TestNoProposal(t *testing.T) {
	w := newWorld(t)
	w.made("p\n", "cy", api.Call{Kind: api.CallOrg}, "name", "p")
	w.propose(1, one("ann", "a", "x"))
	for _, user := range []string{"ann", "bob", "cy"} {
		for _, id := range []int{0, -1, 2, 1 << 31, -1 << 63, 1<<63 - 1} {
			for _, kind := range []int{api.CallVote, api.CallSay, api.CallProposal} {
				w.fail(api.ErrMissing, user, at(kind, id), "vote", "x")
			}
			w.fail(api.ErrMissing, user, queueOf("main", id))
			w.fail(api.ErrMissing, user, queueOf("none", id))
		}
		w.fail(api.ErrMissing, user, queueOf("none", 1))
	}
	w.fail(api.ErrMissing, "cy", api.Call{Kind: api.CallProposal, Org: "p", Id: 1})
}

// CallVote: who may write; the words; errors of review.
func TestVote(t *testing.T) {
	w := newWorld(t)
	w.rule(1, "who", "u:bob", "right", "read")
	w.propose(1, patchBy("bob", "", add("a", top, bottom, "x"), add("b", top, bottom, "x")))
	vote := at(api.CallVote, 1)
	for _, word := range []string{"yes", "no", "none", "x"} {
		w.refuse(403, "bob", vote, "vote", word) // who may not write it
		w.refuse(403, "cy", vote, "vote", word)
	}
	w.rule(2, "who", "*", "right", "write", "prefix", "a")
	w.refuse(403, "cy", vote, "vote", "yes")
	w.rule(3, "who", "u:cy", "right", "write", "prefix", "b", "channel", "main")
	w.rule(4, "who", "u:bob", "right", "write")
	for _, word := range []string{"", "Yes", "yes ", "1", "unvote"} {
		w.fail(api.ErrArg, "cy", vote, "vote", word)
		w.fail(api.ErrArg, "bob", vote, "vote", word)
	}
	w.fail(api.ErrArg, "cy", vote)
	w.fail(api.ErrOwn, "bob", vote, "vote", "yes")
	w.fail(api.ErrOwn, "bob", vote, "vote", "no")
	w.fail(api.ErrMissing, "bob", vote, "vote", "none")
	w.fail(api.ErrMissing, "cy", vote, "vote", "none")
	w.answer("", "cy", vote, "vote", "yes")
	w.answer("", "ann", vote, "vote", "yes")
	w.has(1, "\nyes ann cy\nno\n")
	w.answer("", "cy", vote, "vote", "no")
	w.has(1, "\nyes ann\nno cy\n")
	w.answer("", "ann", vote, "vote", "no")
	w.has(1, "\nyes\nno ann cy\n")
	w.answer("", "cy", vote, "vote", "none")
	w.has(1, "\nyes\nno ann\n")
	w.answer("0\n", "ann", queueOf("main", 1))
	w.answer("1 1 0\n", "bob", in(api.CallMerge, "main"))
	for _, word := range []string{"yes", "no", "none"} {
		w.fail(api.ErrClosed, "ann", vote, "vote", word)
		w.fail(api.ErrClosed, "bob", vote, "vote", word)
	}
	w.fail(api.ErrArg, "ann", vote, "vote", "x")
	w.has(1, "\nyes\nno ann\n")
}

// has holds a piece of a proposal's text, as ann and Dump tell it.
func (w *world) has(id int, piece string) {
	w.Helper()
	r := w.do("ann", at(api.CallProposal, id))
	if r.Status != 200 || !strings.Contains(r.Body, piece) {
		w.Errorf("%q has no %q", r.Body, piece)
	}
	w.holds("org o proposal "+strconv.Itoa(id), r.Body)
}

// CallSay: who may read; of a closed one, too; errors of review.
func TestSay(t *testing.T) {
	w := newWorld(t)
	w.propose(1, one("ann", "a", "x"))
	say := at(api.CallSay, 1)
	w.refuse(403, "bob", say, "text", "x")
	w.refuse(403, "bob", say, "text", times(201))
	w.rule(1, "who", "u:bob", "right", "write")
	w.refuse(403, "bob", say, "text", "x")
	w.rule(2, "who", "*", "right", "read", "channel", "main")
	w.answer("", "cy", say, "text", "a b\n&=é%")
	w.answer("", "bob", say)
	w.answer("", "ann", say, "text", times(200))
	w.fail(api.ErrLong, "ann", say, "text", times(201))
	w.has(1, "\npasses 1\nsay cy a+b%0A%26%3D%C3%A9%25\nsay bob \nsay ann "+times(200)+"\n")
	w.answer("0\n", "ann", queueOf("main", 1))
	w.answer("1 1 0\n", "bob", in(api.CallMerge, "main"))
	for i := 3; i < api.MaxTalk; i++ {
		w.answer("", "dee", say, "text", strconv.Itoa(i))
	}
	w.fail(api.ErrLong, "dee", say, "text", "more")
	w.has(1, "\nsay dee 31\n")
}

// CallProposal: the text, line by line.
func TestProposalText(t *testing.T) {
	w := newWorld(t)
	p := one("ann", "a", "x")
	w.propose(1, p)
	w.refuse(403, "bob", at(api.CallProposal, 1))
	w.answer("open 1\nauthor ann\nchannel main\npatch "+hexOf(p)+"\nyes\nno\npasses 1\n", "ann", at(api.CallProposal, 1))
	w.answer("", "ann", in(api.CallPolicy, "main"), "approvals", "2", "veto", "1")
	w.rule(1, "who", "*", "right", "write")
	w.rule(2, "who", "u:dee", "right", "read", "prefix", "a")
	w.answer("open 1\nauthor ann\nchannel main\npatch "+hexOf(p)+"\nyes\nno\npasses 0\n", "dee", at(api.CallProposal, 1))
	w.refuse(403, "bob", at(api.CallProposal, 1))
	w.answer("", "dee", at(api.CallVote, 1), "vote", "yes")
	w.answer("", "cy", at(api.CallVote, 1), "vote", "yes")
	w.answer("", "bob", at(api.CallVote, 1), "vote", "no")
	w.answer("open 1\nauthor ann\nchannel main\npatch "+hexOf(p)+"\nyes cy dee\nno bob\npasses 0\n", "dee", at(api.CallProposal, 1))
	w.answer("", "bob", at(api.CallVote, 1), "vote", "none")
	w.answer("open 1\nauthor ann\nchannel main\npatch "+hexOf(p)+"\nyes cy dee\nno\npasses 1\n", "dee", at(api.CallProposal, 1))
	w.answer("0\n", "ann", queueOf("main", 1))
	w.answer("1 1 0\n", "bob", in(api.CallMerge, "main"))
	w.answer("open 0\nauthor ann\nchannel main\npatch "+hexOf(p)+"\nyes cy dee\nno\npasses 0\n", "dee", at(api.CallProposal, 1))
	// The policy that counts is that of the proposal's own channel.
	w.made("", "ann", in(api.CallChannel, ""), "name", "other")
	w.made("2\n", "ann", in(api.CallPropose, "other"), "patch", codeOf(p))
	w.answer("open 1\nauthor ann\nchannel other\npatch "+hexOf(p)+"\nyes\nno\npasses 1\n", "dee", at(api.CallProposal, 2))
	w.holds("org o proposal 2", "open 1\nauthor ann\nchannel other\npatch "+hexOf(p)+"\nyes\nno\npasses 1\n")
}

// CallQueue: the channel and the proposal's own, who, open ones alone; errors of queue.
func TestQueue(t *testing.T) {
	w := newWorld(t)
	w.made("", "ann", in(api.CallChannel, ""), "name", "other")
	w.rule(1, "who", "u:bob", "right", "read")
	w.propose(1, one("bob", "a", "x"))
	w.propose(2, one("ann", "a", "x"))
	w.made("3\n", "ann", in(api.CallPropose, "other"), "patch", codeOf(one("ann", "a", "x")))
	for _, user := range []string{"ann", "bob", "cy"} {
		w.fail(api.ErrMissing, user, queueOf("other", 1))
		w.fail(api.ErrMissing, user, queueOf("main", 3))
		w.fail(api.ErrMissing, user, queueOf("none", 1))
	}
	w.refuse(403, "bob", queueOf("main", 1))
	w.rule(2, "who", "u:bob", "right", "write", "channel", "main")
	w.answer("0\n", "bob", queueOf("main", 1))
	w.fail(api.ErrThere, "bob", queueOf("main", 1))
	w.answer("1\n", "bob", queueOf("main", 2))
	w.fail(api.ErrThere, "ann", queueOf("main", 2))
	w.refuse(403, "bob", queueOf("other", 3))
	w.answer("0\n", "ann", queueOf("other", 3))
	w.holds("org o queue main", "1,2,;")
	w.holds("org o queue other", "3,;")
	w.answer("1 1 0\n", "bob", in(api.CallMerge, "main"))
	w.fail(api.ErrClosed, "bob", queueOf("main", 1))
	w.refuse(403, "cy", queueOf("main", 1))
	w.holds("org o queue main", "2,;1:1:0,")
}

// CallMerge: members alone; what becomes of what waits, and why.
func TestMerge(t *testing.T) {
	w := newWorld(t, "bytes", "150")
	merge := in(api.CallMerge, "main")
	w.fail(api.ErrMissing, "ann", in(api.CallMerge, "none"))
	w.fail(api.ErrMissing, "cy", in(api.CallMerge, "none"))
	w.refuse(403, "cy", merge)
	w.fail(api.ErrMissing, "bob", merge)
	applied := one("ann", "a", "applied")
	w.apply(applied)
	w.propose(1, applied)
	w.propose(2, patchBy("ann", "", kill("b", api.Vertex{Patch: nameOf(applied)})))
	w.propose(3, one("ann", "b", times(200)))
	w.propose(4, one("ann", "b", "good"))
	w.propose(5, patchBy("ann", "", kill("a", api.Vertex{Patch: api.Hash{7}})))
	for i := 1; i <= 5; i++ {
		w.answer(strconv.Itoa(i-1)+"\n", "ann", queueOf("main", i))
	}
	w.refuse(403, "cy", merge)
	w.answer("1 2 110\n", "bob", merge)
	w.answer("2 2 111\n", "bob", merge)
	w.answer("3 2 180\n", "ann", merge)
	w.answer("4 1 0\n", "bob", merge)
	w.answer("5 2 111\n", "bob", merge)
	w.fail(api.ErrMissing, "bob", merge)
	w.holds("org o queue main", ";1:2:110,2:2:111,3:2:180,4:1:0,5:2:111,")
	w.holds("org o used", strconv.Itoa(sizeOf(applied)+sizeOf(one("ann", "b", "good"))))
	w.answer("conflicts 0\ngood\n", "ann", file("main", "b"))
	for i := 1; i <= 5; i++ {
		w.has(i, "open "+strconv.Itoa(1-i/4+i/5))
	}
	// What was rejected may wait again.
	w.answer("", "ann", api.Call{Kind: api.CallUnapply, Org: "o", Channel: "main", Arg: hexOf(applied)})
	w.answer("0\n", "ann", queueOf("main", 1))
	w.answer("1 1 0\n", "bob", merge)
	w.answer("conflicts 0\napplied\n", "ann", file("main", "a"))
}

// CallMerge: a proposal is merged by the policy at that moment: votes for it, each once, and none against it where there is a veto.
func TestMergeByPolicy(t *testing.T) {
	w := newWorld(t)
	w.rule(1, "who", "*", "right", "write")
	merge := in(api.CallMerge, "main")
	try := func(id int, want string) {
		t.Helper()
		w.answer("0\n", "ann", queueOf("main", id))
		w.answer(strconv.Itoa(id)+want, "bob", merge)
	}
	w.propose(1, one("ann", "a", "x"))
	w.answer("", "ann", in(api.CallPolicy, "main"), "approvals", "2")
	w.answer("", "bob", at(api.CallVote, 1), "vote", "yes")
	try(1, " 2 130\n")
	w.answer("", "bob", at(api.CallVote, 1), "vote", "yes")
	try(1, " 2 130\n")
	w.answer("", "cy", at(api.CallVote, 1), "vote", "yes")
	w.answer("", "dee", at(api.CallVote, 1), "vote", "no")
	w.answer("", "ann", in(api.CallPolicy, "main"), "approvals", "2", "veto", "1")
	try(1, " 2 130\n")
	w.answer("0\n", "ann", queueOf("main", 1))
	w.answer("", "dee", at(api.CallVote, 1), "vote", "none")
	w.answer("1 1 0\n", "bob", merge)
	w.propose(2, one("ann", "b", "x"))
	w.answer("0\n", "ann", queueOf("main", 2))
	w.answer("", "ann", in(api.CallPolicy, "main"), "approvals", "0")
	w.answer("2 1 0\n", "ann", merge)
	// A channel with a veto alone merges what nobody speaks against.
	w.answer("", "ann", in(api.CallPolicy, "main"), "approvals", "0", "veto", "1")
	w.propose(3, one("ann", "c", "x"))
	w.answer("", "dee", at(api.CallVote, 3), "vote", "no")
	try(3, " 2 130\n")
	w.answer("", "dee", at(api.CallVote, 3), "vote", "yes")
	try(3, " 1 0\n")
}

// CallAudit: owners alone; the entries and the head; P26.2: what is noted of a call.
func TestAudit(t *testing.T) {
	w := newWorld(t)
	w.refuse(403, "bob", in(api.CallAudit, ""))
	w.refuse(403, "cy", in(api.CallAudit, ""))
	w.now = 7
	w.made("", "ann", api.Call{Kind: api.CallTeam, Org: "o", Channel: "x y", Arg: "é/", Id: -5}, "name", "ops")
	w.now = 8
	w.fail(api.ErrThere, "ann", api.Call{Kind: api.CallTeam, Org: "o"}, "name", "ops")
	w.refuse(403, "bob", api.Call{Kind: api.CallTeam, Org: "o"}, "name", "ops")
	w.fail(api.ErrMissing, "ann", file("main", "a"))
	w.answer("", "ann", in(api.CallLog, "main"))
	w.now = 9
	w.propose(1, one("ann", "a", "x"))
	w.answer("0\n", "ann", queueOf("main", 1))
	w.answer("", "ann", in(api.CallPolicy, "main"), "approvals", "1")
	w.answer("1 2 130\n", "bob", in(api.CallMerge, "main")) // rejected, but it answered
	w.now = 4                                               // the tick stays
	w.answer("", "ann", at(api.CallSay, 1), "text", "it waits")
	text := []string{"1 0 ann 4   0", "2 0 ann 11   0", "3 0 ann 5  bob 0", "4 7 ann 7 x+y %C3%A9%2F 0", "5 9 ann 18 main  0", "6 9 ann 22 main  1", "7 9 ann 13 main  0", "8 9 bob 23 main  0", "9 9 ann 20   1"}
	log := audit.New()
	for _, line := range text {
		f := strings.SplitN(line, " ", 4)
		tick, _ := strconv.Atoi(f[1])
		if _, e := log.Append(tick, f[2], f[3]); e != api.OK {
			t.Fatal(int(e))
		}
	}
	head := log.Head()
	w.answer(strings.Join(text, "\n")+"\n"+hash.Hex(head[:])+"\n", "ann", in(api.CallAudit, ""))
	w.holds("org o head", hash.Hex(head[:]))
}
