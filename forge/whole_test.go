package forge_test

import (
	"fmt"
	"math/rand"
	"slices"
	"strconv"
	"strings"
	"testing"

	"ingot/api"
	"ingot/audit"
	"ingot/forge"
	"ingot/hash"
	"ingot/patch"
)

// W2, P26.4: what bob reads is the same in two forges, of which only one has the patches of which he may read no path.
func TestNoninterference(t *testing.T) {
	reads, secrets := 0, 0
	for seed := range int64(20) {
		r := rand.New(rand.NewSource(seed))
		with, without := newWorld(t, "bytes", "999999999999", "rate", "999999999999"), newWorld(t, "bytes", "999999999999", "rate", "999999999999")
		twice := func(user string, c api.Call, l ...string) {
			with.do(user, c, l...)
			without.do(user, c, l...)
		}
		m := &model{} // of the channels, with and without the secret patches
		m.orgs = []*modelOrg{{name: "o", channels: map[string]*modelChannel{"open": newModelChannel(), "all": newModelChannel()}}}
		k, open, all := maker{r, m}, m.orgs[0].channels["open"], m.orgs[0].channels["all"]
		twice("ann", in(api.CallRule, ""), "who", "*", "right", "write")
		twice("ann", in(api.CallRule, ""), "who", "*", "right", "read")
		twice("ann", in(api.CallRule, ""), "who", "u:bob", "right", "read", "prefix", "s", "deny", "1")
		for range 60 {
			user := pick(r, "ann", "cy", "dee")
			switch p := k.patch(user, open); r.Intn(9) {
			case 0, 1, 2: // of which bob may read something, and which needs nothing secret
				if p.Author == user && isOpen(p) {
					twice(user, in(api.CallApply, "main"), "patch", codeOf(p))
					open.Apply(p)
					all.Apply(p)
				}
			case 3, 4, 5:
				if p := secretOf(k, user, all); with.do(user, in(api.CallApply, "main"), "patch", codeOf(p)).Status == 201 {
					all.Apply(p)
					secrets++
				}
			case 6: // of what no secret patch needs, as that could not be taken back
				if h := k.hash(pick(r, open, all)); takenBack(open, h) == takenBack(all, h) || takenBack(open, h) == api.ErrMissing {
					twice(user, api.Call{Kind: api.CallUnapply, Org: "o", Channel: "main", Arg: h})
					open.Unapply(hashOf(h))
					all.Unapply(hashOf(h))
				}
			case 7:
				twice(p.Author, in(api.CallPropose, "main"), "patch", codeOf(p))
				twice(user, at(api.CallVote, 1+r.Intn(5)), "vote", pick(r, "yes", "no", "none"))
			default:
				twice("ann", in(api.CallPolicy, "main"), "approvals", "0", "veto", pick(r, "", "1"))
			}
			for _, c := range readsOf() {
				a, b := with.do("bob", c), without.do("bob", c)
				if a != b {
					t.Fatalf("%v: %v, and %v without what bob may not read", c, a, b)
				}
				reads += len(a.Body)
			}
		}
	}
	if reads < 100000 || secrets < 200 {
		t.Error(reads, secrets)
	}
}

func hashOf(text string) api.Hash {
	var h api.Hash
	b, _ := hash.Unhex(text)
	copy(h[:], b)
	return h
}

// takenBack tells what Unapply would answer.
func takenBack(c *modelChannel, text string) api.Errno { return c.Clone().Unapply(hashOf(text)) }

// readsOf tells calls that read all there is to read of main.
func readsOf() []api.Call {
	out := []api.Call{in(api.CallLog, "main")}
	for _, path := range append(somePaths, "none", "") {
		out = append(out, file("main", path))
	}
	for id := range 6 {
		out = append(out, at(api.CallProposal, id))
	}
	return out
}

func isSecret(path string) bool { return path == "s" || strings.HasPrefix(path, "s/") }

func isOpen(p api.Patch) bool {
	return slices.ContainsFunc(patch.Paths(p), func(s string) bool { return !isSecret(s) })
}

// secretOf makes a patch all of whose paths are secret.
func secretOf(k maker, author string, c *modelChannel) api.Patch {
	for {
		if p := k.patch(author, c); p.Author == author && !slices.ContainsFunc(patch.Paths(p), func(s string) bool { return !isSecret(s) }) {
			return p
		}
	}
}

// logsOf tells the logs of o's channels, as Dump tells them, each hash as a text of digits.
func logsOf(f *forge.Forge, org string) map[string][]string {
	out := map[string][]string{}
	for _, p := range f.Dump() {
		if name, is := strings.CutPrefix(p.Key, "org "+org+" pool c/"); is {
			out[name] = []string{}
			for b := []byte(p.Value); len(b) > 0; b = b[32:] {
				out[name] = append(out[name], hash.Hex(b[:32]))
			}
		}
	}
	return out
}

func valueOf(dump []api.Pair, key string) string {
	for _, p := range dump {
		if p.Key == key {
			return p.Value
		}
	}
	return ""
}

// W3, P26.5: each patch comes into a channel by its author's CallApply, while the channel asks for no approvals; by CallMerge of a proposal of its author's that passes; or by CallFork.
func TestIntegrity(t *testing.T) {
	came := map[int]int{}
	for seed := range int64(100) {
		r := rand.New(rand.NewSource(1000 + seed))
		m, f := begun(t, r)
		k := maker{r, m}
		for range 250 {
			c := k.call()
			before, logs := f.Dump(), logsOf(f, c.Org)
			reply := both(t, m, f, c, m.tick+r.Intn(2))
			for name, log := range logsOf(f, c.Org) {
				old, there := logs[name]
				if slices.Equal(log, old) {
					continue
				}
				if !there {
					if c.Kind != api.CallChannel && c.Kind != api.CallFork || len(log) > 0 && !slices.Equal(log, logs[c.Channel]) {
						t.Fatalf("%v made %s: %v", c, name, log)
					}
					continue
				}
				came[c.Kind]++
				holdChange(t, f, before, c, reply, name, old, log)
			}
		}
	}
	if came[api.CallApply] < 200 || came[api.CallUnapply] < 100 || came[api.CallMerge] < 50 || len(came) != 3 {
		t.Error(came)
	}
}

// holdChange holds how the log of a channel that was there has changed.
func holdChange(t *testing.T, f *forge.Forge, before []api.Pair, c api.Call, reply api.Reply, name string, old, log []string) {
	t.Helper()
	user := strings.Split(c.Token, ".")[1]
	approvals, _, _ := strings.Cut(valueOf(before, "org "+c.Org+" policy "+name), ",")
	if name != c.Channel {
		t.Fatalf("%v changed %s", c, name)
	}
	if c.Kind == api.CallUnapply {
		if approvals != "0" || !slices.Equal(log, slices.DeleteFunc(slices.Clone(old), func(h string) bool { return h == c.Arg })) {
			t.Fatalf("%v: %v, behind %v, with %s approvals", c, log, old, approvals)
		}
		return
	}
	last := log[len(log)-1]
	if !slices.Equal(log[:len(log)-1], old) {
		t.Fatalf("%v: %v, behind %v", c, log, old)
	}
	p, e := patch.Decode([]byte(valueOf(f.Dump(), "org "+c.Org+" pool p/"+last)))
	if e != api.OK {
		t.Fatal(int(e))
	}
	switch c.Kind {
	case api.CallApply:
		if p.Author != user || approvals != "0" || reply.Body != last+"\n" {
			t.Fatalf("%v brought %v, with %s approvals", c, p, approvals)
		}
	case api.CallMerge:
		id, end, _ := strings.Cut(reply.Body, " ")
		text := valueOf(before, "org "+c.Org+" proposal "+id)
		if end != "1 0\n" || !strings.HasPrefix(text, "open 1\nauthor "+p.Author+"\nchannel "+name+"\npatch "+last+"\n") || !strings.Contains(text, "\npasses 1\n") {
			t.Fatalf("%v brought %v of %q: %q", c, p, text, reply.Body)
		}
		if line := strings.Split(text, "\n")[4]; strconv.Itoa(strings.Count(line, " ")) < approvals || strings.Contains(line, p.Author) {
			t.Fatalf("%q, with %s approvals", line, approvals)
		}
	default:
		t.Fatalf("%v brought %v", c, p)
	}
}

// W4: what is called in p changes nothing in o, and nothing that is replied there.
func TestTenants(t *testing.T) {
	left := 0
	for seed := range int64(60) {
		r := rand.New(rand.NewSource(2000 + seed))
		m, f := begun(t, r)
		_, g := begun(t, rand.New(rand.NewSource(2000+seed)))
		k, now := maker{r, m}, m.tick
		for range 250 {
			now += r.Intn(2)
			c := k.call()
			reply := both(t, m, f, c, now)
			if c.Kind >= api.CallJoin && c.Org == "p" {
				left++
				continue
			}
			if got := g.Do(c, now); got != reply {
				t.Fatalf("%v: %v, and %v without p's calls", c, reply, got)
			}
			if a, b := without(f.Dump(), "org p "), without(g.Dump(), "org p "); !slices.Equal(a, b) {
				t.Fatalf("behind %v: %q, and %q without p's calls", c, a, b)
			}
		}
	}
	if left < 1000 {
		t.Error(left)
	}
}

func without(dump []api.Pair, begin string) []api.Pair {
	return slices.DeleteFunc(dump, func(p api.Pair) bool { return strings.HasPrefix(p.Key, begin) })
}

// W6: all proposals that wait end, one with each merge, in the order in which they were queued, however they were voted on.
func TestQueuesGoOn(t *testing.T) {
	ends := map[string]int{}
	for seed := range int64(40) {
		r := rand.New(rand.NewSource(seed))
		w := newWorld(t, "bytes", "700")
		w.rule(1, "who", "*", "right", "write")
		w.answer("", "ann", in(api.CallPolicy, "main"), "approvals", strconv.Itoa(r.Intn(3)), "veto", strconv.Itoa(r.Intn(2)))
		n := 1 + r.Intn(30)
		var order []int
		for i := range n {
			w.propose(i+1, patchBy("ann", strconv.Itoa(i%20), add("a", top, bottom, times(r.Intn(100)), strconv.Itoa(i))))
			order = append(order, i+1)
		}
		r.Shuffle(n, func(i, j int) { order[i], order[j] = order[j], order[i] })
		for place, id := range order {
			w.answer(strconv.Itoa(place)+"\n", "ann", queueOf("main", id))
		}
		for _, id := range order {
			for _, user := range []string{"bob", "cy", "dee"} {
				w.do(user, at(api.CallVote, 1+r.Intn(n)), "vote", pick(r, "yes", "yes", "no", "none"))
			}
			reply := w.do(pick(r, "ann", "bob"), in(api.CallMerge, "main"))
			f := strings.Fields(reply.Body)
			if reply.Status != 200 || f[0] != strconv.Itoa(id) {
				t.Fatal(reply, id)
			}
			ends[strings.Join(f[1:], " ")]++
		}
		w.fail(api.ErrMissing, "ann", in(api.CallMerge, "main"))
	}
	if ends["1 0"] < 50 || ends["2 130"] < 50 || ends["2 180"] < 5 {
		t.Error(ends)
	}
}

// W7: the same patches, in any order in which they can come, show the same texts; taken back, they leave what was.
func TestAnyOrder(t *testing.T) {
	for seed := range int64(30) {
		r := rand.New(rand.NewSource(seed))
		w := newWorld(t, "bytes", "999999999999", "rate", "999999999999")
		m := &model{}
		c := newModelChannel()
		var all []api.Patch
		for range 25 {
			if p := (maker{r, m}).patch("ann", c); p.Author == "ann" {
				if _, e := c.Apply(p); e == api.OK {
					all = append(all, p)
				}
			}
		}
		var want []api.Reply
		for _, channel := range []string{"main", "x", "y", "z"} {
			if channel != "main" {
				w.made("", "ann", in(api.CallChannel, ""), "name", channel)
			}
			for _, p := range shuffled(r, all) {
				before := textsOf(w, channel)
				w.made(hexOf(p)+"\n", "ann", in(api.CallApply, channel), "patch", codeOf(p))
				after := textsOf(w, channel)
				w.answer("", "ann", api.Call{Kind: api.CallUnapply, Org: "o", Channel: channel, Arg: hexOf(p)})
				if got := textsOf(w, channel); !slices.Equal(got, before) {
					t.Fatalf("%v, not %v", got, before)
				}
				w.made(hexOf(p)+"\n", "ann", in(api.CallApply, channel), "patch", codeOf(p))
				if got := textsOf(w, channel); !slices.Equal(got, after) {
					t.Fatalf("%v, not %v", got, after)
				}
			}
			got := textsOf(w, channel)
			if want == nil {
				want = got
			}
			if !slices.Equal(got, want) {
				t.Fatalf("%v, not %v", got, want)
			}
		}
	}
}

// textsOf tells what ann reads in a channel.
func textsOf(w *world, channel string) []api.Reply {
	var out []api.Reply
	for _, path := range somePaths {
		out = append(out, w.f.Do(api.Call{Kind: api.CallText, Token: w.tokens["ann"], Org: "o", Channel: channel, Arg: path}, 0))
	}
	return out
}

// shuffled tells patches in another order, each behind those that it needs.
func shuffled(r *rand.Rand, all []api.Patch) []api.Patch {
	left, told := slices.Clone(all), map[api.Hash]bool{}
	var out []api.Patch
	for len(left) > 0 {
		i := r.Intn(len(left))
		if slices.ContainsFunc(left[i].Deps, func(h api.Hash) bool { return !told[h] }) {
			continue
		}
		told[nameOf(left[i])] = true
		out = append(out, left[i])
		left = slices.Delete(left, i, i+1)
	}
	return out
}

// W5, P26.2: audit logs are just what changed, in order, and a chain.
func TestAuditLogs(t *testing.T) {
	noted := 0
	for seed := range int64(60) {
		r := rand.New(rand.NewSource(3000 + seed))
		m, f := begun(t, r)
		k := maker{r, m}
		want := map[string]*audit.Log{}
		text := map[string]string{}
		for _, org := range someOrgs {
			if o := m.find(org); o != nil {
				want[org], _ = audit.Load(o.entries)
				for _, e := range o.entries {
					text[org] += fmt.Sprintf("%d %d %s %s\n", e.Seq, e.Tick, e.Who, e.What)
				}
			}
		}
		for range 200 {
			c := k.call()
			now := m.tick + r.Intn(2)
			reply := both(t, m, f, c, now)
			if c.Kind < api.CallOrg || isRead(c.Kind) || reply.Status != 200 && reply.Status != 201 {
				continue
			}
			org := c.Org
			if c.Kind == api.CallOrg {
				org = strings.TrimSuffix(reply.Body, "\n")
				want[org] = audit.New()
			}
			e, errno := want[org].Append(now, strings.Split(c.Token, ".")[1], fmt.Sprintf("%d %s %s %d", c.Kind, escape(c.Channel), escape(c.Arg), max(0, c.Id)))
			if errno != api.OK {
				t.Fatal(int(errno))
			}
			text[org] += fmt.Sprintf("%d %d %s %s\n", e.Seq, e.Tick, e.Who, e.What)
			noted++
		}
		for org, log := range want {
			head := log.Head()
			if got := valueOf(f.Dump(), "org "+org+" head"); got != hash.Hex(head[:]) {
				t.Fatal(org, got)
			}
			for user, role := range m.find(org).roles {
				if token := k.token(user); role == api.RoleOwner && token != "" {
					if reply := both(t, m, f, api.Call{Kind: api.CallAudit, Token: token, Org: org}, m.tick+100); reply.Status == 200 && reply.Body != text[org]+hash.Hex(head[:])+"\n" {
						t.Fatalf("%q, not %q", reply.Body, text[org])
					}
				}
			}
		}
	}
	if noted < 1000 {
		t.Error(noted)
	}
}

// P26.7: without a token that holds, nothing but CallSignup and CallToken changes anything.
func TestNoToken(t *testing.T) {
	r := rand.New(rand.NewSource(1))
	m, f := begun(t, r)
	k := maker{r, m}
	for range 2000 {
		c := k.call()
		if c.Kind < api.CallRevoke {
			continue
		}
		c.Token = pick(r, "", "x", strings.ToUpper(c.Token), c.Token+"0", strings.Replace(c.Token, "bob", "ann", 1), strings.Replace(c.Token, "400", "500", 1), "9"+c.Token)
		if c.Token == "" || slices.ContainsFunc(m.tokens, func(x *modelToken) bool { return x.text == c.Token }) {
			c.Token = "1"
		}
		before := f.Dump()
		reply := f.Do(c, 3)
		if c.Kind <= api.CallAudit && reply.Status != 401 || reply.Status < 300 || !slices.Equal(before, f.Dump()) {
			t.Fatal(c, reply)
		}
	}
}
