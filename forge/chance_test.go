package forge_test

import (
	"math/rand"
	"slices"
	"strconv"
	"strings"
	"testing"

	"ingot/api"
	"ingot/forge"
)

func pick[T any](r *rand.Rand, of ...T) T { return of[r.Intn(len(of))] }

var (
	someUsers    = []string{"ann", "bob", "cy", "dee"}
	someOrgs     = []string{"o", "p"}
	someChannels = []string{"main", "side", "next"}
	somePaths    = []string{"a", "a/b", "b", "s", "s/x"}
)

// maker makes calls by chance, such as have something to do with what a model has.
type maker struct {
	*rand.Rand
	m *model
}

// token picks one of a user's that holds, if there is one; now and then another one.
func (k maker) token(user string) string {
	if k.Intn(40) == 0 && len(k.m.tokens) > 0 {
		return pick(k.Rand, k.m.tokens...).text + pick(k.Rand, "", "x")
	}
	for _, x := range slices.Backward(k.m.tokens) {
		if x.user == user && !x.back && k.m.tick < x.until {
			return x.text
		}
	}
	return pick(k.Rand, "", "1.ann.5.00")
}

// channelOf tells a channel of an organisation in the model, if there is one.
func (k maker) channelOf(org, name string) *modelChannel {
	if o := k.m.find(org); o != nil {
		return o.channels[name]
	}
	return nil
}

// line picks a line of a path that is there, if there is one.
func (k maker) line(c *modelChannel, path string) (api.Vertex, bool) {
	if c == nil {
		return api.Vertex{}, false
	}
	shown := c.Shown(path)
	if len(shown) == 0 {
		return api.Vertex{}, false
	}
	return pick(k.Rand, shown...).Vertex, true
}

func (k maker) op(c *modelChannel) api.Op {
	path := pick(k.Rand, somePaths...)
	v, is := k.line(c, pick(k.Rand, path, path, path, "a"))
	switch n := k.Intn(5); {
	case !is || n == 0:
		return add(path, top, bottom, pick(k.Rand, "x", "y", times(1+k.Intn(30))))
	case n == 1:
		return kill(path, v)
	case n == 2:
		return add(path, top, v, "ahead")
	case n == 3:
		if u, is := k.line(c, path); is && u != v {
			return add(path, v, u, "between")
		}
	}
	return add(path, v, bottom, "behind", "it")
}

// patch makes one that may be applied to a channel, or not.
func (k maker) patch(author string, c *modelChannel) api.Patch {
	if k.Intn(12) == 0 {
		author = pick(k.Rand, someUsers...)
	}
	var ops []api.Op
	for range 1 + k.Intn(3)*k.Intn(2) {
		ops = append(ops, k.op(c))
	}
	return patchBy(author, pick(k.Rand, "", "1", "2", "3"), ops...)
}

func (k maker) code(author string, c *modelChannel) string {
	switch k.Intn(30) {
	case 0:
		return pick(k.Rand, "", "0", "zz", "00", "50016100")
	case 1:
		if c != nil && len(c.Log()) > 0 {
			p, _ := c.Patch(pick(k.Rand, c.Log()...))
			return codeOf(p)
		}
	}
	return codeOf(k.patch(author, c))
}

func (k maker) hash(c *modelChannel) string {
	if c == nil || len(c.Log()) == 0 || k.Intn(20) == 0 {
		return pick(k.Rand, "", "00", "x", strings.Repeat("0", 64), times(63))
	}
	p, _ := c.Patch(pick(k.Rand, c.Log()...))
	return hexOf(p)
}

func (k maker) id(org string) int {
	if o := k.m.find(org); o != nil && len(o.proposals) > 0 && k.Intn(15) > 0 {
		return 1 + k.Intn(len(o.proposals))
	}
	return pick(k.Rand, 0, -1, 1, 2, 99, 1<<40)
}

func (k maker) number() string {
	return pick(k.Rand, "", "0", "1", "2", "3", "007", "65", "x", "-1", "1000000000000", "60", "300", "2000")
}

// call makes a call of any kind.
func (k maker) call() api.Call {
	kind := pick(k.Rand, 1, 2, 2, 4, 5, 5, 6, 7, 8, 8, 9, 9, 9, 10, 11, 11, 12, 13, 14, 14, 14, 14, 14, 14, 15, 15, 15, 16, 16, 16, 17, 17, 18, 18, 18, 18, 19, 19, 19, 19, 20, 21, 21, 22, 22, 22, 23, 23, 23, 24)
	user, org, channel := pick(k.Rand, "ann", "ann", "bob", "bob", "cy", "dee"), pick(k.Rand, "o", "o", "o", "p"), pick(k.Rand, "main", "main", "main", "side", "next")
	if k.Intn(60) == 0 {
		kind, org, channel = pick(k.Rand, 0, 25, 3, 3, kind), pick(k.Rand, "", "none", "o"), pick(k.Rand, "", "none")
	}
	c := api.Call{Kind: kind, Token: k.token(user), Org: org, Channel: channel}
	k.fill(&c, user, k.channelOf(org, channel))
	if k.Intn(80) == 0 {
		c.Arg = pick(k.Rand, times(480), times(520), "é/ ")
	}
	return c
}

// fill gives a call what its kind asks for.
func (k maker) fill(c *api.Call, user string, at *modelChannel) {
	r := k.Rand
	switch c.Kind {
	case api.CallSignup:
		c.Form = form("name", pick(r, "ann", "eve", "Eve", ""), "secret", pick(r, "s", "", times(65)))
	case api.CallToken:
		c.Form = form("user", user, "secret", pick(r, "s-"+user, "s-"+user, "s-"+user, "s", ""), "for", pick(r, "1", "5", "50", "50", "50", "0", "", "x"))
	case api.CallRevoke:
		c.Arg = pick(r, k.token(user), k.token("bob"), pick(r, k.m.tokens...).text)
	case api.CallOrg:
		c.Form = form("name", pick(r, "o", "p", "p", "P"), "bytes", pick(r, "", "500", k.number()), "rate", pick(r, "", "", k.number()), "window", pick(r, "", "5", k.number()))
	case api.CallJoin:
		c.Arg, c.Form = pick(r, "ann", "bob", "cy", "dee", "nobody"), form("role", pick(r, "member", "member", "owner", "none", ""))
	case api.CallLeave:
		c.Arg = pick(r, user, "bob", "dee", "nobody")
	case api.CallTeam:
		c.Form = form("name", pick(r, "ops", "dev", "Dev"))
	case api.CallPut:
		c.Arg, c.Form = pick(r, "ops", "dev", "none"), form("user", pick(r, someUsers...), "out", pick(r, "", "", "1"))
	case api.CallRule:
		c.Form = form("who", pick(r, "*", "u:bob", "u:cy", "t:ops", "t:dev", "bob"), "right", pick(r, "read", "write", "read", "write", "none"), "prefix", pick(r, "", "", "a", "a/b", "s", "s/"), "channel", pick(r, "", "", "main", "Main"), "deny", pick(r, "", "", "", "1", "0"))
	case api.CallUnrule:
		c.Id = r.Intn(12)
	case api.CallChannel:
		c.Form = form("name", pick(r, "main", "side", "next", "Side"))
	case api.CallFork:
		c.Form = form("to", pick(r, "main", "side", "next", ""))
	case api.CallPolicy:
		c.Form = form("approvals", pick(r, "0", "0", "0", "1", "1", "2", k.number()), "veto", pick(r, "", "1", "x"))
	case api.CallApply, api.CallPropose:
		c.Form = form("patch", k.code(user, at))
	case api.CallUnapply:
		c.Arg = k.hash(at)
	case api.CallText:
		c.Arg = pick(r, append(somePaths, "none", "", "a/")...)
	case api.CallVote:
		c.Id, c.Form = k.id(c.Org), form("vote", pick(r, "yes", "yes", "yes", "no", "none", ""))
	case api.CallSay:
		c.Id, c.Form = k.id(c.Org), form("text", pick(r, "", "a b", "é\n", times(200), times(201)))
	case api.CallProposal, api.CallQueue:
		c.Id = k.id(c.Org)
	}
}

// begun is a model and a forge with users, tokens and (mostly) organisations.
func begun(t *testing.T, r *rand.Rand) (*model, *forge.Forge) {
	t.Helper()
	m, f := &model{secret: "k"}, forge.New([]byte("k"))
	k := maker{r, m}
	for _, user := range someUsers {
		both(t, m, f, api.Call{Kind: api.CallSignup, Form: form("name", user, "secret", "s-"+user)}, 0)
		both(t, m, f, api.Call{Kind: api.CallToken, Form: form("user", user, "secret", "s-"+user, "for", "400")}, 0)
	}
	bytes, rate := pick(r, "", "300", "800"), pick(r, "", "", "3")
	both(t, m, f, api.Call{Kind: api.CallOrg, Token: k.token("ann"), Form: form("name", "o", "bytes", bytes, "rate", rate, "window", "2")}, 0)
	both(t, m, f, api.Call{Kind: api.CallChannel, Token: k.token("ann"), Org: "o", Form: form("name", "main")}, 1)
	both(t, m, f, api.Call{Kind: api.CallChannel, Token: k.token("ann"), Org: "o", Form: form("name", pick(r, "side", "Side"))}, 1)
	both(t, m, f, api.Call{Kind: api.CallOrg, Token: k.token("bob"), Form: form("name", pick(r, "p", "P"))}, 1)
	both(t, m, f, api.Call{Kind: api.CallChannel, Token: k.token("bob"), Org: "p", Form: form("name", "main")}, 1)
	both(t, m, f, api.Call{Kind: api.CallJoin, Token: k.token("ann"), Org: "o", Arg: "bob", Form: form("role", "member")}, 1)
	both(t, m, f, api.Call{Kind: api.CallTeam, Token: k.token("ann"), Org: "o", Form: form("name", "ops")}, 2)
	both(t, m, f, api.Call{Kind: api.CallRule, Token: k.token("ann"), Org: "o", Form: form("who", "u:bob", "right", "write")}, 2)
	both(t, m, f, api.Call{Kind: api.CallRule, Token: k.token("ann"), Org: "o", Form: form("who", "*", "right", "read")}, 2)
	return m, f
}

// both carries a call out in a model and in a forge, and holds them to each other.
func both(t *testing.T, m *model, f *forge.Forge, c api.Call, now int) api.Reply {
	t.Helper()
	got, want := f.Do(c, now), m.do(c, now)
	if got != want {
		t.Fatalf("%v at %d: %v, not %v", c, now, got, want)
	}
	return got
}

// P26.1 to P26.3: calls by chance, in a forge and in a model of it. P26.2: what did not answer, or only reads, changes nothing. P26.6: bytes.
func TestByChance(t *testing.T) {
	met := map[string]int{}
	for seed := range int64(200) {
		r := rand.New(rand.NewSource(seed))
		m, f := begun(t, r)
		k := maker{r, m}
		before := f.Dump()
		for range 250 {
			c := k.call()
			reply := both(t, m, f, c, m.tick+pick(r, 0, 0, 0, 1, 1, 2, -1, -100))
			met[strconv.Itoa(c.Kind)+" "+strconv.Itoa(reply.Status)]++
			after := f.Dump()
			if !slices.Equal(after, m.dump()) {
				t.Fatalf("behind %v: %q, not %q", c, after, m.dump())
			}
			if (reply.Status > 201 || isRead(c.Kind)) && !slices.Equal(before, after) {
				t.Fatalf("%v: %v, and something has changed", c, reply)
			}
			before = after
			holdBytes(t, m, after)
		}
	}
	for _, kind := range []int{1, 2, 3, 4, 5, 6, 7, 8, 9, 10, 11, 12, 13, 14, 15, 16, 17, 18, 19, 20, 21, 22, 23, 24} {
		well := met[strconv.Itoa(kind)+" 200"] + met[strconv.Itoa(kind)+" 201"]
		all := 0
		for key, n := range met {
			if strings.HasPrefix(key, strconv.Itoa(kind)+" ") {
				all += n
			}
		}
		if well < 15 || all-well < 15 {
			t.Error(kind, well, all)
		}
	}
}

// holdBytes holds that each pool has just the bytes that are used, and no more than the limits say.
func holdBytes(t *testing.T, m *model, dump []api.Pair) {
	t.Helper()
	sums, used := map[string]int{}, map[string]string{}
	for _, p := range dump {
		f := strings.Fields(p.Key)
		switch {
		case len(f) == 4 && strings.HasPrefix(f[3], "p/"):
			sums[f[1]] += len(p.Value)
		case len(f) == 3 && f[2] == "used":
			used[f[1]] = p.Value
		}
	}
	for org, n := range used {
		if n != strconv.Itoa(sums[org]) || sums[org] > m.find(org).limits.Bytes {
			t.Fatalf("%s: %s used, %d there, of %d", org, n, sums[org], m.find(org).limits.Bytes)
		}
	}
}
