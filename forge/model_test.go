package forge_test

import (
	"cmp"
	"crypto/hmac"
	"crypto/sha256"
	"encoding/binary"
	"encoding/hex"
	"fmt"
	"net/url"
	"regexp"
	"slices"
	"strconv"
	"strings"

	"ingot/api"
	"ingot/channel"
	"ingot/patch"
)

// model is a forge in the words of the chapter: lists of what was done, looked through whenever something is asked. Of the layers below it has patches and channels alone.
type model struct {
	secret string
	tick   int
	users  []api.Pair // names and secrets, in the order in which they came
	tokens []*modelToken
	orgs   []*modelOrg
}

type modelToken struct {
	text, user string
	until      int
	back       bool
}

type modelOrg struct {
	name      string
	limits    api.Limits
	roles     map[string]int
	teams     map[string][]string
	rules     []modelRule
	ruled     int
	channels  map[string]*modelChannel
	proposals []*modelProposal
	entries   []api.Entry
	hits      []api.Pair // who, and the window
}

type modelRule struct {
	number int
	rule   api.Rule
}

type modelChannel struct {
	*channel.Channel
	policy  api.Policy
	waiting []int
	ended   []api.Queued
}

type modelProposal struct {
	channel string
	patch   api.Patch
	closed  bool
	votes   map[string]bool
	talk    []api.Pair
}

var (
	aName   = regexp.MustCompile(`^[a-z][a-z0-9-]{0,15}$`)
	aPath   = regexp.MustCompile(`^[a-z0-9._-]{1,16}(/[a-z0-9._-]{1,16}){0,7}$`)
	aDigits = regexp.MustCompile(`^[0-9]{1,12}$`)
	aWho    = regexp.MustCompile(`^(\*|[ut]:[a-z][a-z0-9-]{0,15})$`)
)

func refusal(status int) api.Reply { return api.Reply{Status: status} }

func failure(e api.Errno) api.Reply {
	return api.Reply{Status: statuses[e], Type: "text/plain", Body: fmt.Sprintf("%d\n", int(e))}
}

func answer(text string) api.Reply { return api.Reply{Status: 200, Type: "text/plain", Body: text} }

func made(text string) api.Reply { return api.Reply{Status: 201, Type: "text/plain", Body: text} }

// ask is a call in a model: who calls, where, and its form's fields.
type ask struct {
	*model
	api.Call
	user string
	org  *modelOrg
}

func (a *ask) field(key string) string {
	for _, p := range a.Form {
		if p.Key == key {
			return p.Value
		}
	}
	return ""
}

func (a *ask) number(key string) int {
	if !aDigits.MatchString(a.field(key)) {
		return -1
	}
	n, _ := strconv.Atoi(a.field(key))
	return n
}

// escape is that of a form; the library leaves the same bytes as they are.
func escape(s string) string { return url.QueryEscape(s) }

func (a *ask) what() string {
	return fmt.Sprintf("%d %s %s %d", a.Kind, escape(a.Channel), escape(a.Arg), max(a.Id, 0))
}

func (a *ask) changes() bool { return a.Kind >= 4 && !isRead(a.Kind) }

func (m *model) find(name string) *modelOrg {
	for _, o := range m.orgs {
		if o.name == name {
			return o
		}
	}
	return nil
}

func (m *model) has(user string) bool {
	return slices.ContainsFunc(m.users, func(p api.Pair) bool { return p.Key == user })
}

// check tells whose a token is.
func (m *model) check(text string) (string, api.Errno) {
	for _, x := range m.tokens {
		switch {
		case x.text != text:
		case x.back:
			return "", api.ErrRevoked
		case m.tick >= x.until:
			return "", api.ErrExpired
		default:
			return x.user, api.OK
		}
	}
	return "", api.ErrToken
}

// do is the chapter's Do.
func (m *model) do(c api.Call, now int) api.Reply {
	m.tick = min(max(now, 0, m.tick), api.MaxTime)
	a := &ask{model: m, Call: c}
	if c.Kind < 1 || c.Kind > 24 {
		return refusal(404)
	}
	if c.Kind >= 3 {
		user, e := m.check(c.Token)
		if e != api.OK {
			return failure(e)
		}
		a.user = user
	}
	if a.changes() && len(a.what()) > 512 {
		return failure(api.ErrLong)
	}
	if c.Kind >= 5 {
		if r := a.enter(); r.Status != 0 {
			return r
		}
	}
	r := a.carryOut()
	if a.changes() && r.Status < 300 {
		a.note()
	}
	return r
}

func (a *ask) enter() api.Reply {
	a.org = a.find(a.Org)
	if a.org == nil {
		return refusal(404)
	}
	hit, n := api.Pair{Key: a.user, Value: strconv.Itoa(a.tick / a.org.limits.Window)}, 0
	for _, h := range a.org.hits {
		if h == hit {
			n++
		}
	}
	if n >= a.org.limits.Rate {
		return failure(api.ErrRate)
	}
	a.org.hits = append(a.org.hits, hit)
	if a.changes() && len(a.org.entries) == 4096 {
		return failure(api.ErrLong)
	}
	return api.Reply{}
}

func (a *ask) note() {
	e := api.Entry{Seq: len(a.org.entries) + 1, Tick: a.tick, Who: a.user, What: a.what(), Prev: a.org.head()}
	a.org.entries = append(a.org.entries, e)
}

func (o *modelOrg) head() api.Hash {
	if len(o.entries) == 0 {
		return api.Hash{}
	}
	e := o.entries[len(o.entries)-1]
	b := binary.AppendUvarint(nil, uint64(e.Seq))
	b = binary.AppendUvarint(b, uint64(e.Tick))
	for _, s := range []string{e.Who, e.What} {
		b = append(binary.AppendUvarint(b, uint64(len(s))), s...)
	}
	return sha256.Sum256(append(b, e.Prev[:]...))
}

func (a *ask) carryOut() api.Reply {
	switch {
	case a.Kind <= 4:
		return a.globally()
	case a.Kind <= 10:
		return a.aboutPeople()
	case a.Kind <= 13:
		return a.aboutChannels()
	case a.Kind <= 17:
		return a.aboutPatches()
	case a.Kind == 18, a.Kind == 23:
		return a.aboutQueues()
	case a.Kind == 24:
		return a.audit()
	}
	return a.aboutProposals()
}

func (a *ask) globally() api.Reply {
	name := a.field("name")
	switch a.Kind {
	case api.CallSignup:
		switch n := len(a.field("secret")); {
		case n < 1 || n > 64:
			return failure(api.ErrArg)
		case !aName.MatchString(name):
			return failure(api.ErrName)
		case a.has(name):
			return failure(api.ErrThere)
		case len(a.users) == 64:
			return failure(api.ErrLong)
		}
		a.users = append(a.users, api.Pair{Key: name, Value: a.field("secret")})
		return made(name + "\n")
	case api.CallToken:
		return a.token()
	case api.CallRevoke:
		user, e := a.check(a.Arg)
		if e != api.OK {
			return failure(e)
		}
		if user != a.user {
			return refusal(403)
		}
		for _, x := range a.tokens {
			x.back = x.back || x.text == a.Arg
		}
		return answer("")
	}
	return a.begin(name)
}

func (a *ask) token() api.Reply {
	user, length := a.field("user"), a.number("for")
	switch {
	case !slices.Contains(a.users, api.Pair{Key: user, Value: a.field("secret")}):
		return refusal(401)
	case length < 1, a.tick+length > api.MaxTime:
		return failure(api.ErrArg)
	case len(a.tokens) == 256:
		return failure(api.ErrLong)
	}
	text := fmt.Sprintf("%d.%s.%d", len(a.tokens)+1, user, a.tick+length)
	tag := hmac.New(sha256.New, []byte(a.secret))
	tag.Write([]byte(text))
	text += "." + hex.EncodeToString(tag.Sum(nil))
	a.tokens = append(a.tokens, &modelToken{text: text, user: user, until: a.tick + length})
	return made(text + "\n")
}

func (a *ask) begin(name string) api.Reply {
	l := api.Limits{Bytes: 65536, Rate: 1000, Window: 100}
	for key, n := range map[string]*int{"bytes": &l.Bytes, "rate": &l.Rate, "window": &l.Window} {
		if a.field(key) != "" {
			*n = a.number(key)
		}
	}
	switch {
	case l.Bytes < 0 || l.Rate < 0 || l.Window < 1:
		return failure(api.ErrArg)
	case !aName.MatchString(name):
		return failure(api.ErrName)
	case a.find(name) != nil:
		return failure(api.ErrThere)
	case len(a.orgs) == 8:
		return failure(api.ErrLong)
	}
	a.org = &modelOrg{name: name, limits: l, roles: map[string]int{a.user: 2}, teams: map[string][]string{}, channels: map[string]*modelChannel{}}
	a.orgs = append(a.orgs, a.org)
	return made(name + "\n")
}

func (a *ask) isOwner() bool { return a.org.roles[a.user] == 2 }

func (o *modelOrg) isLastOwner(user string) bool {
	owners := 0
	for _, role := range o.roles {
		owners += role / 2
	}
	return owners == 1 && o.roles[user] == 2
}

func (a *ask) aboutPeople() api.Reply {
	if !a.isOwner() && (a.Kind != api.CallLeave || a.Arg != a.user) {
		return refusal(403)
	}
	switch o := a.org; a.Kind {
	case api.CallJoin:
		role := map[string]int{"member": 1, "owner": 2}[a.field("role")]
		switch {
		case !a.has(a.Arg):
			return failure(api.ErrMissing)
		case role == 0:
			return failure(api.ErrArg)
		case role == 1 && o.isLastOwner(a.Arg):
			return failure(api.ErrLast)
		}
		o.roles[a.Arg] = role
	case api.CallLeave:
		switch {
		case o.roles[a.Arg] == 0:
			return failure(api.ErrMissing)
		case o.isLastOwner(a.Arg):
			return failure(api.ErrLast)
		}
		delete(o.roles, a.Arg)
		for team, l := range o.teams {
			o.teams[team] = slices.DeleteFunc(l, func(user string) bool { return user == a.Arg })
		}
	case api.CallTeam:
		_, there := o.teams[a.field("name")]
		switch {
		case !aName.MatchString(a.field("name")):
			return failure(api.ErrName)
		case there:
			return failure(api.ErrThere)
		case len(o.teams) == 8:
			return failure(api.ErrLong)
		}
		o.teams[a.field("name")] = nil
		return made("")
	case api.CallPut:
		return a.put(a.Arg, a.field("user"))
	case api.CallRule:
		return a.rule()
	case api.CallUnrule:
		at := slices.IndexFunc(o.rules, func(r modelRule) bool { return r.number == a.Id })
		if at < 0 {
			return failure(api.ErrMissing)
		}
		o.rules = slices.Delete(o.rules, at, at+1)
	}
	return answer("")
}

func (a *ask) put(team, user string) api.Reply {
	l, there := a.org.teams[team]
	at := slices.Index(l, user)
	if a.field("out") == "1" {
		if at < 0 {
			return failure(api.ErrMissing)
		}
		a.org.teams[team] = slices.Delete(l, at, at+1)
		return answer("")
	}
	if !there || a.org.roles[user] == 0 {
		return failure(api.ErrMissing)
	}
	if at >= 0 {
		return failure(api.ErrThere)
	}
	a.org.teams[team] = append(l, user)
	return answer("")
}

func (a *ask) rule() api.Reply {
	r := api.Rule{Who: a.field("who"), Channel: a.field("channel"), Prefix: a.field("prefix"), Right: map[string]int{"read": 1, "write": 2}[a.field("right")], Deny: a.field("deny") == "1"}
	if !aWho.MatchString(r.Who) || r.Channel != "" && !aName.MatchString(r.Channel) || r.Prefix != "" && !isPath(r.Prefix) || r.Right == 0 {
		return failure(api.ErrArg)
	}
	if len(a.org.rules) == 64 {
		return failure(api.ErrLong)
	}
	a.org.ruled++
	a.org.rules = append(a.org.rules, modelRule{a.org.ruled, r})
	return made(fmt.Sprintf("%d\n", a.org.ruled))
}

func isPath(s string) bool {
	return aPath.MatchString(s) && len(s) <= 64 && !slices.Contains(strings.Split(s, "/"), ".") && !slices.Contains(strings.Split(s, "/"), "..")
}

// may tells whether the user has a right to each of some paths: the longest prefix that speaks of a path decides, a denial first.
func (a *ask) may(right int, channel string, paths ...string) bool {
	for _, path := range paths {
		most, is := -1, a.isOwner()
		for _, r := range a.org.rules {
			r := r.rule
			means := r.Who == "*" || r.Who == "u:"+a.user || strings.HasPrefix(r.Who, "t:") && slices.Contains(a.org.teams[r.Who[2:]], a.user)
			covers := r.Prefix == "" || strings.HasPrefix(path+"/", r.Prefix+"/")
			if !means || !covers || r.Right != right || r.Channel != "" && r.Channel != channel || len(r.Prefix) < most {
				continue
			}
			is = !r.Deny && (is || len(r.Prefix) > most)
			most = len(r.Prefix)
		}
		if !is || !isPath(path) {
			return false
		}
	}
	return true
}

func (a *ask) aboutChannels() api.Reply {
	if !a.isOwner() {
		return refusal(403)
	}
	from, there := a.org.channels[a.Channel]
	if a.Kind != api.CallChannel && !there {
		return failure(api.ErrMissing)
	}
	if a.Kind == api.CallPolicy {
		n := a.number("approvals")
		if n < 0 || n > 64 {
			return failure(api.ErrArg)
		}
		from.policy = api.Policy{Approvals: n, Veto: a.field("veto") == "1"}
		return answer("")
	}
	name, c := a.field("to"), channel.New()
	if a.Kind == api.CallChannel {
		name = a.field("name")
	} else {
		c = from.Clone()
	}
	_, there = a.org.channels[name]
	switch {
	case !aName.MatchString(name):
		return failure(api.ErrName)
	case there:
		return failure(api.ErrThere)
	case len(a.org.channels) == 8:
		return failure(api.ErrLong)
	}
	a.org.channels[name] = &modelChannel{Channel: c}
	return made("")
}

// bytes tells how many bytes all patches have.
func (o *modelOrg) bytes() int {
	met, sum := map[api.Hash]bool{}, 0
	for _, c := range o.channels {
		for _, h := range c.Log() {
			if p, _ := c.Patch(h); !met[h] {
				met[h], sum = true, sum+sizeOf(p)
			}
		}
	}
	return sum
}

func (o *modelOrg) land(c *modelChannel, p api.Patch) api.Errno {
	next := c.Clone()
	if _, e := next.Apply(p); e != api.OK {
		return e
	}
	before := c.Channel
	c.Channel = next
	if o.bytes() > o.limits.Bytes {
		c.Channel = before
		return api.ErrQuota
	}
	return api.OK
}

// given reads the patch of a call.
func (a *ask) given() (api.Patch, api.Errno) {
	text := a.field("patch")
	b, err := hex.DecodeString(text)
	if err != nil || strings.ToLower(text) != text {
		return api.Patch{}, api.ErrText
	}
	return patch.Decode(b)
}

func (a *ask) aboutPatches() api.Reply {
	c, there := a.org.channels[a.Channel]
	if !there {
		return failure(api.ErrMissing)
	}
	switch a.Kind {
	case api.CallApply:
		p, e := a.given()
		if e != api.OK {
			return failure(e)
		}
		if p.Author != a.user || !a.may(2, a.Channel, patch.Paths(p)...) || c.policy.Approvals > 0 {
			return refusal(403)
		}
		if e := a.org.land(c, p); e != api.OK {
			return failure(e)
		}
		return made(hexOf(p) + "\n")
	case api.CallUnapply:
		return a.unapply(c)
	case api.CallText:
		if !a.may(1, a.Channel, a.Arg) {
			return refusal(403)
		}
		shown := c.Shown(a.Arg)
		if len(shown) == 0 {
			return failure(api.ErrMissing)
		}
		text := fmt.Sprintf("conflicts %d\n", c.Conflicts(a.Arg))
		for _, s := range shown {
			if s.Kills == 0 {
				text += s.Text + "\n"
			}
		}
		return answer(text)
	}
	text := ""
	for _, h := range c.Log() {
		if p, _ := c.Patch(h); a.may(1, a.Channel, patch.Paths(p)...) {
			text += hexOf(p) + "\n"
		}
	}
	return answer(text)
}

func (a *ask) unapply(c *modelChannel) api.Reply {
	b, err := hex.DecodeString(a.Arg)
	switch {
	case err != nil || strings.ToLower(a.Arg) != a.Arg:
		return failure(api.ErrText)
	case len(b) != 32:
		return failure(api.ErrArg)
	}
	p, is := c.Patch(api.Hash(b))
	switch {
	case !is:
		return failure(api.ErrMissing)
	case !a.may(2, a.Channel, patch.Paths(p)...) || c.policy.Approvals > 0:
		return refusal(403)
	}
	if e := c.Unapply(api.Hash(b)); e != api.OK {
		return failure(e)
	}
	return answer("")
}

func (o *modelOrg) open() int {
	n := 0
	for _, p := range o.proposals {
		if !p.closed {
			n++
		}
	}
	return n
}

func (p *modelProposal) who(yes bool) []string {
	var out []string
	for user, is := range p.votes {
		if is == yes {
			out = append(out, user)
		}
	}
	slices.Sort(out)
	return out
}

func (o *modelOrg) passes(p *modelProposal) bool {
	policy := o.channels[p.channel].policy
	return !p.closed && len(p.who(true)) >= policy.Approvals && (!policy.Veto || len(p.who(false)) == 0)
}

func (a *ask) aboutQueues() api.Reply {
	c, there := a.org.channels[a.Channel]
	switch {
	case !there:
		return failure(api.ErrMissing)
	case a.Kind == api.CallPropose:
		return a.propose()
	case a.org.roles[a.user] == 0:
		return refusal(403)
	case len(c.waiting) == 0:
		return failure(api.ErrMissing)
	}
	end := api.Queued{Proposal: c.waiting[0], End: api.Rejected}
	switch p := a.org.proposals[end.Proposal-1]; {
	case p.closed:
		end.Why = api.ErrClosed
	case !a.org.passes(p):
		end.Why = api.ErrNeeded
	default:
		end.Why = a.org.land(c, p.patch)
		if end.Why == api.OK {
			p.closed, end.End = true, api.Merged
		}
	}
	c.waiting, c.ended = c.waiting[1:], append(c.ended, end)
	return answer(fmt.Sprintf("%d %d %d\n", end.Proposal, end.End, int(end.Why)))
}

func (a *ask) propose() api.Reply {
	p, e := a.given()
	if e != api.OK {
		return failure(e)
	}
	if p.Author != a.user || !a.may(1, a.Channel, patch.Paths(p)...) {
		return refusal(403)
	}
	for _, other := range a.org.proposals {
		if !other.closed && other.channel == a.Channel && hexOf(other.patch) == hexOf(p) {
			return failure(api.ErrThere)
		}
	}
	if a.org.open() == 64 {
		return failure(api.ErrLong)
	}
	a.org.proposals = append(a.org.proposals, &modelProposal{channel: a.Channel, patch: p, votes: map[string]bool{}})
	return made(fmt.Sprintf("%d\n", len(a.org.proposals)))
}

func (a *ask) aboutProposals() api.Reply {
	if a.Id < 1 || a.Id > len(a.org.proposals) {
		return failure(api.ErrMissing)
	}
	p := a.org.proposals[a.Id-1]
	right := map[int]int{api.CallVote: 2, api.CallSay: 1, api.CallProposal: 1, api.CallQueue: 2}[a.Kind]
	switch c := a.org.channels[a.Channel]; {
	case a.Kind == api.CallQueue && p.channel != a.Channel:
		return failure(api.ErrMissing)
	case !a.may(right, p.channel, patch.Paths(p.patch)...):
		return refusal(403)
	case a.Kind == api.CallProposal:
		return answer(a.org.text(p))
	case a.Kind == api.CallVote:
		return a.vote(p)
	case a.Kind == api.CallSay && (len(a.field("text")) > 200 || len(p.talk) == 32):
		return failure(api.ErrLong)
	case a.Kind == api.CallSay:
		p.talk = append(p.talk, api.Pair{Key: a.user, Value: a.field("text")})
		return answer("")
	case p.closed:
		return failure(api.ErrClosed)
	case slices.Contains(c.waiting, a.Id):
		return failure(api.ErrThere)
	default:
		c.waiting = append(c.waiting, a.Id)
		return answer(fmt.Sprintf("%d\n", len(c.waiting)-1))
	}
}

func (a *ask) vote(p *modelProposal) api.Reply {
	word := a.field("vote")
	_, voted := p.votes[a.user]
	switch {
	case word != "yes" && word != "no" && word != "none":
		return failure(api.ErrArg)
	case p.closed:
		return failure(api.ErrClosed)
	case word == "none" && !voted:
		return failure(api.ErrMissing)
	case word == "none":
		delete(p.votes, a.user)
	case p.patch.Author == a.user:
		return failure(api.ErrOwn)
	default:
		p.votes[a.user] = word == "yes"
	}
	return answer("")
}

func bit(is bool) int {
	if is {
		return 1
	}
	return 0
}

func (o *modelOrg) text(p *modelProposal) string {
	s := fmt.Sprintf("open %d\nauthor %s\nchannel %s\npatch %s\nyes", bit(!p.closed), p.patch.Author, p.channel, hexOf(p.patch))
	for _, user := range p.who(true) {
		s += " " + user
	}
	s += "\nno"
	for _, user := range p.who(false) {
		s += " " + user
	}
	s += fmt.Sprintf("\npasses %d\n", bit(o.passes(p)))
	for _, r := range p.talk {
		s += fmt.Sprintf("say %s %s\n", r.Key, escape(r.Value))
	}
	return s
}

func (a *ask) audit() api.Reply {
	if !a.isOwner() {
		return refusal(403)
	}
	text := ""
	for _, e := range a.org.entries {
		text += fmt.Sprintf("%d %d %s %s\n", e.Seq, e.Tick, e.Who, e.What)
	}
	return answer(text + fmt.Sprintf("%x\n", a.org.head()))
}

// dump is the chapter's Dump.
func (m *model) dump() []api.Pair {
	var out []api.Pair
	for _, u := range m.users {
		out = append(out, api.Pair{Key: "user " + u.Key})
	}
	for _, o := range m.orgs {
		for key, value := range o.dump() {
			out = append(out, api.Pair{Key: "org " + o.name + " " + key, Value: value})
		}
	}
	slices.SortFunc(out, func(a, b api.Pair) int { return cmp.Compare(a.Key, b.Key) })
	return out
}

func (o *modelOrg) dump() map[string]string {
	out := map[string]string{"used": strconv.Itoa(o.bytes()), "head": fmt.Sprintf("%x", o.head())}
	var users []string
	for user := range o.roles {
		users = append(users, user)
	}
	slices.Sort(users)
	for _, user := range users {
		out["members"] += fmt.Sprintf("%s %d,", user, o.roles[user])
	}
	for team, l := range o.teams {
		l = slices.Sorted(slices.Values(l))
		out["team "+team] = strings.Join(append(l, ""), ",")
	}
	for _, r := range o.rules {
		out[fmt.Sprintf("rule %d", r.number)] = fmt.Sprintf("%s,%s,%s,%d,%d", r.rule.Who, r.rule.Channel, r.rule.Prefix, r.rule.Right, bit(r.rule.Deny))
	}
	for name, c := range o.channels {
		out["policy "+name] = fmt.Sprintf("%d,%d", c.policy.Approvals, bit(c.policy.Veto))
		text := ""
		for _, id := range c.waiting {
			text += fmt.Sprintf("%d,", id)
		}
		text += ";"
		for _, e := range c.ended {
			text += fmt.Sprintf("%d:%d:%d,", e.Proposal, e.End, int(e.Why))
		}
		out["queue "+name] = text
		out["pool c/"+name] = ""
		for _, h := range c.Log() {
			p, _ := c.Patch(h)
			b, _ := patch.Encode(p)
			out["pool c/"+name] += string(h[:])
			out["pool p/"+hexOf(p)] = string(b)
		}
	}
	for i, p := range o.proposals {
		out[fmt.Sprintf("proposal %d", i+1)] = o.text(p)
	}
	return out
}

func newModelChannel() *modelChannel { return &modelChannel{Channel: channel.New()} }
