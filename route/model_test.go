package route_test

import (
	"math/rand"
	"regexp"
	"strconv"
	"strings"
	"testing"

	"ingot/api"
	"ingot/fields"
	"ingot/route"
)

// table is the chapter's, as it is written there.
const table = `
| POST | /users | CallSignup |
| POST | /tokens | CallToken |
| DELETE | /tokens/ARG | CallRevoke |
| POST | /orgs | CallOrg |
| PUT | /orgs/ORG/members/ARG | CallJoin |
| DELETE | /orgs/ORG/members/ARG | CallLeave |
| POST | /orgs/ORG/teams | CallTeam |
| PUT | /orgs/ORG/teams/ARG | CallPut |
| POST | /orgs/ORG/rules | CallRule |
| DELETE | /orgs/ORG/rules/ID | CallUnrule |
| POST | /orgs/ORG/channels | CallChannel |
| POST | /orgs/ORG/channels/CHANNEL/fork | CallFork |
| PUT | /orgs/ORG/channels/CHANNEL/policy | CallPolicy |
| POST | /orgs/ORG/channels/CHANNEL/patches | CallApply |
| DELETE | /orgs/ORG/channels/CHANNEL/patches/ARG | CallUnapply |
| GET | /orgs/ORG/channels/CHANNEL/files/PATH | CallText |
| GET | /orgs/ORG/channels/CHANNEL/log | CallLog |
| POST | /orgs/ORG/channels/CHANNEL/proposals | CallPropose |
| POST | /orgs/ORG/proposals/ID/votes | CallVote |
| POST | /orgs/ORG/proposals/ID/talk | CallSay |
| GET | /orgs/ORG/proposals/ID | CallProposal |
| POST | /orgs/ORG/channels/CHANNEL/queue/ID | CallQueue |
| POST | /orgs/ORG/channels/CHANNEL/merge | CallMerge |
| GET | /orgs/ORG/audit | CallAudit |
`

// entry is a row of the table; its kind is its number.
type entry struct {
	method string
	kind   int
	words  []string
	shape  *regexp.Regexp // of targets that have its shape
	right  *regexp.Regexp // of those whose parts are what their words stand for, but for how great and how long they are
}

var (
	shapes = strings.NewReplacer("ORG", "([^/]*)", "CHANNEL", "([^/]*)", "ARG", "([^/]*)", "ID", "([^/]*)", "PATH", "(.*)")
	rights = strings.NewReplacer("ORG", "([a-z][a-z0-9-]{0,15})", "CHANNEL", "([a-z][a-z0-9-]{0,15})", "ARG", "([^/]{1,128})", "ID", "([1-9][0-9]{0,9})", "PATH", "([a-z0-9._-]{1,16}(?:/[a-z0-9._-]{1,16}){0,7})")
	dots   = regexp.MustCompile(`(^|/)\.\.?(/|$)`)
	word   = regexp.MustCompile(`[A-Z]{2,}`)
)

func entries() []entry {
	var out []entry
	for i, line := range strings.Split(strings.TrimSpace(table), "\n") {
		f := strings.Fields(line)
		out = append(out, entry{f[1], i + 1, word.FindAllString(f[3], -1), regexp.MustCompile("(?s)^" + shapes.Replace(f[3]) + "$"), regexp.MustCompile("(?s)^" + rights.Replace(f[3]) + "$")})
	}
	return out
}

var all = entries()

// read tells what a target and a method ask for by the words of the chapter.
func read(method, target string) (api.Call, int) {
	status := 404
	for _, e := range all {
		switch {
		case !e.shape.MatchString(target):
		case e.method != method:
			status = 405
		default:
			return e.call(target)
		}
	}
	return api.Call{}, status
}

func (e entry) call(target string) (api.Call, int) {
	parts := e.right.FindStringSubmatch(target)
	if parts == nil {
		return api.Call{}, 400
	}
	c := api.Call{Kind: e.kind}
	for i, w := range e.words {
		switch part := parts[i+1]; w {
		case "ORG":
			c.Org = part
		case "CHANNEL":
			c.Channel = part
		case "ID":
			c.Id, _ = strconv.Atoi(part)
		case "PATH":
			if len(part) > 64 || dots.MatchString(part) {
				return api.Call{}, 400
			}
			fallthrough
		case "ARG":
			c.Arg = part
		}
	}
	if c.Id > 2147483647 {
		return api.Call{}, 400
	}
	return c, 0
}

func hold(t *testing.T, method, target string) int {
	t.Helper()
	want, status := read(method, target)
	got, is := route.Read(api.Request{Method: method, Target: target})
	if is != status || !same(got, want) {
		t.Fatalf("%s %.300q: %v %d, not %v %d", method, target, got, is, want, status)
	}
	return status
}

func pick[T any](r *rand.Rand, of ...T) T { return of[r.Intn(len(of))] }

var pieces = []string{"", "users", "tokens", "orgs", "members", "teams", "rules", "channels", "fork", "policy", "patches", "files", "log", "proposals", "votes", "talk", "queue", "merge", "audit", "o", "main", "O", "1", "7", "07", "2147483648", "a.b", "..", "ARG", "\n"}

// some makes a method and a target: a row's ones with other parts, or parts by chance.
func some(r *rand.Rand) (string, string) {
	method := pick(r, "GET", "POST", "PUT", "DELETE", "X")
	if r.Intn(4) == 0 {
		out := pick(r, "", "/", "/", "/", "/")
		for i := range r.Intn(8) {
			if i > 0 {
				out += "/"
			}
			out += pick(r, pieces...)
		}
		return method, out
	}
	row, out := pick(r, rows...), ""
	for i, part := range strings.Split(row.target, "/") {
		if i > 0 {
			out += "/"
		}
		if r.Intn(8) == 0 {
			part = pick(r, pieces...)
		}
		out += part
	}
	return pick(r, method, row.method, row.method), out + pick(r, "", "", "", "", "", "/", "/"+pick(r, pieces...))
}

// P25.1: targets by chance.
func TestTargetsByChance(t *testing.T) {
	met := map[int]int{}
	for seed := range int64(60000) {
		r := rand.New(rand.NewSource(seed))
		method, target := some(r)
		met[hold(t, method, target)]++
	}
	for _, status := range []int{0, 400, 404, 405} {
		if met[status] < 1000 {
			t.Error(met)
		}
	}
}

func text(r *rand.Rand, bytes string, most int) string {
	out := make([]byte, 1+r.Intn(most))
	for i := range out {
		out[i] = bytes[r.Intn(len(bytes))]
	}
	return string(out)
}

// someCall makes a call by chance; most are ones that a row has room for.
func someCall(r *rand.Rand) api.Call {
	c := pick(r, rows...).call
	if c.Org != "" {
		c.Org = text(r, "abz", 18)
	}
	if c.Channel != "" {
		c.Channel = text(r, "ab-9z", 17)
	}
	if c.Arg != "" {
		c.Arg = text(r, "abz.-_", 20)
	}
	if c.Id != 0 {
		c.Id = pick(r, 1, r.Intn(1<<31), 1<<31-1, r.Int())
	}
	if r.Intn(2) == 0 {
		c.Token = text(r, "ab. ~!", 30)
	}
	for range r.Intn(4) {
		c.Form = append(c.Form, api.Pair{Key: text(r, "ab\x00 &=%", 5), Value: text(r, "xyz\xff\n", 9)})
	}
	switch r.Intn(12) {
	case 0:
		c.Org = pick(r, "", "o", "O")
	case 1:
		c.Arg = pick(r, "", "a", "a/b")
	case 2:
		c.Id = r.Intn(3)
	case 3:
		c.Channel = pick(r, "", "c")
	}
	return c
}

// P25.2, P25.3: a call that is printed is read as it was; one that is not is told by no request that has its row's method and target.
func TestThereAndBack(t *testing.T) {
	printed := 0
	for seed := range int64(40000) {
		c := someCall(rand.New(rand.NewSource(seed)))
		q, e := route.Print(c)
		body, err := fields.Print(c.Form)
		if e == api.OK {
			printed++
			if err != nil || q.Body != body || !q.Keep {
				t.Fatal(q, err)
			}
			wantCall(t, q, c)
			continue
		}
		if e != api.ErrArg || !sameRequest(q, api.Request{}) {
			t.Fatal(q, int(e))
		}
		if may(c) {
			t.Fatalf("%v is not printed", c)
		}
	}
	if printed < 10000 || printed > 39000 {
		t.Error(printed)
	}
}

// may tells whether a call that someCall made is one that a row has room for.
func may(c api.Call) bool {
	target := strings.NewReplacer("ORG", c.Org, "CHANNEL", c.Channel, "ARG", c.Arg, "ID", strconv.Itoa(c.Id), "PATH", c.Arg).Replace(strings.Fields(strings.Split(strings.TrimSpace(table), "\n")[c.Kind-1])[3])
	got, status := read(all[c.Kind-1].method, target)
	got.Token, got.Form = c.Token, c.Form
	return status == 0 && same(got, c) && !strings.HasSuffix(c.Token, " ")
}

// P25.4: no target has two shapes beside one method: two rows of one method have other words, or another number of parts.
func TestOneRow(t *testing.T) {
	for seed := range int64(60000) {
		_, target := some(rand.New(rand.NewSource(seed)))
		met := map[string]int{}
		for _, e := range all {
			if e.shape.MatchString(target) {
				met[e.method]++
			}
		}
		for method, n := range met {
			if n > 1 {
				t.Fatalf("%s %q has %d rows", method, target, n)
			}
			if c, status := route.Read(api.Request{Method: method, Target: target}); status != 0 && status != 400 {
				t.Fatalf("%s %q: %v %d", method, target, c, status)
			}
		}
	}
}

func FuzzRead(f *testing.F) {
	for _, r := range rows {
		f.Add(r.method, r.target)
	}
	f.Fuzz(func(t *testing.T, method, target string) { hold(t, method, target) })
}
