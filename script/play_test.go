package script_test

import (
	"crypto/sha256"
	"encoding/binary"
	"fmt"
	"math/rand"
	"strconv"
	"strings"
	"testing"

	"ingot/api"
	"ingot/disk"
	"ingot/script"
	"ingot/server"
)

// ask makes the text of a request.
func ask(method, target, token, body string) string {
	head := ""
	if token != "" {
		head = "authorization: Bearer " + token + "\r\n"
	}
	return method + " " + target + " HTTP/1.1\r\n" + head + "content-length: " + strconv.Itoa(len(body)) + "\r\n\r\n" + body
}

func signup(name string) string { return ask("POST", "/users", "", "name="+name+"&secret=s") }

// feed makes a line.
func feed(conn int, text string) string {
	return fmt.Sprintf("feed %d %s\n", conn, script.Escape(text))
}

const made = `HTTP/1.1 201 Created\r\ncontent-type: text/plain\r\ncontent-length: `

func wantAccount(t *testing.T, text, account string) {
	t.Helper()
	if got, err := script.Play(text); got != account || err != nil {
		t.Errorf("%q:\n%q %v, not\n%q", text, got, err, account)
	}
}

func sumOf(pairs ...api.Pair) string {
	var b []byte
	for _, p := range pairs {
		for _, s := range []string{p.Key, p.Value} {
			b = append(binary.AppendUvarint(b, uint64(len(s))), s...)
		}
	}
	return fmt.Sprintf("%x", sha256.Sum256(b))
}

// The chapter's example.
func TestExample(t *testing.T) {
	wantAccount(t, "disk 60\n"+feed(0, signup("a"))+"all 1\nshow 0\n", "disk 0\nfeed 0\nall 3\nshow "+made+`2\r\n\r\na\n`+"\n")
}

// P28.4: Parse's errors.
func TestPlayErrors(t *testing.T) {
	for text, want := range map[string]api.Fault{
		"disk 60\nx":                          {At: 1, Err: api.ErrLine},
		"disk":                                {At: 0, Err: api.ErrLine},
		"\n#\ndisk 6\r":                       {At: 2, Err: api.ErrLine},
		strings.Repeat("\n", api.MaxScript+1): {At: 0, Err: api.ErrLong},
	} {
		if got, err := script.Play(text); got != "" || !isFault(err, want.At, want.Err) {
			t.Errorf("%.50q: %q %v", text, got, err)
		}
	}
	wantAccount(t, "", "")
	wantAccount(t, "# nothing\n\n", "")
}

// P28.4: without a disk and a server.
func TestPlayNothing(t *testing.T) {
	empty := "e3b0c44298fc1c149afbf4c8996fb92427ae41e4649b934ca495991b7852b855"
	steps := feed(0, signup("a")) + "feed 9 \npick 0 1\npick 9 9\nall 5\nshow 0\nshow 99\narm 0\ncrash\ncrash 1\ndone\ndump\n"
	told := "feed 1\nfeed 1\npick no\npick no\nall 0\nshow \nshow \narm 1\ncrash 1\ncrash 1\ndone\ndump " + empty + "\n"
	wantAccount(t, steps, told)
	for _, n := range []string{"0", "4097", "1099511627776"} { // no such disk
		wantAccount(t, "disk 60\ndisk "+n+"\n"+steps, "disk 0\ndisk 2\n"+told)
	}
	// A disk on which no server is.
	wantAccount(t, "disk 60\ndisk 5\n"+steps, "disk 0\ndisk 2\n"+strings.Replace(strings.Replace(told, "arm 1", "arm 0", 1), "crash 1\ncrash 1", "crash 2\ncrash 2", 1))
}

// P28.4: disks.
func TestPlayDisk(t *testing.T) {
	wantAccount(t, "disk 5\ndisk 6\ndisk 4096\ndisk 4097\ndisk 0", "disk 2\ndisk 0\ndisk 0\ndisk 2\ndisk 2\n")
	// Another disk is another server.
	wantAccount(t, "disk 60\n"+feed(0, signup("a"))+"all 1\ndone\ndisk 60\ndone\nshow 0\ndump\n",
		"disk 0\nfeed 0\nall 3\ndone 0:1:1:201\ndisk 0\ndone\nshow \ndump "+sumOf()+"\n")
}

// P28.4: requests and workers.
func TestPlayPicks(t *testing.T) {
	user := signup("ann")
	wantAccount(t, "disk 60\n"+feed(3, user[:9])+"pick 0 1\nall 1\n"+feed(3, user[9:])+feed(4, user)+feed(8, user)+
		"pick 0 1\npick 4 1\npick 3 1\npick 2 1\npick 3 9\npick 0 5\ndone\nshow 3\npick 0 1\nshow 3\nshow 3\nall 2\nshow 4\nall 2\ndone\n",
		"disk 0\nfeed 0\npick no\nall 0\nfeed 0\nfeed 0\nfeed 2\n"+
			"pick 1\npick no\npick 1\npick no\npick 2\npick 2\ndone 4:9:1:201 3:9:1:409\nshow \npick 0\nshow "+`HTTP/1.1 409 Conflict\r\ncontent-type: text/plain\r\ncontent-length: 4\r\n\r\n110\n`+"\nshow \nall 1\nshow "+made+`4\r\n\r\nann\n`+"\nall 0\ndone 4:9:1:201 3:9:1:409\n")
	wantAccount(t, "disk 60\n"+feed(0, "x\r\n")+"feed 0 \nall 1099511627776\nshow 0\ndone\n",
		"disk 0\nfeed 0\nfeed 201\nall 3\nshow "+`HTTP/1.1 400 Bad Request\r\ncontent-length: 0\r\nconnection: close\r\n\r\n`+"\ndone\n")
	many := ""
	for i := range 20 {
		many += signup("u" + strconv.Itoa(i))
	}
	wantAccount(t, "disk 100\n"+feed(0, many)+feed(1, signup("x"))+"all 3\nall 3\n", "disk 0\nfeed 0\nfeed 0\nall 63\nall 0\n")
}

// P28.4: losses of power.
func TestPlayCrashes(t *testing.T) {
	begin := "disk 60\n" + feed(0, signup("a")) + "all 1\ndump\n"
	begun := "disk 0\nfeed 0\nall 3\ndump " + sumOf(api.Pair{Key: "user a"}) + "\n"
	lose := feed(0, signup("b")) + "pick 0 2\narm 1\npick 0 2\npick 0 2\nfeed 0 \narm 0\ndone\nshow 0\nall 2\ndump\n"
	lost := "feed 0\npick 1\narm 0\npick no\npick no\nfeed 50\narm 50\ndone 0:1:1:201\nshow " + made + `2\r\n\r\na\n` + "\nall 0\ndump " + sumOf(api.Pair{Key: "user a"}) + "\n"
	wantAccount(t, begin+lose+"crash\ndump\ndone\nfeed 0 \nshow 0\n", begun+lost+"crash 0\ndump "+sumOf(api.Pair{Key: "user a"})+"\ndone\nfeed 0\nshow \n")
	both := sumOf(api.Pair{Key: "user a"}, api.Pair{Key: "user b"})
	wantAccount(t, begin+lose+"crash 0\ndump\n", begun+lost+"crash 0\ndump "+both+"\n")
	wantAccount(t, begin+lose+"crash 0 0 0\ndump\n", begun+lost+"crash 0\ndump "+both+"\n")
	// There is no such write: there is no server, until it is started again.
	wantAccount(t, begin+lose+"crash 1\ndump\nfeed 0 \narm 5\ncrash 0\ndump\nfeed 0 \n", begun+lost+"crash 2\ndump "+sumOf()+"\nfeed 1\narm 50\ncrash 0\ndump "+both+"\nfeed 0\n")
	wantAccount(t, begin+"crash 0\ndone\ncrash\ncrash\ndump\n", begun+"crash 2\ndone\ncrash 0\ncrash 0\ndump "+sumOf(api.Pair{Key: "user a"})+"\n")
	// Without a plan all goes well; a crash forgets the plan.
	wantAccount(t, begin+"arm 0\ncrash\n"+feed(0, signup("b"))+"all 1\ndump\n", begun+"arm 0\ncrash 0\nfeed 0\nall 3\ndump "+both+"\n")
	// A disk on which a server was opened by another secret is none here; so is one that is too small.
	wantAccount(t, "disk 5\ncrash\narm 0\ncrash\n", "disk 2\ncrash 2\narm 0\ncrash 2\n")
}

// player plays steps as the chapter says it, call by call.
type player struct {
	d *disk.Disk
	s *server.Server
}

func (p *player) play(s script.Step) string {
	number := func(e api.Errno) string { return fmt.Sprintf("%s %d\n", s.Verb, int(e)) }
	n := func(i int) int { return s.N[i] }
	var e api.Errno
	switch s.Verb {
	case "disk":
		p.s = nil
		if p.d, e = disk.New(n(0)); e == api.OK {
			p.s, e = server.Open(p.d, nil)
		}
		return number(e)
	case "feed":
		return number(p.s.Feed(n(0), []byte(s.Text)))
	case "pick":
		if p.s.Pick(n(0), n(1)) {
			return fmt.Sprintf("pick %d\n", p.s.Phase(n(0)))
		}
		return "pick no\n"
	case "all":
		total := 0
		for last := -1; last != total; {
			last = total
			for worker := range 4 {
				if p.s.Pick(worker, n(0)) {
					total++
				}
			}
		}
		return fmt.Sprintf("all %d\n", total)
	case "show":
		return "show " + script.Escape(p.s.Take(n(0))) + "\n"
	case "arm":
		return number(p.d.Arm(n(0)))
	case "crash":
		p.s = nil
		if e = p.d.Restart(s.N); e == api.OK {
			p.s, e = server.Open(p.d, nil)
		}
		return number(e)
	case "done":
		out := "done"
		for _, d := range p.s.Done() {
			out += fmt.Sprintf(" %d:%d:%d:%d", d.Conn, d.Tick, d.Call.Kind, d.Status)
		}
		return out + "\n"
	}
	return "dump " + sumOf(p.s.Dump()...) + "\n"
}

// chanceText makes a script by chance.
func chanceText(r *rand.Rand) string {
	text := "disk " + pick(r, "60", "60", "60", "12", "20", "5") + "\n"
	names := 0
	for range 10 + r.Intn(60) {
		conn := r.Intn(9)
		switch r.Intn(16) {
		case 0, 1, 2, 3:
			names++
			whole := pick(r, signup("u"+strconv.Itoa(names)), signup("x"), ask("POST", "/tokens", "", "user=x&secret=s&for=5"), ask("GET", "/orgs/o/audit", "t", ""))
			at := r.Intn(len(whole))
			if r.Intn(2) == 0 {
				at = 0
			}
			text += feed(conn, whole[:at]) + pick(r, "", "", "all 3\n", "# x\n") + feed(conn, whole[at:])
		case 4:
			text += feed(conn, pick(r, "", "x\r\n", "GET / HTTP/1.0\r\n\r\n", "\x00\xff"))
		case 5, 6, 7, 8:
			text += fmt.Sprintf("pick %d %d\n", r.Intn(5), r.Intn(20))
		case 9:
			text += fmt.Sprintf("all %d\n", r.Intn(20))
		case 10, 11:
			text += fmt.Sprintf("show %d\n", conn)
		case 12:
			text += fmt.Sprintf("arm %d\n", r.Intn(8))
		case 13:
			text += pick(r, "crash\n", "crash\n", "crash 0\n", "crash 0 1\n", "crash 5\n", "\n")
		default:
			text += pick(r, "done\n", "dump\n")
		}
	}
	return text
}

// P28.4, P28.6: scripts by chance; the account of the first lines is the beginning of the account.
func TestPlayByChance(t *testing.T) {
	met := map[string]int{}
	for seed := range int64(400) {
		r := rand.New(rand.NewSource(seed))
		text := chanceText(r)
		steps, err := script.Parse(text)
		if err != nil {
			t.Fatal(err)
		}
		p, want := &player{}, ""
		for _, s := range steps {
			told := p.play(s)
			want += told
			if f := strings.Fields(told); len(f) == 2 && len(f[1]) < 5 {
				met[f[0]+" "+f[1]]++
			}
		}
		got, err := script.Play(text)
		if got != want || err != nil {
			t.Fatalf("%q:\n%q %v, not\n%q", text, got, err, want)
		}
		lines := strings.SplitAfter(text, "\n")
		for _, n := range []int{0, 1, r.Intn(len(lines)), r.Intn(len(lines)), len(lines) - 1} {
			if first, err := script.Play(strings.Join(lines[:n], "")); err != nil || !strings.HasPrefix(got, first) {
				t.Fatal(n, err)
			}
		}
		if again, _ := script.Play(text); again != got {
			t.Fatal("played again it is another one")
		}
	}
	for _, what := range []string{"disk 0", "disk 2", "feed 0", "feed 1", "feed 2", "feed 50", "feed 201", "pick no", "pick 0", "pick 1", "pick 2", "all 0", "all 3", "arm 0", "arm 50", "crash 0", "crash 2"} {
		if met[what] < 5 {
			t.Error("too seldom", what, met[what])
		}
	}
}

// P28.6: each beginning of one script that has all verbs.
func TestBeginnings(t *testing.T) {
	text := "disk 60\n" + feed(0, signup("a")+signup("b")) + "pick 0 1\nall 2\nshow 0\n" + feed(1, signup("c")) + "pick 1 3\narm 1\npick 1 3\ncrash 0\ndone\ndump\n"
	whole, err := script.Play(text)
	if err != nil {
		t.Fatal(err)
	}
	lines, account := strings.SplitAfter(text, "\n"), strings.SplitAfter(whole, "\n")
	for n := range lines {
		wantAccount(t, strings.Join(lines[:n], ""), strings.Join(account[:n], ""))
	}
}

// linesOf tells the lines of an account that begin with a verb.
func linesOf(t *testing.T, text, verb string) string {
	t.Helper()
	account, err := script.Play(text)
	if err != nil {
		t.Fatal(err)
	}
	out := ""
	for _, line := range strings.SplitAfter(account, "\n") {
		if strings.HasPrefix(line, verb) {
			out += line
		}
	}
	return out
}

// W8: requests cut anywhere are replied the same.
func TestPlayPieces(t *testing.T) {
	whole := signup("a") + ask("GET", "/x", "", "") + signup("a") + "x\r\n"
	behind := "all 1\n" + feed(2, signup("b")) + "all 1\nshow 1\nshow 2\ndone\ndump\n"
	want := linesOf(t, "disk 60\n"+feed(1, whole)+behind, "show")
	if strings.Count(want, "HTTP/1.1") != 5 {
		t.Fatal(want)
	}
	for at := range len(whole) + 1 {
		text := "disk 60\n" + feed(1, whole[:at]) + "all 1\n" + feed(1, whole[at:]) + behind
		if got := linesOf(t, text, "show"); got != want {
			t.Errorf("%d: %q, not %q", at, got, want)
		}
	}
}

// W5: power goes ahead of each operation, and each pending write is kept or not: what was replied is there, and nothing that was not asked for.
func TestPlaySweep(t *testing.T) {
	states := map[string]int{sumOf(): 0}
	var users []api.Pair
	text := ""
	for i := range 8 {
		name := "u" + strconv.Itoa(i)
		text += feed(i, signup(name)) + fmt.Sprintf("all %d\nshow %d\n", i, i)
		users = append(users, api.Pair{Key: "user " + name})
		states[sumOf(users...)] = i + 1
	}
	met := map[int]int{}
	for n := range 16 { // a write and a flush for each call
		for _, keep := range []string{"", " 0"} {
			if n%2 == 0 && keep != "" {
				continue // as nothing is pending
			}
			account := linesOf(t, "disk 60\narm "+strconv.Itoa(n)+"\n"+text+"crash"+keep+"\ndump\n", "")
			replied := strings.Count(account, "201 Created")
			lines := strings.Split(strings.TrimSuffix(account, "\n"), "\n")
			there, is := states[strings.TrimPrefix(lines[len(lines)-1], "dump ")]
			if !is || there < replied || there > replied+1 || replied != n/2 || there > replied != (keep != "") {
				t.Fatal(n, keep, replied, there, account)
			}
			met[there-replied]++
		}
	}
	if met[0] != 16 || met[1] != 8 {
		t.Error(met)
	}
}
