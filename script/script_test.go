package script_test

import (
	"errors"
	"fmt"
	"math"
	"math/rand"
	"regexp"
	"slices"
	"strconv"
	"strings"
	"testing"

	"ingot/api"
	"ingot/script"
)

// P28.1: each byte by itself, and between others.
func TestEscape(t *testing.T) {
	for i := range 256 {
		b := byte(i)
		want := string([]byte{b})
		switch {
		case b == '\\':
			want = `\\`
		case b == 13:
			want = `\r`
		case b == 10:
			want = `\n`
		case b < 32 || b > 126:
			want = fmt.Sprintf(`\x%02x`, b)
		}
		for _, ahead := range []string{"", `\`, "x", "\\\\", "é"} {
			if got := script.Escape(ahead + string([]byte{b}) + "41"); got != script.Escape(ahead)+want+"41" {
				t.Errorf("%q %d: %q", ahead, b, got)
			}
		}
	}
	if got := script.Escape("a\tb\x00\xff\r\n\\ ~\x7f"); got != `a\x09b\x00\xff\r\n\\ ~\x7f` || script.Escape("") != "" {
		t.Error(got)
	}
}

var (
	number  = `(?:0|[1-9][0-9]{0,12})`
	escaped = `((?:[ -\[\]-~]|\\\\|\\r|\\n|\\x(?:0[0-9bcef]|1[0-9a-f]|7f|[89a-f][0-9a-f]))*)`
	shapes  = regexp.MustCompile(`^(?:(disk|all|show|arm) ` + number + `|(pick) ` + number + ` ` + number + `|(crash)((?: ` + number + `){0,64})|(done|dump)|(feed) ` + number + ` ` + escaped + `)$`)
	tokens  = regexp.MustCompile(`\\\\|\\r|\\n|\\x..|[^\\]`)
)

// stepOf tells by a pattern the step of a line.
func stepOf(line string) (script.Step, bool) {
	m := shapes.FindStringSubmatch(line)
	if m == nil {
		return script.Step{}, false
	}
	verb, rest, _ := strings.Cut(line, " ")
	s := script.Step{Verb: verb}
	if verb == "feed" {
		rest, _, _ = strings.Cut(rest, " ")
		s.Text = tokens.ReplaceAllStringFunc(m[len(m)-1], func(t string) string {
			if len(t) == 4 {
				n, _ := strconv.ParseUint(t[2:], 16, 8)
				return string([]byte{byte(n)})
			}
			return map[string]string{`\\`: `\`, `\r`: "\r", `\n`: "\n"}[t] + strings.TrimPrefix(t, t[:len(t)/2*2])
		})
	}
	for _, word := range strings.Fields(rest) {
		n, _ := strconv.Atoi(word)
		if n > 1<<40 {
			return script.Step{}, false
		}
		s.N = append(s.N, n)
	}
	return s, true
}

// stepsOf tells the steps of a text, or the number of its first line that is none.
func stepsOf(text string) ([]script.Step, int) {
	var out []script.Step
	for i, line := range strings.Split(text, "\n") {
		if line == "" || line[0] == '#' {
			continue
		}
		s, is := stepOf(line)
		if !is {
			return nil, i
		}
		out = append(out, s)
	}
	return out, -1
}

func same(a, b script.Step) bool {
	return a.Verb == b.Verb && slices.Equal(a.N, b.N) && a.Text == b.Text
}

// isFault tells whether an error is a Fault of a place and a number, as a value.
func isFault(err error, at int, e api.Errno) bool {
	f, is := err.(api.Fault)
	return is && f == api.Fault{At: at, Err: e} && errors.Is(err, e)
}

// hold holds what Parse tells of a text to the patterns, and tells whether it told steps.
func hold(t *testing.T, text string) bool {
	t.Helper()
	got, err := script.Parse(text)
	want, at := stepsOf(text)
	switch {
	case len(text) > api.MaxScript:
		if len(got) > 0 || !isFault(err, 0, api.ErrLong) {
			t.Fatalf("%.90q: %v", text, err)
		}
	case at >= 0:
		if len(got) > 0 || !isFault(err, at, api.ErrLine) {
			t.Fatalf("%.200q: %v %v, not at %d", text, got, err, at)
		}
	case err != nil || !slices.EqualFunc(got, want, same):
		t.Fatalf("%.200q: %v %v, not %v", text, got, err, want)
	}
	return err == nil
}

// P28.2: lines that are right, and those that are not.
func TestParse(t *testing.T) {
	for line, want := range map[string]script.Step{
		"disk 0":                   {Verb: "disk", N: []int{0}},
		"disk 1099511627776":       {Verb: "disk", N: []int{1 << 40}},
		"feed 7 ":                  {Verb: "feed", N: []int{7}},
		"feed 7  ":                 {Verb: "feed", N: []int{7}, Text: " "},
		"feed 0 a b 1":             {Verb: "feed", N: []int{0}, Text: "a b 1"},
		`feed 0 \\x41\r\n\x00\xff`: {Verb: "feed", N: []int{0}, Text: "\\x41\r\n\x00\xff"},
		"feed 0 #":                 {Verb: "feed", N: []int{0}, Text: "#"},
		"pick 3 9":                 {Verb: "pick", N: []int{3, 9}},
		"all 5":                    {Verb: "all", N: []int{5}},
		"show 5":                   {Verb: "show", N: []int{5}},
		"arm 10":                   {Verb: "arm", N: []int{10}},
		"crash":                    {Verb: "crash"},
		"crash 5 5 0":              {Verb: "crash", N: []int{5, 5, 0}},
		"done":                     {Verb: "done"},
		"dump":                     {Verb: "dump"},
	} {
		got, err := script.Parse(line)
		if err != nil || len(got) != 1 || !same(got[0], want) {
			t.Errorf("%q: %v %v", line, got, err)
		}
		for _, text := range []string{line, line + "\n", "\n\n" + line + "\n#\n", "# x\x00\xff\\\n" + line + "\n" + line + "\n\n"} {
			if !hold(t, text) {
				t.Errorf("%q", text)
			}
		}
	}
	for _, line := range []string{
		"disk", "disk ", "disk 1 ", "disk  1", " disk 1", "disk 01", "disk 00", "disk -1", "disk +1", "disk 1.", "disk 1x", "disk 0x1", "disk 1_0", "disk 1 2", "disk 1099511627777", "disk 9223372036854775808", "disk 18446744073709551616", "disk ٣", "Disk 1", "disk\t1", "disk 1\r", "disk 1 x",
		"feed", "feed ", "feed 0", "feed x ", "feed 00 a", "feed a", `feed 0 \`, `feed 0 \x`, `feed 0 \x0`, `feed 0 \x0g`, `feed 0 \x41`, `feed 0 \x5c`, `feed 0 \x0a`, `feed 0 \x0d`, `feed 0 \x0A`, `feed 0 \xFF`, `feed 0 \xfF`, `feed 0 \x20`, `feed 0 \x7e`, `feed 0 \a`, `feed 0 \\\`, `feed 0 \t`, `feed 0 \X00`, "feed 0 \t", "feed 0 \r", "feed 0 \x7f", "feed 0 é", "feed 0 \x00",
		"pick", "pick 1", "pick 1 ", "pick 1 2 3", "pick 1  2", "all", "all 1 2", "show", "show 1 2", "arm", "arm -1", "crash ", "crash x", "crash 1 ", "crash 01", "crash  1", "crash -1", "done ", "done 1", "dump 1", " ", " #", "x", "feedx 0 a", "DONE", "done\r", "\x00", "disk 1#",
	} {
		for _, text := range []string{line, "done\n" + line + "\nx", "\n# y\ndisk 5\n" + line} {
			if hold(t, text) {
				t.Errorf("%q", text)
			}
		}
	}
	for _, text := range []string{"", "\n", "\n\n\n", "#", "#\n", "# done\n#x"} {
		if l, err := script.Parse(text); len(l) != 0 || err != nil {
			t.Errorf("%q: %v %v", text, l, err)
		}
	}
}

// P28.2: at the limits, and one beyond.
func TestParseLimits(t *testing.T) {
	many := "crash" + strings.Repeat(" 1", 64)
	if l, err := script.Parse(many); err != nil || len(l) != 1 || len(l[0].N) != 64 {
		t.Error(l, err)
	}
	if hold(t, many+" 1") || hold(t, many+" ") {
		t.Error("65 numbers")
	}
	for _, n := range []int{api.MaxScript - 1, api.MaxScript, api.MaxScript + 1, 2 * api.MaxScript} {
		for _, text := range []string{strings.Repeat("\n", n), "#" + strings.Repeat("x", n-1), "feed 0 " + strings.Repeat("x", n-7), "x\n" + strings.Repeat("\n", n-2), (strings.Repeat("done\n", n/5+1))[:n/5*5] + strings.Repeat("\n", n%5)} {
			if len(text) != n {
				t.Fatal(len(text), n)
			}
			hold(t, text)
		}
	}
}

// word makes part of a line by chance.
func word(r *rand.Rand) string {
	return pick(r, "disk", "feed", "pick", "all", "show", "arm", "crash", "done", "dump", "0", "1", "12", "01", "1099511627776", "1099511627777", "", " ", "#", "\\", `\x`, `\r`, "\r", `\x0f`, `\x41`, "x", "\n")
}

func pick[T any](r *rand.Rand, of ...T) T { return of[r.Intn(len(of))] }

// step makes one that is right.
func step(r *rand.Rand) script.Step {
	n := func() int { return pick(r, 0, 1, 9, 10, 1<<40, r.Intn(100), r.Intn(1<<40)) }
	text := make([]byte, r.Intn(12))
	r.Read(text)
	switch s := (script.Step{Verb: pick(r, "disk", "feed", "pick", "all", "show", "arm", "crash", "done", "dump")}); s.Verb {
	case "feed":
		return script.Step{Verb: s.Verb, N: []int{n()}, Text: string(text) + pick(r, "", "GET / HTTP/1.1\r\n", "\\", " ")}
	case "pick":
		return script.Step{Verb: s.Verb, N: []int{n(), n()}}
	case "crash":
		for range r.Intn(4) {
			s.N = append(s.N, n())
		}
		return s
	case "done", "dump":
		return s
	default:
		return script.Step{Verb: s.Verb, N: []int{n()}}
	}
}

// P28.2: lines by chance.
func TestParseByChance(t *testing.T) {
	met := map[bool]int{}
	for seed := range int64(60000) {
		r := rand.New(rand.NewSource(seed))
		text := ""
		for range 1 + r.Intn(6) {
			text += word(r) + pick(r, " ", " ", " ", "", "\n")
		}
		if seed%3 == 0 {
			text, _ = script.Print([]script.Step{step(r), step(r)})
			at := r.Intn(len(text))
			text = text[:at] + pick(r, "", word(r), string([]byte{byte(r.Intn(256))})) + text[at+r.Intn(2):]
		}
		met[hold(t, text)]++
	}
	if met[true] < 2000 || met[false] < 2000 {
		t.Error(met)
	}
}

// P28.5: what is printed is parsed as it was, and printed again the same.
func TestThereAndBack(t *testing.T) {
	for seed := range int64(2000) {
		r := rand.New(rand.NewSource(seed))
		var l []script.Step
		for range r.Intn(30) {
			l = append(l, step(r))
		}
		text, err := script.Print(l)
		if err != nil || strings.Count(text, "\n") != len(l) {
			t.Fatal(l, err)
		}
		got, err := script.Parse(text)
		if err != nil || !slices.EqualFunc(got, l, same) {
			t.Fatal(got, err, l)
		}
		for i, s := range l {
			if s.Text == "" && len(s.N) == 0 {
				l[i].N = []int{}
			}
		}
		if again, err := script.Print(got); again != text || err != nil {
			t.Fatal(again, err)
		}
	}
}

// P28.3: steps as they are printed, and those that no line tells.
func TestPrint(t *testing.T) {
	l := []script.Step{{Verb: "disk", N: []int{60}}, {Verb: "feed", N: []int{0}, Text: "a \\\r\n\x00"}, {Verb: "pick", N: []int{1, 2}}, {Verb: "crash", N: []int{}}, {Verb: "crash", N: []int{3, 1}}, {Verb: "done"}}
	if text, err := script.Print(l); text != "disk 60\nfeed 0 a \\\\\\r\\n\\x00\npick 1 2\ncrash\ncrash 3 1\ndone\n" || err != nil {
		t.Errorf("%q %v", text, err)
	}
	if text, err := script.Print(nil); text != "" || err != nil {
		t.Error(text, err)
	}
	for _, s := range []script.Step{
		{}, {Verb: "x"}, {Verb: "#"}, {Verb: "done "}, {Verb: "Done"}, {Verb: "done\n"}, {Verb: "\n"}, {Verb: "\ndone"}, {Verb: "done\ndone"}, {Verb: "disk 1"}, {Verb: "disk 1", N: []int{1}}, {Verb: "crash 1"}, {Verb: "crash 1", N: []int{2}}, {Verb: "feed 0 a"}, {Verb: "pick 1", N: []int{2}}, {Verb: "#", Text: "x"},
		{Verb: "disk"}, {Verb: "disk", N: []int{-1}}, {Verb: "disk", N: []int{1<<40 + 1}}, {Verb: "disk", N: []int{math.MinInt}}, {Verb: "disk", N: []int{math.MaxInt}}, {Verb: "disk", N: []int{1, 2}}, {Verb: "disk", N: []int{1}, Text: "x"},
		{Verb: "feed"}, {Verb: "feed", Text: "x"}, {Verb: "feed", N: []int{0, 1}}, {Verb: "feed", N: []int{-1}, Text: "x"}, {Verb: "pick", N: []int{1}}, {Verb: "pick", N: []int{1, 2, 3}}, {Verb: "pick", N: []int{1}, Text: "2"},
		{Verb: "crash", N: make([]int, 65)}, {Verb: "crash", Text: "1"}, {Verb: "done", N: []int{0}}, {Verb: "done", Text: "x"}, {Verb: "dump", Text: "\n"}, {Verb: strings.Repeat("x", 1<<17)},
	} {
		for i, l := range [][]script.Step{{s}, {{Verb: "done"}, s, {Verb: "x"}}} {
			if text, err := script.Print(l); text != "" || !isFault(err, i, api.ErrArg) {
				t.Errorf("%.90v: %q %v", s, text, err)
			}
		}
	}
	if text, err := script.Print([]script.Step{{Verb: "crash", N: make([]int, 64)}}); text != "crash"+strings.Repeat(" 0", 64)+"\n" || err != nil {
		t.Error(text, err)
	}
}

// P28.3: texts of just MaxScript bytes, and of more. A step whose line alone has more is none that Parse tells.
func TestPrintLimits(t *testing.T) {
	feed := func(size int) script.Step { // whose line has so many bytes
		return script.Step{Verb: "feed", N: []int{0}, Text: strings.Repeat("x", size-7)}
	}
	done, wrong := script.Step{Verb: "done"}, script.Step{Verb: "x"}
	for _, c := range []struct {
		l  []script.Step
		at int
		e  api.Errno
	}{
		{[]script.Step{feed(api.MaxScript - 1)}, 0, api.OK},
		{[]script.Step{feed(api.MaxScript)}, 0, api.ErrLong},
		{[]script.Step{feed(api.MaxScript + 1)}, 0, api.ErrArg},
		{[]script.Step{feed(api.MaxScript - 6), done}, 0, api.OK},
		{[]script.Step{feed(api.MaxScript - 5), done}, 1, api.ErrLong},
		{[]script.Step{feed(api.MaxScript - 5), wrong}, 1, api.ErrArg},
		{[]script.Step{feed(api.MaxScript - 5), done, wrong}, 1, api.ErrLong},
		{[]script.Step{feed(api.MaxScript - 1), wrong}, 1, api.ErrArg},
		{[]script.Step{done, feed(40000), done, feed(40000), wrong}, 3, api.ErrLong},
		{[]script.Step{wrong, feed(api.MaxScript)}, 0, api.ErrArg},
		{slices.Repeat([]script.Step{done}, api.MaxScript/5), 0, api.OK},
		{slices.Repeat([]script.Step{done}, api.MaxScript/5+1), api.MaxScript / 5, api.ErrLong},
	} {
		text, err := script.Print(c.l)
		if c.e == api.OK {
			if l, again := script.Parse(text); err != nil || again != nil || !slices.EqualFunc(l, c.l, same) {
				t.Error(len(c.l), err, again)
			}
		} else if text != "" || !isFault(err, c.at, c.e) {
			t.Error(len(c.l), err, c.at, int(c.e))
		}
	}
}

// Rule 4: what is handed in stays as it is; what is handed out is new memory.
func TestMemory(t *testing.T) {
	room := []int{1, 2, 77}
	l := []script.Step{{Verb: "pick", N: room[:2]}, {Verb: "done"}}
	if text, err := script.Print(l[:1]); text != "pick 1 2\n" || err != nil || !slices.Equal(room, []int{1, 2, 77}) {
		t.Error(text, err, room)
	}
	a, _ := script.Parse("crash 1 2 3\ncrash 4 5 6")
	a[0].N = append(a[0].N, 9)
	b, _ := script.Parse("crash 1 2 3\ncrash 4 5 6")
	a[1].N[0] = 8
	if !slices.Equal(b[1].N, []int{4, 5, 6}) || !slices.Equal(a[1].N, []int{8, 5, 6}) {
		t.Error(a, b)
	}
}

func FuzzParse(f *testing.F) {
	f.Add("disk 60\nfeed 0 a\\r\\n\n# x\ncrash 1 2\n")
	f.Add("feed 0 \\x41")
	f.Fuzz(func(t *testing.T, text string) {
		if hold(t, text) {
			l, _ := script.Parse(text)
			again, err := script.Print(l)
			if got, e := script.Parse(again); err == nil && (e != nil || !slices.EqualFunc(got, l, same)) {
				t.Fatal(got, e)
			}
		}
	})
}
