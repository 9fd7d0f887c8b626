package fields_test

import (
	"errors"
	"net/url"
	"slices"
	"strings"
	"testing"

	"ingot/api"
	"ingot/fields"
)

// wantFault holds an error to be a Fault as a value, of one number.
func wantFault(t *testing.T, what string, err error, at int, e api.Errno) {
	t.Helper()
	if err != error(api.Fault{At: at, Err: e}) || !errors.Is(err, e) {
		t.Errorf("%.60q: %v, not %d at %d", what, err, int(e), at)
	}
	for _, other := range []api.Errno{api.OK, api.ErrLong, api.ErrPercent, api.ErrByte} {
		if other != e && errors.Is(err, other) {
			t.Errorf("%.60q: %v is %d, too", what, err, int(other))
		}
	}
}

func wantText(t *testing.T, s, text string) {
	t.Helper()
	if got, err := fields.Unescape(s); got != text || err != nil {
		t.Errorf("Unescape(%.60q): %.60q %v, not %.60q", s, got, err, text)
	}
}

func wantNoText(t *testing.T, s string, at int, e api.Errno) {
	t.Helper()
	got, err := fields.Unescape(s)
	if got != "" {
		t.Errorf("Unescape(%.60q): %.60q", s, got)
	}
	wantFault(t, s, err, at, e)
}

func wantPairs(t *testing.T, s string, l ...api.Pair) {
	t.Helper()
	if got, err := fields.Parse(s); !slices.Equal(got, l) || err != nil {
		t.Errorf("Parse(%.60q): %v %v, not %v", s, got, err, l)
	}
}

func wantNoPairs(t *testing.T, s string, at int, e api.Errno) {
	t.Helper()
	got, err := fields.Parse(s)
	if len(got) != 0 {
		t.Errorf("Parse(%.60q): %v", s, got)
	}
	wantFault(t, s, err, at, e)
}

func wantForm(t *testing.T, l []api.Pair, s string) {
	t.Helper()
	if got, err := fields.Print(l); got != s || err != nil {
		t.Errorf("Print: %.60q %v, not %.60q", got, err, s)
	}
}

func wantNoForm(t *testing.T, what string, l []api.Pair, at int) {
	t.Helper()
	got, err := fields.Print(l)
	if got != "" {
		t.Errorf("%s: %.60q", what, got)
	}
	wantFault(t, what, err, at, api.ErrLong)
}

// The chapter's examples.
func TestExamples(t *testing.T) {
	wantForm(t, []api.Pair{{Key: "a", Value: "1 2"}, {Key: "b", Value: "é"}}, "a=1+2&b=%C3%A9")
	wantNoPairs(t, "a=%4", 2, api.ErrPercent)
	wantNoPairs(t, "a=1&b", 5, api.ErrByte)
}

const plain = "abcdefghijklmnopqrstuvwxyzABCDEFGHIJKLMNOPQRSTUVWXYZ0123456789-._~"

// P22.1: each byte by itself, in all its forms.
func TestBytes(t *testing.T) {
	const small, great = "0123456789abcdef", "0123456789ABCDEF"
	for i := range 256 {
		b := string([]byte{byte(i)})
		escape := "%" + great[i/16:i/16+1] + great[i%16:i%16+1]
		for _, digits := range [][2]string{{small, small}, {great, great}, {small, great}, {great, small}} {
			wantText(t, "%"+digits[0][i/16:i/16+1]+digits[1][i%16:i%16+1], b)
		}
		switch {
		case strings.Contains(plain, b):
			escape = b
			wantText(t, b, b)
			wantText(t, "a"+b+"z", "a"+b+"z")
		case b == "+":
			wantText(t, b, " ")
		case b == "%":
			wantNoText(t, b, 0, api.ErrPercent)
		default:
			wantNoText(t, b, 0, api.ErrByte)
			wantNoText(t, "a+%20"+b+"%", 5, api.ErrByte)
		}
		if b == " " {
			escape = "+"
		}
		if got := fields.Escape(b); got != escape || got != url.QueryEscape(b) {
			t.Errorf("Escape(%q): %q, not %q", b, got, escape)
		}
	}
}

// P22.1: which bytes are digits behind a %.
func TestDigits(t *testing.T) {
	const digits = "0123456789abcdefABCDEF"
	for i := range 256 {
		b := string([]byte{byte(i)})
		if strings.Contains(digits, b) {
			continue
		}
		wantNoText(t, "%"+b+"1", 0, api.ErrPercent)
		wantNoText(t, "%1"+b, 0, api.ErrPercent)
		wantNoText(t, "a%00%1"+b+"%20", 4, api.ErrPercent)
	}
}

// P22.1: longer texts, and the first byte that may not stand there.
func TestUnescape(t *testing.T) {
	wantText(t, "", "")
	wantText(t, "%41%4a%4A+~", "AJJ ~")
	wantText(t, "%2b%25%26%3D%00%ff", "+%&=\x00\xff")
	wantText(t, "++", "  ")
	wantText(t, "%2541", "%41")
	for _, c := range []struct {
		s  string
		at int
		e  api.Errno
	}{
		{"%", 0, api.ErrPercent},
		{"%4", 0, api.ErrPercent},
		{"%%41", 0, api.ErrPercent},
		{"%4%41", 0, api.ErrPercent},
		{"%g1", 0, api.ErrPercent},
		{"%1g", 0, api.ErrPercent},
		{"%+1", 0, api.ErrPercent},
		{"%-1", 0, api.ErrPercent},
		{"%0x", 0, api.ErrPercent},
		{"%4 ", 0, api.ErrPercent},
		{"%41%", 3, api.ErrPercent},
		{"%41%4", 3, api.ErrPercent},
		{"ab%", 2, api.ErrPercent},
		{" %", 0, api.ErrByte},
		{"a %zz", 1, api.ErrByte},
		{"a%zz ", 1, api.ErrPercent},
		{"%20 ", 3, api.ErrByte},
		{"a=b", 1, api.ErrByte},
		{"a&b", 1, api.ErrByte},
		{"a/b", 1, api.ErrByte},
		{"é", 0, api.ErrByte},
		{"ab\x00", 2, api.ErrByte},
		{"ab\xff", 2, api.ErrByte},
		{"a\n", 1, api.ErrByte},
		{"a*", 1, api.ErrByte},
		{strings.Repeat("%41", 30000) + "%", 90000, api.ErrPercent},
		{strings.Repeat("a", 30000) + ";", 30000, api.ErrByte},
	} {
		wantNoText(t, c.s, c.at, c.e)
	}
}

// P22.1: there is no limit of a text by itself.
func TestLongTexts(t *testing.T) {
	long := strings.Repeat("a b%\xff", 20000)
	if got := fields.Escape(long); got != strings.Repeat("a+b%25%FF", 20000) {
		t.Errorf("%d bytes", len(got))
	}
	wantText(t, strings.Repeat("a+b%25%fF", 20000), long)
	if got := fields.Escape(""); got != "" {
		t.Error(got)
	}
}

// P22.2: forms as they are written.
func TestPrint(t *testing.T) {
	wantForm(t, nil, "")
	wantForm(t, []api.Pair{}, "")
	wantForm(t, []api.Pair{{}}, "=")
	wantForm(t, []api.Pair{{}, {}}, "=&=")
	wantForm(t, []api.Pair{{Key: "a"}, {Value: "b"}, {Key: "a", Value: "c"}}, "a=&=b&a=c")
	wantForm(t, []api.Pair{{Key: "a=b&c", Value: "=&%+ ~"}}, "a%3Db%26c=%3D%26%25%2B+~")
	wantForm(t, []api.Pair{{Key: "\xff\x00", Value: "A-Z"}}, "%FF%00=A-Z")
}

// many makes so many pairs, all of them empty: each is printed as one byte.
func many(n int) []api.Pair { return make([]api.Pair, n) }

// of makes a text of n plain bytes.
func of(n int) string { return strings.Repeat("a", n) }

// P22.2: MaxPairs and MaxForm, and one beyond them.
func TestPrintLimits(t *testing.T) {
	wantForm(t, many(api.MaxPairs), strings.Repeat("=&", api.MaxPairs-1)+"=")
	wantNoForm(t, "one pair more", many(api.MaxPairs+1), api.MaxPairs)
	wantNoForm(t, "many pairs more", many(1<<16), api.MaxPairs)
	full := api.MaxForm - 1
	wantForm(t, []api.Pair{{Key: of(full)}}, of(full)+"=")
	wantForm(t, []api.Pair{{Value: of(full)}}, "="+of(full))
	wantForm(t, []api.Pair{{Key: of(10), Value: of(full - 10)}}, of(10)+"="+of(full-10))
	wantNoForm(t, "a key", []api.Pair{{Key: of(full + 1)}}, 0)
	wantNoForm(t, "a value", []api.Pair{{Value: of(full + 1)}}, 0)
	wantNoForm(t, "a long key", []api.Pair{{Key: of(api.MaxForm + 1)}}, 0)
	wantNoForm(t, "a very long value", []api.Pair{{}, {Value: of(1 << 20)}}, 1)
	wantNoForm(t, "both", []api.Pair{{Key: of(10), Value: of(full - 9)}}, 0)
	third := strings.Repeat("\xff", full/3)
	wantForm(t, []api.Pair{{Key: third}}, strings.Repeat("%FF", full/3)+"=")
	wantNoForm(t, "what is escaped", []api.Pair{{Key: third + "/"}}, 0)
	blanks := strings.Repeat(" ", full)
	wantForm(t, []api.Pair{{Value: blanks}}, "="+strings.Repeat("+", full))
	first := api.Pair{Key: of(1000), Value: of(999)}
	rest := api.MaxForm - 2000 - 1 - 1
	wantForm(t, []api.Pair{first, {Value: of(rest)}}, of(1000)+"="+of(999)+"&="+of(rest))
	wantNoForm(t, "the second pair", []api.Pair{first, {Value: of(rest + 1)}}, 1)
	wantNoForm(t, "the third pair", []api.Pair{first, {Value: of(rest)}, {}}, 2)
	wantNoForm(t, "the third pair by its =", []api.Pair{first, {Value: of(rest - 1)}, {}}, 2)
	wantForm(t, []api.Pair{first, {Value: of(rest - 2)}, {}}, of(1000)+"="+of(999)+"&="+of(rest-2)+"&=")
	wantNoForm(t, "the first one of several", []api.Pair{first, {Value: of(rest + 1)}, {Value: of(1 << 15)}, first}, 1)
	wantNoForm(t, "more than MaxPairs first", append(many(3), append([]api.Pair{{Value: of(1 << 15)}}, many(api.MaxPairs)...)...), api.MaxPairs)
	last := many(api.MaxPairs)
	last[api.MaxPairs-1].Key = of(api.MaxForm - 2*api.MaxPairs + 1)
	wantForm(t, last, strings.Repeat("=&", api.MaxPairs-1)+last[api.MaxPairs-1].Key+"=")
	last[api.MaxPairs-1].Key += "a"
	wantNoForm(t, "the last pair", last, api.MaxPairs-1)
}

// P22.3: forms as they are read, and what is wrong first.
func TestParse(t *testing.T) {
	wantPairs(t, "")
	wantPairs(t, "=", api.Pair{})
	wantPairs(t, "=&=", api.Pair{}, api.Pair{})
	wantPairs(t, "a=", api.Pair{Key: "a"})
	wantPairs(t, "=b", api.Pair{Value: "b"})
	wantPairs(t, "a=1&a=2&%41=%3d%26", api.Pair{Key: "a", Value: "1"}, api.Pair{Key: "a", Value: "2"}, api.Pair{Key: "A", Value: "=&"})
	wantPairs(t, "+=%20&%2B=+", api.Pair{Key: " ", Value: " "}, api.Pair{Key: "+", Value: " "})
	for _, c := range []struct {
		s  string
		at int
		e  api.Errno
	}{
		{"a", 1, api.ErrByte},
		{"&", 0, api.ErrByte},
		{"&a=1", 0, api.ErrByte},
		{"a=1&", 4, api.ErrByte},
		{"a=1&&b=2", 4, api.ErrByte},
		{"ab&c=1", 2, api.ErrByte},
		{"a=1&b&c=%", 5, api.ErrByte},
		{"a=1=2", 3, api.ErrByte},
		{"a==", 2, api.ErrByte},
		{"==", 1, api.ErrByte},
		{"a b=1", 1, api.ErrByte},
		{"a b", 1, api.ErrByte},
		{"a%", 1, api.ErrPercent},
		{"a%4", 1, api.ErrPercent},
		{"a%4=1", 1, api.ErrPercent},
		{"a%=1", 1, api.ErrPercent},
		{"%zz=", 0, api.ErrPercent},
		{"a=%4&1=", 2, api.ErrPercent},
		{"a=%&11=", 2, api.ErrPercent},
		{"a=%=1", 2, api.ErrPercent},
		{"a=b&c=%4", 6, api.ErrPercent},
		{"a=b&c=d%zz", 7, api.ErrPercent},
		{"a=b&%x=%", 4, api.ErrPercent},
		{"a=b&c=/&", 6, api.ErrByte},
		{"a=é", 2, api.ErrByte},
		{"a=1;b=2", 3, api.ErrByte},
		{"a=1\n", 3, api.ErrByte},
		{" ", 0, api.ErrByte},
		{"?a=1", 0, api.ErrByte},
	} {
		wantNoPairs(t, c.s, c.at, c.e)
	}
}

// P22.3: MaxForm and MaxPairs, and one beyond them; what is wrong further left is told first.
func TestParseLimits(t *testing.T) {
	most := strings.Repeat("a=&", api.MaxPairs-1) + "b=c"
	if l, err := fields.Parse(most); len(l) != api.MaxPairs || l[api.MaxPairs-1] != (api.Pair{Key: "b", Value: "c"}) || err != nil {
		t.Error(l, err)
	}
	wantNoPairs(t, most+"&", len(most)+1, api.ErrLong)
	wantNoPairs(t, most+"&d=", len(most)+1, api.ErrLong)
	wantNoPairs(t, most+"&%", len(most)+1, api.ErrLong)
	wantNoPairs(t, most+"&d=&e=&", len(most)+1, api.ErrLong)
	wantNoPairs(t, most+"%&d=", len(most), api.ErrPercent)
	wantNoPairs(t, most+"=&d=", len(most), api.ErrByte)
	wantNoPairs(t, "&"+most, 0, api.ErrByte)
	wantNoPairs(t, strings.Repeat("a=&", api.MaxPairs-1)+"b&c=", len(most)-2, api.ErrByte)
	wantPairs(t, "a="+of(api.MaxForm-2), api.Pair{Key: "a", Value: of(api.MaxForm - 2)})
	wantPairs(t, of(api.MaxForm-1)+"=", api.Pair{Key: of(api.MaxForm - 1)})
	wantNoPairs(t, "a="+of(api.MaxForm-1), api.MaxForm, api.ErrLong)
	wantNoPairs(t, "%"+of(api.MaxForm), api.MaxForm, api.ErrLong)
	wantNoPairs(t, strings.Repeat("&", 1<<20), api.MaxForm, api.ErrLong)
	wantNoPairs(t, of(api.MaxForm), api.MaxForm, api.ErrByte)
	wantNoPairs(t, of(api.MaxForm-1)+"%", api.MaxForm-1, api.ErrPercent)
}

// P22.4: the first pair of a key.
func TestGet(t *testing.T) {
	l := []api.Pair{{Key: "a", Value: "1"}, {Key: "b", Value: ""}, {Key: "a", Value: "2"}, {Key: "", Value: "3"}, {Key: "b", Value: "4"}, {Key: "é", Value: "+"}}
	for key, want := range map[string]string{"a": "1", "b": "", "": "3", "é": "+"} {
		if got, is := fields.Get(l, key); got != want || !is {
			t.Errorf("Get of %q: %q %v", key, got, is)
		}
	}
	for _, key := range []string{"A", "c", " ", "ab", "1", "%61"} {
		if got, is := fields.Get(l, key); got != "" || is {
			t.Errorf("Get of %q: %q %v", key, got, is)
		}
	}
	for _, none := range [][]api.Pair{nil, {}, l[:0]} {
		if got, is := fields.Get(none, "a"); got != "" || is {
			t.Error(got, is)
		}
	}
	if got, is := fields.Get(l[1:2:2], "a"); got != "" || is {
		t.Error("Get reads behind the length:", got)
	}
	far := append(many(1<<16), api.Pair{Key: "z", Value: "far"})
	if got, is := fields.Get(far, "z"); got != "far" || !is {
		t.Error(got, is)
	}
}

// Rule 4: what is handed in stays as it is, its spare room too.
func TestMemory(t *testing.T) {
	room := []api.Pair{{Key: "a b", Value: "%"}, {Key: "c", Value: "/"}, {Key: "spare", Value: "room"}}
	was := slices.Clone(room)
	wantForm(t, room[:2], "a+b=%25&c=%2F")
	fields.Get(room[:2], "spare")
	if !slices.Equal(room, was) {
		t.Error(room)
	}
	one, err := fields.Parse("a=1&b=2&c=3")
	two, err2 := fields.Parse("a=1&b=2&c=3")
	if err != nil || err2 != nil || len(one) != 3 || len(two) != 3 {
		t.Fatal(one, two)
	}
	for i := range one[:cap(one)] {
		one[:cap(one)][i] = api.Pair{Key: "x"}
	}
	if !slices.Equal(two, []api.Pair{{Key: "a", Value: "1"}, {Key: "b", Value: "2"}, {Key: "c", Value: "3"}}) {
		t.Error(two)
	}
}
