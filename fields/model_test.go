package fields_test

import (
	"math/rand"
	"net/url"
	"regexp"
	"slices"
	"strings"
	"testing"

	"ingot/api"
	"ingot/fields"
)

var good = regexp.MustCompile(`^(?:[A-Za-z0-9._~+-]|%[0-9A-Fa-f]{2})*`)

// fault tells what is wrong with an escape that begins at a place, by its longest good beginning.
func fault(s string, at int) (api.Fault, bool) {
	switch rest := s[len(good.FindString(s)):]; {
	case rest == "":
		return api.Fault{}, false
	case rest[0] == '%':
		return api.Fault{At: at + len(s) - len(rest), Err: api.ErrPercent}, true
	default:
		return api.Fault{At: at + len(s) - len(rest), Err: api.ErrByte}, true
	}
}

func unescape(t *testing.T, s string) string {
	t.Helper()
	out, err := url.QueryUnescape(s)
	if err != nil {
		t.Fatal(s, err)
	}
	return out
}

// parse reads a form by the words of the chapter, piece by piece.
func parse(t *testing.T, s string) ([]api.Pair, api.Fault, bool) {
	t.Helper()
	if len(s) > 16384 {
		return nil, api.Fault{At: 16384, Err: api.ErrLong}, true
	}
	if s == "" {
		return nil, api.Fault{}, false
	}
	var out []api.Pair
	at := 0
	for i, piece := range strings.Split(s, "&") {
		if i == 64 {
			return nil, api.Fault{At: at, Err: api.ErrLong}, true
		}
		key, value, is := strings.Cut(piece, "=")
		if f, wrong := fault(key, at); wrong {
			return nil, f, true
		}
		if !is {
			return nil, api.Fault{At: at + len(piece), Err: api.ErrByte}, true
		}
		if f, wrong := fault(value, at+len(key)+1); wrong {
			return nil, f, true
		}
		out = append(out, api.Pair{Key: unescape(t, key), Value: unescape(t, value)})
		at += len(piece) + 1
	}
	return out, api.Fault{}, false
}

// holdText holds Unescape and Parse of a text against the model, and tells what Parse must say.
func holdText(t *testing.T, s string) api.Errno {
	t.Helper()
	if f, wrong := fault(s, 0); wrong {
		wantNoText(t, s, f.At, f.Err)
	} else {
		wantText(t, s, unescape(t, s))
	}
	l, f, wrong := parse(t, s)
	if wrong {
		wantNoPairs(t, s, f.At, f.Err)
		return f.Err
	}
	wantPairs(t, s, l...)
	holdAgain(t, s, l)
	return api.OK
}

// holdAgain holds P22.5 of what Parse read: it is printed as a text that is no longer and is read the same.
func holdAgain(t *testing.T, s string, l []api.Pair) {
	t.Helper()
	again, err := fields.Print(l)
	if err != nil || len(again) > len(s) {
		t.Errorf("P22.5: %.60q: %.60q %v", s, again, err)
	}
	wantPairs(t, again, l...)
}

// P22.1, P22.3, P22.5: all short texts of some bytes.
func TestAllShortTexts(t *testing.T) {
	const bytes = "%4F=&+z "
	met := map[api.Errno]int{}
	level := []string{""}
	for range 6 {
		var next []string
		for _, s := range level {
			met[holdText(t, s)]++
			for i := range bytes {
				next = append(next, s+bytes[i:i+1])
			}
		}
		level = next
	}
	if met[api.OK] < 500 || met[api.ErrByte] < 500 || met[api.ErrPercent] < 500 {
		t.Error(met)
	}
}

// P22.1, P22.3, P22.5: long texts by chance, some of them wrong in few places.
func TestTextsByChance(t *testing.T) {
	met := map[api.Errno]int{}
	pieces := []string{"a=1", "=", "b=%41%c3%a9", "%20+=~", "_.-=+", "k%3D=%26"}
	wrong := []string{"", "%", "%4", "a", "b==", "c= ", "/=", "d=%g0", "\xff=1"}
	for seed := range int64(3000) {
		r := rand.New(rand.NewSource(seed))
		var l []string
		for range r.Intn(70) {
			l = append(l, pieces[r.Intn(len(pieces))])
		}
		if len(l) > 0 && r.Intn(2) == 0 {
			l[r.Intn(len(l))] = wrong[r.Intn(len(wrong))]
		}
		if r.Intn(5) == 0 {
			l = append(l, "long="+strings.Repeat("%2e", 5300+r.Intn(200)))
		}
		met[holdText(t, strings.Join(l, "&"))]++
	}
	for _, e := range []api.Errno{api.OK, api.ErrLong, api.ErrByte, api.ErrPercent} {
		if met[e] < 100 {
			t.Error("too seldom:", int(e), met)
		}
	}
}

// anyText makes a text of any bytes.
func anyText(r *rand.Rand, most int) string {
	b := make([]byte, r.Intn(most))
	r.Read(b)
	return string(b)
}

// P22.1, P22.2, P22.5: Parse reads what Print writes as it was; Print gives up at the first pair with which it is too long.
func TestPairsByChance(t *testing.T) {
	met := map[bool]int{}
	for seed := range int64(3000) {
		r := rand.New(rand.NewSource(seed))
		l := make([]api.Pair, r.Intn(api.MaxPairs+1))
		var parts []string
		at := -1
		for i := range l {
			l[i] = api.Pair{Key: anyText(r, 20), Value: anyText(r, 1+r.Intn(400))}
			parts = append(parts, url.QueryEscape(l[i].Key)+"="+url.QueryEscape(l[i].Value))
			if at < 0 && len(strings.Join(parts, "&")) > 16384 {
				at = i
			}
			wantText(t, fields.Escape(l[i].Value), l[i].Value)
		}
		was := slices.Clone(l)
		if at >= 0 {
			wantNoForm(t, "chance", l, at)
		} else {
			form := strings.Join(parts, "&")
			wantForm(t, l, form)
			wantPairs(t, form, l...)
		}
		if !slices.Equal(l, was) {
			t.Fatal("what was handed in has changed")
		}
		met[at >= 0]++
	}
	if met[true] < 100 || met[false] < 100 {
		t.Error(met)
	}
}

func FuzzTexts(f *testing.F) {
	f.Add("a=1+2&b=%C3%A9")
	f.Add("a=%4&b")
	f.Fuzz(func(t *testing.T, s string) { holdText(t, s) })
}
