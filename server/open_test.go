package server_test

import (
	"bytes"
	"encoding/binary"
	"fmt"
	"math"
	"slices"
	"strconv"
	"testing"

	"ingot/api"
	"ingot/disk"
	"ingot/forge"
	"ingot/frame"
	"ingot/server"
	"ingot/wal"
)

// wantNone holds that a disk has no server, for an error.
func wantNone(t *testing.T, what string, d *disk.Disk, want api.Errno) {
	t.Helper()
	if s, e := server.Open(d, nil); s != nil || e != want {
		t.Errorf("%s: %v %d, not %d", what, s != nil, int(e), int(want))
	}
}

// root makes a log's root as it lies on a disk.
func root(serial, epoch, start, floor uint64) []byte {
	b := []byte{0x52}
	for _, n := range []uint64{serial, epoch, start, floor} {
		b = binary.BigEndian.AppendUint64(b, n)
	}
	b = append(b, make([]byte, api.SectorSize-4-len(b))...)
	return binary.BigEndian.AppendUint32(b, frame.Sum(b))
}

// P27.1: store.Open's errors.
func TestOpenErrors(t *testing.T) {
	wantNone(t, "nil", nil, api.ErrNil)
	wantNone(t, "a disk that no call made", &disk.Disk{}, api.ErrNil)
	for sectors := 1; sectors < 6; sectors++ {
		d, _ := disk.New(sectors)
		wantNone(t, strconv.Itoa(sectors)+" sectors", d, api.ErrArg)
	}
	for n := range 2 {
		d, _ := disk.New(6)
		d.Arm(n)
		wantNone(t, "armed", d, api.ErrPower)
		if !d.Down() || d.Ops() != n {
			t.Error(n, d.Down(), d.Ops())
		}
		wantNone(t, "down", d, api.ErrPower)
		d.Restart(nil)
		d.Arm(2)
		if s, e := server.Open(d, nil); s == nil || e != api.OK || d.Ops() != n+2 {
			t.Error(n, int(e), d.Ops())
		}
	}
	d, _ := disk.New(6)
	d.Write(1, root(1, 1<<48, 1, 1))
	d.Flush()
	wantNone(t, "the last epoch", d, api.ErrFull)
	d, _ = disk.New(6)
	l, _, _ := wal.Open(d)
	l.Append([][]byte{{3}})
	wantNone(t, "a record of none", d, api.ErrCorrupt)
}

// signed tells the bytes of a call that answers: a user begins.
func signed(tick int, name string) string {
	return bytesOf(tick, api.Call{Kind: api.CallSignup, Form: form("name", name, "secret", "s")})
}

// P27.1: the calls that are stored are done, in order, each at its tick; the server goes on behind them.
func TestOpenStored(t *testing.T) {
	calls := []struct {
		tick int
		call api.Call
	}{
		{5, api.Call{Kind: api.CallSignup, Form: form("name", "ann", "secret", "s")}},
		{7, api.Call{Kind: api.CallToken, Form: form("user", "ann", "secret", "s", "for", "10")}},
		{7, api.Call{Kind: api.CallOrg, Form: form("name", "o")}},
		{16, api.Call{Kind: api.CallChannel, Org: "o", Form: form("name", "main")}},
	}
	f := forge.New([]byte("k"))
	var pairs []api.Pair
	token := ""
	for i, c := range calls {
		c.call.Token = token
		r := f.Do(c.call, c.tick)
		if r.Status != 201 {
			t.Fatal(r)
		}
		if c.call.Kind == api.CallToken {
			token = r.Body[:len(r.Body)-1]
		}
		pairs = append(pairs, pairsOf(i+1, bytesOf(c.tick, c.call))...)
	}
	d := diskWith(t, 60, pairs...)
	ops := d.Ops()
	s, e := server.Open(d, []byte("k"))
	if e != api.OK || !slices.Equal(s.Dump(), f.Dump()) || len(s.Done()) != 0 || !s.Idle() || d.Ops() != ops+2 {
		t.Fatal(int(e), s.Dump(), s.Done(), d.Ops()-ops)
	}
	// The tick is the last one's: the token still holds, though not at 17.
	w := &world{t, d, s, -5, map[string]string{"ann": token}}
	w.want(made(""), "ann", "POST", "/orgs/o/channels", "name", "side")
	w.now = 17
	w.want(says(401, "text/plain", "162\n"), "ann", "POST", "/orgs/o/channels", "name", "next")
	if l := s.Done(); len(l) != 2 || l[0].Tick != 16 || l[1].Tick != 17 {
		t.Error(l)
	}
	stored := storedOf(t, d)
	if len(stored) != 5 || !slices.Equal(stored[:4], pairs) || stored[4].Key != "e/00000005/0" || stored[4].Value[0] != 16 {
		t.Error(stored)
	}
	// With another secret the tokens of the calls are none.
	w.s = nil
	if s, e := server.Open(d, nil); s != nil || e != api.ErrCorrupt {
		t.Error(int(e))
	}
	if s, e := server.Open(d, []byte("k")); e != api.OK || len(s.Dump()) == 0 {
		t.Error(int(e))
	}
}

// annOf makes a call by which ann begins, with something beside it.
func annOf(c api.Call) api.Call {
	c.Kind, c.Form = api.CallSignup, append(form("name", "ann", "secret", "s"), c.Form...)
	return c
}

// sized tells the bytes of such a call, which are so many.
func sized(size int) string {
	c := annOf(api.Call{Arg: times(size)})
	for range 2 { // as how long the Arg is stands there, too
		c.Arg = times(len(c.Arg) + size - len(bytesOf(0, c)))
	}
	b := bytesOf(0, c)
	if len(b) != size {
		panic(len(b))
	}
	return b
}

// P27.1: calls at the edges of what may be stored.
func TestOpenEdges(t *testing.T) {
	for what, b := range map[string]string{
		"the last tick":        signed(api.MaxTime, "ann"),
		"the last Id":          bytesOf(0, annOf(api.Call{Id: math.MaxInt32})),
		"many pairs":           bytesOf(0, annOf(api.Call{Form: make([]api.Pair, 1000)})),
		"long texts":           bytesOf(0, annOf(api.Call{Token: times(9000), Org: "\x00", Channel: times(1000), Form: form(times(300), times(3000))})),
		"a whole piece":        sized(api.MaxValue),
		"a byte less":          sized(api.MaxValue - 1),
		"a byte more":          sized(api.MaxValue + 1),
		"two whole pieces":     sized(2 * api.MaxValue),
		"more than ten pieces": sized(11*api.MaxValue + 3),
		"twenty-one pieces":    sized(21 * api.MaxValue),
	} {
		d := diskWith(t, 800, append(pairsOf(1, b), pairsOf(2, signed(api.MaxTime, "bob"))...)...)
		s, e := server.Open(d, nil)
		if e != api.OK || !slices.Equal(s.Dump(), []api.Pair{{Key: "user ann"}, {Key: "user bob"}}) {
			t.Error(what, int(e), s.Dump())
		}
	}
	// As many as there is room for, with numbers of several digits.
	var pairs []api.Pair
	for i := range 120 {
		b := bytesOf(i/2, api.Call{Kind: api.CallToken, Form: form("user", "ann", "secret", "s", "for", "1")})
		if i == 0 {
			b = signed(0, "ann")
		}
		pairs = append(pairs, pairsOf(i+1, b)...)
	}
	if s, e := server.Open(diskWith(t, 400, pairs...), nil); e != api.OK || len(s.Dump()) != 1 {
		t.Error(int(e))
	}
}

// P27.1: what is no store of a server. Rule 2: the disk stays as it is.
func TestOpenCorrupt(t *testing.T) {
	ann, bob := signed(3, "ann"), signed(3, "bob")
	long := bytesOf(3, api.Call{Kind: api.CallSignup, Arg: times(5000), Form: form("name", "bob", "secret", "s")})
	key := func(key string) api.Pair { return api.Pair{Key: key, Value: bob} }
	at := func(k, v string) api.Pair { return api.Pair{Key: k, Value: v} }
	number := func(n uint64) string { return string(binary.AppendUvarint(nil, n)) }
	rest := bob[3:] // behind tick, Kind and Id
	if bob[:3] != "\x03\x01\x00" {
		t.Fatal(bob)
	}
	user := []api.Pair{at("e/00000001/0", ann)}
	with := func(l ...api.Pair) []api.Pair { return append(slices.Clone(user), l...) }
	second := func(b string) []api.Pair { return append(pairsOf(1, ann), pairsOf(2, b)...) }
	wrong := map[string][]api.Pair{
		"no first number":   {key("e/00000002/0")},
		"the number 0":      with(key("e/00000000/0")),
		"a number left out": with(key("e/00000003/0")),
		"no first piece":    with(key("e/00000002/1")),
		"a piece left out":  append(second(long)[:2], second(long)[3:]...),
		"the last but one":  append(second(long)[:1], second(long)[2:]...),
		"the last piece":    second(long)[:3],
		"a piece more":      append(second(long), at("e/00000002/3", "a")),
		"an empty piece":    with(at("e/00000002/0", "")),
		"an empty last one": append(second(long), at("e/00000002/3", "")),
		"one behind all":    append(pairsOf(1, sized(2*api.MaxValue)), at("e/00000001/2", "")),
		"a short piece":     with(at("e/00000002/0", bob[:5]), at("e/00000002/1", bob[5:])),
		"another cut":       with(at("e/00000002/0", long[:api.MaxValue-1]), at("e/00000002/1", long[api.MaxValue-1:2*api.MaxValue-1]), at("e/00000002/2", long[2*api.MaxValue-1:])),
		"a tick that falls": second(signed(2, "bob")),
		"a late tick":       second(number(1<<40+1) + bob[1:]),
		"a great tick":      second(number(math.MaxUint64) + bob[1:]),
		"a tick of 2^63":    second(number(1<<63) + bob[1:]),
		"a great kind":      second("\x03" + number(1<<60+1) + bob[2:]),
		"the greatest kind": second("\x03" + number(math.MaxUint64) + bob[2:]),
		"a kind by wrap":    second("\x03" + number(1<<32+1) + bob[2:]),
		"the kind 2^60":     second("\x03" + number(1<<60) + bob[2:]),
		"a great Id":        second("\x03\x01" + number(1<<31) + rest),
		"the greatest Id":   second("\x03\x01" + number(math.MaxUint64) + rest),
		"an Id by wrap":     second("\x03\x01" + number(1<<32) + rest),
		"many pairs":        second("\x03\x01\x00\x00\x00\x00\x00" + number(1<<40)),
		"the most pairs":    second("\x03\x01\x00\x00\x00\x00\x00" + number(math.MaxUint64)),
		"a pair more":       second("\x03\x01\x00\x00\x00\x00\x00\x03" + bob[8:]),
		"a pair less":       second("\x03\x01\x00\x00\x00\x00\x00\x01" + bob[8:]),
		"a number's form":   second("\x83\x00" + bob[1:]),
		"something left":    second(bob + "\x00"),
		"no user":           second(bytesOf(3, api.Call{Kind: api.CallSignup, Form: form("name", "ann", "secret", "s")})),
		"a name of none":    second(signed(3, "Bob")),
		"another secret":    second(bytesOf(3, api.Call{Kind: api.CallToken, Form: form("user", "ann", "secret", "t", "for", "1")})),
		"no token":          second(bytesOf(3, api.Call{Kind: api.CallOrg, Form: form("name", "o")})),
	}
	for _, k := range []string{"e", "e/", "x", "e/00000002", "e/00000002/", "e/00000002/00", "e/00000002/-1", "e/00000002/+0", "e/00000002/0/", "e/00000002/x", "e/2/0", "e/0000002/0", "e/000000002/0", "E/00000002/0", "f/00000002/0", " e/00000002/0", "e/00000001/00", "e/00000001/01", "e/00000001/0 ", "e//0", "e/00000001/0\x00", "\x00", "e/99999999/0", "e/4294967298/0"} {
		wrong["the key "+strconv.Quote(k)] = with(key(k))
	}
	for size := range len(bob) {
		if size > 0 {
			wrong[fmt.Sprint(size, " bytes alone")] = second(bob[:size])
		}
	}
	for kind := range 30 {
		c := api.Call{Kind: kind, Org: "o", Channel: "main", Arg: "a", Id: 1, Form: form("name", "x")}
		wrong["the kind "+strconv.Itoa(kind)] = second(bytesOf(3, c))
	}
	for what, pairs := range wrong {
		d := diskWith(t, 100, pairs...)
		before := d.Clone()
		wantNone(t, what, d, api.ErrCorrupt)
		if !sameDisk(d, before) {
			t.Error(what, "changed the disk")
		}
		wantNone(t, what+", again", d, api.ErrCorrupt)
	}
	for what, pairs := range map[string][]api.Pair{"none": nil, "one": user, "two": second(bob), "a long one": second(long)} {
		if s, e := server.Open(diskWith(t, 100, pairs...), nil); e != api.OK || len(s.Dump()) != min(len(pairs), 2) {
			t.Error(what, int(e))
		}
	}
}

func sameDisk(a, b *disk.Disk) bool {
	return a.Ops() == b.Ops() && a.Down() == b.Down() && slices.Equal(a.Pending(), b.Pending()) && slices.EqualFunc(a.Sure(), b.Sure(), bytes.Equal)
}

// P27.1: calls that only read are none that are stored, though they answer.
func TestOpenReads(t *testing.T) {
	w := newWorld(t, 200)
	w.want(made(hexOf(one("ann", "a", "x"))+"\n"), "ann", "POST", "/orgs/o/channels/main/patches", "patch", codeOf(one("ann", "a", "x")))
	w.want(made("1\n"), "ann", "POST", "/orgs/o/channels/main/proposals", "patch", codeOf(one("ann", "b", "x")))
	stored := storedOf(t, w.d)
	next := len(stored) + 1
	for kind, isRight := range map[int]bool{api.CallText: false, api.CallLog: false, api.CallProposal: false, api.CallAudit: false, api.CallTeam: true} {
		c := api.Call{Kind: kind, Token: w.tokens["ann"], Org: "o", Channel: "main", Arg: "a", Id: 1, Form: form("name", "x")}
		f := forge.New([]byte("k"))
		for _, d := range w.s.Done() {
			f.Do(d.Call, d.Tick)
		}
		if r := f.Do(c, 0); r.Status > 201 {
			t.Fatal(kind, r)
		}
		d := diskWith(t, 200, append(slices.Clone(stored), pairsOf(next, bytesOf(0, c))...)...)
		if _, e := server.Open(d, []byte("k")); (e == api.OK) != isRight || e != api.OK && e != api.ErrCorrupt {
			t.Error(kind, int(e))
		}
	}
}

// P27.1: power may go within Open; then there is no server, and the next Open tells the same.
func TestOpenPower(t *testing.T) {
	w := newWorld(t, 60)
	before := w.s.Dump()
	for n := range 2 {
		for _, keep := range [][]int{nil, {0}} {
			d := w.d.Clone()
			d.Arm(n)
			wantNone(t, "armed", d, api.ErrPower)
			if e := d.Restart(keep[:min(len(keep), len(d.Pending()))]); e != api.OK {
				t.Fatal(int(e))
			}
			if s, e := server.Open(d, []byte("k")); e != api.OK || !slices.Equal(s.Dump(), before) {
				t.Error(n, keep, int(e))
			}
		}
	}
	// Power is asked for ahead of what is corrupt.
	d := diskWith(t, 60, api.Pair{Key: "x"})
	d.Arm(1)
	wantNone(t, "corrupt and armed", d, api.ErrPower)
	if !d.Down() {
		t.Error("not down")
	}
	d.Restart(nil)
	wantNone(t, "corrupt", d, api.ErrCorrupt)
}
