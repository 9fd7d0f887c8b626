package queue_test

import (
	"errors"
	"math"
	"runtime"
	"slices"
	"testing"

	"ingot/api"
	"ingot/queue"
)

func want(t *testing.T, what string, got, is api.Errno) {
	t.Helper()
	if got != is {
		t.Errorf("%s: %d, not %d", what, int(got), int(is))
	}
}

// of makes a queue in which some wait.
func of(t *testing.T, ids ...int) *queue.Queue {
	t.Helper()
	q := queue.New()
	for _, id := range ids {
		want(t, "Put", q.Put(id), api.OK)
	}
	return q
}

func wantWaiting(t *testing.T, q *queue.Queue, ids ...int) {
	t.Helper()
	if got := q.Waiting(); !slices.Equal(got, ids) {
		t.Errorf("waiting %v, not %v", got, ids)
	}
	for i, id := range ids {
		if got := q.Place(id); got != i {
			t.Errorf("the place of %d: %d, not %d", id, got, i)
		}
	}
}

func wantEnded(t *testing.T, q *queue.Queue, l ...api.Queued) {
	t.Helper()
	if got := q.Ended(); !slices.Equal(got, l) {
		t.Errorf("ended %v, not %v", got, l)
	}
}

func merged(id int) api.Queued { return api.Queued{Proposal: id, End: api.Merged} }

func rejected(id int, why api.Errno) api.Queued {
	return api.Queued{Proposal: id, End: api.Rejected, Why: why}
}

// answers is a try that always says the same.
func answers(e api.Errno) func(int) api.Errno { return func(int) api.Errno { return e } }

func wantStep(t *testing.T, q *queue.Queue, try func(int) api.Errno, told api.Queued) {
	t.Helper()
	if got, e := q.Step(try); got != told || e != api.OK {
		t.Errorf("Step: %v %d, not %v", got, int(e), told)
	}
}

func wantNoStep(t *testing.T, q *queue.Queue, try func(int) api.Errno, is api.Errno) {
	t.Helper()
	if got, e := q.Step(try); got != (api.Queued{}) || e != is {
		t.Errorf("Step: %v %d, not %d", got, int(e), int(is))
	}
}

// panicOf tells what a call panicked with.
func panicOf(call func()) (what any) {
	defer func() { what = recover() }()
	call()
	return nil
}

// The chapter's example.
func TestExample(t *testing.T) {
	q := of(t, 3, 5)
	wantStep(t, q, answers(api.ErrClosed), api.Queued{Proposal: 3, End: api.Rejected, Why: api.ErrClosed})
	wantWaiting(t, q, 5)
}

// P21.1, P21.5: what may be put, in which order it waits.
func TestPut(t *testing.T) {
	q := queue.New()
	wantWaiting(t, q)
	wantEnded(t, q)
	for _, id := range []int{0, -1, math.MinInt} {
		want(t, "Put of no number", q.Put(id), api.ErrArg)
		if q.Place(id) != -1 {
			t.Error(id, "has a place")
		}
	}
	want(t, "Put(5)", q.Put(5), api.OK)
	want(t, "Put of the greatest", q.Put(math.MaxInt), api.OK)
	want(t, "Put(1)", q.Put(1), api.OK)
	want(t, "Put(3)", q.Put(3), api.OK)
	wantWaiting(t, q, 5, math.MaxInt, 1, 3)
	for _, id := range []int{5, math.MaxInt, 1, 3} {
		want(t, "Put again", q.Put(id), api.ErrThere)
	}
	want(t, "Put(0)", q.Put(0), api.ErrArg)
	wantWaiting(t, q, 5, math.MaxInt, 1, 3)
	for _, id := range []int{2, 4, 6, 0, -5, math.MinInt, math.MaxInt - 1} {
		if got := q.Place(id); got != -1 {
			t.Error(id, got)
		}
	}
	wantEnded(t, q)
}

// P21.1: MaxOpen wait, and one more.
func TestMostWait(t *testing.T) {
	q := queue.New()
	var ids []int
	for i := range api.MaxOpen {
		ids = append(ids, 1000-i)
		want(t, "Put", q.Put(1000-i), api.OK)
	}
	for range 2 {
		want(t, "one more", q.Put(1), api.ErrLong)
		want(t, "one that waits", q.Put(1000), api.ErrThere)
		want(t, "the last one that waits", q.Put(937), api.ErrThere)
		want(t, "none", q.Put(0), api.ErrArg)
	}
	wantWaiting(t, q, ids...)
	want(t, "Drop", q.Drop(980), api.OK)
	want(t, "into the room", q.Put(980), api.OK)
	want(t, "one more", q.Put(1), api.ErrLong)
	wantStep(t, q, func(id int) api.Errno {
		want(t, "one more in a Step", q.Put(1), api.ErrLong)
		return api.OK
	}, merged(1000))
	want(t, "behind a Step", q.Put(1), api.OK)
	want(t, "one more", q.Put(1000), api.ErrLong)
	ids = slices.Delete(ids, 20, 21)
	wantWaiting(t, q, append(ids[1:], 980, 1)...)
}

// P21.1: what is dropped has ended, wherever it waited.
func TestDrop(t *testing.T) {
	q := of(t, 4, 2, 7, 9)
	for _, id := range []int{1, 0, -4, 3, 8, math.MinInt, math.MaxInt} {
		want(t, "Drop of none", q.Drop(id), api.ErrMissing)
	}
	want(t, "the one between", q.Drop(7), api.OK)
	wantWaiting(t, q, 4, 2, 9)
	want(t, "again", q.Drop(7), api.ErrMissing)
	want(t, "the last one", q.Drop(9), api.OK)
	wantWaiting(t, q, 4, 2)
	want(t, "the first one", q.Drop(4), api.OK)
	wantWaiting(t, q, 2)
	want(t, "Put of what was dropped", q.Put(7), api.OK)
	wantWaiting(t, q, 2, 7)
	want(t, "Drop again", q.Drop(7), api.OK)
	want(t, "the only one", q.Drop(2), api.OK)
	wantWaiting(t, q)
	want(t, "Drop where none waits", q.Drop(2), api.ErrMissing)
	var ended []api.Queued
	for _, id := range []int{7, 9, 4, 7, 2} {
		ended = append(ended, rejected(id, api.ErrClosed))
	}
	wantEnded(t, q, ended...)
}

// P21.2: what a Step tells, whatever try answers.
func TestStep(t *testing.T) {
	for _, why := range []api.Errno{api.OK, api.ErrNil, api.ErrArg, api.ErrClosed, api.ErrNeeded, api.ErrMissing, api.ErrOver, -1, 12345, math.MinInt, math.MaxInt} {
		q := of(t, 8, 3, 5)
		told := rejected(8, why)
		if why == api.OK {
			told = merged(8)
		}
		var met []int
		wantStep(t, q, func(id int) api.Errno {
			met = append(met, id)
			return why
		}, told)
		if !slices.Equal(met, []int{8}) {
			t.Error("tried:", met)
		}
		wantWaiting(t, q, 3, 5)
		wantEnded(t, q, told)
		want(t, "Put of what ended", q.Put(8), api.OK)
		wantWaiting(t, q, 3, 5, 8)
	}
}

// P21.2: errors of a Step, in their order; try is not called.
func TestNoStep(t *testing.T) {
	never := func(id int) api.Errno {
		t.Error("tried", id)
		return api.OK
	}
	q := queue.New()
	wantNoStep(t, q, nil, api.ErrArg)
	wantNoStep(t, q, never, api.ErrMissing)
	q = of(t, 1, 2)
	wantNoStep(t, q, nil, api.ErrArg)
	wantWaiting(t, q, 1, 2)
	wantStep(t, q, func(int) api.Errno {
		wantNoStep(t, q, nil, api.ErrArg)
		wantNoStep(t, q, never, api.ErrOver)
		return api.OK
	}, merged(1))
	wantStep(t, q, func(int) api.Errno {
		wantNoStep(t, q, never, api.ErrOver)
		return api.OK
	}, merged(2))
	wantNoStep(t, q, never, api.ErrMissing)
	wantEnded(t, q, merged(1), merged(2))
}

// P21.3: all calls within a try; that one waits, as the first.
func TestWithinTry(t *testing.T) {
	q := of(t, 1, 2, 3)
	other := of(t, 1, 6)
	wantStep(t, q, func(id int) api.Errno {
		wantWaiting(t, q, 1, 2, 3)
		wantEnded(t, q)
		want(t, "Put of the one that is tried", q.Put(1), api.ErrThere)
		want(t, "Drop of the one that is tried", q.Drop(1), api.ErrOver)
		want(t, "Drop of none", q.Drop(9), api.ErrMissing)
		want(t, "Drop of another one", q.Drop(2), api.OK)
		want(t, "Put of it", q.Put(2), api.OK)
		want(t, "Put", q.Put(4), api.OK)
		want(t, "Drop of what came", q.Drop(4), api.OK)
		if l := q.Drain(answers(api.OK)); len(l) != 0 {
			t.Error("Drain within a Step:", l)
		}
		wantStep(t, other, answers(api.ErrOwn), rejected(1, api.ErrOwn))
		want(t, "Drop of another queue's first", other.Drop(6), api.OK)
		wantWaiting(t, q, 1, 3, 2)
		wantEnded(t, q, rejected(2, api.ErrClosed), rejected(4, api.ErrClosed))
		return api.ErrOrder
	}, rejected(1, api.ErrOrder))
	wantWaiting(t, q, 3, 2)
	wantEnded(t, q, rejected(2, api.ErrClosed), rejected(4, api.ErrClosed), rejected(1, api.ErrOrder))
	want(t, "Drop of the first one behind a Step", q.Drop(3), api.OK)
	wantWaiting(t, q, 2)
}

// P21.3: a panic goes on as it is, and the queue goes on, too.
func TestPanic(t *testing.T) {
	mine := errors.New("mine")
	q := of(t, 5, 6, 7)
	for range 3 {
		if got := panicOf(func() { q.Step(func(int) api.Errno { panic(mine) }) }); got != mine {
			t.Error(got)
		}
		wantWaiting(t, q, 5, 6, 7)
		wantEnded(t, q)
	}
	got := panicOf(func() {
		q.Step(func(int) api.Errno {
			want(t, "Put", q.Put(8), api.OK)
			want(t, "Drop", q.Drop(6), api.OK)
			panic("late")
		})
	})
	if got != "late" {
		t.Error(got)
	}
	wantWaiting(t, q, 5, 7, 8)
	wantEnded(t, q, rejected(6, api.ErrClosed))
	want(t, "Drop of the one that was tried", q.Drop(5), api.OK)
	wantStep(t, q, answers(api.OK), merged(7))
	wantWaiting(t, q, 8)
}

// P21.3: an inner panic that try catches is the try's own thing.
func TestPanicWithin(t *testing.T) {
	q := of(t, 5, 6)
	wantStep(t, q, func(int) api.Errno {
		if panicOf(func() { panic("inner") }) != "inner" {
			t.Error("no panic")
		}
		wantNoStep(t, q, answers(api.OK), api.ErrOver)
		want(t, "Drop", q.Drop(5), api.ErrOver)
		return api.OK
	}, merged(5))
	wantWaiting(t, q, 6)
}

// P21.3: a try whose goroutine ends within it has answered nothing.
func TestGoexit(t *testing.T) {
	q := of(t, 5, 6)
	done := make(chan int)
	go func() {
		defer close(done)
		q.Step(func(int) api.Errno {
			runtime.Goexit()
			return api.OK
		})
	}()
	<-done
	wantWaiting(t, q, 5, 6)
	wantStep(t, q, answers(api.OK), merged(5))
}

// P21.4: as many Steps as wait at first.
func TestDrain(t *testing.T) {
	q := queue.New()
	if l := q.Drain(answers(api.OK)); len(l) != 0 {
		t.Error(l)
	}
	q = of(t, 4, 1, 3)
	if l := q.Drain(nil); len(l) != 0 {
		t.Error(l)
	}
	wantWaiting(t, q, 4, 1, 3)
	l := q.Drain(func(id int) api.Errno {
		want(t, "Put", q.Put(id+10), api.OK)
		if got := q.Drain(answers(api.OK)); len(got) != 0 {
			t.Error("a Drain within a Drain:", got)
		}
		if id == 1 {
			return api.ErrNeeded
		}
		return api.OK
	})
	all := []api.Queued{merged(4), rejected(1, api.ErrNeeded), merged(3)}
	if !slices.Equal(l, all) {
		t.Error(l)
	}
	wantEnded(t, q, all...)
	wantWaiting(t, q, 14, 11, 13)
}

// P21.4: what is put while it drains takes the place of what was dropped; with nothing left it ends.
func TestDrainWithDrops(t *testing.T) {
	q := of(t, 1, 2, 3)
	first := func(id int) api.Errno {
		if id == 1 {
			q.Drop(2)
			q.Drop(3)
			q.Put(4)
			q.Put(5)
			q.Put(6)
		}
		return api.OK
	}
	if l := q.Drain(first); !slices.Equal(l, []api.Queued{merged(1), merged(4), merged(5)}) {
		t.Error(l)
	}
	wantWaiting(t, q, 6)
	q = of(t, 1, 2, 3)
	fewer := func(int) api.Errno {
		q.Drop(2)
		q.Drop(3)
		return api.ErrArg
	}
	if l := q.Drain(fewer); !slices.Equal(l, []api.Queued{rejected(1, api.ErrArg)}) {
		t.Error(l)
	}
	wantWaiting(t, q)
	q = of(t, 7)
	again := func(id int) api.Errno {
		want(t, "Put of the one that is tried", q.Put(id), api.ErrThere)
		return api.OK
	}
	if l := q.Drain(again); !slices.Equal(l, []api.Queued{merged(7)}) {
		t.Error(l)
	}
	wantWaiting(t, q)
}

// P21.4: a panic on the way leaves what was stepped ahead of it.
func TestDrainPanics(t *testing.T) {
	q := of(t, 1, 2, 3)
	got := panicOf(func() {
		q.Drain(func(id int) api.Errno {
			if id == 2 {
				panic(id)
			}
			return api.OK
		})
	})
	if got != 2 {
		t.Error(got)
	}
	wantEnded(t, q, merged(1))
	wantWaiting(t, q, 2, 3)
	if l := q.Drain(answers(api.ErrClosed)); !slices.Equal(l, []api.Queued{rejected(2, api.ErrClosed), rejected(3, api.ErrClosed)}) {
		t.Error(l)
	}
}

// P21.8: what waits at the place p has ended behind p + 1 Steps, however much is put behind it.
func TestProgress(t *testing.T) {
	for p := range api.MaxOpen {
		q := queue.New()
		for id := 1; id <= api.MaxOpen; id++ {
			want(t, "Put", q.Put(id), api.OK)
		}
		one, next := p+1, 1000
		for step := range p + 1 {
			if got := q.Place(one); got != p-step {
				t.Fatalf("place %d, not %d", got, p-step)
			}
			wantStep(t, q, answers(api.ErrNeeded), rejected(step+1, api.ErrNeeded))
			next++
			want(t, "Put", q.Put(next), api.OK)
		}
		if q.Place(one) != -1 || q.Ended()[p].Proposal != one {
			t.Error(one, "waits")
		}
	}
}

// Rule 4: what is told is nobody else's memory, spare room too.
func TestMemory(t *testing.T) {
	q := of(t, 1, 2, 3, 4, 5)
	q.Drain(nil)
	wantStep(t, q, answers(api.OK), merged(1))
	want(t, "Drop", q.Drop(4), api.OK)
	waiting, ended := q.Waiting(), q.Ended()
	spoil, spoilEnded := q.Waiting(), q.Ended()
	for i := range spoil[:cap(spoil)] {
		spoil[:cap(spoil)][i] = 77
	}
	for i := range spoilEnded[:cap(spoilEnded)] {
		spoilEnded[:cap(spoilEnded)][i] = rejected(77, api.ErrArg)
	}
	want(t, "Put", q.Put(6), api.OK)
	wantWaiting(t, q, 2, 3, 5, 6)
	wantEnded(t, q, merged(1), rejected(4, api.ErrClosed))
	told := q.Drain(answers(api.ErrOwn))
	for i := range told[:cap(told)] {
		told[:cap(told)][i] = merged(88)
	}
	wantEnded(t, q, merged(1), rejected(4, api.ErrClosed), rejected(2, api.ErrOwn), rejected(3, api.ErrOwn), rejected(5, api.ErrOwn), rejected(6, api.ErrOwn))
	if !slices.Equal(waiting, []int{2, 3, 5}) || !slices.Equal(ended, []api.Queued{merged(1), rejected(4, api.ErrClosed)}) {
		t.Error("what was told has changed", waiting, ended)
	}
}

// Rule 1: a queue that no call made stays one, whatever it is asked.
func TestNotMade(t *testing.T) {
	never := func(id int) api.Errno {
		t.Error("tried", id)
		return api.OK
	}
	for what, q := range map[string]*queue.Queue{"nil": nil, "plain": {}} {
		for range 2 {
			for _, id := range []int{0, 1, -1, math.MinInt, math.MaxInt} {
				want(t, what+" Put", q.Put(id), api.ErrNil)
				want(t, what+" Drop", q.Drop(id), api.ErrNil)
				if got := q.Place(id); got != -1 {
					t.Error(what, "Place", got)
				}
			}
			wantNoStep(t, q, nil, api.ErrNil)
			wantNoStep(t, q, never, api.ErrNil)
			if len(q.Drain(nil))+len(q.Drain(never))+len(q.Waiting())+len(q.Ended()) != 0 {
				t.Error(what, "tells something")
			}
		}
	}
}
