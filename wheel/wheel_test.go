package wheel_test

import (
	"math"
	"slices"
	"testing"

	"stockade/api"
	"stockade/wheel"
)

// most is how many numbers a wheel may have, as the chapter names it.
const most = 1024

// wrongTimes are none that may be.
var wrongTimes = []int{math.MinInt, -api.MaxTime, -2, -1, api.MaxTime + 1, api.MaxTime + 2, math.MaxInt}

// ids are numbers of all sizes and signs, in order.
var ids = []int{math.MinInt, math.MinInt + 1, -api.MaxTime, -65, -64, -1, 0, 1, 63, 64, 1 << 32, api.MaxTime, math.MaxInt - 1, math.MaxInt}

// made is a wheel that New gives.
func made(t *testing.T, now int) *wheel.Wheel {
	t.Helper()
	w, e := wheel.New(now)
	if e != api.OK || w == nil {
		t.Fatalf("New(%d): %v, %v", now, w, e)
	}
	has(t, w, now)
	return w
}

// set gives a number a time, and asks for it.
func set(t *testing.T, w *wheel.Wheel, id, at int) {
	t.Helper()
	if e := w.Set(id, at); e != api.OK {
		t.Fatalf("Set(%d, %d): %v", id, at, e)
	}
	timed(t, w, id, at, true)
}

// timed asks for a number's time.
func timed(t *testing.T, w *wheel.Wheel, id, at int, there bool) {
	t.Helper()
	if got, ok := w.Time(id); got != at || ok != there {
		t.Fatalf("Time(%d): %d, %v, want %d, %v", id, got, ok, at, there)
	}
}

// ticked sets a wheel's clock, and asks for what is due.
func ticked(t *testing.T, w *wheel.Wheel, to int, want ...int) {
	t.Helper()
	if got, e := w.Tick(to); e != api.OK || !slices.Equal(got, want) || w.Now() != to {
		t.Fatalf("Tick(%d): %v, %v, then Now %d, want %v", to, got, e, w.Now(), want)
	}
	for _, id := range want {
		timed(t, w, id, 0, false)
	}
}

// has asks for all that can be told of a wheel by itself: its clock, and of its numbers' times how many and the earliest.
func has(t *testing.T, w *wheel.Wheel, now int, times ...int) {
	t.Helper()
	if w.Now() != now || w.Len() != len(times) {
		t.Fatalf("Now %d, Len %d, want %d, %d", w.Now(), w.Len(), now, len(times))
	}
	next, ok := w.Next()
	if len(times) == 0 && (next != 0 || ok) || len(times) > 0 && (next != slices.Min(times) || !ok) {
		t.Fatalf("Next: %d, %v, of %v", next, ok, times)
	}
}

// P7.1: New.

func TestNew(t *testing.T) {
	for _, now := range []int{0, 1, 63, 64, 1 << 40, api.MaxTime - 1, api.MaxTime} {
		w := made(t, now)
		timed(t, w, 0, 0, false)
		ticked(t, w, now)
		has(t, w, now)
	}
	for _, now := range wrongTimes {
		if w, e := wheel.New(now); w != nil || e != api.ErrTime {
			t.Errorf("New(%d): %v, %v", now, w, e)
		}
	}
}

// P7.1: Set, at all times that may be, and at those that may not.

func TestSet(t *testing.T) {
	for _, now := range []int{0, 1, 1000, api.MaxTime - 1, api.MaxTime} {
		for _, at := range []int{0, 1, 999, 1000, 1001, api.MaxTime - 1, api.MaxTime} {
			w := made(t, now)
			set(t, w, 7, at)
			has(t, w, now, at)
			if at > now {
				ticked(t, w, at-1)
				has(t, w, at-1, at)
			}
			ticked(t, w, max(at, now), 7)
			has(t, w, max(at, now))
		}
	}
}

func TestSetWrong(t *testing.T) {
	w := made(t, 10)
	set(t, w, 7, 100)
	for _, at := range wrongTimes {
		for _, id := range []int{7, 8} {
			if e := w.Set(id, at); e != api.ErrTime {
				t.Errorf("Set(%d, %d): %v", id, at, e)
			}
		}
		timed(t, w, 7, 100, true)
		timed(t, w, 8, 0, false)
		has(t, w, 10, 100)
	}
	ticked(t, w, api.MaxTime, 7)
}

// A time that is behind the clock, or at it, is told by the next Tick, and stays as it was given.
func TestSetBehind(t *testing.T) {
	for _, to := range []int{1000, 1001, 1023, 1024, 5000, api.MaxTime} {
		w := made(t, 1000)
		set(t, w, 4, 1000)
		set(t, w, 3, 999)
		set(t, w, 2, 0)
		set(t, w, 1, 960)
		set(t, w, 5, 999)
		set(t, w, 6, 1001)
		has(t, w, 1000, 1000, 999, 0, 960, 999, 1001)
		want := []int{2, 1, 3, 5, 4}
		if to > 1000 {
			want = append(want, 6)
		}
		ticked(t, w, to, want...)
	}
}

// A number that is set anew has its new time alone, an earlier one or a later one.
func TestSetAnew(t *testing.T) {
	times := []int{0, 500, 501, 563, 564, 576, 577, 5000, 500000, 1 << 50, api.MaxTime}
	for _, old := range times {
		for _, at := range times {
			w := made(t, 500)
			set(t, w, 1, old)
			set(t, w, 1, at)
			has(t, w, 500, at)
			if at > 500 {
				ticked(t, w, at-1)
			}
			ticked(t, w, max(at, 500), 1)
			has(t, w, max(at, 500))
			ticked(t, w, api.MaxTime)
		}
	}
}

// A number that was told may be set again, and is told again.
func TestSetAgain(t *testing.T) {
	w := made(t, 0)
	for at := 10; at < 2000; at += 10 {
		set(t, w, 5, at)
		ticked(t, w, at-1)
		ticked(t, w, at, 5)
		has(t, w, at)
	}
}

// P7.1: 1024 numbers and no more.
func TestFull(t *testing.T) {
	w := made(t, 50)
	times := []int{}
	for i := range most {
		has(t, w, 50, times...)
		times = append(times, (i*7919)%5000)
		set(t, w, i-500, times[i])
	}
	has(t, w, 50, times...)
	for _, id := range []int{math.MinInt, -501, most - 500, math.MaxInt} {
		for _, at := range []int{0, 50, 51, api.MaxTime} {
			if e := w.Set(id, at); e != api.ErrFull {
				t.Fatalf("Set(%d, %d) of a full wheel: %v", id, at, e)
			}
		}
		timed(t, w, id, 0, false)
	}
	for i := range most {
		times[i] = 60 + i/2
		set(t, w, i-500, times[i])
	}
	has(t, w, 50, times...)
	ticked(t, w, 60, -500, -499)
	has(t, w, 60, times[2:]...)
	set(t, w, math.MinInt, 70)
	set(t, w, math.MaxInt, 70)
	if e := w.Set(most, 70); e != api.ErrFull {
		t.Fatal(e)
	}
	if !w.Drop(0) || w.Len() != most-1 {
		t.Fatal(w.Len())
	}
	set(t, w, most, 70)
	if e := w.Set(0, 70); e != api.ErrFull {
		t.Fatal(e)
	}
}

// Of a full wheel a wrong time is told ahead of that it is full.
func TestFullOrder(t *testing.T) {
	w := made(t, 0)
	for i := range most {
		set(t, w, i, i)
	}
	for _, at := range wrongTimes {
		for _, id := range []int{0, most} {
			if e := w.Set(id, at); e != api.ErrTime {
				t.Errorf("Set(%d, %d): %v", id, at, e)
			}
		}
	}
	got, e := w.Tick(most)
	if e != api.OK || len(got) != most || !slices.IsSorted(got) || got[0] != 0 || got[most-1] != most-1 {
		t.Fatal(got, e)
	}
}

// P7.1: Drop.

func TestDrop(t *testing.T) {
	for _, at := range []int{0, 99, 100, 101, 127, 128, 5000, 1 << 40, api.MaxTime} {
		w := made(t, 100)
		set(t, w, 1, at)
		set(t, w, 2, at)
		set(t, w, 3, at)
		for i, want := range []bool{true, false, false} {
			if w.Drop(2) != want {
				t.Fatalf("Drop %d of a number at %d: %v", i, at, !want)
			}
			timed(t, w, 2, 0, false)
			has(t, w, 100, at, at)
		}
		if w.Drop(4) || w.Drop(-1) || w.Drop(at) || w.Drop(math.MinInt) || w.Drop(math.MaxInt) {
			t.Fatal("a number that was never set was dropped")
		}
		has(t, w, 100, at, at)
		ticked(t, w, max(at, 100), 1, 3)
		if w.Drop(1) || w.Drop(3) {
			t.Fatal("a number that was told was dropped")
		}
		has(t, w, max(at, 100))
	}
}

// The earliest one that is dropped leaves the next one as the earliest; a dropped one may be set again.
func TestDropNext(t *testing.T) {
	w := made(t, 7)
	times := []int{3, 7, 8, 63, 64, 65, 127, 128, 4095, 4096, 1 << 30, api.MaxTime}
	for i, at := range times {
		set(t, w, i, at)
	}
	for i := range times {
		has(t, w, 7, times[i:]...)
		if !w.Drop(i) {
			t.Fatalf("Drop(%d)", i)
		}
	}
	has(t, w, 7)
	ticked(t, w, 7)
	set(t, w, 3, 9)
	ticked(t, w, api.MaxTime, 3)
}

// P7.1: Time, behind other numbers' Sets, Drops and Ticks.
func TestTime(t *testing.T) {
	w := made(t, 0)
	for i, id := range ids {
		timed(t, w, id, 0, false)
		set(t, w, id, i)
	}
	for i, id := range ids {
		timed(t, w, id, i, true)
	}
	w.Drop(ids[3])
	ticked(t, w, 1, ids[0], ids[1])
	for i, id := range ids {
		if i < 2 || i == 3 {
			timed(t, w, id, 0, false)
		} else {
			timed(t, w, id, i, true)
		}
	}
}

// P7.2: Tick.

func TestExample(t *testing.T) {
	w := made(t, 0)
	set(t, w, 7, 100)
	set(t, w, 8, 5)
	set(t, w, 9, 5)
	ticked(t, w, 99, 8, 9)
	has(t, w, 99, 100)
	ticked(t, w, 100, 7)
	has(t, w, 100)
}

func TestTick(t *testing.T) {
	w := made(t, 3)
	set(t, w, 1, api.MaxTime)
	for _, now := range []int{3, 3, 4, 63, 64, 64, 4095, 1 << 40, 1<<61 + 3, api.MaxTime - 1, api.MaxTime - 1} {
		ticked(t, w, now)
		has(t, w, now, api.MaxTime)
		for _, wrong := range []int{math.MinInt, -1, 0, now - 1, api.MaxTime + 1, math.MaxInt} {
			got, e := w.Tick(wrong)
			if e != api.ErrTime || len(got) != 0 {
				t.Fatalf("Tick(%d) at %d: %v, %v", wrong, now, got, e)
			}
			has(t, w, now, api.MaxTime)
		}
	}
	ticked(t, w, api.MaxTime, 1)
	has(t, w, api.MaxTime)
	for _, wrong := range []int{api.MaxTime - 1, api.MaxTime + 1} {
		if got, e := w.Tick(wrong); e != api.ErrTime || len(got) != 0 {
			t.Fatalf("Tick(%d): %v, %v", wrong, got, e)
		}
	}
	set(t, w, 2, api.MaxTime)
	set(t, w, 1, api.MaxTime)
	set(t, w, 3, 0)
	ticked(t, w, api.MaxTime, 3, 1, 2)
	ticked(t, w, api.MaxTime)
}

// A Tick that is refused tells nothing and turns nothing, also where numbers are due.
func TestTickRefused(t *testing.T) {
	w := made(t, 10)
	set(t, w, 1, 5)
	set(t, w, 2, 10)
	set(t, w, 3, 11)
	for _, to := range []int{math.MinInt, -1, 0, 5, 9, api.MaxTime + 1, math.MaxInt} {
		if got, e := w.Tick(to); e != api.ErrTime || len(got) != 0 {
			t.Fatalf("Tick(%d): %v, %v", to, got, e)
		}
		timed(t, w, 1, 5, true)
		timed(t, w, 2, 10, true)
		timed(t, w, 3, 11, true)
		has(t, w, 10, 5, 10, 11)
	}
	ticked(t, w, 10, 1, 2)
	ticked(t, w, 11, 3)
}

// Numbers of one time are told by number, in whatever order they were set.
func TestByNumber(t *testing.T) {
	for _, at := range []int{0, 49, 50, 51, 64, 5000, api.MaxTime} {
		for turn := range ids {
			w := made(t, 50)
			for i := range ids {
				set(t, w, ids[(i*5+turn)%len(ids)], at)
			}
			ticked(t, w, max(at, 50), ids...)
		}
	}
}

// Times come ahead of numbers.
func TestByTime(t *testing.T) {
	w := made(t, 0)
	want := slices.Clone(ids)
	slices.Reverse(want)
	for i, id := range want {
		set(t, w, id, i*i*i*i*i+1)
	}
	set(t, w, 2, 2)
	set(t, w, 3, 1)
	want = slices.Insert(want, 1, 2)
	want = slices.Insert(want, 0, 3)
	ticked(t, w, 1<<30, want...)
}

// P7.3: wheels that New did not give.
func TestNobodysWheel(t *testing.T) {
	for name, w := range map[string]*wheel.Wheel{"nil": nil, "zero": {}, "new": new(wheel.Wheel)} {
		for range 2 {
			for _, n := range append(wrongTimes, ids...) {
				if e := w.Set(n, 5); e != api.ErrNil {
					t.Errorf("%s: Set(%d, 5): %v", name, n, e)
				}
				if e := w.Set(1, n); e != api.ErrNil {
					t.Errorf("%s: Set(1, %d): %v", name, n, e)
				}
				if w.Drop(n) {
					t.Errorf("%s: Drop(%d)", name, n)
				}
				timed(t, w, n, 0, false)
				if got, e := w.Tick(n); e != api.ErrNil || len(got) != 0 {
					t.Errorf("%s: Tick(%d): %v, %v", name, n, got, e)
				}
				has(t, w, 0)
			}
		}
	}
}
