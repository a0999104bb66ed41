package wheel_test

import (
	"testing"

	"stockade/api"
)

// within picks the times that may be.
func within(times ...int) []int {
	var right []int
	for _, at := range times {
		if at >= 0 && at <= api.MaxTime {
			right = append(right, at)
		}
	}
	return right
}

// clocks are some about the bounds of a row, of which a step is 64 times that of the row ahead.
func clocks(step int) []int {
	all := []int{0, 1, step - 1, step, step + 1, 2*step - 1, 62 * (step / 64), 63 * (step / 64), api.MaxTime - step, api.MaxTime - 1, api.MaxTime}
	if step <= api.MaxTime/64 {
		all = append(all, 63*step, 64*step-1)
	}
	return within(all...)
}

// P7.4: clocks and times whose difference crosses each row of slots: a number is told at its time, not ahead of it, by one Tick or by several.
func TestRows(t *testing.T) {
	for row := range 11 {
		step := 1 << (6 * row)
		for _, now := range clocks(step) {
			times := within(now+step-1, now+step, now+step+1, now/step*step+step-1, now/step*step+step)
			if step <= api.MaxTime/64 {
				times = append(times, within(now+63*step, now+64*step-1, now+64*step, now+64*step+1)...)
			}
			for _, at := range times {
				crossed(t, now, at, step)
			}
		}
	}
}

// crossed sets a number with neighbours, and lets the clock come to it by ways of unlike steps.
func crossed(t *testing.T, now, at, step int) {
	t.Helper()
	ways := [][]int{{}, {now + 1}, {at - 1}, {at / step * step}, {at/step*step - 1, at / step * step}, {now + (at-now)/2, at - 1}, {at / 64 * 64, at - 1}}
	for _, way := range ways {
		w := made(t, now)
		set(t, w, 5, at)
		set(t, w, 4, at)
		left := []int{at, at}
		if at < api.MaxTime {
			set(t, w, 3, at+1)
			left = append(left, at+1)
		}
		has(t, w, now, left...)
		for _, stop := range way {
			if stop > w.Now() && stop < at {
				ticked(t, w, stop)
				has(t, w, stop, left...)
			}
		}
		ticked(t, w, max(at, now), 4, 5)
		if at < api.MaxTime {
			has(t, w, max(at, now), at+1)
			ticked(t, w, max(at+1, now), 3)
		}
		has(t, w, w.Now())
	}
}

// Each of 64 times 64 times ahead of a clock, each by itself, by a small Tick and by a great one.
func TestSquareOfTimes(t *testing.T) {
	for _, now := range []int{0, 1, 63, 64, 4095, 4096, 64*64*64 - 65, 1<<60 - 100, api.MaxTime - 5000} {
		for ahead := range 64 * 64 {
			at := now + ahead
			w := made(t, now)
			set(t, w, 1, at)
			has(t, w, now, at)
			if ahead > 0 {
				ticked(t, w, at-1)
				has(t, w, at-1, at)
			}
			ticked(t, w, at, 1)
			set(t, w, 2, now+64*64)
			ticked(t, w, now+64*64+ahead/64, 2)
		}
	}
}

// A time in each slot of each row, all told by one Tick, and dropped ones not.
func TestEachSlot(t *testing.T) {
	for _, now := range []int{0, 5, 64*64 + 64 + 1} {
		w := made(t, now)
		var want []int
		for row := range 11 {
			for slot := 1; slot < 64 && (row < 10 || slot < 5); slot++ {
				at := slot<<(6*row) + now
				if at > api.MaxTime {
					continue
				}
				set(t, w, len(want), at)
				want = append(want, len(want))
			}
		}
		if w.Len() < 63*10+3 {
			t.Fatal(w.Len())
		}
		for i := 0; i < len(want); i += 2 {
			if !w.Drop(i) {
				t.Fatal(i)
			}
		}
		odd := []int{}
		for i := 1; i < len(want); i += 2 {
			odd = append(odd, i)
		}
		for len(odd) > 0 {
			next, ok := w.Next()
			at, there := w.Time(odd[0])
			if !ok || !there || next != at {
				t.Fatal(next, ok, at, there)
			}
			ticked(t, w, next, odd[0])
			odd = odd[1:]
			if len(odd) == 300 {
				break
			}
		}
		ticked(t, w, api.MaxTime, odd...)
	}
}
