package flow_test

import (
	"math"
	"slices"
	"testing"

	"stockade/api"
	"stockade/flow"
	"stockade/tuple"
)

// most is how many flows a table may have at most, as the chapter names it.
const most = 256

// made is a table that New gives.
func made(t testing.TB, n int) *flow.Table {
	t.Helper()
	x, e := flow.New(n)
	if e != api.OK || x == nil {
		t.Fatalf("New(%d): %v, %v", n, x, e)
	}
	has(t, x, 0)
	return x
}

// has asks for all that a table has: its clock, and its flows, which are told in order, and each of which is found from both sides.
func has(t testing.TB, x *flow.Table, now int, flows ...api.Flow) {
	t.Helper()
	want := slices.Clone(flows)
	slices.SortFunc(want, func(a, b api.Flow) int { return tuple.Order(a.Tuple, b.Tuple) })
	if got := x.All(); !slices.Equal(got, want) {
		t.Fatalf("All: %+v, want %+v", got, want)
	}
	if x.Len() != len(want) || x.Now() != now {
		t.Fatalf("Len %d, Now %d, want %d, %d", x.Len(), x.Now(), len(want), now)
	}
	for _, f := range want {
		found(t, x, f)
	}
}

// found asks for a flow by its way and by its reverse; one whose way is its own reverse is found as side 0.
func found(t testing.TB, x *flow.Table, f api.Flow) {
	t.Helper()
	if got, side, ok := x.Find(f.Tuple); got != f || side != 0 || !ok {
		t.Fatalf("Find(%+v): %+v, %d, %v, want %+v", f.Tuple, got, side, ok, f)
	}
	want := 1
	if f.Tuple == back(f.Tuple) {
		want = 0
	}
	if got, side, ok := x.Find(back(f.Tuple)); got != f || side != want || !ok {
		t.Fatalf("Find of the reverse %+v: %+v, %d, %v, want %+v", back(f.Tuple), got, side, ok, f)
	}
}

func lost(t testing.TB, x *flow.Table, ways ...api.Tuple) {
	t.Helper()
	for _, w := range ways {
		if got, side, ok := x.Find(w); got != (api.Flow{}) || side != 0 || ok {
			t.Fatalf("Find(%+v): %+v, %d, %v, want none", w, got, side, ok)
		}
	}
}

func put(t testing.TB, x *flow.Table, flows ...api.Flow) {
	t.Helper()
	for _, f := range flows {
		if e := x.Put(f); e != api.OK {
			t.Fatalf("Put(%+v): %d", f, e)
		}
		found(t, x, f)
	}
}

// refused asks for an error of Put, and that it turns nothing.
func refused(t testing.TB, x *flow.Table, f api.Flow, want api.Errno) {
	t.Helper()
	now, flows := x.Now(), x.All()
	if e := x.Put(f); e != want {
		t.Fatalf("Put(%+v): %d, want error %d", f, e, want)
	}
	has(t, x, now, flows...)
}

func tick(t testing.TB, x *flow.Table, now int) {
	t.Helper()
	if e := x.Tick(now); e != api.OK || x.Now() != now {
		t.Fatalf("Tick(%d): %d, then Now %d", now, e, x.Now())
	}
}

// numbered is a flow whose way is unlike those of all other numbers, and so is its reverse.
func numbered(n int) api.Flow {
	f := flowOf(rightWays()[n%6])
	f.Tuple.Sport = 2000 + n
	return f
}

// allRight is a flow of each protocol and family.
func allRight() []api.Flow {
	var flows []api.Flow
	for _, w := range rightWays() {
		flows = append(flows, flowOf(w))
	}
	return flows
}

func ending(f api.Flow, ends int) api.Flow {
	return turned(f, func(f F) { f.Ends = ends })
}

// P16.3: New.
func TestNew(t *testing.T) {
	for _, n := range []int{0, 1, 2, 255, most} {
		x := made(t, n)
		lost(t, x, rightWays()...)
		if x.Drop(way4(api.TCP)) {
			t.Error("Drop of a new table's flow")
		}
		tick(t, x, 0)
		has(t, x, 0)
		for i := range n {
			put(t, x, numbered(i))
		}
		refused(t, x, numbered(n), api.ErrFull)
	}
	for _, n := range []int{math.MinInt, -most, -2, -1, most + 1, most + 2, 1 << 32, 1<<32 + 1, math.MaxInt} {
		if x, e := flow.New(n); x != nil || e != api.ErrArg {
			t.Errorf("New(%d): %v, %d", n, x, e)
		}
	}
}

// P16.3, P16.5: a flow is found by its way, as side 0, and by its reverse, as side 1, and by no other way.
func TestFind(t *testing.T) {
	for _, w := range rightWays() {
		for _, x := range []api.Tuple{w, back(w)} {
			table := made(t, 4)
			lost(t, table, x, back(x))
			f := flowOf(x)
			put(t, table, f)
			has(t, table, 0, f)
			lost(t, table, otherWays(x)[1:]...)
			lost(t, table, otherWays(back(x))[1:]...)
			lost(t, table, wrongWays(x)...)
			lost(t, table, wrongWays(back(x))...)
			has(t, table, 0, f)
		}
	}
}

// P16.3: flows of ways that are unlike in one part alone stand beside one another.
func TestFindAmongOthers(t *testing.T) {
	for _, w := range rightWays() {
		x := made(t, most)
		flows := []api.Flow{flowOf(w)}
		for i, o := range otherWays(w)[1:] {
			reverse := func(f api.Flow) bool { return f.Tuple == back(o) }
			if !slices.ContainsFunc(flows, reverse) {
				flows = append(flows, ending(flowOf(o), 50+i))
			}
		}
		put(t, x, flows...)
		has(t, x, 0, flows...)
		for i, f := range flows {
			if !x.Drop(f.Tuple) {
				t.Fatalf("Drop(%+v)", f.Tuple)
			}
			lost(t, x, f.Tuple, back(f.Tuple))
			has(t, x, 0, flows[i+1:]...)
		}
	}
}

// P16.3, P16.5: a way that is its own reverse: it is found as side 0, put again, and dropped.
func TestOwnReverse(t *testing.T) {
	for _, w := range rightWays() {
		x := made(t, 1)
		f := flowOf(round(w))
		lost(t, x, f.Tuple)
		put(t, x, f)
		has(t, x, 0, f)
		f = turned(f, func(f F) { f.Both, f.Help, f.Ends = true, 3, 7 })
		put(t, x, f)
		has(t, x, 0, f)
		lost(t, x, turned(f.Tuple, func(w W) { w.Dport++ }), w, back(w))
		refused(t, x, flowOf(w), api.ErrFull)
		if !x.Drop(f.Tuple) || x.Drop(f.Tuple) {
			t.Error("Drop of a way that is its own reverse")
		}
		has(t, x, 0)
		put(t, x, flowOf(w))
	}
}

// P16.3: a flow that comes again takes the place of the one that is there, in all its parts, in a full table, too.
func TestPutAgain(t *testing.T) {
	for _, n := range []int{6, most} {
		x := made(t, n)
		flows := allRight()
		put(t, x, flows...)
		for i := range flows {
			for _, turn := range []func(f F){
				func(f F) { f.Ends = 1 },
				func(f F) { f.Ends = api.MaxTime },
				func(f F) { f.Help = 0 },
				func(f F) { f.Both = !f.Both },
				func(f F) { f.Conn.Next[0] += uint32(f.Conn.State) },
				func(f F) { *f = flowOf(f.Tuple) },
			} {
				flows[i] = turned(flows[i], turn)
				put(t, x, flows[i])
				has(t, x, 0, flows...)
			}
		}
	}
}

// P16.3: no room: a flow of a way that is there is put, one of its reverse is told of as that, one of a new way finds none.
func TestPutFull(t *testing.T) {
	for _, n := range []int{0, 1, 2, 255, most} {
		x := made(t, n)
		var flows []api.Flow
		for i := range n {
			flows = append(flows, numbered(i))
			put(t, x, flows[i])
		}
		for i := range flows {
			flows[i].Both = true
			put(t, x, flows[i])
			refused(t, x, flowOf(back(flows[i].Tuple)), api.ErrThere)
		}
		for _, w := range rightWays() {
			refused(t, x, flowOf(w), api.ErrFull)
			refused(t, x, ending(flowOf(w), 0), api.ErrArg)
			refused(t, x, flowOf(round(w)), api.ErrFull)
		}
		if n == 0 {
			continue
		}
		has(t, x, 0, flows...)
		if !x.Drop(back(flows[0].Tuple)) {
			t.Fatal("Drop")
		}
		put(t, x, flowOf(way6(api.UDP)))
		refused(t, x, flows[0], api.ErrFull)
		has(t, x, 0, append(flows[1:], flowOf(way6(api.UDP)))...)
	}
}

// P16.3: a flow whose reverse is there, with room and without; it may come, once that is gone.
func TestPutThere(t *testing.T) {
	for _, w := range rightWays() {
		for _, n := range []int{1, 2, most} {
			x := made(t, n)
			put(t, x, flowOf(w))
			refused(t, x, flowOf(back(w)), api.ErrThere)
			refused(t, x, turned(flowOf(back(w)), func(f F) { f.Both, f.Ends = true, api.MaxTime }), api.ErrThere)
			tick(t, x, 1000)
			has(t, x, 1000)
			put(t, x, ending(flowOf(back(w)), 1001))
			refused(t, x, ending(flowOf(w), 1001), api.ErrThere)
			if !x.Drop(w) {
				t.Fatal("Drop")
			}
			put(t, x, ending(flowOf(w), 1001))
			has(t, x, 1000, ending(flowOf(w), 1001))
		}
	}
}

// P16.3: a flow that may not be is told of ahead of all that the table has.
func TestPutWrong(t *testing.T) {
	for _, w := range rightWays() {
		for _, n := range []int{0, 1, most} {
			x, y := made(t, n), made(t, n)
			if n > 0 {
				put(t, x, flowOf(w))
				put(t, y, flowOf(back(w)))
			}
			for _, f := range wrongFlows(w) {
				refused(t, x, f, api.ErrArg)
				refused(t, y, f, api.ErrArg)
			}
		}
	}
}

// P16.3: Ends, held against the clock.
func TestPutEnds(t *testing.T) {
	for _, now := range []int{0, 1, 100, latest, api.MaxTime - 2, api.MaxTime - 1, api.MaxTime} {
		for _, w := range rightWays() {
			for _, ends := range []int{math.MinInt, -1, 0, 1, now - 1, now, now + 1, now + 2, api.MaxTime - 1, api.MaxTime, api.MaxTime + 1, math.MaxInt} {
				x, f := made(t, 1), ending(flowOf(w), ends)
				tick(t, x, now)
				if ends <= now || ends > api.MaxTime {
					refused(t, x, f, api.ErrArg)
					has(t, x, now)
				} else {
					put(t, x, f)
					has(t, x, now, f)
				}
			}
		}
	}
}

// P16.3: a flow that is there stays, if what is to take its place is of no time that may be.
func TestPutAgainEnds(t *testing.T) {
	x, f := made(t, 2), flowOf(way6(api.TCP))
	put(t, x, f)
	tick(t, x, 500)
	for _, ends := range []int{-1, 0, 499, 500, api.MaxTime + 1} {
		refused(t, x, ending(f, ends), api.ErrArg)
		refused(t, x, ending(flowOf(back(f.Tuple)), ends), api.ErrArg)
	}
	put(t, x, ending(f, 501))
	has(t, x, 500, ending(f, 501))
}

// P16.3: Drop, by the way and by its reverse, of a flow that is there, that was dropped, that was never there.
func TestDrop(t *testing.T) {
	for i, f := range allRight() {
		for _, w := range []api.Tuple{f.Tuple, back(f.Tuple)} {
			x, flows := made(t, 6), allRight()
			put(t, x, flows...)
			for _, o := range slices.Concat(otherWays(f.Tuple)[1:], otherWays(back(f.Tuple))[1:], wrongWays(w)) {
				if _, _, there := x.Find(o); !there && x.Drop(o) {
					t.Fatalf("Drop(%+v), of no flow", o)
				}
			}
			has(t, x, 0, flows...)
			if !x.Drop(w) {
				t.Fatalf("Drop(%+v) of a flow that is there", w)
			}
			lost(t, x, w, back(w))
			flows = slices.Delete(flows, i, i+1)
			has(t, x, 0, flows...)
			for range 2 {
				if x.Drop(w) || x.Drop(back(w)) {
					t.Fatalf("Drop(%+v) of a flow that was dropped", w)
				}
			}
			has(t, x, 0, flows...)
			put(t, x, flowOf(back(f.Tuple)))
		}
	}
}

// P16.4, P16.6: a Tick at an Ends, one below it, at the clock, and to the end of all time.
func TestTick(t *testing.T) {
	x, flows := made(t, 6), allRight()
	ends := []int{1, 30, 31, 3600, api.MaxTime - 1, api.MaxTime}
	for i := range flows {
		flows[i].Ends = ends[i]
	}
	put(t, x, flows...)
	for _, now := range []int{0, 0, 1, 1, 2, 29, 30, 30, 31, 3599, 3600, latest, api.MaxTime - 2, api.MaxTime - 1, api.MaxTime, api.MaxTime} {
		tick(t, x, now)
		left := slices.DeleteFunc(slices.Clone(flows), func(f api.Flow) bool { return f.Ends <= now })
		has(t, x, now, left...)
		for _, f := range flows {
			if f.Ends <= now {
				lost(t, x, f.Tuple, back(f.Tuple))
			}
		}
	}
}

// P16.4: a clock that may not go back, or too far: nothing is turned.
func TestTickWrong(t *testing.T) {
	for _, now := range []int{0, 1, 500, 999, api.MaxTime - 1, api.MaxTime} {
		x, flows := made(t, 6), allRight()
		tick(t, x, now)
		for i := range flows {
			flows[i].Ends = min(now+1+i, api.MaxTime)
		}
		if now == api.MaxTime {
			flows = nil
		}
		put(t, x, flows...)
		for _, wrong := range []int{math.MinInt, -api.MaxTime, -1, 0, now - 1, api.MaxTime + 1, api.MaxTime + 2, math.MaxInt} {
			if wrong == now {
				continue
			}
			if e := x.Tick(wrong); e != api.ErrTime {
				t.Errorf("Tick(%d) at %d: %d", wrong, now, e)
			}
			has(t, x, now, flows...)
		}
		tick(t, x, now)
		has(t, x, now, flows...)
	}
}

// P16.4: many flows of one time, and of a time each, are gone just then.
func TestTickMany(t *testing.T) {
	for _, step := range []int{0, 1, 2, 1 << 50} {
		x := made(t, most)
		var flows []api.Flow
		for i := range most {
			flows = append(flows, ending(numbered(i*37%most), 10+i*step))
		}
		put(t, x, flows...)
		tick(t, x, 9)
		has(t, x, 9, flows...)
		for i := range flows {
			tick(t, x, 10+i*step)
			if step == 0 {
				has(t, x, 10)
			} else {
				has(t, x, 10+i*step, flows[i+1:]...)
			}
		}
		put(t, x, ending(flows[0], x.Now()+1))
	}
}

// P16.4: All is in layer 14's order of the ways, in whatever order they came, and however often it is asked.
func TestAllOrder(t *testing.T) {
	row := []api.Flow{
		flowOf(way4(api.ICMP)),
		flowOf(turned(way4(api.TCP), func(w W) { w.Src = a4(9, 255, 255, 255) })),
		flowOf(turned(way4(api.TCP), func(w W) { w.Dst = a4(10, 0, 0, 1); w.Sport = 65535 })),
		flowOf(turned(way4(api.TCP), func(w W) { w.Sport, w.Dport = 0, 65535 })),
		flowOf(turned(way4(api.TCP), func(w W) { w.Dport = 79 })),
		flowOf(way4(api.TCP)),
		flowOf(turned(way4(api.TCP), func(w W) { w.Sport, w.Dport = 1025, 1 })),
		flowOf(way4(api.UDP)),
		flowOf(turned(way6(api.TCP), func(w W) { w.Src = a6(0, 3) })),
		flowOf(way6(api.TCP)),
		flowOf(way6(api.UDP)),
		flowOf(way6(api.ICMP6)),
		flowOf(turned(way6(api.ICMP6), func(w W) { w.Src.Hi = 0xff02 << 48 })),
	}
	for step := 1; step < len(row); step++ {
		x := made(t, len(row))
		for i := range row {
			f := row[(i*step+step/2)%len(row)]
			f.Ends = 1000 - i
			row[(i*step+step/2)%len(row)] = f
			put(t, x, f)
		}
		for range 20 {
			if got := x.All(); !slices.Equal(got, row) {
				t.Fatalf("All: %+v, want %+v", got, row)
			}
		}
		tick(t, x, 1000-len(row)/2)
		left := slices.DeleteFunc(slices.Clone(row), func(f api.Flow) bool { return f.Ends <= x.Now() })
		if got := x.All(); !slices.Equal(got, left) || len(left) != len(row)/2 {
			t.Fatalf("All: %+v, want %+v", got, left)
		}
	}
}

// R4: what All answers is the caller's, with the room behind its end.
func TestAllIsTheCallers(t *testing.T) {
	x, flows := made(t, 10), allRight()
	put(t, x, flows...)
	scribbled, kept := x.All(), x.All()
	scribbled = scribbled[:cap(scribbled)]
	for i := range scribbled {
		scribbled[i] = flowOf(back(way4(api.TCP)))
	}
	has(t, x, 0, flows...)
	want := slices.Clone(kept)
	put(t, x, numbered(1), ending(flows[2], 77))
	x.Drop(flows[0].Tuple)
	tick(t, x, 78)
	if !slices.Equal(kept, want) {
		t.Errorf("what All answered was turned: %+v, want %+v", kept, want)
	}
	has(t, x, 78, append(slices.Delete(flows, 2, 3)[1:], numbered(1))...)
}

// R3: tables turn nothing of one another's.
func TestTwoTables(t *testing.T) {
	x, y := made(t, 2), made(t, 3)
	put(t, x, flowOf(way4(api.TCP)))
	has(t, y, 0)
	put(t, y, ending(flowOf(back(way4(api.TCP))), 5))
	tick(t, x, 7)
	has(t, x, 7, flowOf(way4(api.TCP)))
	has(t, y, 0, ending(flowOf(back(way4(api.TCP))), 5))
	y.Drop(way4(api.TCP))
	has(t, x, 7, flowOf(way4(api.TCP)))
	has(t, y, 0)
}

// P16.4: tables that New did not give: they have nothing, and answer ErrNil ahead of all else.
func TestNobodysTable(t *testing.T) {
	for name, x := range map[string]*flow.Table{"nil": nil, "zero": {}, "new": new(flow.Table)} {
		for range 2 {
			for _, w := range rightWays() {
				flows := append(wrongFlows(w), flowOf(w), flowOf(back(w)), flowOf(round(w)), ending(flowOf(w), 0))
				for _, f := range flows {
					if e := x.Put(f); e != api.ErrNil {
						t.Errorf("%s: Put(%+v): %d", name, f, e)
					}
					if x.Drop(f.Tuple) {
						t.Errorf("%s: Drop(%+v)", name, f.Tuple)
					}
					lost(t, x, f.Tuple)
				}
			}
			for _, now := range append(wrongTimes(), rightTimes()...) {
				if e := x.Tick(now); e != api.ErrNil {
					t.Errorf("%s: Tick(%d): %d", name, now, e)
				}
			}
			has(t, x, 0)
		}
	}
}
