package expect_test

import (
	"math"
	"slices"
	"testing"

	"stockade/api"
	"stockade/expect"
)

// greatest is how many wants a table, and a Master, may have at most, as the chapter names it.
const greatest = 256

// made is a table that New gives.
func made(t testing.TB, most, quota int) *expect.Table {
	t.Helper()
	x, e := expect.New(most, quota)
	if e != api.OK || x == nil {
		t.Fatalf("New(%d, %d): %v, %v", most, quota, x, e)
	}
	has(t, x, 0)
	return x
}

// has asks for all that a table has: its clock, and its wants in order.
func has(t testing.TB, x *expect.Table, now int, wants ...api.Want) {
	t.Helper()
	if got := x.All(); !slices.Equal(got, wants) {
		t.Fatalf("All: %+v, want %+v", got, wants)
	}
	if x.Len() != len(wants) || x.Now() != now {
		t.Fatalf("Len %d, Now %d, want %d, %d", x.Len(), x.Now(), len(wants), now)
	}
}

func add(t testing.TB, x *expect.Table, wants ...api.Want) {
	t.Helper()
	for _, w := range wants {
		if e := x.Add(w); e != api.OK {
			t.Fatalf("Add(%+v): %d", w, e)
		}
	}
}

// refused asks for an error of Add, and that it turns nothing.
func refused(t testing.TB, x *expect.Table, w api.Want, want api.Errno) {
	t.Helper()
	now, wants := x.Now(), x.All()
	if e := x.Add(w); e != want {
		t.Fatalf("Add(%+v): %d, want error %d", w, e, want)
	}
	has(t, x, now, wants...)
}

func take(t testing.TB, x *expect.Table, way api.Tuple, want api.Want) {
	t.Helper()
	n := x.Len()
	if got, ok := x.Take(way); got != want || !ok {
		t.Fatalf("Take(%+v): %+v, %v, want %+v", way, got, ok, want)
	}
	if x.Len() != n-1 {
		t.Fatalf("Take(%+v): %d wants, then %d", way, n, x.Len())
	}
}

// untaken asks that no want waits for some ways, and that asking turns nothing.
func untaken(t testing.TB, x *expect.Table, ways ...api.Tuple) {
	t.Helper()
	now, wants := x.Now(), x.All()
	for _, way := range ways {
		if got, ok := x.Take(way); got != (api.Want{}) || ok {
			t.Fatalf("Take(%+v): %+v, %v, want none", way, got, ok)
		}
	}
	has(t, x, now, wants...)
}

func forget(t testing.TB, x *expect.Table, m api.Tuple, want int) {
	t.Helper()
	if got := x.Forget(m); got != want {
		t.Fatalf("Forget(%+v): %d, want %d", m, got, want)
	}
}

func tick(t testing.TB, x *expect.Table, now int) {
	t.Helper()
	if e := x.Tick(now); e != api.OK || x.Now() != now {
		t.Fatalf("Tick(%d): %d, then Now %d", now, e, x.Now())
	}
}

// numbered is a want of a Master whose way is unlike those of all other numbers, whatever the Sport.
func numbered(n, m int) api.Want {
	w := rightWays()[n%6]
	w.Dport = 3000 + n
	if n%5 == 0 {
		w.Sport = -1
	}
	return by(wanted(w), master(m))
}

// some are the wants of the numbers from 0 on, of a Master.
func some(n, m int) []api.Want {
	var wants []api.Want
	for i := range n {
		wants = append(wants, numbered(i, m))
	}
	return wants
}

// P17.2: New.
func TestNew(t *testing.T) {
	right := []int{0, 1, 2, 255, greatest}
	wrong := []int{math.MinInt, -greatest, -2, -1, greatest + 1, greatest + 2, 1 << 32, 1<<32 + 1, math.MaxInt}
	for _, most := range right {
		for _, quota := range right {
			x := made(t, most, quota)
			untaken(t, x, rightWays()...)
			forget(t, x, master(1), 0)
			tick(t, x, 0)
			has(t, x, 0)
			wants := some(min(most, quota), 1)
			add(t, x, wants...)
			has(t, x, 0, wants...)
			if quota <= most {
				refused(t, x, numbered(300, 1), api.ErrMany)
			} else {
				refused(t, x, numbered(300, 1), api.ErrFull)
			}
		}
	}
	for _, bad := range wrong {
		for _, n := range append(right, wrong...) {
			for _, c := range [][2]int{{bad, n}, {n, bad}} {
				if x, e := expect.New(c[0], c[1]); x != nil || e != api.ErrArg {
					t.Errorf("New(%d, %d): %v, %d", c[0], c[1], x, e)
				}
			}
		}
	}
}

// P17.2: wants stand in the order in which they came, whatever their ways, Masters and times are.
func TestAddOrder(t *testing.T) {
	row := append(some(12, 1), some(24, 2)[12:]...)
	for step := 1; step < len(row); step += 2 {
		if step%3 == 0 {
			continue
		}
		x := made(t, len(row), 12)
		var came []api.Want
		for i := range row {
			came = append(came, ending(row[(i*step+step/2)%len(row)], 2000-i*step%97))
			add(t, x, came[i])
			has(t, x, 0, came...)
		}
		for range 10 {
			has(t, x, 0, came...)
		}
	}
}

// P17.2: a want of a way that is there takes its place, where it stands, in all its parts, in a full table and at a quota, too.
func TestAddAgain(t *testing.T) {
	for _, n := range []int{6, 7, greatest} {
		for _, quota := range []int{6, greatest} {
			x, wants := made(t, n, quota), some(6, 1)
			add(t, x, wants...)
			for i := range wants {
				for _, turn := range []func(w W){
					func(w W) { w.Ends = 1 },
					func(w W) { w.Ends = api.MaxTime },
					func(w W) { w.Help = 0 },
					func(w W) { w.Help, w.Ends = 3, 7 },
					func(w W) {},
				} {
					wants[i] = turned(wants[i], turn)
					add(t, x, wants[i])
					has(t, x, 0, wants...)
				}
			}
			for _, w := range wants {
				take(t, x, fromPort(w.Tuple, max(w.Tuple.Sport, 0)), w)
			}
			has(t, x, 0)
		}
	}
}

// P17.2: a want of a way that is there, of another Master: its reverse, and one unlike in one part, are others.
func TestAddOtherMaster(t *testing.T) {
	for _, w := range rightWays() {
		for _, own := range []api.Tuple{w, anyPort(w)} {
			for _, c := range [][2]int{{1, 0}, {1, 1}, {2, 1}, {2, 2}, {greatest, greatest}} {
				x := made(t, c[0], max(c[1], 1))
				first := wanted(own)
				add(t, x, first)
				for _, m := range append(otherWays(first.Master), turned(first.Master, func(m T) { m.Sport++ }), own, fromPort(own, 0)) {
					if m.Sport < 0 {
						refused(t, x, by(first, m), api.ErrArg)
						continue
					}
					refused(t, x, by(first, m), api.ErrMany)
					refused(t, x, ending(by(first, m), 2000), api.ErrMany)
				}
				has(t, x, 0, first)
				take(t, x, w, first)
				add(t, x, by(first, master(2)))
				refused(t, x, first, api.ErrMany)
			}
		}
	}
}

// P17.2: another Master's want of a way that is there is ErrMany in a table that is full, too, and of a Master at its quota.
func TestAddOtherMasterNoRoom(t *testing.T) {
	x := made(t, 3, 2)
	wants := []api.Want{numbered(0, 1), numbered(1, 1), numbered(2, 2)}
	add(t, x, wants...)
	refused(t, x, by(wants[0], master(2)), api.ErrMany)
	refused(t, x, by(wants[2], master(1)), api.ErrMany)
	refused(t, x, by(wants[2], master(3)), api.ErrMany)
	refused(t, x, numbered(3, 2), api.ErrFull)
	refused(t, x, numbered(3, 3), api.ErrFull)
	refused(t, x, numbered(3, 1), api.ErrMany)
	wants[1].Help, wants[2].Ends = 0, 5
	add(t, x, wants[1:]...)
	has(t, x, 0, wants...)
}

// P17.2, P17.6: a full table, a Master at its quota, and both at once.
func TestAddNoRoom(t *testing.T) {
	for _, most := range []int{0, 1, 2, 5, greatest} {
		for _, quota := range []int{0, 1, 2, 5, greatest} {
			x := made(t, most, quota)
			var wants []api.Want
			for n := range greatest + 2 {
				for m := 1; m <= 3; m++ {
					w := numbered(3*n+m, m)
					has := 0
					for _, o := range wants {
						if o.Master == w.Master {
							has++
						}
					}
					switch {
					case has >= quota:
						refused(t, x, w, api.ErrMany)
					case len(wants) >= most:
						refused(t, x, w, api.ErrFull)
					default:
						add(t, x, w)
						wants = append(wants, w)
					}
				}
			}
			has(t, x, 0, wants...)
			if want := min(most, 3*quota); len(wants) != want {
				t.Errorf("New(%d, %d): %d wants, want %d", most, quota, len(wants), want)
			}
		}
	}
}

// P17.2, P17.6: room comes back, of the table and of a Master, by Take, by Forget and by Tick.
func TestRoomAgain(t *testing.T) {
	gone := map[string]func(x *expect.Table, w api.Want){
		"Take":   func(x *expect.Table, w api.Want) { take(t, x, fromPort(w.Tuple, max(w.Tuple.Sport, 0)), w) },
		"Forget": func(x *expect.Table, w api.Want) { forget(t, x, w.Master, 2) },
		"Tick":   func(x *expect.Table, w api.Want) { tick(t, x, w.Ends) },
	}
	for name, leave := range gone {
		x := made(t, 4, 2)
		first := ending(numbered(0, 1), 10)
		add(t, x, first, numbered(1, 1), numbered(2, 2), numbered(3, 2))
		refused(t, x, numbered(4, 1), api.ErrMany)
		refused(t, x, numbered(4, 2), api.ErrMany)
		refused(t, x, numbered(4, 3), api.ErrFull)
		leave(x, first)
		refused(t, x, numbered(4, 2), api.ErrMany)
		add(t, x, numbered(4, 1))
		if name == "Forget" {
			has(t, x, 0, numbered(2, 2), numbered(3, 2), numbered(4, 1))
			add(t, x, numbered(5, 1))
		}
		refused(t, x, numbered(6, 1), api.ErrMany)
		refused(t, x, numbered(6, 3), api.ErrFull)
		if x.Len() != 4 {
			t.Error(name, x.Len())
		}
	}
}

// P17.2: a want that may not be is told of ahead of all that the table has.
func TestAddWrong(t *testing.T) {
	for _, w := range rightWays() {
		for _, c := range [][2]int{{0, 0}, {1, 0}, {0, 1}, {1, 1}, {2, 1}, {2, 2}, {greatest, greatest}} {
			x := made(t, c[0], c[1])
			if c[0] > 0 && c[1] > 0 {
				add(t, x, wanted(w))
			}
			for _, bad := range wrongWants(w) {
				refused(t, x, bad, api.ErrArg)
			}
		}
	}
}

// P17.2: Ends, held against the clock, of a new way, of one that is there, and of another Master's.
func TestAddEnds(t *testing.T) {
	for _, now := range []int{0, 1, 100, api.MaxTime - 2, api.MaxTime - 1, api.MaxTime} {
		for _, w := range rightWays() {
			for _, ends := range []int{math.MinInt, -1, 0, 1, now - 1, now, now + 1, now + 2, api.MaxTime - 1, api.MaxTime, api.MaxTime + 1, math.MaxInt} {
				x, full := made(t, 1, 1), made(t, 0, 0)
				tick(t, x, now)
				tick(t, full, now)
				if ends <= now || ends > api.MaxTime {
					refused(t, x, ending(wanted(w), ends), api.ErrArg)
					refused(t, full, ending(wanted(w), ends), api.ErrArg)
				} else {
					refused(t, full, ending(wanted(w), ends), api.ErrMany)
					add(t, x, ending(wanted(w), ends))
					has(t, x, now, ending(wanted(w), ends))
				}
			}
		}
	}
	x, w := made(t, 2, 2), wanted(anyPort(way6(api.TCP)))
	add(t, x, w)
	tick(t, x, 500)
	for _, ends := range []int{-1, 0, 499, 500, api.MaxTime + 1} {
		refused(t, x, ending(w, ends), api.ErrArg)
		refused(t, x, by(ending(w, ends), master(2)), api.ErrArg)
	}
	add(t, x, ending(w, 501))
	has(t, x, 500, ending(w, 501))
}

// P17.3, P17.5: a want is taken by its way, once, and by no other way; the others stay in order.
func TestTake(t *testing.T) {
	for i, w := range rightWays() {
		for _, own := range []api.Tuple{w, anyPort(w)} {
			x := made(t, greatest, greatest)
			row := some(6, 2)
			row = slices.Insert(row, i, wanted(own))
			add(t, x, row...)
			untaken(t, x, otherWays(w)...)
			untaken(t, x, append(wrongWays(w), anyPort(w), back(w), master(1))...)
			if own == w {
				untaken(t, x, fromPort(w, 0), fromPort(w, w.Sport+1), fromPort(w, 65535))
			}
			take(t, x, w, row[i])
			row = slices.Delete(row, i, i+1)
			has(t, x, 0, row...)
			untaken(t, x, w, fromPort(w, 0), anyPort(w))
			add(t, x, wanted(own))
			has(t, x, 0, append(row, wanted(own))...)
			take(t, x, w, wanted(own))
			untaken(t, x, w)
			has(t, x, 0, row...)
		}
	}
}

// P17.3: a want of any port is taken by whatever port comes first.
func TestTakeAnyPort(t *testing.T) {
	for _, w := range rightWays() {
		for _, port := range []int{0, 1, 20, 1024, 65534, 65535} {
			x := made(t, 2, 2)
			add(t, x, wanted(anyPort(w)))
			for _, wrong := range append(wrongNumbers(), -1) {
				untaken(t, x, fromPort(w, wrong))
			}
			take(t, x, fromPort(w, port), wanted(anyPort(w)))
			untaken(t, x, fromPort(w, port), fromPort(w, 7))
			add(t, x, wanted(fromPort(w, port)))
			for _, other := range []int{-1, 2, port - 1, port + 1} {
				untaken(t, x, fromPort(w, other))
			}
			take(t, x, fromPort(w, port), wanted(fromPort(w, port)))
		}
	}
}

// P17.3, P17.5: two wants that wait for one way, in both orders, of one Master and of two: the first that stands there is taken first.
func TestTakeFirst(t *testing.T) {
	for _, w := range rightWays() {
		one, all := wanted(w), by(wanted(anyPort(w)), master(2))
		for _, second := range []api.Want{all, by(all, one.Master)} {
			for _, row := range [][]api.Want{{one, second}, {second, one}} {
				x := made(t, 3, 3)
				add(t, x, row...)
				add(t, x, ending(row[0], 7)) // it keeps its place
				row[0].Ends = 7
				has(t, x, 0, row...)
				take(t, x, w, row[0])
				has(t, x, 0, row[1])
				take(t, x, w, row[1])
				untaken(t, x, w)

				add(t, x, row...)
				take(t, x, fromPort(w, w.Sport+1), ofAny(row))
				untaken(t, x, fromPort(w, w.Sport+1))
				take(t, x, w, ofOne(row))
				has(t, x, 0)

				add(t, x, row...)
				take(t, x, w, row[0])
				add(t, x, row[0]) // now it stands behind
				has(t, x, 0, row[1], row[0])
				take(t, x, w, row[1])
				take(t, x, w, row[0])
			}
		}
	}
}

// ofAny is the want of any port of two, ofOne that of one port.
func ofAny(row []api.Want) api.Want {
	if row[0].Tuple.Sport == -1 {
		return row[0]
	}
	return row[1]
}

func ofOne(row []api.Want) api.Want {
	if row[0].Tuple.Sport == -1 {
		return row[1]
	}
	return row[0]
}

// P17.3, P17.6: Forget takes out the wants of one Master alone, wherever they stand, and those of ways that look like it stay.
func TestForget(t *testing.T) {
	m := master(1)
	var row []api.Want
	others := append(otherWays(m), turned(m, func(m T) { m.Sport++ }), master(2), master(4))
	for i := range 40 {
		w := numbered(i, 1)
		if i%3 > 0 {
			w.Master = others[i%len(others)]
		}
		row = append(row, w)
	}
	row[1].Tuple = m // the way of a want is no Master
	x := made(t, 40, 40)
	add(t, x, row...)
	for _, wrong := range append(wrongWays(m), anyPort(m), master(3), row[3].Tuple) {
		forget(t, x, wrong, 0)
		has(t, x, 0, row...)
	}
	forget(t, x, m, 14)
	row = slices.DeleteFunc(row, func(w api.Want) bool { return w.Master == m })
	has(t, x, 0, row...)
	forget(t, x, m, 0)
	for _, o := range others {
		n := len(row)
		row = slices.DeleteFunc(row, func(w api.Want) bool { return w.Master == o })
		forget(t, x, o, n-len(row))
		forget(t, x, o, 0)
		has(t, x, 0, row...)
	}
	has(t, x, 0)
	add(t, x, numbered(0, 1))
}

// P17.3, P17.6: a Tick at an Ends, one below it, at the clock, and to the end of all time; the others stay in order.
func TestTick(t *testing.T) {
	x, wants := made(t, 12, 12), some(12, 1)
	ends := []int{31, 1, api.MaxTime, 30, 30, 3600, api.MaxTime - 1, 2, 31, api.MaxTime, 1, 3601}
	for i := range wants {
		wants[i].Ends = ends[i]
	}
	add(t, x, wants...)
	for _, now := range []int{0, 0, 1, 1, 2, 29, 30, 30, 31, 3599, 3600, 3601, api.MaxTime - 2, api.MaxTime - 1, api.MaxTime, api.MaxTime} {
		tick(t, x, now)
		has(t, x, now, slices.DeleteFunc(slices.Clone(wants), func(w api.Want) bool { return w.Ends <= now })...)
		for _, w := range wants {
			if w.Ends <= now {
				untaken(t, x, fromPort(w.Tuple, max(w.Tuple.Sport, 0)))
			}
		}
	}
	forget(t, x, master(1), 0)
}

// P17.3: a clock that may not go back, or too far: nothing is turned.
func TestTickWrong(t *testing.T) {
	for _, now := range []int{0, 1, 500, 999, api.MaxTime - 1, api.MaxTime} {
		x, wants := made(t, 6, 6), some(6, 1)
		tick(t, x, now)
		for i := range wants {
			wants[i].Ends = min(now+1+i, api.MaxTime)
		}
		if now == api.MaxTime {
			wants = nil
		}
		add(t, x, wants...)
		for _, wrong := range []int{math.MinInt, -api.MaxTime, -1, 0, now - 1, api.MaxTime + 1, api.MaxTime + 2, math.MaxInt} {
			if wrong == now {
				continue
			}
			if e := x.Tick(wrong); e != api.ErrTime {
				t.Errorf("Tick(%d) at %d: %d", wrong, now, e)
			}
			has(t, x, now, wants...)
		}
		tick(t, x, now)
		has(t, x, now, wants...)
	}
}

// P17.3: many wants of one time, and of a time each, are gone just then.
func TestTickMany(t *testing.T) {
	for _, step := range []int{0, 1, 2, 1 << 50} {
		x := made(t, greatest, greatest)
		var wants []api.Want
		for i := range greatest {
			wants = append(wants, ending(numbered(i, 1), 10+i*37%greatest*step))
		}
		add(t, x, wants...)
		tick(t, x, 9)
		has(t, x, 9, wants...)
		for i := range greatest {
			tick(t, x, 10+i*step)
			wants = slices.DeleteFunc(wants, func(w api.Want) bool { return w.Ends <= 10+i*step })
			has(t, x, 10+i*step, wants...)
			if step > 0 && len(wants) != greatest-1-i {
				t.Fatal(step, i, len(wants))
			}
		}
		add(t, x, ending(numbered(0, 1), x.Now()+1))
	}
}

// P17.7: what a Master asks for, as long as there is room and its ways are others, turns nothing of what others get: the other Masters' calls answer alike with it and without.
func TestOthersGetTheirs(t *testing.T) {
	quiet, loud := made(t, greatest, 10), made(t, greatest, 10)
	for n := range 200 {
		mine := numbered(1000+n, 1)
		loud.Add(mine)
		if n%7 == 0 {
			loud.Take(fromPort(mine.Tuple, max(mine.Tuple.Sport, 0)))
		}
		if n%31 == 0 {
			loud.Forget(master(1))
		}
		theirs := ending(numbered(n%17, 2+n%3), 20+n*n%101)
		if a, b := quiet.Add(theirs), loud.Add(theirs); a != b {
			t.Fatalf("Add(%+v): %d, and beside another Master %d", theirs, a, b)
		}
		if n%3 == 0 {
			way := fromPort(numbered(n*n%17, 2).Tuple, 20+n%2*33)
			a, ok := quiet.Take(way)
			if b, too := loud.Take(way); a != b || ok != too {
				t.Fatalf("Take(%+v): %+v, %v, and beside another Master %+v, %v", way, a, ok, b, too)
			}
		}
		if n%23 == 22 {
			if a, b := quiet.Forget(master(2+n%3)), loud.Forget(master(2+n%3)); a != b {
				t.Fatalf("Forget: %d, and beside another Master %d", a, b)
			}
		}
		tick(t, quiet, n/2)
		tick(t, loud, n/2)
		rest := slices.DeleteFunc(loud.All(), func(w api.Want) bool { return w.Master == master(1) })
		has(t, quiet, n/2, rest...)
	}
}

// P17.7: a Master at its quota leaves room for others.
func TestQuotaLeavesRoom(t *testing.T) {
	for _, quota := range []int{0, 1, 3, greatest} {
		x := made(t, greatest, quota)
		for n := range greatest + 1 {
			if n < quota {
				add(t, x, numbered(n, 1))
			} else {
				refused(t, x, numbered(n, 1), api.ErrMany)
			}
		}
		want := api.OK
		if quota == 0 {
			want = api.ErrMany
		} else if quota == greatest {
			want = api.ErrFull
		}
		for m := 2; m < 12; m++ {
			if e := x.Add(numbered(300+m, m)); e != want {
				t.Errorf("quota %d: the Master %d: %d, want %d", quota, m, e, want)
			}
		}
	}
}

// R4: what All answers is the caller's, with the room behind its end.
func TestAllIsTheCallers(t *testing.T) {
	x, wants := made(t, 10, 10), some(6, 1)
	add(t, x, wants...)
	scribbled, kept := x.All(), x.All()
	scribbled = scribbled[:cap(scribbled)]
	for i := range scribbled {
		scribbled[i] = numbered(77, 3)
	}
	has(t, x, 0, wants...)
	want := slices.Clone(kept)
	add(t, x, numbered(7, 2), ending(wants[2], 77))
	wants[2].Ends = 77
	take(t, x, fromPort(wants[0].Tuple, 5), wants[0])
	tick(t, x, 78)
	if !slices.Equal(kept, want) {
		t.Errorf("what All answered was turned: %+v, want %+v", kept, want)
	}
	has(t, x, 78, wants[1], wants[3], wants[4], wants[5], numbered(7, 2))
	forget(t, x, master(1), 4)
	if !slices.Equal(kept, want) {
		t.Errorf("what All answered was turned: %+v, want %+v", kept, want)
	}
}

// R3: tables turn nothing of one another's.
func TestTwoTables(t *testing.T) {
	x, y := made(t, 2, 2), made(t, 3, 1)
	add(t, x, numbered(0, 1))
	has(t, y, 0)
	add(t, y, ending(numbered(0, 2), 5))
	tick(t, x, 7)
	has(t, x, 7, numbered(0, 1))
	has(t, y, 0, ending(numbered(0, 2), 5))
	forget(t, y, master(1), 0)
	take(t, y, fromPort(numbered(0, 1).Tuple, 9), ending(numbered(0, 2), 5))
	has(t, x, 7, numbered(0, 1))
	has(t, y, 0)
}

// P17.4: tables that New did not give: they have nothing, and answer ErrNil ahead of all else.
func TestNobodysTable(t *testing.T) {
	for name, x := range map[string]*expect.Table{"nil": nil, "zero": {}, "new": new(expect.Table)} {
		for range 2 {
			for _, w := range rightWays() {
				for _, f := range append(wrongWants(w), wanted(w), wanted(anyPort(w)), ending(wanted(w), 0)) {
					if e := x.Add(f); e != api.ErrNil {
						t.Errorf("%s: Add(%+v): %d", name, f, e)
					}
					untaken(t, x, f.Tuple, fromPort(f.Tuple, 0))
					forget(t, x, f.Master, 0)
				}
			}
			for _, now := range append(wrongTimes(), 0, 1, 100, api.MaxTime) {
				if e := x.Tick(now); e != api.ErrNil {
					t.Errorf("%s: Tick(%d): %d", name, now, e)
				}
			}
			has(t, x, 0)
		}
	}
}
