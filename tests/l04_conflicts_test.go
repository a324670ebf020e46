package tests

import (
	"math"
	"testing"

	"loop.example/g01227/impl"
)

func TestLimitsOfSignals(t *testing.T) {
	if impl.MaxPhases != 8 || impl.MaxCycle != 240 || impl.MaxPlans != 6 {
		t.Errorf("limits %d %d %d", impl.MaxPhases, impl.MaxCycle, impl.MaxPlans)
	}
}

func TestValidTable(t *testing.T) {
	for name, c := range badTables() {
		if impl.ValidTable(c) {
			t.Errorf("%s: a table that is not valid is told to be", name)
		}
	}
	d := &draw{200}
	for range 2000 {
		c := d.table()
		if !impl.ValidTable(c) {
			t.Fatalf("%v is not told to be valid", c)
		}
		i, k := d.below(8), d.below(8)
		c[i][k] = !c[i][k]
		if impl.ValidTable(c) {
			t.Fatalf("%v is told to be valid", c)
		}
	}
	if !impl.ValidTable(impl.Table{}) {
		t.Error("the table without conflicts is not told to be valid")
	}
}

// modelConflict knows that of ways to other arms only both straight ones across cross.
func modelConflict(fromA, toA, fromB, toB int64) bool {
	straight := (fromA+toA)%2 == 0 && (fromB+toB)%2 == 0
	return fromA != fromB && toA == toB || straight && (fromA+fromB)%2 == 1
}

func TestCrossTableOfAllPairs(t *testing.T) {
	for n := range int64(256) {
		fromA, toA, fromB, toB := n&3, n>>2&3, n>>4&3, n>>6&3
		c, code := impl.CrossTable([8]int64{fromA, fromB}, [8]int64{toA, toB}, 2)
		if fromA == toA || fromB == toB {
			if c != (impl.Table{}) || code != impl.ErrRange {
				t.Errorf("%d to %d and %d to %d: %v, %d", fromA, toA, fromB, toB, c, code)
			}
			continue
		}
		var want impl.Table
		if modelConflict(fromA, toA, fromB, toB) {
			want = table([2]int{0, 1})
		}
		if c != want || code != impl.OK {
			t.Errorf("%d to %d and %d to %d: %v, %d", fromA, toA, fromB, toB, c, code)
		}
	}
}

func TestCrossTableOfManyWays(t *testing.T) {
	d := &draw{201}
	for range 3000 {
		var from, to [8]int64
		count := int64(d.below(9))
		for i := range count {
			from[i] = int64(d.below(4))
			to[i] = (from[i] + 1 + int64(d.below(3))) % 4
		}
		var want impl.Table
		for i := range count {
			for k := range count {
				want[i][k] = modelConflict(from[i], to[i], from[k], to[k])
			}
		}
		c, code := impl.CrossTable(from, to, count)
		if c != want || code != impl.OK {
			t.Fatalf("%v to %v: got %v, %d, want %v", from[:count], to[:count], c, code, want)
		}
		if !impl.ValidTable(c) {
			t.Fatalf("%v to %v: %v is not valid", from[:count], to[:count], c)
		}
	}
}

func TestCrossTableRefuses(t *testing.T) {
	from, to := [8]int64{0, 1, 2}, [8]int64{2, 3, 0}
	refused := func(name string, from, to [8]int64, count int64) {
		t.Helper()
		if c, code := impl.CrossTable(from, to, count); c != (impl.Table{}) || code != impl.ErrRange {
			t.Errorf("%s: %v, %d", name, c, code)
		}
	}
	for _, bad := range []int64{-1, 9, 1<<32 + 3, math.MinInt64, math.MaxInt64} {
		refused("count", from, to, bad)
		refused("count of nothing", [8]int64{}, [8]int64{}, bad)
	}
	refused("an arm behind the first two", from, to, 2)
	refused("no way", from, to, 4)
	for _, bad := range []int64{-1, 4, 5, 1 << 32, math.MinInt64, math.MaxInt64} {
		for place := range 8 {
			other := from
			other[place] = bad
			refused("from", other, to, 3)
			refused("from of none", other, [8]int64{}, 0)
			other = to
			other[place] = bad
			refused("to", from, other, 3)
		}
	}
	other := from
	other[7] = 1
	refused("from behind them", other, to, 3)
	other = to
	other[3] = 3
	refused("to behind them", from, other, 3)
	refused("back to its own arm", [8]int64{0, 2}, [8]int64{1, 2}, 2)
	if c, code := impl.CrossTable([8]int64{}, [8]int64{}, 0); c != (impl.Table{}) || code != impl.OK {
		t.Errorf("no movements: %v, %d", c, code)
	}
	full := [8]int64{0, 0, 0, 1, 1, 2, 2, 3}
	if _, code := impl.CrossTable(full, [8]int64{1, 2, 3, 2, 3, 3, 0, 1}, 8); code != impl.OK {
		t.Errorf("eight movements: %d", code)
	}
}

// modelPair goes over all pairs, the lesser movement first.
func modelPair(c impl.Table, p impl.Phase) (int64, int64, bool) {
	for n := range int64(64) {
		i, k := n/8, n%8
		if i < k && p[i] && p[k] && c[i][k] {
			return i, k, true
		}
	}
	return 0, 0, false
}

func TestPhasesAreClearJustIfNoConflictIsTold(t *testing.T) {
	d, clears := &draw{202}, 0
	for range 20000 {
		c, p := d.table(), d.phase()
		i, k, met := modelPair(c, p)
		want := whole(i, k, impl.ErrNotFound)
		if met {
			want[2] = impl.OK
		} else {
			clears++
		}
		one, two, code := impl.FirstConflict(c, p)
		wantWhole(t, "FirstConflict", whole(one, two, code), want)
		clear, code := impl.IsClear(c, p)
		if clear == met || code != impl.OK {
			t.Fatalf("IsClear(%v, %v) = %v, %d", c, p, clear, code)
		}
	}
	if clears < 1000 || clears > 19000 {
		t.Errorf("clear phases: %d", clears)
	}
}

func TestFirstConflictOfPlainPhases(t *testing.T) {
	c := table([2]int{0, 5}, [2]int{1, 2}, [2]int{3, 7}, [2]int{6, 7})
	for _, x := range []struct {
		p    impl.Phase
		want []int64
	}{
		{phase(0, 1, 2, 3, 4, 5, 6, 7), whole(0, 5, 0)},
		{phase(1, 2, 3, 5, 7), whole(1, 2, 0)},
		{phase(0, 1, 3, 7), whole(3, 7, 0)},
		{phase(6, 7), whole(6, 7, 0)},
		{phase(0, 1, 3, 4, 6), whole(0, 0, impl.ErrNotFound)},
		{phase(7), whole(0, 0, impl.ErrNotFound)},
		{phase(), whole(0, 0, impl.ErrNotFound)},
	} {
		i, k, code := impl.FirstConflict(c, x.p)
		wantWhole(t, "FirstConflict", whole(i, k, code), x.want)
	}
}

func TestNumbersOfPhases(t *testing.T) {
	for n := range int64(256) {
		var want impl.Phase
		for i, power := range []int64{1, 2, 4, 8, 16, 32, 64, 128} {
			want[i] = n/power%2 == 1
		}
		got, code := impl.PhaseOf(n)
		wantPhase(t, "PhaseOf", got, code, want, impl.OK)
		if back := impl.NumberOfPhase(want); back != n {
			t.Errorf("NumberOfPhase(%v) = %d", want, back)
		}
	}
	for _, bad := range []int64{-1, 256, 257, 1 << 32, math.MinInt64, math.MaxInt64} {
		got, code := impl.PhaseOf(bad)
		wantPhase(t, "no phase", got, code, impl.Phase{}, impl.ErrRange)
	}
}

// modelGreatest keeps of all clear phases those that are part of no other one.
func modelGreatest(c impl.Table) []impl.Phase {
	var clear []int
	for n := range 256 {
		if _, _, met := modelPair(c, modelPhase(n)); !met {
			clear = append(clear, n)
		}
	}
	var list []impl.Phase
	for _, n := range clear {
		whole := true
		for _, other := range clear {
			whole = whole && (other == n || other&n != n)
		}
		if whole {
			list = append(list, modelPhase(n))
		}
	}
	return list
}

func modelPhase(n int) impl.Phase {
	var p impl.Phase
	for i := range p {
		p[i] = n>>i&1 == 1
	}
	return p
}

func TestGreatestPhasesAreThoseOfTheModel(t *testing.T) {
	d := &draw{203}
	for range 400 {
		c := d.table()
		got, code := impl.GreatestPhases(c)
		wantPhases(t, "GreatestPhases", got, code, modelGreatest(c), impl.OK)
	}
}

func TestGreatestPhasesOfPlainTables(t *testing.T) {
	got, code := impl.GreatestPhases(impl.Table{})
	wantPhases(t, "no conflicts", got, code, []impl.Phase{phase(0, 1, 2, 3, 4, 5, 6, 7)}, impl.OK)
	got, code = impl.GreatestPhases(table([2]int{0, 1}))
	wantPhases(t, "one conflict", got, code, []impl.Phase{phase(0, 2, 3, 4, 5, 6, 7), phase(1, 2, 3, 4, 5, 6, 7)}, impl.OK)
	got, code = impl.GreatestPhases(allConflict(8))
	var want []impl.Phase
	for i := range 8 {
		want = append(want, phase(i))
	}
	wantPhases(t, "all conflict", got, code, want, impl.OK)
	// Three, three and two movements, of which each conflicts with those of its own: as many phases as there may be.
	most := table([2]int{0, 1}, [2]int{0, 2}, [2]int{1, 2}, [2]int{3, 4}, [2]int{3, 5}, [2]int{4, 5}, [2]int{6, 7})
	got, code = impl.GreatestPhases(most)
	wantPhases(t, "most", got, code, modelGreatest(most), impl.OK)
	if len(got) != 18 {
		t.Errorf("most: %d", len(got))
	}
}

// allConflict is the table in which each of the first movements conflicts with each other one.
func allConflict(count int) impl.Table {
	var pairs [][2]int
	for i := range count {
		for k := range i {
			pairs = append(pairs, [2]int{i, k})
		}
	}
	return table(pairs...)
}

// modelFewest tries all lists of indices with 0, 1, 2, 3 and 4 of them, in their order.
func modelFewest(c impl.Table, wanted impl.Phase) ([]impl.Phase, int64) {
	great := modelGreatest(c)
	for count := range 5 {
		lists := 1
		for range count {
			lists *= len(great)
		}
		for n := range lists {
			list := make([]impl.Phase, count)
			for at := count - 1; at >= 0; at-- {
				list[at] = great[n%len(great)]
				n /= len(great)
			}
			if givesAll(list, wanted) {
				return list, impl.OK
			}
		}
	}
	return nil, impl.ErrLimit
}

func givesAll(list []impl.Phase, wanted impl.Phase) bool {
	for i := range wanted {
		has := !wanted[i]
		for _, p := range list {
			has = has || p[i]
		}
		if !has {
			return false
		}
	}
	return true
}

func TestFewestPhasesAreThoseOfTheModel(t *testing.T) {
	d := &draw{204}
	var met [6]int
	for range 800 {
		c, wanted := d.table(), d.phase()
		want, wantCode := modelFewest(c, wanted)
		got, code := impl.FewestPhases(c, wanted)
		wantPhases(t, "FewestPhases", got, code, want, wantCode)
		if wantCode == impl.OK {
			met[len(want)]++
		} else {
			met[5]++
		}
		if code != impl.OK {
			continue
		}
		if !givesAll(got, wanted) {
			t.Fatalf("%v does not give green to all of %v", got, wanted)
		}
		for _, p := range got {
			if clear, _ := impl.IsClear(c, p); !clear {
				t.Fatalf("%v is not clear", p)
			}
		}
	}
	for count, times := range met {
		if times == 0 {
			t.Errorf("no draw with %d phases (5: more than 4)", count)
		}
	}
}

func TestFewestPhasesOfPlainTables(t *testing.T) {
	all := phase(0, 1, 2, 3, 4, 5, 6, 7)
	for count := range 9 {
		var wanted impl.Phase
		var want []impl.Phase
		wantCode := int64(impl.OK)
		for i := range count {
			wanted[i] = true
			want = append(want, phase(i))
		}
		if count > 4 {
			want, wantCode = nil, impl.ErrLimit
		}
		got, code := impl.FewestPhases(allConflict(8), wanted)
		wantPhases(t, "all conflict", got, code, want, wantCode)
	}
	got, code := impl.FewestPhases(impl.Table{}, all)
	wantPhases(t, "no conflicts", got, code, []impl.Phase{all}, impl.OK)
	got, code = impl.FewestPhases(impl.Table{}, impl.Phase{})
	wantPhases(t, "nothing wanted", got, code, nil, impl.OK)
	// Both greatest phases have the movement 7: the first one is enough, and is taken.
	got, code = impl.FewestPhases(table([2]int{0, 1}), phase(7))
	wantPhases(t, "first one", got, code, []impl.Phase{phase(0, 2, 3, 4, 5, 6, 7)}, impl.OK)
	// A greedy choice begins with 0, 1, 2 and 3, and then takes three phases: two are enough.
	c := table([2]int{0, 4}, [2]int{1, 4}, [2]int{2, 5}, [2]int{3, 5}, [2]int{4, 5})
	want, wantCode := modelFewest(c, all)
	got, code = impl.FewestPhases(c, all)
	wantPhases(t, "not greedy", got, code, want, wantCode)
}

func TestConflictsRefuseInvalidTables(t *testing.T) {
	for name, c := range badTables() {
		for _, p := range []impl.Phase{{}, phase(0, 1), phase(0, 1, 2, 3, 4, 5, 6, 7)} {
			clear, code := impl.IsClear(c, p)
			if clear || code != impl.ErrInvalid {
				t.Errorf("%s: IsClear %v, %d", name, clear, code)
			}
			i, k, code := impl.FirstConflict(c, p)
			wantWhole(t, name, whole(i, k, code), whole(0, 0, impl.ErrInvalid))
			list, code := impl.FewestPhases(c, p)
			wantPhases(t, name, list, code, nil, impl.ErrInvalid)
		}
		list, code := impl.GreatestPhases(c)
		wantPhases(t, name, list, code, nil, impl.ErrInvalid)
	}
	// More than 4 would be needed, but the table is not valid.
	c := allConflict(8)
	c[2][2] = true
	list, code := impl.FewestPhases(c, phase(0, 1, 2, 3, 4, 5, 6, 7))
	wantPhases(t, "not valid", list, code, nil, impl.ErrInvalid)
}
