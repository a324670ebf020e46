package tests

import (
	"math"
	"testing"

	"loop.example/g01227/impl"
)

func TestWantsAndDemandsAreThoseOfTheModel(t *testing.T) {
	d, order := &draw{80}, 0
	for range 5000 {
		j := d.junction()
		sends := d.numbers(j.Ins)
		want := modelProducts(j, sends)
		wants, code := impl.WantsOf(j, sends)
		wantFlows(t, "wants", wants, code, want, impl.OK)
		var sums impl.Four
		wantCode := int64(impl.OK)
		for k := range sums {
			sums[k] = modelColumn(want, int64(k))
			if !(sums[k] <= math.MaxFloat32) {
				wantCode = impl.ErrState
			}
			if add(add(add(want[3][k], want[2][k]), want[1][k]), want[0][k]) != sums[k] {
				order++
			}
		}
		if wantCode != impl.OK {
			sums = impl.Four{}
		}
		demands, code := impl.DemandsOf(j, sends)
		wantFour(t, "demands", demands, code, sums, wantCode)
	}
	if order == 0 {
		t.Error("no demand tells the order of its sum")
	}
}

func TestDemandsThatAreNotFinite(t *testing.T) {
	j := mustEven(t, 2, 1)
	got, code := impl.DemandsOf(j, impl.Four{math.MaxFloat32, math.MaxFloat32})
	wantFour(t, "much", got, code, impl.Four{}, impl.ErrState)
	got, code = impl.DemandsOf(j, impl.Four{math.MaxFloat32, 1})
	wantFour(t, "just finite", got, code, impl.Four{math.MaxFloat32}, impl.OK)
	wants, code := impl.WantsOf(j, impl.Four{math.MaxFloat32, math.MaxFloat32})
	wantFlows(t, "wants", wants, code, impl.Flows{{math.MaxFloat32}, {math.MaxFloat32}}, impl.OK)
}

func TestFlowsAtJunctionsAreThoseOfTheModel(t *testing.T) {
	d := &draw{81}
	var rounds [9]int
	ties, boths, later, stopped := 0, 0, 0, 0
	for range 60000 {
		j := d.junction()
		sends, takes := d.numbers(j.Ins), d.numbers(j.Outs)
		f := modelFill(j, sends, takes)
		got, code := impl.FlowsOf(j, sends, takes)
		wantFlows(t, "flows", got, code, f.flows(), impl.OK)
		stops, code := impl.StoppedBy(j, sends, takes)
		wantStops(t, "stops", stops, code, f.by, impl.OK)
		var left impl.Four
		for i := range left {
			left[i] = sub(sends[i], modelRow(got, int64(i)))
			if left[i] < 0 {
				left[i] = 0
			}
		}
		behind, code := impl.LeftBehind(j, sends, takes)
		wantFour(t, "left", behind, code, left, impl.OK)
		if t.Failed() {
			t.Fatalf("%v with %v and %v", j, sends, takes)
		}
		rounds[f.rounds]++
		for i, by := range f.by {
			if by >= 0 && f.flow[i] > 0 {
				stopped++
			}
			if by > 0 && f.flow[i] > 0 {
				later++
			}
		}
		if f.tie {
			ties++
		}
		if f.both {
			boths++
		}
	}
	if rounds[0] == 0 || rounds[1] == 0 || rounds[2] == 0 || rounds[3] == 0 || rounds[4] == 0 || ties == 0 || boths == 0 || later == 0 || stopped == 0 {
		t.Errorf("rounds %v, ties %d, outs at once %d, stopped by later outs %d, stopped %d", rounds, ties, boths, later, stopped)
	}
}

func TestWhoGoesAndWhoIsStopped(t *testing.T) {
	even := func(ins, outs int64) impl.Junction { return mustEven(t, ins, outs) }
	with := func(j impl.Junction, change func(*impl.Junction)) impl.Junction {
		change(&j)
		return j
	}
	none := [4]int64{-1, -1, -1, -1}
	for _, c := range []struct {
		name         string
		j            impl.Junction
		sends, takes impl.Four
		flow         impl.Flows
		by           [4]int64
	}{
		{"all go", even(2, 1), impl.Four{0.5, 0.25}, impl.Four{1}, impl.Flows{{0.5}, {0.25}}, none},
		{"one is stopped", even(2, 1), impl.Four{0.5, 0.25}, impl.Four{0.5}, impl.Flows{{0.25}, {0.25}}, [4]int64{0, -1, -1, -1}},
		{"done just when the out is full", even(2, 1), impl.Four{0.5, 0.5}, impl.Four{1}, impl.Flows{{0.5}, {0.5}}, none},
		{"one of two is done when the out is full", even(2, 1), impl.Four{0.25, 0.5}, impl.Four{0.5}, impl.Flows{{0.25}, {0.25}}, [4]int64{-1, 0, -1, -1}},
		{"the full out stops first", even(2, 1), impl.Four{0.5, 0.5}, impl.Four{0.5}, impl.Flows{{0.25}, {0.25}}, [4]int64{0, 0, -1, -1}},
		{"one that is done leaves more", even(2, 1), impl.Four{0.125, 1}, impl.Four{0.5}, impl.Flows{{0.125}, {0.375}}, [4]int64{-1, 0, -1, -1}},
		{"two outs are full at once", even(1, 2), impl.Four{1}, impl.Four{0.25, 0.25}, impl.Flows{{0.25, 0.25}}, [4]int64{0, -1, -1, -1}},
		{"the second out is full", even(1, 2), impl.Four{1}, impl.Four{0.5, 0.25}, impl.Flows{{0.25, 0.25}}, [4]int64{1, -1, -1, -1}},
		{"takes nothing", even(1, 2), impl.Four{1}, impl.Four{1, 0}, impl.Flows{}, [4]int64{1, -1, -1, -1}},
		{"both take nothing", even(1, 2), impl.Four{1}, impl.Four{}, impl.Flows{}, [4]int64{0, -1, -1, -1}},
		{"sends nothing where nothing is taken", even(2, 2), impl.Four{0, 1}, impl.Four{1, 0}, impl.Flows{}, [4]int64{-1, 1, -1, -1}},
		{"nothing is sent", even(4, 4), impl.Four{}, impl.Four{1, 1, 1, 1}, impl.Flows{}, none},
		{"nothing at all", even(4, 4), impl.Four{}, impl.Four{}, impl.Flows{}, none},
		{"a full out to which it does not go", with(even(2, 2), func(j *impl.Junction) { j.Turns[0] = impl.Four{1, 0} }),
			impl.Four{0.5, 0.5}, impl.Four{1, 0}, impl.Flows{{0.5}}, [4]int64{-1, 1, -1, -1}},
		{"stopped at first leaves all to others", with(even(2, 2), func(j *impl.Junction) { j.Turns[0] = impl.Four{1, 0} }),
			impl.Four{1, 1}, impl.Four{0.5, 0}, impl.Flows{{0.5}}, [4]int64{0, 1, -1, -1}},
		{"an in that presses more", with(even(2, 1), func(j *impl.Junction) { j.Prior = impl.Four{3, 1} }),
			impl.Four{1, 1}, impl.Four{0.5}, impl.Flows{{0.375}, {0.125}}, [4]int64{0, 0, -1, -1}},
		{"an in that presses more is done first", with(even(2, 1), func(j *impl.Junction) { j.Prior = impl.Four{2, 1} }),
			impl.Four{0.5, 1}, impl.Four{1}, impl.Flows{{0.5}, {0.5}}, [4]int64{-1, 0, -1, -1}},
		{"stopped by another's out", with(even(2, 2), func(j *impl.Junction) { j.Turns = impl.Flows{{1, 0}, {0.5, 0.5}} }),
			impl.Four{1, 1}, impl.Four{0.75, 1}, impl.Flows{{0.5}, {0.25, 0.25}}, [4]int64{0, 0, -1, -1}},
		{"each by its own", with(even(2, 2), func(j *impl.Junction) { j.Turns = impl.Flows{{1, 0}, {0, 1}} }),
			impl.Four{1, 1}, impl.Four{0.25, 0.5}, impl.Flows{{0.25}, {0, 0.5}}, [4]int64{0, 1, -1, -1}},
		{"one is stopped, and the other goes on", with(even(2, 2), func(j *impl.Junction) { j.Turns = impl.Flows{{0, 1}, {0.5, 0.5}} }),
			impl.Four{1, 1}, impl.Four{0.125, 0.75}, impl.Flows{{0, 0.625}, {0.125, 0.125}}, [4]int64{1, 0, -1, -1}},
		{"four at one", even(4, 1), impl.Four{0.125, 0.25, 0.375, 1}, impl.Four{1},
			impl.Flows{{0.125}, {0.25}, {0.3125}, {0.3125}}, [4]int64{-1, -1, 0, 0}},
		{"four rounds", even(4, 1), impl.Four{0.5, 0.25, 0.125, 1}, impl.Four{1.5},
			impl.Flows{{0.5}, {0.25}, {0.125}, {0.625}}, [4]int64{-1, -1, -1, 0}},
		{"very much", even(1, 1), impl.Four{math.MaxFloat32}, impl.Four{math.MaxFloat32}, impl.Flows{{math.MaxFloat32}}, none},
		{"very little is taken", even(1, 1), impl.Four{math.MaxFloat32}, impl.Four{smallest}, impl.Flows{{smallest}}, [4]int64{0, -1, -1, -1}},
		{"very little is sent", even(1, 1), impl.Four{smallest}, impl.Four{1}, impl.Flows{{smallest}}, none},
	} {
		got, code := impl.FlowsOf(c.j, c.sends, c.takes)
		wantFlows(t, c.name, got, code, c.flow, impl.OK)
		stops, code := impl.StoppedBy(c.j, c.sends, c.takes)
		wantStops(t, c.name, stops, code, c.by, impl.OK)
	}
}

// TestTimesThatAreNotFinite lets ins with little priority send so much that their times are infinite.
func TestTimesThatAreNotFinite(t *testing.T) {
	j := mustEven(t, 2, 2)
	j.Prior = impl.Four{1.0 / 64, 1.0 / 64}
	j.Turns = impl.Flows{{1, 0}, {1, 0}}
	much := float32(math.MaxFloat32)
	got, code := impl.FlowsOf(j, impl.Four{much, much}, impl.Four{much, 0})
	wantFlows(t, "infinite", got, code, modelFill(j, impl.Four{much, much}, impl.Four{much, 0}).flows(), impl.OK)
	got, code = impl.FlowsOf(j, impl.Four{much, 1}, impl.Four{1, 1})
	wantFlows(t, "finite", got, code, impl.Flows{{0.5}, {0.5}}, impl.OK)
	// The product of this turn and of Prior is 0: the out has no rate, and so no time.
	j.Turns[0] = impl.Four{1, smallest}
	got, code = impl.FlowsOf(j, impl.Four{1, 0}, impl.Four{1, smallest})
	wantFlows(t, "no rate", got, code, impl.Flows{{1, smallest}}, impl.OK)
	stops, code := impl.StoppedBy(j, impl.Four{1, 0}, impl.Four{1, 0})
	wantStops(t, "no rate, and takes nothing", stops, code, [4]int64{1, -1, -1, -1}, impl.OK)
}

// TestFlowsThatAreNotFinite has numbers with which an in that sends the greatest one has an
// infinite flow by a rounding when it is stopped.
func TestFlowsThatAreNotFinite(t *testing.T) {
	much, first, second := float32(math.MaxFloat32), fromBits(0x7e2aaab4), fromBits(0x7f2aaaaa)
	j := impl.Junction{Ins: 3, Outs: 3, Prior: impl.Four{1.5, 1, 1}}
	j.Turns = impl.Flows{{1, 1.0 / (1 << 30), 0}, {0, 1, 0}, {0, 0, 1}}
	sends, takes := impl.Four{much, much, first}, impl.Four{much, second, much}
	if f := modelFill(j, sends, takes); f.flow[0] != inf {
		t.Fatalf("the flow of the model is %v", f.flow[0])
	}
	got, code := impl.FlowsOf(j, sends, takes)
	wantFlows(t, "not finite", got, code, impl.Flows{}, impl.ErrState)
	left, code := impl.LeftBehind(j, sends, takes)
	wantFour(t, "left", left, code, impl.Four{}, impl.ErrState)
	stops, code := impl.StoppedBy(j, sends, takes)
	wantStops(t, "stops", stops, code, [4]int64{1, 1, -1, -1}, impl.OK)
}

// TestTimesOfFullOutsAreAtLeastNothing has an out to which, by a rounding, more has come than it takes
// when another in is done: its time is 0 then, and not less.
func TestTimesOfFullOutsAreAtLeastNothing(t *testing.T) {
	first, second := fromBits(0x3e2aaab4), fromBits(0x3f2aaaaa)
	j := impl.Junction{Ins: 3, Outs: 3, Prior: impl.Four{1.5, 1, 1}, Turns: impl.Flows{{1}, {0, 1}, {0, 0, 1}}}
	sends, takes := impl.Four{8, second, first}, impl.Four{belowOne, 8, 8}
	got, code := impl.FlowsOf(j, sends, takes)
	wantFlows(t, "more has come", got, code, impl.Flows{{1}, {0, second}, {0, 0, first}}, impl.OK)
	stops, code := impl.StoppedBy(j, sends, takes)
	wantStops(t, "more has come", stops, code, [4]int64{0, -1, -1, -1}, impl.OK)
}

// TestOutsWithoutRateStopNobody has a first round whose time is 0, and an out whose rate is 0.
func TestOutsWithoutRateStopNobody(t *testing.T) {
	j := impl.Junction{Ins: 2, Outs: 2, Prior: impl.Four{64, 1.0 / 64}, Turns: impl.Flows{{1}, {1, smallest}}}
	sends, takes := impl.Four{smallest, 1}, impl.Four{4, 4}
	got, code := impl.FlowsOf(j, sends, takes)
	wantFlows(t, "no rate", got, code, impl.Flows{{smallest}, {1, smallest}}, impl.OK)
	stops, code := impl.StoppedBy(j, sends, takes)
	wantStops(t, "no rate", stops, code, [4]int64{-1, -1, -1, -1}, impl.OK)
}

// TestFillingEndsWithoutTimes lets an in and an out be infinite at once, as above, so that a further in
// that goes to this out never has a time.
func TestFillingEndsWithoutTimes(t *testing.T) {
	much, first, second := float32(math.MaxFloat32), fromBits(0x7e2aaab4), fromBits(0x7f2aaaaa)
	j := impl.Junction{Ins: 4, Outs: 4, Prior: impl.Four{1.5, 1, 1, 1.0 / 64}}
	j.Turns = impl.Flows{{1}, {0, 1}, {0, 0, 1}, {1.0 / (1 << 30), 0, 0, 1}}
	sends, takes := impl.Four{much, second, first, much}, impl.Four{much, much, much, much}
	got, code := impl.FlowsOf(j, sends, takes)
	wantFlows(t, "no times", got, code, impl.Flows{}, impl.ErrState)
	stops, code := impl.StoppedBy(j, sends, takes)
	wantStops(t, "no times", stops, code, [4]int64{-1, -1, -1, -1}, impl.OK)
}

func TestNoInAndNoOutHasMoreThanItMay(t *testing.T) {
	d := &draw{82}
	for range 20000 {
		j := d.junction()
		sends, takes := d.numbers(j.Ins), d.numbers(j.Outs)
		flows, code := impl.FlowsOf(j, sends, takes)
		stops, _ := impl.StoppedBy(j, sends, takes)
		in, out := impl.InFlows(flows), impl.OutFlows(flows)
		wants, _ := impl.WantsOf(j, sends)
		if code != impl.OK {
			t.Fatalf("%v: %d", j, code)
		}
		for i := range in {
			row := float64(modelRow(j.Turns, int64(i)))
			if float64(in[i]) > float64(sends[i])*row*(1+1e-5)+1e-40 {
				t.Fatalf("the in %d of %v lets %v go of %v", i, j, in[i], sends[i])
			}
			if float64(out[i]) > float64(takes[i])*(1+1e-5)+1e-40 {
				t.Fatalf("the out %d of %v gets %v of %v", i, j, out[i], takes[i])
			}
			if stops[i] < 0 {
				if flows[i] != wants[i] {
					t.Fatalf("the in %d of %v is not stopped, and %v goes of %v", i, j, flows[i], wants[i])
				}
			} else if by := stops[i]; j.Turns[i][by] == 0 || float64(out[by]) < float64(takes[by])*(1-1e-5)-1e-40 {
				t.Fatalf("the in %d of %v is stopped by %d, to which %v goes of %v", i, j, by, out[by], takes[by])
			}
		}
	}
}

func TestLeftBehindIsAtLeastNothing(t *testing.T) {
	j := mustEven(t, 2, 2)
	j.Turns[0] = impl.Four{0.5004, 0.5004}
	got, code := impl.LeftBehind(j, impl.Four{1, 1}, impl.Four{8, 8})
	wantFour(t, "more than it sends", got, code, impl.Four{}, impl.OK)
	j.Turns[0] = impl.Four{0.4996, 0.4996}
	got, code = impl.LeftBehind(j, impl.Four{1, 1}, impl.Four{8, 8})
	wantFour(t, "less than it sends", got, code, impl.Four{sub(1, add(0.4996, 0.4996))}, impl.OK)
	got, code = impl.LeftBehind(j, impl.Four{1, 0.5}, impl.Four{8, 0})
	wantFour(t, "all is stopped", got, code, impl.Four{1, 0.5}, impl.OK)
	// The sum of the row is infinite here, and what is left is not.
	j = mustEven(t, 1, 2)
	j.Turns[0] = impl.Four{1, 0.0009}
	much := float32(math.MaxFloat32)
	got, code = impl.LeftBehind(j, impl.Four{much}, impl.Four{much, much})
	wantFour(t, "an infinite sum", got, code, impl.Four{}, impl.OK)
}

func TestSums(t *testing.T) {
	d, orders := &draw{83}, 0
	odd := []float32{0, minusZero, 1, -1, inf, minusInf, nan, otherNaN, math.MaxFloat32, -math.MaxFloat32, smallest, 0.1, -0.3}
	for range 5000 {
		var f impl.Flows
		for i := range f {
			for k := range f[i] {
				f[i][k] = d.share() - d.share()
				if d.below(6) == 0 {
					f[i][k] = odd[d.below(len(odd))]
				}
			}
		}
		var rows, columns impl.Four
		for i := range rows {
			rows[i], columns[i] = modelRow(f, int64(i)), modelColumn(f, int64(i))
			wantNumber(t, "sum", impl.SumOfFour(f[i]), 0, rows[i], 0)
			if !same(rows[i], add(f[i][0], add(f[i][1], add(f[i][2], f[i][3])))) {
				orders++
			}
		}
		wantFour(t, "rows", impl.InFlows(f), 0, rows, 0)
		wantFour(t, "columns", impl.OutFlows(f), 0, columns, 0)
	}
	if orders == 0 {
		t.Error("no sum tells its order")
	}
	least := impl.Four{minusZero, minusZero, minusZero, minusZero}
	wantNumber(t, "-0", impl.SumOfFour(least), 0, minusZero, 0)
	wantFour(t, "-0 in rows", impl.InFlows(impl.Flows{1: least}), 0, impl.Four{1: minusZero}, 0)
	wantFour(t, "-0 in columns", impl.OutFlows(impl.Flows{{0, minusZero}, {0, minusZero}, {0, minusZero}, {0, minusZero}}), 0, impl.Four{1: minusZero}, 0)
}

func TestFlowsRefuse(t *testing.T) {
	j := mustEven(t, 2, 3)
	sends, takes := impl.Four{0.5, 0.5}, impl.Four{0.5, 0.5, 0.5}
	for arm := range 4 {
		for _, bad := range append([]float32{1, smallest}, badAmounts...) {
			more := sends
			more[arm] = bad
			if !impl.IsAmount(bad) && arm < 2 || arm >= 2 {
				wantRefused(t, "sends", j, more, takes, impl.ErrRange)
			}
			more = takes
			more[arm] = bad
			if !impl.IsAmount(bad) && arm < 3 || arm >= 3 {
				wantFlowsRefused(t, "takes", j, sends, more, impl.ErrRange)
			}
		}
	}
	for name, bad := range badJunctions() {
		wantRefused(t, name, bad, sends, takes, impl.ErrInvalid)
		wantRefused(t, name, bad, impl.Four{-1}, impl.Four{nan}, impl.ErrInvalid)
		wantRefused(t, name, bad, impl.Four{}, impl.Four{}, impl.ErrInvalid)
	}
}

func wantFlowsRefused(t *testing.T, name string, j impl.Junction, sends, takes impl.Four, want int64) {
	t.Helper()
	flows, code := impl.FlowsOf(j, sends, takes)
	wantFlows(t, name+", flows", flows, code, impl.Flows{}, want)
	stops, code := impl.StoppedBy(j, sends, takes)
	wantStops(t, name+", stops", stops, code, [4]int64{}, want)
	left, code := impl.LeftBehind(j, sends, takes)
	wantFour(t, name+", left", left, code, impl.Four{}, want)
}

func wantRefused(t *testing.T, name string, j impl.Junction, sends, takes impl.Four, want int64) {
	t.Helper()
	wantFlowsRefused(t, name, j, sends, takes, want)
	wants, code := impl.WantsOf(j, sends)
	wantFlows(t, name+", wants", wants, code, impl.Flows{}, want)
	demands, code := impl.DemandsOf(j, sends)
	wantFour(t, name+", demands", demands, code, impl.Four{}, want)
}

func TestExampleOfJunctions(t *testing.T) {
	j := mustEven(t, 2, 1)
	flows, code := impl.FlowsOf(j, impl.Four{0.5, 0.25}, impl.Four{0.5})
	wantFlows(t, "flows", flows, code, impl.Flows{{0.25}, {0.25}}, impl.OK)
	stops, code := impl.StoppedBy(j, impl.Four{0.5, 0.25}, impl.Four{0.5})
	wantStops(t, "stops", stops, code, [4]int64{0, -1, -1, -1}, impl.OK)
	e := mustEven(t, 1, 3)
	turned, code := impl.SetTurn(e, 0, 0, 0.25)
	e.Turns[0] = impl.Four{0.25, 0.375, 0.375}
	wantJunction(t, "turned", turned, code, e, impl.OK)
}
