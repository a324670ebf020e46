package tests

import (
	"math"
	"testing"

	"loop.example/g01227/impl"
)

func TestTickTownIsThatOfTheModel(t *testing.T) {
	d, rings, chains, joined := &draw{420}, 0, 0, 0
	for range 3000 {
		x := d.town()
		for range 3 {
			want := modelTick(x)
			got, code := impl.TickTown(x)
			wantTown(t, "a tick", got, code, want, impl.OK)
			if t.Failed() {
				t.Fatalf("a tick of %v", x)
			}
			x = got
		}
		for i := range x.Roads {
			in, out := modelPlaceOf(x, i, jointIns), modelPlaceOf(x, i, jointOuts)
			if in.found && out.found && in.joint == out.joint {
				rings++
			} else if in.found && out.found {
				chains++
			} else if in.found || out.found {
				joined++
			}
		}
	}
	if rings == 0 || chains == 0 || joined == 0 {
		t.Errorf("rings %d, chains %d, joined %d", rings, chains, joined)
	}
}

func TestTicksAtOnceAreTicksInParts(t *testing.T) {
	d := &draw{421}
	for range 300 {
		x := d.town()
		count := int64(d.below(121))
		first := int64(d.below(int(count) + 1))
		all, code := impl.TickTowns(x, count)
		if code != impl.OK {
			t.Fatalf("%d ticks of %v: %d", count, x, code)
		}
		part, _ := impl.TickTowns(x, first)
		part, code = impl.TickTowns(part, count-first)
		wantTown(t, "two parts", part, code, all, impl.OK)
		single := x
		for range count {
			single, code = impl.TickTown(single)
		}
		wantTown(t, "one by one", single, impl.OK, all, impl.OK)
		split, _, code := impl.RunActs(x, []impl.Act{{Kind: impl.AcWait, A: first}, {Kind: impl.AcWait}, {Kind: impl.AcWait, A: count - first}})
		wantTown(t, "acts", split, code, all, impl.OK)
		if t.Failed() {
			t.Fatalf("%d ticks of %v", count, x)
		}
		if all.Tick != x.Tick+count {
			t.Fatalf("the tick is %d", all.Tick)
		}
	}
}

// wideCars counts the cars of a town in wide numbers.
func wideCars(t impl.Town) float64 {
	sum := 0.0
	for _, r := range t.Roads {
		sum += cellsSum(r) * float64(r.Lanes)
	}
	return sum
}

// TestTicksMakeNoCars holds what is in a town, with what has come and gone, against what was in it.
func TestTicksMakeNoCars(t *testing.T) {
	d, moved, came, went := &draw{422}, 0, 0, 0
	for range 600 {
		x := d.plainTown()
		x.Came, x.Went = 0, 0
		y, code := impl.TickTowns(x, 120)
		if code != impl.OK {
			t.Fatalf("%v: %d", x, code)
		}
		before, after := wideCars(x)+float64(y.Came), wideCars(y)+float64(y.Went)
		if !nearly(before, after, 1e-4*before+1e-3) {
			t.Fatalf("%v cars were in the town or came, %v are in it or went: %v", before, after, x)
		}
		if !sameRoads(x.Roads, y.Roads) {
			moved++
		}
		if y.Came > 0 {
			came++
		}
		if y.Went > 0 {
			went++
		}
	}
	if moved < 500 || came < 100 || went < 100 {
		t.Errorf("towns in which cars moved %d, came %d, and went %d", moved, came, went)
	}
}

// TestNothingLeavesAnInThatMayNotGo holds the roads of such ins against roads with no room behind them.
func TestNothingLeavesAnInThatMayNotGo(t *testing.T) {
	d, held, full := &draw{423}, 0, 0
	for range 2000 {
		x := d.town()
		y, code := impl.TickTown(x)
		if code != impl.OK {
			t.Fatalf("%v: %d", x, code)
		}
		for i, j := range x.Joints {
			goers, _ := impl.GreenIns(x, int64(i))
			for in, road := range j.Ins {
				if goers[in] {
					continue
				}
				held++
				before, after := x.Roads[road], y.Roads[road]
				if before.Cars[15] > 0 {
					full++
				}
				if after.Cars[15] < before.Cars[15] {
					t.Fatalf("the share %v in the last cell becomes %v", before.Cars[15], after.Cars[15])
				}
				shut := modelStep(before, 0, 0).road
				for cell := 1; cell < 16; cell++ {
					if !same(after.Cars[cell], shut.Cars[cell]) {
						t.Fatalf("the cell %d has %v, not %v", cell, after.Cars[cell], shut.Cars[cell])
					}
				}
			}
		}
	}
	if held == 0 || full == 0 {
		t.Errorf("ins that may not go %d, with cars %d", held, full)
	}
}

// TestJointsSeeTheTownAsItWas has roads that would send or take otherwise behind the step of another one.
func TestJointsSeeTheTownAsItWas(t *testing.T) {
	x, _ := impl.LineTown(3, 0.5)
	x.Roads[0].Cars[15], x.Roads[1].Cars[14], x.Roads[1].Cars[15] = 0.5, 0.5, 0.25
	want := deep(x)
	want.Roads[0].Cars[15] = 0.25
	want.Roads[1].Cars[0], want.Roads[1].Cars[14], want.Roads[1].Cars[15] = 0.25, 0.25, 0.375
	want.Roads[2].Cars[0], want.Tick = 0.125, 1
	got, code := impl.TickTown(x)
	wantTown(t, "a line", got, code, want, impl.OK)
	ring := crossTown(t)
	ring.Joints, ring.Roads, ring.Offered = nil, ring.Roads[:1], []float32{0}
	ring.Joints = []impl.Joint{{Junction: mustEven(t, 1, 1), Ins: whole(0), Outs: whole(0), Plan: -1}}
	ring.Roads[0].Cars[15], ring.Roads[0].Cars[0] = 1, 0.75
	want = deep(ring)
	// The first cell takes 1/8 of the 1/4 that the last one sends, and sends 1/4 itself.
	want.Roads[0].Cars[15], want.Roads[0].Cars[0], want.Roads[0].Cars[1], want.Tick = 0.875, 0.625, 0.25, 6
	got, code = impl.TickTown(ring)
	wantTown(t, "a ring", got, code, want, impl.OK)
}

func TestWhatComesAndGoes(t *testing.T) {
	r := mustMake(t, 0.5, 0.5, 4)
	lonely := impl.Town{Roads: []impl.Road{r}, Offered: []float32{0.125}}
	lonely.Roads[0].Cars[15] = 0.5
	got, code := impl.TickTown(lonely)
	wantNumber(t, "came", got.Came, code, 0.5, impl.OK)
	wantNumber(t, "went", got.Went, code, 1, impl.OK)
	lonely.Came, lonely.Went, lonely.Offered[0] = 10, 20, math.MaxFloat32
	got, code = impl.TickTown(lonely)
	wantNumber(t, "came of more than is taken", got.Came, code, 11, impl.OK)
	wantNumber(t, "went as well", got.Went, code, 21, impl.OK)
	lonely.Came, lonely.Went = math.MaxFloat32, math.MaxFloat32
	got, code = impl.TickTown(lonely)
	wantNumber(t, "came very much", got.Came, code, math.MaxFloat32, impl.OK)
	wantNumber(t, "went very much", got.Went, code, math.MaxFloat32, impl.OK)
	line, _ := impl.LineTown(2, 0.5)
	line.Offered[0], line.Roads[0].Cars[15], line.Roads[1].Cars[15] = 0.25, 0.25, 0.5
	got, code = impl.TickTown(line)
	wantNumber(t, "came on the first road", got.Came, code, 0.25, impl.OK)
	wantNumber(t, "went from the last road", got.Went, code, 0.25, impl.OK)
	two := impl.Town{Roads: []impl.Road{r, r}, Offered: []float32{smallest, 0.25}, Came: 1 << 24}
	two.Roads[1].Lanes, two.Roads[0].Lanes, two.Offered[0] = 4, 4, 0.125
	// 1/2 alone is rounded off, and 1 is not half of a unit there: the roads come one after the other.
	got, code = impl.TickTown(two)
	wantNumber(t, "one road after the other", got.Came, code, add(add(1<<24, 0.5), 1), impl.OK)
}

// TestOtherLanes lets a wide road end where a narrow one begins.
func TestOtherLanes(t *testing.T) {
	x, _ := impl.LineTown(2, 0.5)
	x.Roads[0].Lanes, x.Roads[1].Lanes = 4, 0.5
	x.Roads[0].Cars[15] = 0.5
	got, code := impl.TickTown(x)
	want := deep(x)
	// The out takes 1/4 of half a lane, which is 1/32 of four lanes.
	want.Roads[0].Cars[15], want.Roads[1].Cars[0], want.Tick = 0.5-1.0/32, 0.25, 1
	wantTown(t, "lanes", got, code, want, impl.OK)
}

func TestTicksRefuse(t *testing.T) {
	x := crossTown(t)
	for _, bad := range []int64{-1, 121, 1000, 1 << 32, 1<<32 + 1, math.MinInt64, math.MaxInt64} {
		got, code := impl.TickTowns(x, bad)
		wantTown(t, "count "+digits(bad), got, code, impl.Town{}, impl.ErrRange)
	}
	got, code := impl.TickTowns(x, 0)
	wantTown(t, "no ticks", got, code, x, impl.OK)
	for name, bad := range badTowns(t) {
		got, code := impl.TickTown(bad)
		wantTown(t, name, got, code, impl.Town{}, impl.ErrInvalid)
		for _, count := range []int64{0, 1, -1, 121} {
			got, code = impl.TickTowns(bad, count)
			wantTown(t, name, got, code, impl.Town{}, impl.ErrInvalid)
		}
	}
	for _, c := range []struct{ tick, count, code int64 }{
		{999999999, 1, impl.OK}, {1000000000, 1, impl.ErrState}, {1000000000, 0, impl.OK},
		{999999880, 120, impl.OK}, {999999881, 120, impl.ErrState}, {1000000000, 121, impl.ErrRange}, {1000000000, -1, impl.ErrRange},
	} {
		x.Tick = c.tick
		got, code := impl.TickTowns(x, c.count)
		if code != c.code || code == impl.OK && got.Tick != c.tick+c.count || code != impl.OK && !sameTown(got, impl.Town{}) {
			t.Errorf("%d ticks from %d: %v, %d", c.count, c.tick, got, code)
		}
	}
	x.Tick = 1000000000
	got, code = impl.TickTown(x)
	wantTown(t, "the last tick", got, code, impl.Town{}, impl.ErrState)
}

func TestExampleOfNetworks(t *testing.T) {
	x, _ := impl.LineTown(2, 0.5)
	x, code := impl.DoAct(x, impl.Act{Kind: impl.AcOffer, F: 0.125})
	y, other := impl.TickTowns(x, 40)
	first, second := modelCars(y.Roads[0]), modelCars(y.Roads[1])
	if code != impl.OK || other != impl.OK || first == 0 || second == 0 {
		t.Errorf("cars %v and %v, %d, %d", first, second, code, other)
	}
	wantNumber(t, "came", y.Came, other, 5, impl.OK)
	x.Plans = []impl.Plan{{Slots: []impl.Slot{{Green: phase(1, 2, 3), Ticks: 5}}}}
	x.Joints[0].Plan = 0
	y, code = impl.TickTowns(x, 120)
	wantNumber(t, "cars on the road 1", modelCars(y.Roads[1]), code, 0, impl.OK)
	acts, line, code := impl.CompileActs("times 2\noffer 0 1/8\nwait 5\nend\n")
	if len(acts) != 4 || line != 0 || code != impl.OK {
		t.Errorf("acts %v, %d, %d", acts, line, code)
	}
}
