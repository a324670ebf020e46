package tests

import (
	"math"
	"testing"

	"loop.example/g01227/impl"
)

func TestValidTown(t *testing.T) {
	d := &draw{400}
	for range 2000 {
		if x := d.town(); !impl.ValidTown(x) {
			t.Fatalf("%v is not valid", x)
		}
	}
	for name, bad := range badTowns(t) {
		if impl.ValidTown(bad) {
			t.Errorf("%s: valid", name)
		}
	}
	r := mustMake(t, 1.0/64, 1, 8)
	good := map[string]func(*impl.Town){
		"as it is":           func(x *impl.Town) {},
		"no joints":          func(x *impl.Town) { x.Joints = nil },
		"no joints, a slice": func(x *impl.Town) { x.Joints = []impl.Joint{} },
		"no plans":           func(x *impl.Town) { x.Plans, x.Joints[0].Plan = nil, -1 },
		"one road":           func(x *impl.Town) { x.Roads, x.Offered, x.Joints = x.Roads[:1], x.Offered[:1], nil },
		"eight roads": func(x *impl.Town) {
			x.Roads, x.Offered = append(x.Roads, r, r, r), append(x.Offered, 1, math.MaxFloat32, smallest)
			x.Joints[1].Outs[0] = 7
			x.Offered[7], x.Offered[3] = 0, 1
		},
		"four joints": func(x *impl.Town) {
			one := mustEven(t, 1, 1)
			x.Joints = append(x.Joints, impl.Joint{Junction: one, Ins: whole(3), Outs: whole(0)}, impl.Joint{Junction: one, Ins: whole(4), Outs: whole(1)})
			x.Offered[0], x.Offered[1] = 0, 0
		},
		"six plans":                func(x *impl.Town) { x.Plans = append(append(x.Plans, x.Plans...), x.Plans...); x.Joints[1].Plan = 5 },
		"a road that is a ring":    func(x *impl.Town) { x.Joints[1].Outs[0] = 1; x.Offered[1] = 0 },
		"a road round one joint":   func(x *impl.Town) { x.Joints[0].Outs[0] = 0; x.Offered[0] = 0 },
		"offered to an in":         func(x *impl.Town) { x.Offered[0] = math.MaxFloat32 },
		"offered to a lonely road": func(x *impl.Town) { x.Joints = x.Joints[:1]; x.Offered[4] = 1 },
		"the last tick":            func(x *impl.Town) { x.Tick = 1000000000 },
		"a crowd":                  func(x *impl.Town) { crowd(t, x, mustEven(t, 4, 4), true) },
		"tick 0":                   func(x *impl.Town) { x.Tick = 0 },
		"very many cars":           func(x *impl.Town) { x.Came, x.Went = math.MaxFloat32, math.MaxFloat32 },
		"no cars":                  func(x *impl.Town) { x.Came, x.Went = 0, 0 },
	}
	for name, change := range good {
		x := crossTown(t)
		change(&x)
		if !impl.ValidTown(x) {
			t.Errorf("%s: not valid", name)
		}
	}
}

// otherTowns returns towns each of which differs from the same one in one thing.
func otherTowns(t *testing.T) map[string]impl.Town {
	out := map[string]impl.Town{"zero": {}}
	for name, change := range map[string]func(*impl.Town){
		"a cell":                   func(x *impl.Town) { x.Roads[4].Cars[15] = smallest },
		"a cell, -0":               func(x *impl.Town) { x.Roads[4].Cars[15] = minusZero },
		"pace":                     func(x *impl.Town) { x.Roads[0].Pace = 0.25 },
		"fewer roads":              func(x *impl.Town) { x.Roads = x.Roads[:4] },
		"more roads":               func(x *impl.Town) { x.Roads = append(x.Roads, x.Roads[0]) },
		"offered":                  func(x *impl.Town) { x.Offered[4] = 1 },
		"offered, -0":              func(x *impl.Town) { x.Offered[4] = minusZero },
		"fewer offered":            func(x *impl.Town) { x.Offered = x.Offered[:4] },
		"no joints":                func(x *impl.Town) { x.Joints = nil },
		"fewer joints":             func(x *impl.Town) { x.Joints = x.Joints[:1] },
		"a turn":                   func(x *impl.Town) { x.Joints[1].Junction.Turns[0][1] = 0.25 },
		"a prior behind":           func(x *impl.Town) { x.Joints[1].Junction.Prior[3] = 1 },
		"the order of ins":         func(x *impl.Town) { x.Joints[0].Ins = whole(0, 1) },
		"fewer ins":                func(x *impl.Town) { x.Joints[0].Ins = whole(1) },
		"another out":              func(x *impl.Town) { x.Joints[1].Outs[1] = 0 },
		"more outs":                func(x *impl.Town) { x.Joints[1].Outs = whole(3, 4, 0) },
		"a joint's plan":           func(x *impl.Town) { x.Joints[1].Plan = 0 },
		"the order of joints":      func(x *impl.Town) { x.Joints[0], x.Joints[1] = x.Joints[1], x.Joints[0] },
		"an offset":                func(x *impl.Town) { x.Plans[1].Offset = 1 },
		"green":                    func(x *impl.Town) { x.Plans[0].Slots[1].Green[7] = false },
		"fewer plans":              func(x *impl.Town) { x.Plans = x.Plans[:1] },
		"no plans":                 func(x *impl.Town) { x.Plans = nil },
		"tick":                     func(x *impl.Town) { x.Tick = 6 },
		"came":                     func(x *impl.Town) { x.Came = 9 },
		"went":                     func(x *impl.Town) { x.Went = math.Nextafter32(2, 3) },
		"came and went each other": func(x *impl.Town) { x.Came, x.Went = x.Went, x.Came },
	} {
		x := crossTown(t)
		change(&x)
		out[name] = x
	}
	return out
}

func TestSameTown(t *testing.T) {
	x := crossTown(t)
	for name, y := range otherTowns(t) {
		if impl.SameTown(x, y) || impl.SameTown(y, x) {
			t.Errorf("%s: the same", name)
		}
		if !impl.SameTown(y, deep(y)) {
			t.Errorf("%s: not the same as itself", name)
		}
	}
	for name, bad := range badTowns(t) {
		if !impl.SameTown(bad, deep(bad)) {
			t.Errorf("%s: not the same as itself", name)
		}
	}
	d := &draw{401}
	for range 300 {
		y, z := d.town(), d.town()
		if !impl.SameTown(y, deep(y)) || impl.SameTown(y, z) != sameTown(y, z) {
			t.Fatalf("%v and %v", y, z)
		}
	}
	y, z := crossTown(t), crossTown(t)
	y.Came, z.Came, y.Went, z.Went = nan, otherNaN, minusZero, minusZero
	y.Offered[0], z.Offered[0], y.Roads[1].Back, z.Roads[1].Back = otherNaN, nan, nan, otherNaN
	y.Joints[0].Junction.Prior[2], z.Joints[0].Junction.Prior[2] = nan, otherNaN
	if !impl.SameTown(y, z) {
		t.Error("NaN is not the same as NaN")
	}
	z.Went = 0
	if impl.SameTown(y, z) {
		t.Error("0 and -0 are the same")
	}
	empty := impl.Town{Roads: []impl.Road{}, Offered: []float32{}, Joints: []impl.Joint{}, Plans: []impl.Plan{}}
	if !impl.SameTown(empty, impl.Town{}) {
		t.Error("empty lists are not the same as none")
	}
}

func TestLineTown(t *testing.T) {
	for roads := int64(1); roads <= 5; roads++ {
		for _, pace := range []float32{1.0 / 64, 0.3, 0.5, 1} {
			var want impl.Town
			for i := range roads {
				want.Roads = append(want.Roads, impl.Road{Pace: pace, Back: 0.5, Lanes: 1})
				want.Offered = append(want.Offered, 0)
				if i > 0 {
					one := impl.Junction{Ins: 1, Outs: 1, Turns: impl.Flows{{1}}, Prior: impl.Four{1}}
					want.Joints = append(want.Joints, impl.Joint{Junction: one, Ins: whole(i - 1), Outs: whole(i), Plan: -1})
				}
			}
			got, code := impl.LineTown(roads, pace)
			wantTown(t, "a line", got, code, want, impl.OK)
			if !impl.ValidTown(got) {
				t.Error("a line is not valid")
			}
		}
	}
	for _, bad := range []int64{0, -1, 6, 8, 1 << 32, 1<<32 + 2, math.MinInt64, math.MaxInt64} {
		got, code := impl.LineTown(bad, 0.5)
		wantTown(t, "roads "+digits(bad), got, code, impl.Town{}, impl.ErrRange)
	}
	for _, bad := range append([]float32{0, math.Nextafter32(1.0/64, 0), aboveOne, 2}, badAmounts...) {
		for _, roads := range []int64{1, 2, 9} {
			got, code := impl.LineTown(roads, bad)
			wantTown(t, "no pace", got, code, impl.Town{}, impl.ErrRange)
		}
	}
}

func wantGreen(t *testing.T, name string, got [4]bool, code int64, want [4]bool, wantCode int64) {
	t.Helper()
	if got != want || code != wantCode {
		t.Errorf("%s: got %v, %d, want %v, %d", name, got, code, want, wantCode)
	}
}

func TestJointsAreThoseOfTheModel(t *testing.T) {
	d, some, stops, behind := &draw{402}, 0, 0, 0
	for range 4000 {
		x := d.town()
		for i, j := range x.Joints {
			goers := modelGoers(x, j)
			got, code := impl.GreenIns(x, int64(i))
			wantGreen(t, "green", got, code, goers, impl.OK)
			flows, code := impl.JointFlows(x, int64(i))
			wantFlows(t, "flows", flows, code, modelJointFlows(x, j), impl.OK)
			for in := range j.Junction.Ins {
				if !goers[in] {
					stops++
					if flows[in] != (impl.Four{}) {
						t.Fatalf("%v leaves an in that may not go", flows[in])
					}
				}
			}
			if flows != (impl.Flows{}) {
				some++
			}
			if j.Plan >= 0 && j.Junction.Ins < 4 && modelAt(x.Plans[j.Plan], x.Tick).green[3] {
				behind++
			}
		}
		if t.Failed() {
			t.Fatalf("%v", x)
		}
	}
	if some == 0 || stops == 0 || behind == 0 {
		t.Errorf("flows %d, ins that may not go %d, green behind the ins %d", some, stops, behind)
	}
}

func TestPlainGreenIns(t *testing.T) {
	x := crossTown(t)
	x.Plans[0].Slots[0].Green = phase(0, 2, 3)
	for tick, want := range [][4]bool{{false, true}, {}, {true}, {true}, {true}, {}, {false, true}, {false, true}, {}} {
		// The first plan begins at the tick 6 and has a cycle of 7: 3 ticks, one between, 2 ticks, one between.
		x.Tick, x.Joints[0].Plan = int64(tick)+4, 0
		got, code := impl.GreenIns(x, 0)
		wantGreen(t, "tick "+digits(x.Tick), got, code, want, impl.OK)
	}
	got, code := impl.GreenIns(x, 1)
	wantGreen(t, "no plan", got, code, [4]bool{true}, impl.OK)
	x.Joints[0].Plan = -1
	got, code = impl.GreenIns(x, 0)
	wantGreen(t, "no plan, two ins", got, code, [4]bool{true, true}, impl.OK)
	x.Joints[0].Plan, x.Tick = 1, 1000000000
	got, code = impl.GreenIns(x, 0)
	wantGreen(t, "the last tick", got, code, [4]bool{false, true}, impl.OK)
	x.Joints[0].Junction, x.Joints[0].Ins, x.Joints[0].Plan, x.Tick = mustEven(t, 4, 1), whole(1, 0, 3, 4), 0, 6
	got, code = impl.GreenIns(x, 0)
	wantGreen(t, "four ins", got, code, [4]bool{true, false, true, true}, impl.OK)
}

func TestPlainJointFlows(t *testing.T) {
	x := crossTown(t)
	x.Roads[0].Cars[15], x.Roads[1].Cars[15], x.Roads[2].Cars[0], x.Roads[2].Cars[15] = 0.5, 0.25, 0.5, 0.25
	x.Joints[0].Plan = -1
	got, code := impl.JointFlows(x, 0)
	// The road 1 is the first in: it sends 1/8 on two lanes, the road 0 1/4, and 1/4 is taken.
	wantFlows(t, "both go", got, code, impl.Flows{{0.25}, {0.25}}, impl.OK)
	x.Joints[0].Plan = 1
	got, code = impl.JointFlows(x, 0)
	wantFlows(t, "the second in goes", got, code, impl.Flows{{}, {0.5}}, impl.OK)
	got, code = impl.JointFlows(x, 1)
	wantFlows(t, "no plan", got, code, impl.Flows{{0.125, 0.125}}, impl.OK)
	x.Roads[3].Cars[0], x.Roads[3].Lanes = 0.75, 0.5
	got, code = impl.JointFlows(x, 1)
	wantFlows(t, "an out with half a lane", got, code, impl.Flows{{0.0625, 0.0625}}, impl.OK)
}

func TestJointsRefuse(t *testing.T) {
	bads := []int64{-1, 2, 4, 1 << 32, math.MinInt64, math.MaxInt64}
	for _, bad := range bads {
		got, code := impl.GreenIns(crossTown(t), bad)
		wantGreen(t, "joint "+digits(bad), got, code, [4]bool{}, impl.ErrRange)
		flows, code := impl.JointFlows(crossTown(t), bad)
		wantFlows(t, "joint "+digits(bad), flows, code, impl.Flows{}, impl.ErrRange)
	}
	line, _ := impl.LineTown(1, 0.5)
	if _, code := impl.GreenIns(line, 0); code != impl.ErrRange {
		t.Errorf("no joints: %d", code)
	}
	for name, bad := range badTowns(t) {
		for _, joint := range []int64{0, 1, -1, 9} {
			got, code := impl.GreenIns(bad, joint)
			wantGreen(t, name, got, code, [4]bool{}, impl.ErrInvalid)
			flows, code := impl.JointFlows(bad, joint)
			wantFlows(t, name, flows, code, impl.Flows{}, impl.ErrInvalid)
		}
	}
}

func TestCarsInAndLongestQueueAreThoseOfTheModel(t *testing.T) {
	d, orders, later := &draw{403}, 0, 0
	for range 3000 {
		x := d.town()
		sum, backward := modelCars(x.Roads[0]), float32(0)
		for _, r := range x.Roads[1:] {
			sum = add(sum, modelCars(r))
		}
		for i := range x.Roads {
			backward = add(backward, modelCars(x.Roads[len(x.Roads)-1-i]))
		}
		if sum != backward {
			orders++
		}
		got, code := impl.CarsIn(x)
		wantNumber(t, "cars", got, code, sum, impl.OK)
		first, longest := int64(0), int64(-1)
		for i, r := range x.Roads {
			if queue, _ := impl.QueueOf(r); queue > longest {
				first, longest = int64(i), queue
			}
		}
		if first > 0 {
			later++
		}
		at, queue, code := impl.LongestQueue(x)
		wantWhole(t, "queue", whole(at, queue, code), whole(first, longest, impl.OK))
	}
	if orders == 0 || later == 0 {
		t.Errorf("sums that tell their order %d, queues behind the first road %d", orders, later)
	}
}

func TestPlainQueuesAndCars(t *testing.T) {
	x := crossTown(t)
	at, queue, code := impl.LongestQueue(x)
	wantWhole(t, "none", whole(at, queue, code), whole(0, 0, 0))
	x.Roads[3].Cars[15], x.Roads[1].Cars[15], x.Roads[1].Cars[14] = 1, 1, 0.75
	x.Roads[4].Cars[15], x.Roads[4].Cars[14] = 1, 1
	at, queue, code = impl.LongestQueue(x)
	wantWhole(t, "the first one of two", whole(at, queue, code), whole(1, 2, 0))
	cars, code := impl.CarsIn(x)
	wantNumber(t, "cars", cars, code, 9.5, impl.OK)
	for name, bad := range badTowns(t) {
		cars, code := impl.CarsIn(bad)
		wantNumber(t, name, cars, code, 0, impl.ErrInvalid)
		at, queue, code := impl.LongestQueue(bad)
		wantWhole(t, name, whole(at, queue, code), whole(0, 0, impl.ErrInvalid))
	}
}
