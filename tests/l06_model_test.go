package tests

import (
	"math"
	"testing"

	"loop.example/g01227/impl"
)

// modelGoers looks up in the written-out plan of a joint who has green.
func modelGoers(t impl.Town, j impl.Joint) [4]bool {
	var goers [4]bool
	for in := range j.Junction.Ins {
		goers[in] = j.Plan < 0 || modelAt(t.Plans[j.Plan], t.Tick).green[in]
	}
	return goers
}

func modelJointFlows(t impl.Town, j impl.Joint) impl.Flows {
	var sends, takes impl.Four
	goers := modelGoers(t, j)
	for in, road := range j.Ins {
		if r := t.Roads[road]; goers[in] {
			sends[in] = mul(rulesOf(r).sends(r, 15), r.Lanes)
		}
	}
	for out, road := range j.Outs {
		r := t.Roads[road]
		takes[out] = mul(rulesOf(r).takes(r, 0), r.Lanes)
	}
	return modelFill(j.Junction, sends, takes).flows()
}

// modelPlace is where a road is an arm, if it is one.
type modelPlace struct {
	joint, arm int
	found      bool
}

func modelPlaceOf(t impl.Town, road int, side func(impl.Joint) []int64) modelPlace {
	for joint, j := range t.Joints {
		for arm, other := range side(j) {
			if int(other) == road {
				return modelPlace{joint, arm, true}
			}
		}
	}
	return modelPlace{}
}

func jointIns(j impl.Joint) []int64  { return j.Ins }
func jointOuts(j impl.Joint) []int64 { return j.Outs }

// modelTick asks for each road, by itself, what is ahead of it and behind it in the town as it was.
func modelTick(t impl.Town) impl.Town {
	after := deep(t)
	for i, r := range t.Roads {
		in, out := modelPlaceOf(t, i, jointIns), modelPlaceOf(t, i, jointOuts)
		offered, room := t.Offered[i], float32(1)
		if out.found {
			flows := modelJointFlows(t, t.Joints[out.joint])
			offered = div(modelColumn(flows, int64(out.arm)), r.Lanes)
		}
		if in.found {
			flows := modelJointFlows(t, t.Joints[in.joint])
			room = div(modelRow(flows, int64(in.arm)), r.Lanes)
		}
		w := modelStep(r, offered, room)
		after.Roads[i] = w.road
		if !out.found {
			after.Came = add(after.Came, mul(w.flows[0], r.Lanes))
		}
		if !in.found {
			after.Went = add(after.Went, mul(w.flows[16], r.Lanes))
		}
	}
	after.Tick++
	return after
}

// deep returns a town that shares nothing with t.
func deep(t impl.Town) impl.Town {
	t.Roads = append([]impl.Road{}, t.Roads...)
	t.Offered = append([]float32{}, t.Offered...)
	t.Joints = append([]impl.Joint{}, t.Joints...)
	for i, j := range t.Joints {
		t.Joints[i].Ins, t.Joints[i].Outs = append([]int64{}, j.Ins...), append([]int64{}, j.Outs...)
	}
	t.Plans = append([]impl.Plan{}, t.Plans...)
	for i, p := range t.Plans {
		t.Plans[i] = clone(p)
	}
	return t
}

// townNotes writes down all that a town has. It stands for SameTown, so that a fault in this does not hide others.
func townNotes(t impl.Town) string {
	n := &noter{}
	n.town(t)
	return n.text()
}

func sameTown(t, u impl.Town) bool { return townNotes(t) == townNotes(u) }

func wantTown(t *testing.T, name string, got impl.Town, code int64, want impl.Town, wantCode int64) {
	t.Helper()
	if !sameTown(got, want) || code != wantCode {
		t.Errorf("%s: got %v, %d, want %v, %d", name, got, code, want, wantCode)
	}
}

// deal takes so many of the roads that are left.
func (d *draw) deal(left *[]int64, count int) []int64 {
	var dealt []int64
	for range count {
		i := d.below(len(*left))
		dealt = append(dealt, (*left)[i])
		*left = append(append([]int64{}, (*left)[:i]...), (*left)[i+1:]...)
	}
	return dealt
}

// townOf draws a town with roads and junctions that others draw.
func (d *draw) townOf(road func() impl.Road, junction func(ins, outs int) impl.Junction) impl.Town {
	var t impl.Town
	var ins, outs []int64
	for i := range 1 + d.below(8) {
		t.Roads = append(t.Roads, road())
		t.Offered = append(t.Offered, d.amount())
		ins, outs = append(ins, int64(i)), append(outs, int64(i))
	}
	for range d.below(7) {
		t.Plans = append(t.Plans, d.plan())
	}
	most := 1 + d.below(4)
	for range d.below(5) {
		if len(ins) == 0 || len(outs) == 0 {
			break
		}
		j := impl.Joint{Ins: d.deal(&ins, 1+d.below(min(most, len(ins)))), Outs: d.deal(&outs, 1+d.below(min(most, len(outs))))}
		j.Junction = junction(len(j.Ins), len(j.Outs))
		j.Plan = int64(d.below(len(t.Plans)+1)) - 1
		for _, road := range j.Outs {
			t.Offered[road] = 0
		}
		t.Joints = append(t.Joints, j)
	}
	t.Tick = d.oneOf(0, 1, 7, 120, int64(d.below(1000000)), 999999870)
	t.Came, t.Went = d.share()*1000, d.share()*1000
	if d.below(10) == 0 {
		t.Came = math.MaxFloat32
	}
	return t
}

func (d *draw) town() impl.Town {
	if d.below(3) == 0 {
		return d.townOf(d.road, d.junctionOf)
	}
	return d.townOf(d.paced, d.junctionOf)
}

// plainTown has turns whose sums are just 1.
func (d *draw) plainTown() impl.Town {
	return d.townOf(d.paced, func(ins, outs int) impl.Junction {
		j, _ := impl.EvenJunction(int64(ins), int64(outs))
		for in := range ins {
			rest := float32(1)
			for out := range outs - 1 {
				j.Turns[in][out] = rest * float32(d.below(5)) / 4
				rest -= j.Turns[in][out]
			}
			j.Turns[in][outs-1] = rest
			j.Prior[in] = d.prior()
		}
		return j
	})
}

// crossTown has two joints, one with two ins and one with two outs, and two plans.
func crossTown(t *testing.T) impl.Town {
	t.Helper()
	r := mustMake(t, 0.5, 0.5, 2)
	town := impl.Town{Roads: []impl.Road{r, r, r, r, r}, Offered: []float32{0.125, 0.25, 0, 0, 0}, Tick: 5, Came: 8, Went: 2}
	town.Joints = []impl.Joint{
		{Junction: mustEven(t, 2, 1), Ins: []int64{1, 0}, Outs: []int64{2}, Plan: 1},
		{Junction: mustEven(t, 1, 2), Ins: []int64{2}, Outs: []int64{3, 4}, Plan: -1},
	}
	one := impl.Plan{Slots: []impl.Slot{{Green: phase(0), Ticks: 3}, {Green: phase(1, 7), Ticks: 2}}, Between: 1, Offset: 6}
	two := impl.Plan{Slots: []impl.Slot{{Green: phase(1), Ticks: 5}}}
	town.Plans = []impl.Plan{one, two}
	return town
}

// badTowns returns towns each of which is just not valid in one thing.
func badTowns(t *testing.T) map[string]impl.Town {
	out := map[string]impl.Town{"zero": {}}
	put := func(name string, change func(*impl.Town)) {
		town := crossTown(t)
		change(&town)
		out[name] = town
	}
	putBadRoads(put)
	putBadJoints(t, put)
	for name, bad := range badPlans() {
		put("the first plan, "+name, func(x *impl.Town) { x.Plans[0] = bad })
		put("the last plan, "+name, func(x *impl.Town) { x.Plans[1] = bad })
	}
	put("many plans", func(x *impl.Town) { x.Plans = append(append(x.Plans, x.Plans...), append(x.Plans, x.Plans[0])...) })
	for _, bad := range badTicks {
		put("tick "+digits(bad), func(x *impl.Town) { x.Tick = bad })
	}
	for i, bad := range badAmounts {
		put("came "+digits(int64(i)), func(x *impl.Town) { x.Came = bad })
		put("went "+digits(int64(i)), func(x *impl.Town) { x.Went = bad })
	}
	return out
}

func putBadRoads(put func(name string, change func(*impl.Town))) {
	for name, bad := range badRoads() {
		put("the first road, "+name, func(x *impl.Town) { x.Roads[0] = bad })
		put("the last road, "+name, func(x *impl.Town) { x.Roads[4] = bad })
	}
	put("no roads", func(x *impl.Town) { x.Roads, x.Offered, x.Joints = nil, nil, nil })
	put("many roads", func(x *impl.Town) {
		x.Roads, x.Offered = append(x.Roads, x.Roads[:4]...), append(x.Offered, 0, 0, 0, 0)
	})
	for i, bad := range badAmounts {
		put("the first offered "+digits(int64(i)), func(x *impl.Town) { x.Offered[0] = bad })
		put("the last offered "+digits(int64(i)), func(x *impl.Town) { x.Offered[4] = bad })
	}
	put("fewer offered", func(x *impl.Town) { x.Offered = x.Offered[:4] })
	put("nothing offered", func(x *impl.Town) { x.Offered = nil })
	put("more offered", func(x *impl.Town) { x.Offered = append(x.Offered, 0) })
	put("offered to an out", func(x *impl.Town) { x.Offered[2] = smallest })
	put("offered to the last out", func(x *impl.Town) { x.Offered[4] = 1 })
}

// crowd makes a town with eight roads, and with a junction at which there are so many roads as it tells, if there can be.
func crowd(t *testing.T, x *impl.Town, j impl.Junction, first bool) {
	x.Roads, x.Offered = append(x.Roads, x.Roads[:3]...), make([]float32, 8)
	joint := impl.Joint{Junction: j, Plan: -1}
	for road := range int64(5) {
		if road < j.Ins {
			joint.Ins = append(joint.Ins, road)
		}
		if road < j.Outs {
			joint.Outs = append(joint.Outs, road)
		}
	}
	ring := impl.Joint{Junction: mustEven(t, 1, 1), Ins: whole(7), Outs: whole(7)}
	x.Joints = []impl.Joint{ring, joint}
	if first {
		x.Joints = []impl.Joint{joint, ring}
	}
}

func putBadJoints(t *testing.T, put func(name string, change func(*impl.Town))) {
	for name, bad := range badJunctions() {
		put("the first junction, "+name, func(x *impl.Town) { crowd(t, x, bad, true) })
		put("the last junction, "+name, func(x *impl.Town) { crowd(t, x, bad, false) })
	}
	put("many joints", func(x *impl.Town) {
		x.Roads, x.Offered, x.Joints = append(x.Roads, x.Roads[0]), append(x.Offered, 0), nil
		for i := range int64(5) {
			x.Joints = append(x.Joints, impl.Joint{Junction: mustEven(t, 1, 1), Ins: whole(i), Outs: whole(i), Plan: -1})
		}
		x.Offered[0], x.Offered[1] = 0, 0
	})
	put("fewer ins", func(x *impl.Town) { x.Joints[0].Ins = whole(1) })
	put("more ins", func(x *impl.Town) { x.Joints[0].Ins = whole(1, 0, 3) })
	put("no ins", func(x *impl.Town) { x.Joints[0].Ins = nil })
	put("fewer outs", func(x *impl.Town) { x.Joints[1].Outs = whole(3) })
	put("more outs", func(x *impl.Town) { x.Joints[1].Outs = whole(3, 4, 0) })
	put("no outs", func(x *impl.Town) { x.Joints[1].Outs = nil })
	for _, bad := range []int64{-1, 5, 8, 1 << 32, math.MinInt64, math.MaxInt64} {
		put("an in "+digits(bad), func(x *impl.Town) { x.Joints[0].Ins[1] = bad })
		put("an out "+digits(bad), func(x *impl.Town) { x.Joints[1].Outs[0] = bad })
	}
	for _, bad := range []int64{-2, 2, 6, 1 << 32, math.MinInt64, math.MaxInt64} {
		put("the first plan "+digits(bad), func(x *impl.Town) { x.Joints[0].Plan = bad })
		put("the last plan "+digits(bad), func(x *impl.Town) { x.Joints[1].Plan = bad })
	}
	put("a plan where there are none", func(x *impl.Town) { x.Plans = nil })
	put("an in twice at a joint", func(x *impl.Town) { x.Joints[0].Ins = whole(1, 1) })
	put("an in twice in the town", func(x *impl.Town) { x.Joints[1].Ins = whole(0) })
	put("an out twice at a joint", func(x *impl.Town) { x.Joints[1].Outs = whole(3, 3) })
	put("an out twice in the town", func(x *impl.Town) { x.Joints[1].Outs = whole(3, 2) })
}
