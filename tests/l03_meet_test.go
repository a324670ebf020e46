package tests

import (
	"testing"

	"loop.example/g01227/impl"
)

func (d *draw) roads(count int64) []impl.Road {
	var out []impl.Road
	for range count {
		r := d.road()
		if d.below(3) == 0 {
			r.Pace, r.Back = 1, 1
		}
		out = append(out, r)
	}
	return out
}

// meeting is what the model lets roads come to.
type meeting struct {
	ins, outs []impl.Road
	flows     impl.Flows
	// Whether a share would be less than 0, or greater than 1.
	below, above bool
}

func modelMeet(j impl.Junction, ins, outs []impl.Road) meeting {
	var sends, takes impl.Four
	for i, r := range ins {
		sends[i] = mul(rulesOf(r).sends(r, 15), r.Lanes)
	}
	for k, r := range outs {
		takes[k] = mul(rulesOf(r).takes(r, 0), r.Lanes)
	}
	m := meeting{flows: modelFill(j, sends, takes).flows()}
	for i, r := range ins {
		share := sub(r.Cars[15], div(modelRow(m.flows, int64(i)), r.Lanes))
		m.below = m.below || share < 0
		r.Cars[15] = held(share)
		m.ins = append(m.ins, r)
	}
	for k, r := range outs {
		share := add(r.Cars[0], div(modelColumn(m.flows, int64(k)), r.Lanes))
		m.above = m.above || share > 1
		r.Cars[0] = held(share)
		m.outs = append(m.outs, r)
	}
	return m
}

func sameRoads(list, other []impl.Road) bool {
	if len(list) != len(other) {
		return false
	}
	for i := range list {
		if !sameRoad(list[i], other[i]) {
			return false
		}
	}
	return true
}

func wantMeeting(t *testing.T, name string, ins, outs []impl.Road, flows impl.Flows, code int64, want meeting, wantCode int64) {
	t.Helper()
	if !sameRoads(ins, want.ins) || !sameRoads(outs, want.outs) || !sameFlows(flows, want.flows) || code != wantCode {
		t.Errorf("%s: got %v, %v, %v, %d, want %v, %d", name, ins, outs, flows, code, want, wantCode)
	}
}

func TestMeetRoadsIsThatOfTheModel(t *testing.T) {
	d, below, lanes := &draw{100}, 0, 0
	for range 20000 {
		j := d.junction()
		ins, outs := d.roads(j.Ins), d.roads(j.Outs)
		want := modelMeet(j, ins, outs)
		if want.below {
			below++
		}
		gotIns, gotOuts, flows, code := impl.MeetRoads(j, ins, outs)
		wantMeeting(t, "meet", gotIns, gotOuts, flows, code, want, impl.OK)
		for i, r := range ins {
			change := float64(r.Cars[15]) - float64(modelRow(flows, int64(i)))/float64(r.Lanes)
			if float32(change) != gotIns[i].Cars[15] && change > 0 {
				lanes++
			}
		}
		if t.Failed() {
			t.Fatalf("%v", j)
		}
	}
	if below == 0 || lanes == 0 {
		t.Errorf("shares that are held at 0, and that tell how they are rounded: %d %d", below, lanes)
	}
}

// TestSharesOfRoadsThatMeetAreHeld looks for roads whose shares would be more than 1 by roundings.
func TestSharesOfRoadsThatMeetAreHeld(t *testing.T) {
	d, above := &draw{101}, 0
	for range 60000 {
		j := d.junction()
		ins, outs := d.roads(j.Ins), d.roads(j.Outs)
		for i := range outs {
			outs[i].Pace, outs[i].Back, outs[i].Cars[0] = 1, 1, 0.5+d.share()/2
		}
		for i := range ins {
			ins[i].Cars[15], ins[i].Lanes = 1, 8
		}
		want := modelMeet(j, ins, outs)
		gotIns, gotOuts, flows, code := impl.MeetRoads(j, ins, outs)
		wantMeeting(t, "held", gotIns, gotOuts, flows, code, want, impl.OK)
		if want.above {
			above++
		}
	}
	if above == 0 {
		t.Error("no share is held at 1")
	}
}

func TestAllCarsOfACellMayGo(t *testing.T) {
	r := mustMake(t, 1, 1, 1)
	r.Cars[15] = 0.25
	ins, outs, flows, code := impl.MeetRoads(mustEven(t, 1, 1), []impl.Road{r}, []impl.Road{r})
	want := meeting{ins: []impl.Road{r}, outs: []impl.Road{r}, flows: impl.Flows{{0.25}}}
	want.ins[0].Cars[15], want.outs[0].Cars[0] = 0, 0.25
	wantMeeting(t, "all goes", ins, outs, flows, code, want, impl.OK)
}

func TestRoadsThatMeetKeepTheirCars(t *testing.T) {
	d := &draw{102}
	for range 5000 {
		j := d.junction()
		for i := range j.Ins {
			j.Turns[i] = d.turns(int(j.Outs))
		}
		ins, outs := d.roads(j.Ins), d.roads(j.Outs)
		gotIns, gotOuts, flows, code := impl.MeetRoads(j, ins, outs)
		before, after := carsOfAll(ins)+carsOfAll(outs), carsOfAll(gotIns)+carsOfAll(gotOuts)
		if code != impl.OK || !nearly(before, after, 1e-4) {
			t.Fatalf("%v cars before, %v after, %d", before, after, code)
		}
		went, came := carsOfAll(ins)-carsOfAll(gotIns), carsOfAll(gotOuts)-carsOfAll(outs)
		sum := 0.0
		for _, row := range flows {
			for _, a := range row {
				sum += float64(a)
			}
		}
		if !nearly(went, sum, 1e-4) || !nearly(came, sum, 1e-4) {
			t.Fatalf("%v flows, %v went, %v came", sum, went, came)
		}
		for _, r := range append(gotIns, gotOuts...) {
			if !impl.ValidRoad(r) {
				t.Fatalf("%v is not valid", r)
			}
		}
	}
}

func carsOfAll(roads []impl.Road) float64 {
	sum := 0.0
	for _, r := range roads {
		sum += cellsSum(r) * float64(r.Lanes)
	}
	return sum
}

func TestPlainRoadsMeet(t *testing.T) {
	r := mustMake(t, 0.5, 0.5, 1)
	full, _ := impl.FillRoad(r, 1)
	wide := mustMake(t, 0.5, 0.5, 4)
	j := mustEven(t, 2, 1)
	want := meeting{ins: []impl.Road{full, r}, outs: []impl.Road{wide}, flows: impl.Flows{{0.25}}}
	want.ins[0].Cars[15], want.outs[0].Cars[0] = 0.75, 0.0625
	ins, outs, flows, code := impl.MeetRoads(j, []impl.Road{full, r}, []impl.Road{wide})
	wantMeeting(t, "to more lanes", ins, outs, flows, code, want, impl.OK)
	wide.Cars[15] = 1
	want = meeting{ins: []impl.Road{wide, full}, outs: []impl.Road{r}, flows: impl.Flows{{0.125}, {0.125}}}
	want.ins[0].Cars[15], want.ins[1].Cars[15], want.outs[0].Cars[0] = 0.96875, 0.875, 0.25
	ins, outs, flows, code = impl.MeetRoads(j, []impl.Road{wide, full}, []impl.Road{r})
	wantMeeting(t, "to fewer lanes", ins, outs, flows, code, want, impl.OK)
	want = meeting{ins: []impl.Road{wide, full}, outs: []impl.Road{full}}
	ins, outs, flows, code = impl.MeetRoads(j, []impl.Road{wide, full}, []impl.Road{full})
	wantMeeting(t, "to a full road", ins, outs, flows, code, want, impl.OK)
	want = meeting{ins: []impl.Road{r, r}, outs: []impl.Road{r}}
	ins, outs, flows, code = impl.MeetRoads(j, []impl.Road{r, r}, []impl.Road{r})
	wantMeeting(t, "empty roads", ins, outs, flows, code, want, impl.OK)
}

func TestMeetRoadsRefuses(t *testing.T) {
	d := &draw{103}
	none := meeting{}
	refused := func(name string, j impl.Junction, ins, outs []impl.Road, want int64) {
		t.Helper()
		gotIns, gotOuts, flows, code := impl.MeetRoads(j, ins, outs)
		wantMeeting(t, name, gotIns, gotOuts, flows, code, none, want)
	}
	j := mustEven(t, 2, 3)
	for _, sizes := range [][2]int64{{0, 0}, {1, 3}, {3, 3}, {2, 2}, {2, 4}, {3, 2}, {2, 0}, {0, 3}, {5, 3}, {2, 5}, {2, 400}, {400, 3}} {
		refused("count", j, d.roads(sizes[0]), d.roads(sizes[1]), impl.ErrRange)
	}
	refused("nil", j, nil, nil, impl.ErrRange)
	for name, bad := range badRoads() {
		for at := range 3 {
			for _, sizes := range [][2]int64{{2, 3}, {3, 3}, {3, 4}} {
				ins, outs := d.roads(sizes[0]), d.roads(sizes[1])
				ins[min(at, len(ins)-1)] = bad
				refused(name, j, ins, d.roads(sizes[1]), impl.ErrInvalid)
				outs[at] = bad
				refused(name, j, d.roads(sizes[0]), outs, impl.ErrInvalid)
				refused(name, j, ins, outs, impl.ErrInvalid)
			}
		}
	}
	for name, bad := range badJunctions() {
		refused(name, bad, d.roads(2), d.roads(3), impl.ErrInvalid)
		refused(name, bad, nil, nil, impl.ErrInvalid)
		refused(name, bad, make([]impl.Road, 2), make([]impl.Road, 3), impl.ErrInvalid)
	}
}

func TestRoadsThatMeetAreNewLists(t *testing.T) {
	d := &draw{104}
	for range 200 {
		j := d.junction()
		all := d.roads(12)
		before := append([]impl.Road{}, all...)
		// Both lists are parts of one, with unused capacity that has other roads.
		ins, outs := all[:j.Ins], all[6:6+j.Outs]
		gotIns, gotOuts, _, code := impl.MeetRoads(j, ins, outs)
		if code != impl.OK || !sameRoads(all, before) {
			t.Fatalf("%d, or a road is changed", code)
		}
		for i := range gotIns {
			gotIns[i] = impl.Road{}
		}
		again, _, _, _ := impl.MeetRoads(j, ins, outs)
		if !sameRoads(all, before) || sameRoads(again, gotIns) {
			t.Fatal("what is returned is shared")
		}
		outsAgain := append([]impl.Road{}, gotOuts...)
		gotIns = append(gotIns, impl.Road{})
		if !sameRoads(gotOuts, outsAgain) {
			t.Fatal("both lists are shared")
		}
	}
}
