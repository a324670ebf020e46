package tests

import (
	"testing"

	"loop.example/g01227/impl"
)

type rules struct{ best, most float32 }

func rulesOf(r impl.Road) rules {
	best := div(r.Back, add(r.Pace, r.Back))
	return rules{best, mul(r.Pace, best)}
}

func (m rules) sends(r impl.Road, cell int64) float32 {
	return lesser(mul(r.Pace, r.Cars[cell]), m.most)
}

func (m rules) takes(r impl.Road, cell int64) float32 {
	return lesser(mul(r.Back, sub(1, r.Cars[cell])), m.most)
}

func (m rules) speed(r impl.Road, cell int64) float32 {
	leaves := m.sends(r, cell)
	if cell < 15 {
		leaves = lesser(leaves, m.takes(r, cell+1))
	}
	if r.Cars[cell] == 0 {
		return r.Pace
	}
	return lesser(div(leaves, r.Cars[cell]), r.Pace)
}

func TestFlowsAreThoseOfTheModel(t *testing.T) {
	d := &draw{9}
	for range 3000 {
		r := d.road()
		m := rulesOf(r)
		got, code := impl.BestShare(r)
		wantNumber(t, "BestShare", got, code, m.best, impl.OK)
		got, code = impl.MostFlow(r)
		wantNumber(t, "MostFlow", got, code, m.most, impl.OK)
		for cell := range int64(16) {
			got, code = impl.SendsAt(r, cell)
			wantNumber(t, "SendsAt", got, code, m.sends(r, cell), impl.OK)
			got, code = impl.TakesAt(r, cell)
			wantNumber(t, "TakesAt", got, code, m.takes(r, cell), impl.OK)
			got, code = impl.SpeedAt(r, cell)
			wantNumber(t, "SpeedAt", got, code, m.speed(r, cell), impl.OK)
			if cell < 15 {
				got, code = impl.FlowBetween(r, cell)
				wantNumber(t, "FlowBetween", got, code, lesser(m.sends(r, cell), m.takes(r, cell+1)), impl.OK)
			}
		}
	}
}

// TestModelTellsNarrowFromWide keeps the test above from passing because its roads happen to
// give the same numbers when they are rounded only at the end.
func TestModelTellsNarrowFromWide(t *testing.T) {
	d := &draw{10}
	best, most, takes, speed := 0, 0, 0, 0
	for range 3000 {
		r := d.road()
		m := rulesOf(r)
		pace, back := float64(r.Pace), float64(r.Back)
		if m.best != float32(back/(pace+back)) {
			best++
		}
		if m.most != float32(pace*back/(pace+back)) {
			most++
		}
		if w := float32(back * (1 - float64(r.Cars[4]))); w < m.most && w != m.takes(r, 4) {
			takes++
		}
		if w := pace * back / (pace + back) / float64(r.Cars[15]); w < pace && m.sends(r, 15) == m.most && float32(w) != m.speed(r, 15) {
			speed++
		}
	}
	if best == 0 || most == 0 || takes == 0 || speed == 0 {
		t.Errorf("roads that tell narrow from wide: %d %d %d %d", best, most, takes, speed)
	}
}

func TestNoCellSendsOrTakesMoreThanTheMost(t *testing.T) {
	d := &draw{11}
	for range 3000 {
		r := d.road()
		most, _ := impl.MostFlow(r)
		for cell := range int64(16) {
			sends, _ := impl.SendsAt(r, cell)
			takes, _ := impl.TakesAt(r, cell)
			flow, _ := impl.FlowBetween(r, cell)
			if !(sends >= 0 && sends <= most && takes >= 0 && takes <= most && flow <= sends) {
				t.Fatalf("cell %d of %v sends %v and takes %v of %v", cell, r, sends, takes, most)
			}
		}
	}
}

func TestFreeRoadsSendPaceTimesTheirShares(t *testing.T) {
	d := &draw{12}
	for range 2000 {
		r := d.road()
		best, _ := impl.BestShare(r)
		for i := range r.Cars {
			r.Cars[i] = lesser(r.Cars[i], best)
		}
		if free, code := impl.IsFree(r); !free || code != impl.OK {
			t.Fatalf("%v is not free: %d", r, code)
		}
		for cell := range int64(16) {
			got, code := impl.SendsAt(r, cell)
			wantNumber(t, "sends", got, code, mul(r.Pace, r.Cars[cell]), impl.OK)
		}
	}
}

func TestFlowsOfPlainRoads(t *testing.T) {
	r := mustMake(t, 0.5, 0.25, 1)
	third := fromBits(0x3eaaaaab)
	got, code := impl.BestShare(r)
	wantNumber(t, "best", got, code, third, impl.OK)
	got, code = impl.MostFlow(r)
	wantNumber(t, "most", got, code, third/2, impl.OK)
	r.Cars[1], r.Cars[2], r.Cars[15] = 0.25, 0.5, 1
	for _, c := range []struct {
		name string
		f    func(impl.Road, int64) (float32, int64)
		cell int64
		want float32
	}{
		{"sends nothing", impl.SendsAt, 0, 0}, {"sends", impl.SendsAt, 1, 0.125}, {"sends the most", impl.SendsAt, 2, third / 2},
		{"sends, full", impl.SendsAt, 15, third / 2}, {"takes the most", impl.TakesAt, 0, third / 2}, {"takes", impl.TakesAt, 2, 0.125},
		{"takes nothing", impl.TakesAt, 15, 0}, {"flow", impl.FlowBetween, 1, 0.125}, {"flow of none", impl.FlowBetween, 0, 0},
		{"flow to a full cell", impl.FlowBetween, 14, 0}, {"speed", impl.SpeedAt, 1, 0.5}, {"speed, empty", impl.SpeedAt, 0, 0.5},
		{"speed, empty ahead of a full cell", impl.SpeedAt, 14, 0.5}, {"speed, last", impl.SpeedAt, 15, third / 2}, {"speed, slow", impl.SpeedAt, 2, third},
	} {
		got, code := c.f(r, c.cell)
		wantNumber(t, c.name, got, code, c.want, impl.OK)
	}
	r.Cars[14] = 0.5
	got, code = impl.SpeedAt(r, 14)
	wantNumber(t, "speed ahead of a full cell", got, code, 0, impl.OK)
}

func TestSpeedIsAtMostPace(t *testing.T) {
	d, held := &draw{13}, 0
	for range 3000 {
		r := d.road()
		r.Cars = impl.Cars{7: fromBits(d.bits() % 64)}
		got, code := impl.SpeedAt(r, 7)
		if code != impl.OK || !(got >= 0 && got <= r.Pace) {
			t.Fatalf("speed %v, %d at the pace %v", got, code, r.Pace)
		}
		if r.Cars[7] != 0 && div(mul(r.Pace, r.Cars[7]), r.Cars[7]) > r.Pace {
			held++
			wantNumber(t, "held", got, code, r.Pace, impl.OK)
		}
	}
	if held == 0 {
		t.Error("no quotient is greater than Pace")
	}
}

func TestCellsThatAreNotThere(t *testing.T) {
	r := (&draw{14}).road()
	for _, cell := range badCells {
		for name, f := range map[string]func(impl.Road, int64) (float32, int64){"sends": impl.SendsAt, "takes": impl.TakesAt, "between": impl.FlowBetween, "speed": impl.SpeedAt} {
			got, code := f(r, cell)
			wantNumber(t, name, got, code, 0, impl.ErrRange)
		}
	}
	got, code := impl.FlowBetween(r, 15)
	wantNumber(t, "behind the last cell", got, code, 0, impl.ErrRange)
	if _, code := impl.FlowBetween(r, 14); code != impl.OK {
		t.Errorf("into the last cell: %d", code)
	}
}

func TestExampleOfRoads(t *testing.T) {
	r := mustMake(t, 0.5, 0.5, 1)
	got, code := impl.BestShare(r)
	wantNumber(t, "best", got, code, 0.5, impl.OK)
	got, code = impl.MostFlow(r)
	wantNumber(t, "most", got, code, 0.25, impl.OK)
	q, _ := impl.FillRoad(r, 0.25)
	got, code = impl.SendsAt(q, 0)
	wantNumber(t, "sends", got, code, 0.125, impl.OK)
	got, code = impl.TakesAt(q, 0)
	wantNumber(t, "takes", got, code, 0.25, impl.OK)
	f, _ := impl.FillRoad(r, 0.75)
	got, code = impl.CarsOn(f)
	wantNumber(t, "cars", got, code, 12, impl.OK)
	if queue, _ := impl.QueueOf(f); queue != 16 {
		t.Errorf("queue %d", queue)
	}
	got, code = impl.SpeedAt(f, 0)
	wantNumber(t, "speed", got, code, fromBits(0x3e2aaaab), impl.OK)
}
