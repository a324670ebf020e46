package tests

import (
	"slices"
	"testing"

	"loop.example/g01227/impl"
)

func wantRamp(t *testing.T, name string, r impl.Road, in, out, joins float32, code int64, want wave, wantCode int64) {
	t.Helper()
	wantStep(t, name, r, in, out, code, want.road, want.flows[0], want.flows[16], wantCode)
	if !same(joins, want.joins) {
		t.Errorf("%s: %v joins, want %v", name, joins, want.joins)
	}
}

func TestRampStepIsThatOfTheModel(t *testing.T) {
	d, order := &draw{50}, 0
	for range 6000 {
		r, cell := d.road(), int64(d.below(16))
		offered, room, joining := d.amount(), d.amount(), d.amount()
		want := modelRamp(r, cell, offered, room, joining)
		got, in, out, joins, code := impl.RampStep(r, cell, offered, room, joining)
		wantRamp(t, "ramp", got, in, out, joins, code, want, impl.OK)
		share, into, leaves := r.Cars[cell], want.flows[cell], want.flows[cell+1]
		if held(sub(add(add(share, into), want.joins), leaves)) != want.road.Cars[cell] {
			order++
		}
	}
	if order == 0 {
		t.Error("no ramp tells that what joins is added to the flow first")
	}
}

func TestWhatJoinsFits(t *testing.T) {
	d := &draw{51}
	for range 3000 {
		r, cell := d.road(), int64(d.below(16))
		offered, room, joining := d.amount(), d.amount(), d.amount()
		after, in, out, joins, _ := impl.RampStep(r, cell, offered, room, joining)
		takes, _ := impl.TakesAt(r, cell)
		flows, _ := impl.FluxesOf(r, offered, room)
		if joins < 0 || joins > joining || !(float64(flows[cell])+float64(joins) <= float64(takes)+1e-7) {
			t.Fatalf("%v joins of %v, where %v is taken, and %v flows in", joins, joining, takes, flows[cell])
		}
		if change := cellsSum(after) - cellsSum(r); !nearly(change, float64(in)+float64(joins)-float64(out), 1e-5) {
			t.Fatalf("%v in, %v joins, %v out, but the change is %v", in, joins, out, change)
		}
		if !impl.ValidRoad(after) {
			t.Fatalf("not valid: %v", after)
		}
		plain, plainIn, plainOut, _ := impl.StepRoad(r, offered, room)
		for i := range after.Cars {
			if int64(i) != cell && !same(after.Cars[i], plain.Cars[i]) {
				t.Fatalf("what joins at %d changes the cell %d", cell, i)
			}
		}
		if !same(in, plainIn) || !same(out, plainOut) {
			t.Fatalf("what joins changes what flows in or out: %v %v, %v %v", in, plainIn, out, plainOut)
		}
		none, _, _, joins, code := impl.RampStep(r, cell, offered, room, 0)
		wantRoad(t, "nothing joins", none, code, plain, impl.OK)
		wantNumber(t, "nothing joins", joins, code, 0, impl.OK)
	}
}

func TestPlainRamps(t *testing.T) {
	r := mustMake(t, 0.5, 0.5, 1)
	full, _ := impl.FillRoad(r, 1)
	queue, _ := impl.FillRoad(r, 0.75)
	for _, c := range []struct {
		name           string
		r              impl.Road
		cell           int64
		offered, joins float32
		want, in, got  float32
	}{
		{"empty", r, 5, 0, 0.125, 0.125, 0, 0.125}, {"much", r, 5, 0, 1000, 0.25, 0, 0.25}, {"none", r, 5, 0, 0, 0, 0, 0},
		{"first", r, 0, 0.125, 1, 0.25, 0.125, 0.125}, {"first, no place", r, 0, 1, 1, 0.25, 0.25, 0}, {"last", r, 15, 0.125, 0.125, 0.125, 0.125, 0.125},
		{"full", full, 5, 1, 1, 1, 0, 0}, {"no room", full, 15, 1, 1, 1, 0, 0}, {"queue", queue, 5, 0, 1, 0.75, 0, 0}, {"first of a queue", queue, 0, 0, 0.0625, 0.6875, 0, 0.0625},
	} {
		after, in, _, got, code := impl.RampStep(c.r, c.cell, c.offered, 0, c.joins)
		wantNumber(t, c.name+" share", after.Cars[c.cell], code, c.want, impl.OK)
		wantNumber(t, c.name+" in", in, code, c.in, impl.OK)
		wantNumber(t, c.name+" joins", got, code, c.got, impl.OK)
	}
}

func TestRampStepRefuses(t *testing.T) {
	r := (&draw{52}).road()
	for _, cell := range badCells {
		got, in, out, joins, code := impl.RampStep(r, cell, 0, 0, 0)
		wantRamp(t, "bad cell", got, in, out, joins, code, wave{}, impl.ErrRange)
	}
	for _, a := range badAmounts {
		for at := range 3 {
			list := []float32{0.1, 0.1, 0.1}
			list[at] = a
			got, in, out, joins, code := impl.RampStep(r, 3, list[0], list[1], list[2])
			wantRamp(t, "bad amount", got, in, out, joins, code, wave{}, impl.ErrRange)
		}
	}
	for name, bad := range badRoads() {
		for _, cell := range []int64{0, 15, 16, -1} {
			for _, a := range []float32{0.1, -1} {
				got, in, out, joins, code := impl.RampStep(bad, cell, a, a, a)
				wantRamp(t, name, got, in, out, joins, code, wave{}, impl.ErrInvalid)
			}
		}
	}
}

func TestJamsOf(t *testing.T) {
	more := fromBits(0x3f000001)
	for _, c := range []struct {
		cars impl.Cars
		want [][2]int64
	}{
		{impl.Cars{}, nil}, {impl.Cars{3: 0.5, 4: 0.5}, nil}, {impl.Cars{0: more}, [][2]int64{{0, 0}}}, {impl.Cars{15: more}, [][2]int64{{15, 15}}},
		{impl.Cars{0: 1, 1: more, 2: 0.5, 3: 1}, [][2]int64{{0, 1}, {3, 3}}}, {impl.Cars{3: 1, 4: 0.75, 9: 1}, [][2]int64{{3, 4}, {9, 9}}},
		{impl.Cars{12: 1, 13: 1, 14: 1, 15: 1}, [][2]int64{{12, 15}}}, {impl.Cars{0: 1, 2: 1, 4: 1, 6: 1}, [][2]int64{{0, 0}, {2, 2}, {4, 4}, {6, 6}}},
	} {
		got, code := impl.JamsOf(impl.Road{Cars: c.cars, Pace: 0.25, Back: 0.25, Lanes: 1})
		if !slices.Equal(got, c.want) || code != impl.OK {
			t.Errorf("JamsOf %v: %v, %d, want %v", c.cars, got, code, c.want)
		}
	}
	full, _ := impl.FillRoad(mustMake(t, 0.75, 0.25, 1), 0.26)
	if got, code := impl.JamsOf(full); !slices.Equal(got, [][2]int64{{0, 15}}) || code != impl.OK {
		t.Errorf("JamsOf a full road: %v, %d", got, code)
	}
}

func TestJamsHaveJustTheFullerCells(t *testing.T) {
	d := &draw{53}
	for range 2000 {
		r := d.paced()
		best := rulesOf(r).best
		r.Cars[d.below(16)] = best
		jams, code := impl.JamsOf(r)
		var in [16]bool
		last := int64(-2)
		for _, jam := range jams {
			if jam[0] <= last+1 || jam[1] < jam[0] || code != impl.OK {
				t.Fatalf("JamsOf %v: %v, %d", r, jams, code)
			}
			for i := jam[0]; i <= jam[1]; i++ {
				in[i] = true
			}
			last = jam[1]
		}
		for i, share := range r.Cars {
			if in[i] != (share > best) {
				t.Fatalf("JamsOf %v, best %v: %v", r, best, jams)
			}
		}
	}
}

func TestSmoothRoad(t *testing.T) {
	d, order := &draw{54}, 0
	for range 3000 {
		r := d.road()
		want := r
		for i := 1; i < 15; i++ {
			before, own, behind := mul(0.25, r.Cars[i-1]), mul(0.5, r.Cars[i]), mul(0.25, r.Cars[i+1])
			want.Cars[i] = add(add(before, own), behind)
			if add(before, add(own, behind)) != want.Cars[i] {
				order++
			}
		}
		got, code := impl.SmoothRoad(r)
		wantRoad(t, "smooth", got, code, want, impl.OK)
	}
	if order == 0 {
		t.Error("no road tells the order of sums")
	}
	full, _ := impl.FillRoad(mustMake(t, 0.5, 0.5, 1), 1)
	got, code := impl.SmoothRoad(full)
	wantRoad(t, "full", got, code, full, impl.OK)
	r := mustMake(t, 0.5, 0.5, 1)
	r.Cars = impl.Cars{0: 1, 4: 1, 15: 1}
	got, code = impl.SmoothRoad(r)
	r.Cars = impl.Cars{0: 1, 1: 0.25, 3: 0.25, 4: 0.5, 5: 0.25, 14: 0.25, 15: 1}
	wantRoad(t, "plain", got, code, r, impl.OK)
}

func TestJamsAndSmoothRefuseInvalidRoads(t *testing.T) {
	for name, bad := range badRoads() {
		if jams, code := impl.JamsOf(bad); len(jams) != 0 || code != impl.ErrInvalid {
			t.Errorf("%s: JamsOf %v, %d", name, jams, code)
		}
		got, code := impl.SmoothRoad(bad)
		wantRoad(t, name, got, code, impl.Road{}, impl.ErrInvalid)
	}
}
