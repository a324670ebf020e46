package tests

import (
	"slices"
	"testing"

	"loop.example/g01227/impl"
)

func TestExampleOfWaves(t *testing.T) {
	r := mustMake(t, 0.5, 0.5, 1)
	want := r
	want.Cars[0] = 0.125
	a, in, out, code := impl.StepRoad(r, 0.125, 1)
	wantStep(t, "step", a, in, out, code, want, 0.125, 0, impl.OK)
	still, code := impl.StillShare(r, 0.125)
	wantNumber(t, "still", still, code, 0.25, impl.OK)
	jam, code := impl.JamShare(r, 0.125)
	wantNumber(t, "jam", jam, code, 0.75, impl.OK)
	f, _ := impl.FillRoad(r, 0.25)
	g, in, out, code := impl.StepRoad(f, 0.125, 1)
	wantStep(t, "stays", g, in, out, code, f, 0.125, 0.125, impl.OK)
	speed, code := impl.WaveSpeed(r, 0.25, 0.75)
	wantNumber(t, "speed", speed, code, 0, impl.OK)
}

func TestFluxesAreThoseOfTheModel(t *testing.T) {
	d := &draw{20}
	for range 4000 {
		r, offered, room := d.road(), d.amount(), d.amount()
		got, code := impl.FluxesOf(r, offered, room)
		want := rulesOf(r).flows(r, offered, room)
		if got != want || code != impl.OK {
			t.Fatalf("FluxesOf(%v, %v, %v): %v, %d, want %v", r, offered, room, got, code, want)
		}
	}
}

func TestFluxesOfPlainRoads(t *testing.T) {
	half := mustMake(t, 0.5, 0.5, 8)
	full, _ := impl.FillRoad(half, 1)
	for _, c := range []struct {
		name          string
		r             impl.Road
		offered, room float32
		first, last   float32
	}{
		{"nothing", half, 0, 0, 0, 0}, {"empty", half, 1, 1, 0.25, 0}, {"little", half, 0.125, 1, 0.125, 0},
		{"full", full, 1, 1, 0, 0.25}, {"full, no room", full, 1, 0, 0, 0}, {"full, little room", full, 1, 0.125, 0, 0.125},
		{"much", half, fromBits(0x7f7fffff), 0, 0.25, 0}, {"much room", full, 0, fromBits(0x7f7fffff), 0, 0.25},
	} {
		var want [17]float32
		want[0], want[16] = c.first, c.last
		got, code := impl.FluxesOf(c.r, c.offered, c.room)
		if got != want || code != impl.OK {
			t.Errorf("%s: %v, %d, want %v", c.name, got, code, want)
		}
	}
}

func TestNoFlowIsMoreThanTheMost(t *testing.T) {
	d := &draw{21}
	for range 3000 {
		r, offered, room := d.road(), d.amount(), d.amount()
		most, _ := impl.MostFlow(r)
		flows, _ := impl.FluxesOf(r, offered, room)
		for i, flow := range flows {
			if !(flow >= 0 && flow <= most) {
				t.Fatalf("flow %d of %v is %v of %v", i, r, flow, most)
			}
		}
		if flows[0] > offered || flows[16] > room {
			t.Fatalf("%v flows in of %v, %v out of %v", flows[0], offered, flows[16], room)
		}
	}
}

func TestStepRoadIsThatOfTheModel(t *testing.T) {
	d, order, once := &draw{22}, 0, 0
	for range 4000 {
		r, offered, room := d.road(), d.amount(), d.amount()
		w := modelStep(r, offered, room)
		got, in, out, code := impl.StepRoad(r, offered, room)
		wantStep(t, "step", got, in, out, code, w.road, w.flows[0], w.flows[16], impl.OK)
		for i, share := range r.Cars {
			if held(add(share, sub(w.flows[i], w.flows[i+1]))) != w.road.Cars[i] {
				order++
			}
			if held(float32(float64(share)+float64(w.flows[i])-float64(w.flows[i+1]))) != w.road.Cars[i] {
				once++
			}
		}
	}
	if order == 0 || once == 0 {
		t.Errorf("cells that tell the order of sums, and how they are rounded: %d %d", order, once)
	}
}

func TestStepAtTheEndsOfShares(t *testing.T) {
	r := mustMake(t, 1, 1, 1)
	r.Cars = impl.Cars{0: 1, 1: smallest, 14: belowOne, 15: 1}
	want := r
	want.Cars[0], want.Cars[1], want.Cars[2] = 0.5, 0.5, smallest
	want.Cars[14], want.Cars[15] = belowOne, 0.5
	got, in, out, code := impl.StepRoad(r, 1, 1)
	wantStep(t, "ends", got, in, out, code, want, 0, 0.5, impl.OK)
	for _, share := range []float32{0, smallest, 0.5, belowOne, 1} {
		for _, pace := range []float32{1.0 / 64, 0.3, belowOne, 1} {
			for _, back := range []float32{1.0 / 64, 0.3, belowOne, 1} {
				f, _ := impl.FillRoad(mustMake(t, pace, back, 1), share)
				w := modelStep(f, 1, 1)
				got, in, out, code := impl.StepRoad(f, 1, 1)
				wantStep(t, "filled", got, in, out, code, w.road, w.flows[0], w.flows[16], impl.OK)
				if !impl.ValidRoad(got) {
					t.Errorf("behind a step of %v the road is not valid: %v", f, got)
				}
			}
		}
	}
	empty := mustMake(t, 0.5, 0.5, 1)
	got, in, out, code = impl.StepRoads(empty, 0, 0, 400)
	wantStep(t, "empty stays", got, in, out, code, empty, 0, 0, impl.OK)
	full, _ := impl.FillRoad(empty, 1)
	got, in, out, code = impl.StepRoads(full, 1, 0, 400)
	wantStep(t, "full stays", got, in, out, code, full, 0, 0, impl.OK)
}

func TestStepsAreStepsAtOnce(t *testing.T) {
	d, rounded := &draw{23}, 0
	for _, steps := range []int64{0, 1, 2, 7, 60, 399, 400} {
		for range 40 {
			r, offered, room := d.paced(), d.amount(), d.amount()
			want, wideIn := r, 0.0
			var in, out float32
			for range steps {
				w := modelStep(want, offered, room)
				want, in, out = w.road, add(in, w.flows[0]), add(out, w.flows[16])
				wideIn += float64(w.flows[0])
			}
			if float32(wideIn) != in {
				rounded++
			}
			got, gotIn, gotOut, code := impl.StepRoads(r, offered, room, steps)
			wantStep(t, "steps", got, gotIn, gotOut, code, want, in, out, impl.OK)
			one := steps / 3
			half, _, _, _ := impl.StepRoads(r, offered, room, one)
			parts, _, _, code := impl.StepRoads(half, offered, room, steps-one)
			wantRoad(t, "in parts", parts, code, want, impl.OK)
			listed, gotIn, gotOut, code := impl.StepList(r, filledList(offered, steps), filledList(room, steps))
			wantStep(t, "listed", listed, gotIn, gotOut, code, want, in, out, impl.OK)
		}
	}
	if rounded == 0 {
		t.Error("no sum tells narrow from wide")
	}
}

func filledList(a float32, count int64) []float32 {
	return slices.Repeat([]float32{a}, int(count))
}

func TestStepListIsStepAfterStep(t *testing.T) {
	d := &draw{24}
	for _, steps := range []int{0, 1, 2, 30, 400} {
		for range 20 {
			r := d.paced()
			offered, room := make([]float32, steps), make([]float32, steps)
			want := r
			var in, out float32
			for i := range offered {
				offered[i], room[i] = d.amount(), d.amount()
				w := modelStep(want, offered[i], room[i])
				want, in, out = w.road, add(in, w.flows[0]), add(out, w.flows[16])
			}
			got, gotIn, gotOut, code := impl.StepList(r, offered, room)
			wantStep(t, "list", got, gotIn, gotOut, code, want, in, out, impl.OK)
		}
	}
	r := d.road()
	got, in, out, code := impl.StepList(r, nil, []float32{})
	wantStep(t, "no steps", got, in, out, code, r, 0, 0, impl.OK)
}

func TestStepsNeitherMakeNorLoseCars(t *testing.T) {
	d := &draw{25}
	for range 1000 {
		r, offered, room := d.paced(), d.amount(), d.amount()
		after, in, out, _ := impl.StepRoad(r, offered, room)
		if change := cellsSum(after) - cellsSum(r); !nearly(change, float64(in)-float64(out), 1e-5) {
			t.Fatalf("%v in, %v out, but the change is %v", in, out, change)
		}
		steps := int64(d.below(401))
		after, in, out, _ = impl.StepRoads(r, offered, room, steps)
		if change := cellsSum(after) - cellsSum(r); !nearly(change, float64(in)-float64(out), 1e-3) {
			t.Fatalf("%d steps: %v in, %v out, but the change is %v", steps, in, out, change)
		}
		if !impl.ValidRoad(after) {
			t.Fatalf("not valid behind %d steps: %v", steps, after)
		}
	}
}

func TestStepsRefuse(t *testing.T) {
	r := (&draw{26}).road()
	none := impl.Road{}
	for _, bad := range badAmounts {
		for _, pair := range [][2]float32{{bad, 1}, {1, bad}, {bad, bad}} {
			flows, code := impl.FluxesOf(r, pair[0], pair[1])
			if flows != [17]float32{} || code != impl.ErrRange {
				t.Errorf("FluxesOf with %v: %v, %d", pair, flows, code)
			}
			got, in, out, code := impl.StepRoad(r, pair[0], pair[1])
			wantStep(t, "step", got, in, out, code, none, 0, 0, impl.ErrRange)
			for _, steps := range []int64{0, 3, 401} {
				got, in, out, code = impl.StepRoads(r, pair[0], pair[1], steps)
				wantStep(t, "steps", got, in, out, code, none, 0, 0, impl.ErrRange)
			}
			for _, at := range []int{0, 2, 399} {
				offered, room := filledList(0.1, 400), filledList(0.1, 400)
				offered[at], room[at] = pair[0], pair[1]
				got, in, out, code = impl.StepList(r, offered, room)
				wantStep(t, "list", got, in, out, code, none, 0, 0, impl.ErrRange)
			}
		}
	}
	for _, steps := range badSteps {
		got, in, out, code := impl.StepRoads(r, 0.1, 0.1, steps)
		wantStep(t, "count", got, in, out, code, none, 0, 0, impl.ErrRange)
	}
	for _, size := range [][2]int64{{0, 1}, {1, 0}, {3, 4}, {400, 401}, {401, 400}, {401, 401}, {1000000, 1000000}, {1000000, 0}} {
		got, in, out, code := impl.StepList(r, filledList(0.1, size[0]), filledList(0.1, size[1]))
		wantStep(t, "sizes", got, in, out, code, none, 0, 0, impl.ErrRange)
	}
}

func TestStepsRefuseInvalidRoadsFirst(t *testing.T) {
	none := impl.Road{}
	for name, bad := range badRoads() {
		for _, a := range []float32{0.1, -1, nan} {
			if flows, code := impl.FluxesOf(bad, a, a); flows != [17]float32{} || code != impl.ErrInvalid {
				t.Errorf("%s: FluxesOf %v, %d", name, flows, code)
			}
			got, in, out, code := impl.StepRoad(bad, a, a)
			wantStep(t, name, got, in, out, code, none, 0, 0, impl.ErrInvalid)
			got, in, out, code = impl.StepList(bad, []float32{a}, nil)
			wantStep(t, name, got, in, out, code, none, 0, 0, impl.ErrInvalid)
			for _, steps := range []int64{0, 3, -1, 401} {
				got, in, out, code = impl.StepRoads(bad, a, a, steps)
				wantStep(t, name, got, in, out, code, none, 0, 0, impl.ErrInvalid)
			}
		}
	}
}
