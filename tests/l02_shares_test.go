package tests

import (
	"math"
	"testing"

	"loop.example/g01227/impl"
)

// flowOf draws a flow that is at most MostFlow, its ends among them.
func (d *draw) flowOf(r impl.Road) float32 {
	most := rulesOf(r).most
	switch d.below(6) {
	case 0:
		return most
	case 1:
		return 0
	case 2:
		return math.Nextafter32(most, 0)
	}
	return lesser(mul(most, d.share()), most)
}

func TestStillAndJamSharesAreThoseOfTheModel(t *testing.T) {
	d := &draw{30}
	for range 5000 {
		r := d.road()
		flow := d.flowOf(r)
		still, code := impl.StillShare(r, flow)
		wantNumber(t, "still", still, code, held(div(flow, r.Pace)), impl.OK)
		jam, code := impl.JamShare(r, flow)
		wantNumber(t, "jam", jam, code, held(sub(1, div(flow, r.Back))), impl.OK)
		if !impl.IsShare(still) || !impl.IsShare(jam) {
			t.Fatalf("%v and %v are no shares", still, jam)
		}
	}
}

func TestStillAndJamSharesAtTheirEnds(t *testing.T) {
	d := &draw{31}
	for range 300 {
		r := d.road()
		most, _ := impl.MostFlow(r)
		still, code := impl.StillShare(r, 0)
		wantNumber(t, "nothing flows", still, code, 0, impl.OK)
		jam, code := impl.JamShare(r, 0)
		wantNumber(t, "nothing flows in a jam", jam, code, 1, impl.OK)
		best, _ := impl.BestShare(r)
		still, one := impl.StillShare(r, most)
		jam, two := impl.JamShare(r, most)
		if one != impl.OK || two != impl.OK || !nearly(float64(still), float64(best), 1e-6) || !nearly(float64(jam), float64(best), 1e-5) {
			t.Fatalf("at the most both shares are %v and %v, not %v: %d %d", still, jam, best, one, two)
		}
		for _, bad := range append([]float32{math.Nextafter32(most, 1), 1, 1000, math.MaxFloat32}, badAmounts...) {
			still, code := impl.StillShare(r, bad)
			wantNumber(t, "bad still", still, code, 0, impl.ErrRange)
			jam, code := impl.JamShare(r, bad)
			wantNumber(t, "bad jam", jam, code, 0, impl.ErrRange)
		}
	}
}

func TestStillRoadsStay(t *testing.T) {
	d := &draw{32}
	for range 400 {
		r := d.road()
		flow := d.flowOf(r)
		still, _ := impl.StillShare(r, flow)
		jam, _ := impl.JamShare(r, flow)
		f, _ := impl.FillRoad(r, still)
		after, in, out, code := impl.StepRoads(f, flow, 1, 100)
		wantNear(t, "still", after, f, code)
		if !nearly(float64(in), 100*float64(flow), 1e-3) || !nearly(float64(out), 100*float64(flow), 1e-3) {
			t.Fatalf("the flow %v: %v in, %v out", flow, in, out)
		}
		f, _ = impl.FillRoad(r, jam)
		after, _, _, code = impl.StepRoads(f, flow, flow, 100)
		wantNear(t, "jam", after, f, code)
		for i := range f.Cars[:5] {
			f.Cars[i] = still
		}
		after, _, _, code = impl.StepRoads(f, flow, flow, 100)
		wantNear(t, "border", after, f, code)
	}
}

func wantNear(t *testing.T, name string, got, want impl.Road, code int64) {
	t.Helper()
	for i, share := range got.Cars {
		if !nearly(float64(share), float64(want.Cars[i]), 1e-4) || code != impl.OK {
			t.Fatalf("%s: got %v, %d, want nearly %v", name, got, code, want)
		}
	}
}

func TestBordersOfBothSharesDoNotMove(t *testing.T) {
	d := &draw{33}
	for range 2000 {
		r := d.road()
		flow := mul(rulesOf(r).most, float32(d.bits()%900)/1000)
		still, _ := impl.StillShare(r, flow)
		jam, _ := impl.JamShare(r, flow)
		for _, pair := range [][2]float32{{still, jam}, {jam, still}} {
			speed, code := impl.WaveSpeed(r, pair[0], pair[1])
			if code != impl.OK || !nearly(float64(speed), 0, 1e-4) {
				t.Fatalf("the border of %v and %v of %v moves by %v: %d", pair[0], pair[1], r, speed, code)
			}
		}
	}
}

func modelWaveSpeed(r impl.Road, a, b float32) float32 {
	flow := func(x float32) float32 { return lesser(mul(r.Pace, x), mul(r.Back, sub(1, x))) }
	return div(sub(flow(b), flow(a)), sub(b, a))
}

func TestWaveSpeedIsThatOfTheModel(t *testing.T) {
	d, once, capped := &draw{34}, 0, 0
	for range 6000 {
		r, a, b := d.road(), d.share(), d.share()
		if d.below(4) == 0 {
			// Close to the best share, rounding lets a flow be more than the most.
			b = lesser(fromBits(math.Float32bits(rulesOf(r).best)+uint32(d.below(8))), 1)
		}
		if a == b {
			continue
		}
		got, code := impl.WaveSpeed(r, a, b)
		wantNumber(t, "speed", got, code, modelWaveSpeed(r, a, b), impl.OK)
		if wide := float32((float64(r.Pace)*float64(b) - float64(r.Pace)*float64(a)) / (float64(b) - float64(a))); got != wide && lesser(a, b) == a && nearly(float64(got), float64(wide), 1e-6) {
			once++
		}
		if most := rulesOf(r).most; mul(r.Pace, b) > most && mul(r.Back, sub(1, b)) > most {
			capped++
		}
	}
	if once == 0 || capped == 0 {
		t.Errorf("borders that tell how products are rounded, and that flows are not held at the most: %d %d", once, capped)
	}
}

func TestWaveSpeedAtTheEnds(t *testing.T) {
	r := mustMake(t, 0.5, 0.25, 1)
	for _, c := range []struct {
		name       string
		a, b, want float32
		code       int64
	}{
		{"free", 0, 0.25, 0.5, 0}, {"jam", 0.5, 1, -0.25, 0}, {"backwards", 1, 0.5, -0.25, 0}, {"all", 0, 1, 0, 0},
		// The flows are equal, and b - a is negative: this quotient is -0.
		{"all, backwards", 1, 0, minusZero, 0}, {"least", 0, smallest, 0, 0}, {"queue", 0.25, 1, div(-0.125, 0.75), 0},
		{"at the end", belowOne, 1, -0.25, 0}, {"equal", 0.5, 0.5, 0, impl.ErrState}, {"equal 0", 0, 0, 0, impl.ErrState}, {"equal 1", 1, 1, 0, impl.ErrState},
		{"-0 is no share", 0, minusZero, 0, impl.ErrRange}, {"first -0", minusZero, 0, 0, impl.ErrRange}, {"equal, no shares", 2, 2, 0, impl.ErrRange},
	} {
		got, code := impl.WaveSpeed(r, c.a, c.b)
		wantNumber(t, c.name, got, code, c.want, c.code)
	}
	for _, bad := range badShares {
		for _, pair := range [][2]float32{{bad, 0.5}, {0.5, bad}, {bad, bad}} {
			got, code := impl.WaveSpeed(r, pair[0], pair[1])
			wantNumber(t, "bad share", got, code, 0, impl.ErrRange)
		}
	}
}

func TestSharesRefuseInvalidRoadsFirst(t *testing.T) {
	for name, bad := range badRoads() {
		for _, a := range []float32{0, 0.25, 2, -1, nan} {
			still, code := impl.StillShare(bad, a)
			wantNumber(t, name+" still", still, code, 0, impl.ErrInvalid)
			jam, code := impl.JamShare(bad, a)
			wantNumber(t, name+" jam", jam, code, 0, impl.ErrInvalid)
			for _, b := range []float32{a, 0.5} {
				speed, code := impl.WaveSpeed(bad, a, b)
				wantNumber(t, name+" speed", speed, code, 0, impl.ErrInvalid)
			}
		}
	}
}
