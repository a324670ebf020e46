package tests

import (
	"math"
	"testing"

	"loop.example/g01227/impl"
)

// modelShare shares out tick by tick, with the quotient of two numbers as over tells it.
func modelShare(phases []impl.Phase, demands [8]float32, cycle, between int64, over func(a float32, ticks int64) float64) impl.Plan {
	p := impl.Plan{Between: between}
	weights := make([]float32, len(phases))
	for i, green := range phases {
		p.Slots = append(p.Slots, impl.Slot{Green: green, Ticks: 1})
		for m, demand := range demands {
			if green[m] && demand > weights[i] {
				weights[i] = demand
			}
		}
	}
	for range cycle - modelCycle(p) {
		best := 0
		for i := range weights {
			if over(weights[i], p.Slots[i].Ticks) > over(weights[best], p.Slots[best].Ticks) {
				best = i
			}
		}
		p.Slots[best].Ticks++
	}
	return p
}

func narrowOver(a float32, ticks int64) float64 { return float64(div(a, float32(ticks))) }
func wideOver(a float32, ticks int64) float64   { return float64(a) / float64(ticks) }

// demands draws plain numbers, equal ones, numbers that are nearly equal, and very great and little ones.
func (d *draw) demands() [8]float32 {
	var out [8]float32
	base, kind := d.share(), d.below(5)
	for i := range out {
		switch kind {
		case 0:
			out[i] = float32(d.below(5))
		case 1:
			out[i] = base
		case 2:
			out[i] = mul(fromBits(math.Float32bits(1)+uint32(d.below(3))), float32(1+d.below(8)))
		case 3:
			out[i] = d.amount()
		default:
			out[i] = d.share()
		}
	}
	return out
}

func TestShareGreenIsThatOfTheModel(t *testing.T) {
	d, narrow := &draw{220}, 0
	for range 1500 {
		var phases []impl.Phase
		for range 1 + d.below(8) {
			phases = append(phases, d.phase())
		}
		between := int64(d.below(4))
		least := int(int64(len(phases)) * (1 + between))
		cycle := int64(least + d.below(241-least))
		demands := d.demands()
		want := modelShare(phases, demands, cycle, between, narrowOver)
		got, code := impl.ShareGreen(phases, demands, cycle, between)
		wantPlan(t, "ShareGreen", got, code, want, impl.OK)
		if !samePlan(want, modelShare(phases, demands, cycle, between, wideOver)) {
			narrow++
		}
		// Shared green fills the cycle.
		if filled, code := impl.CycleOf(got); filled != cycle || code != impl.OK {
			t.Fatalf("the cycle %d is %d, %d", cycle, filled, code)
		}
	}
	if narrow == 0 {
		t.Error("no draw tells narrow quotients from wide ones")
	}
}

func TestShareGreenOfPlainPhases(t *testing.T) {
	a, b, none := phase(0), phase(1, 2), impl.Phase{}
	for _, x := range []struct {
		name           string
		phases         []impl.Phase
		demands        [8]float32
		cycle, between int64
		ticks          []int64
	}{
		{"example", []impl.Phase{a, b}, [8]float32{2, 1}, 8, 1, whole(4, 2)},
		{"greatest demand", []impl.Phase{a, b}, [8]float32{1, 0, 3}, 8, 0, whole(2, 6)},
		{"no sum of demands", []impl.Phase{a, b}, [8]float32{2, 1, 1.5}, 5, 0, whole(3, 2)},
		{"demands of none", []impl.Phase{a, b}, [8]float32{1, 1, 1, 9, 9, 9, 9, 9}, 5, 0, whole(3, 2)},
		{"no demands", []impl.Phase{a, b}, [8]float32{}, 9, 1, whole(6, 1)},
		{"phase without movements", []impl.Phase{none, a}, [8]float32{1}, 6, 0, whole(1, 5)},
		{"just the cycle", []impl.Phase{a, b, a}, [8]float32{5}, 9, 2, whole(1, 1, 1)},
		{"the same phase twice", []impl.Phase{b, a, b}, [8]float32{1, 1}, 8, 0, whole(3, 3, 2)},
		{"greatest cycle", []impl.Phase{a}, [8]float32{}, 240, 0, whole(240)},
		{"greatest between", []impl.Phase{a}, [8]float32{}, 240, 239, whole(1)},
		{"greatest demand of all", []impl.Phase{a, b}, [8]float32{math.MaxFloat32, smallest}, 5, 0, whole(4, 1)},
	} {
		want := impl.Plan{Between: x.between}
		for i, ticks := range x.ticks {
			want.Slots = append(want.Slots, impl.Slot{Green: x.phases[i], Ticks: ticks})
		}
		got, code := impl.ShareGreen(x.phases, x.demands, x.cycle, x.between)
		wantPlan(t, x.name, got, code, want, impl.OK)
	}
}

func TestShareGreenRefuses(t *testing.T) {
	two := []impl.Phase{phase(0), phase(1)}
	refused := func(name string, phases []impl.Phase, demands [8]float32, cycle, between int64) {
		t.Helper()
		got, code := impl.ShareGreen(phases, demands, cycle, between)
		wantPlan(t, name, got, code, impl.Plan{}, impl.ErrRange)
	}
	refused("no phases", nil, [8]float32{}, 8, 0)
	refused("no phases, no cycle", nil, [8]float32{}, 0, 0)
	refused("nine phases", make([]impl.Phase, 9), [8]float32{}, 100, 0)
	refused("many phases", make([]impl.Phase, 100000), [8]float32{}, 240, 0)
	for _, bad := range badAmounts {
		for place := range 8 {
			var demands [8]float32
			demands[place] = bad
			refused("a demand", two, demands, 8, 1)
		}
	}
	for _, bad := range []int64{-1, 241, 1 << 32, 1 << 62, math.MinInt64, math.MaxInt64, 4} {
		refused("between", two, [8]float32{}, 8, bad)
	}
	refused("between of a cycle", two, [8]float32{}, 240, 240)
	refused("between, one phase", two[:1], [8]float32{}, 240, 240)
	for _, bad := range []int64{3, 0, -1, 241, 1 << 32, math.MinInt64, math.MaxInt64} {
		refused("cycle", two, [8]float32{}, bad, 1)
	}
	if _, code := impl.ShareGreen(two, [8]float32{}, 4, 1); code != impl.OK {
		t.Errorf("the least cycle: %d", code)
	}
}
