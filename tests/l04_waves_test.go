package tests

import (
	"math"
	"testing"

	"loop.example/g01227/impl"
)

// row draws plans with the same cycle, and times between them.
func (d *draw) row(movement int64) ([]impl.Plan, []int64) {
	count, cycle := 1+d.below(6), int64(20+d.below(221))
	var plans []impl.Plan
	var times []int64
	for i := range count {
		plans = append(plans, d.planWith(movement, cycle))
		if i > 0 {
			times = append(times, int64([]int{0, d.below(30), d.below(100001), 100000}[d.below(4)]))
		}
	}
	return plans, times
}

// planWith draws a plan that gives green to a movement, and has a cycle of at least 20 ticks.
func (d *draw) planWith(movement, cycle int64) impl.Plan {
	p := impl.Plan{Between: int64(d.below(2))}
	for range 1 + d.below(4) {
		p.Slots = append(p.Slots, impl.Slot{Green: d.phase(), Ticks: 1 + int64(d.below(4))})
	}
	p.Slots[d.below(len(p.Slots))].Green[movement] = true
	for left := cycle - modelCycle(p); left > 0; {
		more := 1 + int64(d.below(int(left)))
		p.Slots[d.below(len(p.Slots))].Ticks += more
		left -= more
	}
	p.Offset = int64(d.below(int(cycle)))
	return p
}

// modelFirst returns how many ticks behind its Offset a plan first gives green.
func modelFirst(p impl.Plan, movement int64) int64 {
	for i, at := range modelParts(p) {
		if at.green[movement] {
			return int64(i)
		}
	}
	return -1
}

// modelWave tries all offsets for one with which the first green is met.
func modelWave(plans []impl.Plan, times []int64, movement int64) []impl.Plan {
	wave := []impl.Plan{plans[0]}
	for i, time := range times {
		next, cycle := plans[i+1], modelCycle(plans[i+1])
		comes := (wave[i].Offset + modelFirst(wave[i], movement) + time) % cycle
		for next.Offset = 0; (next.Offset+modelFirst(next, movement))%cycle != comes; next.Offset++ {
		}
		wave = append(wave, next)
	}
	return wave
}

// together counts where all lists hold, each of them read from its own place on.
func together(lists [][]bool, places []int64) int64 {
	count := int64(0)
	for at := range int64(len(lists[0])) {
		all := true
		for i, list := range lists {
			all = all && list[(at+places[i])%int64(len(list))]
		}
		if all {
			count++
		}
	}
	return count
}

func modelWidth(plans []impl.Plan, times []int64, movement int64) int64 {
	var greens [][]bool
	places := make([]int64, len(plans))
	for i, p := range plans {
		greens = append(greens, modelGreens(p, movement))
		for _, time := range times[:i] {
			places[i] += time
		}
	}
	return together(greens, places)
}

// modelShared counts the ticks that the greens share if all of them begin at once.
func modelShared(plans []impl.Plan, movement int64) int64 {
	var greens [][]bool
	var places []int64
	for _, p := range plans {
		p.Offset = 0
		greens = append(greens, modelGreens(p, movement))
		places = append(places, modelFirst(p, movement))
	}
	return together(greens, places)
}

func wantPlans(t *testing.T, name string, got []impl.Plan, code int64, want []impl.Plan, wantCode int64) {
	t.Helper()
	equal := len(got) == len(want)
	for i := range got {
		equal = equal && samePlan(got[i], want[i])
	}
	if !equal || code != wantCode {
		t.Errorf("%s: got %v, %d, want %v, %d", name, got, code, want, wantCode)
	}
}

func TestWavesAreThoseOfTheModel(t *testing.T) {
	d, closed, open := &draw{230}, 0, 0
	for range 300 {
		movement := int64(d.below(8))
		plans, times := d.row(movement)
		wave, code := impl.WaveOf(plans, times, movement)
		wantPlans(t, "WaveOf", wave, code, modelWave(plans, times, movement), impl.OK)
		for _, list := range [][]impl.Plan{plans, wave} {
			want := modelWidth(list, times, movement)
			width, code := impl.WaveWidth(list, times, movement)
			wantWhole(t, "WaveWidth", whole(width, code), whole(want, impl.OK))
			if want == 0 {
				closed++
			} else {
				open++
			}
		}
		if t.Failed() {
			t.Fatalf("%v %v %d", plans, times, movement)
		}
	}
	if closed == 0 || open == 0 {
		t.Errorf("waves that no car can use %d, that some can %d", closed, open)
	}
}

func TestAWaveIsAsWideAsWhatAllGreensShare(t *testing.T) {
	d := &draw{231}
	for range 300 {
		movement := int64(d.below(8))
		plans, times := d.row(movement)
		shared := modelShared(plans, movement)
		wave, _ := impl.WaveOf(plans, times, movement)
		width, code := impl.WaveWidth(wave, times, movement)
		if width != shared || shared == 0 {
			t.Fatalf("the wave is %d wide, the greens share %d, code %d", width, shared, code)
		}
	}
}

func TestAWaveOfEqualPlansIsAsWideAsTheirGreen(t *testing.T) {
	d := &draw{232}
	for range 500 {
		movement := int64(d.below(8))
		p := d.plan()
		p.Slots[d.below(len(p.Slots))].Green[movement] = true
		var plans []impl.Plan
		var times []int64
		for i := range 1 + d.below(6) {
			other, _ := impl.ShiftPlan(p, int64(d.below(240)))
			plans = append(plans, other)
			if i > 0 {
				times = append(times, int64(d.below(100001)))
			}
		}
		wave, code := impl.WaveOf(plans, times, movement)
		if code != impl.OK {
			t.Fatalf("WaveOf: %d", code)
		}
		width, code := impl.WaveWidth(wave, times, movement)
		green, _ := impl.GreenTicks(p, movement)
		if width != green || code != impl.OK {
			t.Fatalf("%v: the wave is %d wide, green are %d, code %d", wave, width, green, code)
		}
	}
}

func TestPlainWaves(t *testing.T) {
	a, b := phase(0), phase(1)
	one := impl.Plan{Slots: []impl.Slot{{Green: a, Ticks: 3}, {Green: b, Ticks: 3}}, Between: 2, Offset: 4}
	two := impl.Plan{Slots: []impl.Slot{{Green: b, Ticks: 4}, {Green: a, Ticks: 6}}, Offset: 9}
	plans, times := []impl.Plan{one, two, one}, whole(3, 25)
	wave, code := impl.WaveOf(plans, times, 0)
	// The first greens come at 4, at 7 (so that the cycle of two begins at 3), and at 32, which is 2.
	want := []impl.Plan{clone(one), clone(two), clone(one)}
	want[1].Offset, want[2].Offset = 3, 2
	wantPlans(t, "movement 0", wave, code, want, impl.OK)
	width, code := impl.WaveWidth(wave, times, 0)
	wantWhole(t, "movement 0", whole(width, code), whole(3, 0))
	// The first greens come at 9, at 12, which is 2, and at 27, which is 7 (so that the cycle of one begins at 2).
	wave, code = impl.WaveOf(plans, times, 1)
	want[1].Offset, want[2].Offset = 2, 2
	wantPlans(t, "movement 1", wave, code, want, impl.OK)
	width, code = impl.WaveWidth(wave, times, 1)
	wantWhole(t, "movement 1", whole(width, code), whole(3, 0))
	width, code = impl.WaveWidth([]impl.Plan{one, two}, whole(0), 0)
	wantWhole(t, "as they are", whole(width, code), whole(3, 0))
	width, code = impl.WaveWidth([]impl.Plan{one, two}, whole(5), 0)
	wantWhole(t, "just met", whole(width, code), whole(0, 0))
	width, code = impl.WaveWidth([]impl.Plan{one, two}, whole(7), 0)
	wantWhole(t, "one later", whole(width, code), whole(1, 0))
	single, code := impl.WaveOf([]impl.Plan{one}, nil, 1)
	wantPlans(t, "one plan", single, code, []impl.Plan{one}, impl.OK)
	width, code = impl.WaveWidth([]impl.Plan{one}, []int64{}, 1)
	wantWhole(t, "one plan", whole(width, code), whole(3, 0))
}

func wantWaveRefused(t *testing.T, name string, plans []impl.Plan, times []int64, movement, want int64) {
	t.Helper()
	wave, code := impl.WaveOf(plans, times, movement)
	wantPlans(t, name, wave, code, nil, want)
	width, code := impl.WaveWidth(plans, times, movement)
	wantWhole(t, name, whole(width, code), whole(0, want))
}

func TestWavesRefuse(t *testing.T) {
	p := impl.Plan{Slots: []impl.Slot{{Green: phase(0), Ticks: 3}, {Green: phase(1), Ticks: 2}}, Between: 1}
	other := impl.Plan{Slots: []impl.Slot{{Green: phase(0), Ticks: 3}, {Green: phase(2), Ticks: 2}}, Between: 1}
	long := impl.Plan{Slots: []impl.Slot{{Green: phase(0), Ticks: 8}}}
	two, seven := []impl.Plan{p, p}, []impl.Plan{p, p, p, p, p, p, p}
	wantWaveRefused(t, "no plans", nil, nil, 0, impl.ErrRange)
	wantWaveRefused(t, "no plans, a time", nil, whole(1), 0, impl.ErrRange)
	wantWaveRefused(t, "seven plans", seven, make([]int64, 6), 0, impl.ErrRange)
	wantWaveRefused(t, "few times", two, nil, 0, impl.ErrRange)
	wantWaveRefused(t, "many times", two, whole(1, 1), 0, impl.ErrRange)
	wantWaveRefused(t, "one plan, a time", two[:1], whole(1), 0, impl.ErrRange)
	for _, bad := range []int64{-1, 100001, 1 << 32, math.MinInt64, math.MaxInt64} {
		wantWaveRefused(t, "time", two, whole(bad), 0, impl.ErrRange)
		wantWaveRefused(t, "last time", seven[:6], whole(0, 0, 0, 0, bad), 0, impl.ErrRange)
		wantWaveRefused(t, "time and cycles", []impl.Plan{p, long}, whole(bad), 0, impl.ErrRange)
	}
	for _, bad := range badMovements {
		wantWaveRefused(t, "movement", two, whole(1), bad, impl.ErrRange)
		wantWaveRefused(t, "movement and cycles", []impl.Plan{p, long}, whole(1), bad, impl.ErrRange)
	}
	wantWaveRefused(t, "cycles", []impl.Plan{p, long}, whole(1), 0, impl.ErrState)
	wantWaveRefused(t, "a longer cycle first", []impl.Plan{long, p}, whole(1), 0, impl.ErrState)
	wantWaveRefused(t, "cycle of the last one", []impl.Plan{p, p, long}, whole(1, 1), 0, impl.ErrState)
	wantWaveRefused(t, "cycles and no green", []impl.Plan{p, long}, whole(1), 5, impl.ErrState)
	wantWaveRefused(t, "no green", two, whole(1), 5, impl.ErrNotFound)
	wantWaveRefused(t, "no green in the first one", []impl.Plan{other, p}, whole(1), 1, impl.ErrNotFound)
	wantWaveRefused(t, "no green in the last one", []impl.Plan{p, p, other}, whole(1, 1), 1, impl.ErrNotFound)
	for name, bad := range badPlans() {
		wantWaveRefused(t, name, []impl.Plan{bad}, nil, 0, impl.ErrInvalid)
		wantWaveRefused(t, name, []impl.Plan{p, long, bad}, whole(-1), 9, impl.ErrInvalid)
		wantWaveRefused(t, name, append(append([]impl.Plan{}, seven...), bad), nil, 0, impl.ErrInvalid)
	}
	if _, code := impl.WaveOf(seven[:6], whole(0, 100000, 0, 100000, 0), 0); code != impl.OK {
		t.Errorf("six plans: %d", code)
	}
}
