package tests

import (
	"math"
	"testing"

	"loop.example/g01227/impl"
)

func TestValidPlan(t *testing.T) {
	for name, p := range badPlans() {
		if impl.ValidPlan(p) {
			t.Errorf("%s: a plan that is not valid is told to be", name)
		}
	}
	d := &draw{210}
	for range 3000 {
		if p := d.plan(); !impl.ValidPlan(p) {
			t.Fatalf("%v is not told to be valid", p)
		}
	}
	eight := make([]impl.Slot, 8)
	for i := range eight {
		eight[i].Ticks = 1
	}
	for _, p := range []impl.Plan{
		{Slots: []impl.Slot{{Ticks: 1}}},
		{Slots: []impl.Slot{{Ticks: 240}}, Offset: 239},
		{Slots: []impl.Slot{{Ticks: 1}}, Between: 239, Offset: 239},
		{Slots: eight, Between: 29, Offset: 239},
		{Slots: eight, Offset: 7},
	} {
		if !impl.ValidPlan(p) {
			t.Errorf("%v is not told to be valid", p)
		}
	}
	many := impl.Plan{Slots: make([]impl.Slot, 100000)}
	if impl.ValidPlan(many) {
		t.Error("a plan with many slots is told to be valid")
	}
}

func TestSamePlan(t *testing.T) {
	d := &draw{211}
	list := []impl.Plan{{Slots: make([]impl.Slot, 1000)}, {Slots: make([]impl.Slot, 1001)}}
	for _, p := range badPlans() {
		list = append(list, p)
	}
	for range 60 {
		p := d.plan()
		list = append(list, p, clone(p))
		for i := range p.Slots {
			q := clone(p)
			q.Slots[i].Ticks++
			list = append(list, q)
			q = clone(p)
			m := d.below(8)
			q.Slots[i].Green[m] = !q.Slots[i].Green[m]
			list = append(list, q)
		}
		for _, by := range []int64{1, -1, math.MaxInt64} {
			q := clone(p)
			q.Between += by
			list = append(list, q)
			q = clone(p)
			q.Offset += by
			list = append(list, q)
		}
		q := clone(p)
		q.Slots = q.Slots[:len(q.Slots)-1]
		list = append(list, q)
	}
	for _, p := range list {
		for _, q := range list {
			if got := impl.SamePlan(p, q); got != samePlan(p, q) {
				t.Fatalf("SamePlan(%v, %v) = %v", p, q, got)
			}
		}
	}
	if !impl.SamePlan(impl.Plan{}, impl.Plan{Slots: []impl.Slot{}}) {
		t.Error("no slots are not the same as none")
	}
}

func TestSoundPlansAreThoseWhosePhasesAreClear(t *testing.T) {
	d, sounds, later := &draw{212}, 0, 0
	for range 20000 {
		c, p := d.table(), d.plan()
		if d.below(3) == 0 {
			for i := range p.Slots { // the same phase again, so that what is kept of it is asked for
				p.Slots[i].Green = p.Slots[d.below(i+1)].Green
			}
		}
		want := whole(-1, 0, 0, impl.OK)
		for at, slot := range p.Slots {
			if i, k, met := modelPair(c, slot.Green); met {
				want = whole(int64(at), i, k, impl.ErrProof)
				break
			}
		}
		at, i, k, code := impl.SoundPlan(c, p)
		wantWhole(t, "SoundPlan", whole(at, i, k, code), want)
		if code == impl.OK {
			sounds++
		} else if at > 0 {
			later++
		}
	}
	if sounds < 500 || later < 500 {
		t.Errorf("sound plans %d, with a later slot %d", sounds, later)
	}
}

// TestNoConflictHasGreenInASoundPlan looks at each tick for movements that conflict.
func TestNoConflictHasGreenInASoundPlan(t *testing.T) {
	d, plans := &draw{213}, 0
	for plans < 300 {
		c, p := d.table(), d.plan()
		great, _ := impl.GreatestPhases(c)
		for i := range p.Slots {
			if d.below(4) > 0 {
				p.Slots[i].Green = great[d.below(len(great))]
			}
		}
		if _, _, _, code := impl.SoundPlan(c, p); code != impl.OK {
			continue
		}
		plans++
		for tick := range 2 * modelCycle(p) {
			green, _, _ := impl.GreenAt(p, tick)
			for i := range green {
				for k := range green {
					if green[i] && green[k] && c[i][k] {
						t.Fatalf("%v: %d and %d have green at %d", p, i, k, tick)
					}
				}
			}
		}
	}
}

func TestGreensAreThoseOfTheModel(t *testing.T) {
	d := &draw{214}
	for range 1000 {
		p := d.plan()
		cycle, code := impl.CycleOf(p)
		wantWhole(t, "CycleOf", whole(cycle, code), whole(modelCycle(p), impl.OK))
		ticks := []int64{0, 999999999, 1000000000}
		for range 20 {
			ticks = append(ticks, int64(d.below(600)), int64(d.below(1000000001)))
		}
		for _, tick := range ticks {
			want := modelAt(p, tick)
			green, left, code := impl.GreenAt(p, tick)
			wantPhase(t, "GreenAt", green, code, want.green, impl.OK)
			wantWhole(t, "left", whole(left), whole(want.left))
			if t.Failed() {
				t.Fatalf("%v at %d", p, tick)
			}
		}
	}
}

func TestGreenStaysAsLongAsIsTold(t *testing.T) {
	d := &draw{215}
	for range 1000 {
		p := d.plan()
		tick := int64(d.below(500))
		green, left, _ := impl.GreenAt(p, tick)
		for ; left > 0; left-- {
			now, rest, code := impl.GreenAt(p, tick)
			if now != green || rest != left || code != impl.OK {
				t.Fatalf("%v at %d: %v, %d, %d, want %v, %d", p, tick, now, rest, code, green, left)
			}
			tick++
		}
	}
}

func TestGreenAtOfPlainPlans(t *testing.T) {
	a, b := phase(0), phase(1, 7)
	p := impl.Plan{Slots: []impl.Slot{{Green: a, Ticks: 3}, {Green: b, Ticks: 2}}, Between: 2, Offset: 4}
	none := impl.Phase{}
	// The cycle is 9: at the tick 0 five ticks of it have gone, the slot 1 being since 0 ticks.
	for tick, want := range []part{
		{b, 2}, {b, 1}, {none, 2}, {none, 1}, {a, 3}, {a, 2}, {a, 1}, {none, 2}, {none, 1}, {b, 2}, {b, 1}, {none, 2}, {none, 1}, {a, 3},
	} {
		green, left, code := impl.GreenAt(p, int64(tick))
		wantPhase(t, "GreenAt", green, code, want.green, impl.OK)
		wantWhole(t, "left", whole(left), whole(want.left))
	}
	// A slot ends at its own end, also if the next one has the same phase, or none as the ticks between.
	p = impl.Plan{Slots: []impl.Slot{{Green: a, Ticks: 2}, {Green: a, Ticks: 1}}}
	for tick, want := range []part{{a, 2}, {a, 1}, {a, 1}, {a, 2}} {
		green, left, code := impl.GreenAt(p, int64(tick))
		wantPhase(t, "no ticks between", green, code, want.green, impl.OK)
		wantWhole(t, "no ticks between", whole(left), whole(want.left))
	}
	p = impl.Plan{Slots: []impl.Slot{{Ticks: 2}}, Between: 3}
	for tick, left := range []int64{2, 1, 3, 2, 1, 2} {
		green, got, code := impl.GreenAt(p, int64(tick))
		wantPhase(t, "red", green, code, none, impl.OK)
		wantWhole(t, "red", whole(got), whole(left))
	}
}

func TestTicksWithGreenAreThoseOfTheModel(t *testing.T) {
	d, never, always := &draw{216}, 0, 0
	for range 3000 {
		p := d.plan()
		movement := int64(d.below(8))
		greens := modelGreens(p, movement)
		want, wantCode := int64(0), int64(impl.OK)
		for _, green := range greens {
			if green {
				want++
			}
		}
		if want == 0 {
			wantCode = impl.ErrNotFound
			never++
		}
		if want == int64(len(greens)) {
			always++
		}
		got, code := impl.GreenTicks(p, movement)
		wantWhole(t, "GreenTicks", whole(got, code), whole(want, wantCode))
		got, code = impl.LongestRed(p, movement)
		wantWhole(t, "LongestRed", whole(got, code), whole(modelRed(greens), wantCode))
		tick := int64(d.below(1000))
		if d.below(4) == 0 {
			tick = 1000000000 - int64(d.below(2))
		}
		next := tick
		for wantCode == impl.OK && !greens[next%int64(len(greens))] {
			next++
		}
		if wantCode != impl.OK {
			next = 0
		}
		got, code = impl.NextGreen(p, movement, tick)
		wantWhole(t, "NextGreen", whole(got, code), whole(next, wantCode))
		if t.Failed() {
			t.Fatalf("%v, %d at %d", p, movement, tick)
		}
	}
	if never == 0 || always == 0 {
		t.Errorf("movements that never have green %d, that always have %d", never, always)
	}
}

// modelRed begins at each tick and counts how long a movement has no green; 0 if it never has.
func modelRed(greens []bool) int64 {
	longest := 0
	for first := range greens {
		count := 0
		for count < len(greens) && !greens[(first+count)%len(greens)] {
			count++
		}
		longest = max(longest, count)
	}
	if longest == len(greens) {
		return 0
	}
	return int64(longest)
}

func TestRedsOfPlainPlans(t *testing.T) {
	a, b := phase(0), phase(1)
	p := impl.Plan{Slots: []impl.Slot{{Green: a, Ticks: 3}, {Green: b, Ticks: 2}, {Green: a, Ticks: 1}}, Between: 1}
	for offset := range int64(9) {
		p.Offset = offset
		red, code := impl.LongestRed(p, 0)
		wantWhole(t, "over a slot", whole(red, code), whole(4, 0))
		red, code = impl.LongestRed(p, 1)
		wantWhole(t, "over the end of the cycle", whole(red, code), whole(7, 0))
	}
	p = impl.Plan{Slots: []impl.Slot{{Green: a, Ticks: 3}}}
	red, code := impl.LongestRed(p, 0)
	wantWhole(t, "always green", whole(red, code), whole(0, 0))
	p.Between = 2
	red, code = impl.LongestRed(p, 0)
	wantWhole(t, "one slot", whole(red, code), whole(2, 0))
	next, code := impl.NextGreen(p, 0, 3)
	wantWhole(t, "in the ticks between", whole(next, code), whole(5, 0))
	next, code = impl.NextGreen(p, 0, 2)
	wantWhole(t, "at the last tick", whole(next, code), whole(2, 0))
	next, code = impl.NextGreen(p, 0, 1000000000)
	wantWhole(t, "at the last tick of all", whole(next, code), whole(1000000000, 0))
	p.Offset = 1
	next, code = impl.NextGreen(p, 0, 1000000000)
	wantWhole(t, "behind the last tick of all", whole(next, code), whole(1000000001, 0))
}

func TestGreensRefuse(t *testing.T) {
	p := impl.Plan{Slots: []impl.Slot{{Green: phase(0), Ticks: 3}, {Green: phase(1), Ticks: 2}}, Between: 1}
	for _, tick := range badTicks {
		green, left, code := impl.GreenAt(p, tick)
		wantPhase(t, "GreenAt", green, code, impl.Phase{}, impl.ErrRange)
		wantWhole(t, "GreenAt", whole(left), whole(0))
		for _, movement := range []int64{0, 5, 8} {
			next, code := impl.NextGreen(p, movement, tick)
			wantWhole(t, "tick", whole(next, code), whole(0, impl.ErrRange))
		}
	}
	for _, movement := range badMovements {
		got, code := impl.GreenTicks(p, movement)
		wantWhole(t, "GreenTicks", whole(got, code), whole(0, impl.ErrRange))
		got, code = impl.NextGreen(p, movement, 0)
		wantWhole(t, "NextGreen", whole(got, code), whole(0, impl.ErrRange))
		got, code = impl.LongestRed(p, movement)
		wantWhole(t, "LongestRed", whole(got, code), whole(0, impl.ErrRange))
	}
	for _, movement := range []int64{2, 7} {
		got, code := impl.GreenTicks(p, movement)
		wantWhole(t, "GreenTicks", whole(got, code), whole(0, impl.ErrNotFound))
		got, code = impl.NextGreen(p, movement, 0)
		wantWhole(t, "NextGreen", whole(got, code), whole(0, impl.ErrNotFound))
		got, code = impl.LongestRed(p, movement)
		wantWhole(t, "LongestRed", whole(got, code), whole(0, impl.ErrNotFound))
	}
}

func TestShiftedPlansAreTheSamePlanLater(t *testing.T) {
	d := &draw{217}
	for range 2000 {
		p := d.plan()
		by := []int64{int64(d.below(2000001)) - 1000000, int64(d.below(500)) - 250, 1000000, -1000000, 0}[d.below(5)]
		want := clone(p)
		want.Offset = ((p.Offset+by)%modelCycle(p) + modelCycle(p)) % modelCycle(p)
		got, code := impl.ShiftPlan(p, by)
		wantPlan(t, "ShiftPlan", got, code, want, impl.OK)
		tick := 1000000 + int64(d.below(1000))
		one, left, _ := impl.GreenAt(p, tick)
		two, later, _ := impl.GreenAt(got, tick+by)
		if one != two || left != later {
			t.Fatalf("%v by %d at %d: %v, %d, and %v, %d", p, by, tick, one, left, two, later)
		}
	}
	p := impl.Plan{Slots: []impl.Slot{{Green: phase(3), Ticks: 7}}, Offset: 5}
	for by, offset := range map[int64]int64{0: 5, 1: 6, 2: 0, -5: 0, -6: 6, -12: 0, 7: 5, 1000000: 6, -1000000: 4} {
		want := clone(p)
		want.Offset = offset
		got, code := impl.ShiftPlan(p, by)
		wantPlan(t, "plain", got, code, want, impl.OK)
	}
	for _, by := range []int64{-1000001, 1000001, 1 << 32, math.MinInt64, math.MaxInt64} {
		got, code := impl.ShiftPlan(p, by)
		wantPlan(t, "by", got, code, impl.Plan{}, impl.ErrRange)
	}
}

func TestPlansRefuseInvalidPlansFirst(t *testing.T) {
	for name, p := range badPlans() {
		for _, bad := range []int64{0, -1, 8, math.MinInt64} {
			got, code := impl.CycleOf(p)
			wantWhole(t, name, whole(got, code), whole(0, impl.ErrInvalid))
			green, left, code := impl.GreenAt(p, bad)
			wantPhase(t, name, green, code, impl.Phase{}, impl.ErrInvalid)
			wantWhole(t, name, whole(left), whole(0))
			got, code = impl.GreenTicks(p, bad)
			wantWhole(t, name, whole(got, code), whole(0, impl.ErrInvalid))
			got, code = impl.NextGreen(p, bad, bad)
			wantWhole(t, name, whole(got, code), whole(0, impl.ErrInvalid))
			got, code = impl.LongestRed(p, bad)
			wantWhole(t, name, whole(got, code), whole(0, impl.ErrInvalid))
			shift, code := impl.ShiftPlan(p, bad)
			wantPlan(t, name, shift, code, impl.Plan{}, impl.ErrInvalid)
		}
		for _, c := range []impl.Table{{}, allConflict(8)} {
			at, i, k, code := impl.SoundPlan(c, p)
			wantWhole(t, name, whole(at, i, k, code), whole(0, 0, 0, impl.ErrInvalid))
		}
		if text := impl.PlanText(p); text != "" {
			t.Errorf("%s: %q", name, text)
		}
	}
	p := impl.Plan{Slots: []impl.Slot{{Green: phase(0, 1), Ticks: 1}}}
	for name, c := range badTables() {
		at, i, k, code := impl.SoundPlan(c, p)
		wantWhole(t, name, whole(at, i, k, code), whole(0, 0, 0, impl.ErrInvalid))
	}
}

func TestExampleOfSignals(t *testing.T) {
	c, code := impl.CrossTable([8]int64{0, 1, 2}, [8]int64{2, 3, 0}, 3)
	if !c[0][1] || c[0][2] || !c[1][2] || code != impl.OK {
		t.Errorf("CrossTable: %v, %d", c, code)
	}
	p := impl.Plan{Slots: []impl.Slot{{Green: phase(0), Ticks: 3}, {Green: phase(1), Ticks: 2}}, Between: 1}
	cycle, code := impl.CycleOf(p)
	wantWhole(t, "CycleOf", whole(cycle, code), whole(7, 0))
	next, code := impl.NextGreen(p, 1, 0)
	wantWhole(t, "NextGreen", whole(next, code), whole(4, 0))
	red, code := impl.LongestRed(p, 0)
	wantWhole(t, "LongestRed", whole(red, code), whole(4, 0))
	got, code := impl.ShareGreen([]impl.Phase{phase(0), phase(1)}, [8]float32{2, 1}, 8, 1)
	want := impl.Plan{Slots: []impl.Slot{{Green: phase(0), Ticks: 4}, {Green: phase(1), Ticks: 2}}, Between: 1}
	wantPlan(t, "ShareGreen", got, code, want, impl.OK)
}
