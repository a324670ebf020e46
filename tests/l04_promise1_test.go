package tests

import (
	"math"
	"strings"
	"testing"

	"loop.example/g01227/impl"
)

func (n *noter) phases(list ...impl.Phase) {
	for _, p := range list {
		for _, green := range p {
			n.truth(green)
		}
	}
}

func (n *noter) plan(p impl.Plan) {
	n.whole(p.Between, p.Offset)
	for _, slot := range p.Slots {
		n.phases(slot.Green)
		n.whole(slot.Ticks)
	}
}

// crossing is what the functions of chapter 4 are called with.
type crossing struct {
	from, to       [8]int64
	c              impl.Table
	p, q           impl.Plan
	green, calls   impl.Phase
	movement, tick int64
	a, b           int64
	demands        [8]float32
	phases         []impl.Phase
	plans          []impl.Plan
	times          []int64
	light          impl.Light
	text           string
}

// signalAnswers calls every function of chapter 4, and writes down all that they return.
func signalAnswers(x crossing) string {
	n := &noter{}
	n.truth(impl.ValidTable(x.c))
	c, code := impl.CrossTable(x.from, x.to, x.movement)
	for _, row := range c {
		n.phases(row)
	}
	n.whole(code)
	clear, code := impl.IsClear(x.c, x.green)
	n.truth(clear)
	n.whole(code)
	three := func(a, b, code int64) { n.whole(a, b, code) }
	two := func(a, code int64) { n.whole(a, code) }
	one := func(p impl.Phase, code int64) { n.phases(p); n.whole(code) }
	list := func(l []impl.Phase, code int64) { n.phases(l...); n.whole(code) }
	plan := func(p impl.Plan, code int64) { n.plan(p); n.whole(code) }
	three(impl.FirstConflict(x.c, x.green))
	n.whole(impl.NumberOfPhase(x.green))
	one(impl.PhaseOf(x.a))
	list(impl.GreatestPhases(x.c))
	list(impl.FewestPhases(x.c, x.green))
	n.truth(impl.ValidPlan(x.p))
	n.truth(impl.SamePlan(x.p, x.q))
	at, i, k, code := impl.SoundPlan(x.c, x.p)
	n.whole(at, i, k, code)
	two(impl.CycleOf(x.p))
	green, left, code := impl.GreenAt(x.p, x.tick)
	one(green, code)
	n.whole(left)
	two(impl.GreenTicks(x.p, x.movement))
	two(impl.NextGreen(x.p, x.movement, x.tick))
	two(impl.LongestRed(x.p, x.movement))
	plan(impl.ShiftPlan(x.p, x.a))
	plan(impl.ShareGreen(x.phases, x.demands, x.a, x.b))
	wave, code := impl.WaveOf(x.plans, x.times, x.movement)
	for _, p := range wave {
		n.plan(p)
	}
	n.whole(code)
	two(impl.WaveWidth(x.plans, x.times, x.movement))
	later, code := impl.StepLight(x.p, x.light, x.calls, x.a, x.b)
	for _, l := range []impl.Light{later, impl.FirstLight()} {
		n.whole(l.Slot, l.Since, code)
		n.truth(l.Red)
	}
	one(impl.LightPhase(x.p, x.light))
	n.out = append(n.out, impl.PlanText(x.p))
	plan(impl.ReadPlan(x.text))
	return strings.Join(n.out, " ")
}

// kept copies what lies behind slices, their unused capacity as well.
func (x crossing) kept() string {
	n := &noter{}
	n.phases(x.phases[:cap(x.phases)]...)
	n.whole(x.times[:cap(x.times)]...)
	for _, p := range append([]impl.Plan{x.p, x.q}, x.plans[:cap(x.plans)]...) {
		p.Slots = p.Slots[:cap(p.Slots)]
		n.plan(p)
	}
	return strings.Join(n.out, " ")
}

// roomy returns a plan whose slots have unused capacity.
func (d *draw) roomy(p impl.Plan) impl.Plan {
	count := len(p.Slots)
	slots := append(append([]impl.Slot{}, p.Slots...), impl.Slot{Green: d.phase(), Ticks: 77}, impl.Slot{Ticks: 78})
	p.Slots = slots[:count]
	return p
}

func (d *draw) oneOf(list ...int64) int64 { return list[d.below(len(list))] }

func (d *draw) crossing(plans []impl.Plan, tables []impl.Table, texts []string) crossing {
	odd := []int64{0, 1, 2, 3, 5, 8, 20, 100, 240, 241, -1, 255, 256, 1000000, 1000001, -1000000, 1000000000, 1000000001, 1 << 62, math.MinInt64, math.MaxInt64}
	x := crossing{c: tables[d.below(len(tables))], p: plans[d.below(len(plans))], q: plans[d.below(len(plans))]}
	x.green, x.calls = d.phase(), d.phase()
	x.movement, x.tick = int64(d.below(9)), d.oneOf(odd...)
	x.a, x.b = d.oneOf(odd...), d.oneOf(odd...)
	if d.below(2) == 0 {
		x.a, x.b = int64(1+d.below(20)), int64(d.below(30))
	}
	for i := range min(x.movement, 8) {
		x.from[i], x.to[i] = int64(d.below(4)), int64(d.below(4))
	}
	x.demands = d.demands()
	if d.below(4) == 0 {
		x.demands[d.below(8)] = badAmounts[d.below(len(badAmounts))]
		x.movement, x.from[d.below(8)] = d.oneOf(odd...), d.oneOf(odd...)
	}
	for range d.below(10) {
		x.phases = append(x.phases, d.phase())
	}
	if x.plans, x.times = d.row(int64(d.below(8))); d.below(4) == 0 {
		x.plans = append(x.plans, plans[d.below(len(plans))])
		x.times = append(x.times, d.oneOf(odd...))
	}
	x.light = impl.Light{Slot: int64(d.below(4)), Since: d.oneOf(odd...), Red: d.below(2) == 0}
	if x.text = texts[d.below(len(texts))]; len(x.text) > 1000 && d.below(30) > 0 {
		x.text = ""
	}
	return x
}

func TestPromise1OfSignals(t *testing.T) {
	d := &draw{250}
	var plans []impl.Plan
	var tables []impl.Table
	for _, p := range badPlans() {
		plans = append(plans, d.roomy(p))
	}
	for _, c := range badTables() {
		tables = append(tables, c)
	}
	texts := badPlanTexts()
	for range 60 {
		p := d.roomy(d.plan())
		plans = append(plans, p)
		tables = append(tables, d.table())
		texts = append(texts, impl.PlanText(p))
	}
	for range 2000 {
		x := d.crossing(plans, tables, texts)
		before := x.kept()
		first := signalAnswers(x)
		if again := signalAnswers(x); again != first {
			t.Fatalf("other answers for the same arguments:\n%s\n%s", first, again)
		}
		if x.kept() != before {
			t.Fatal("an argument is changed, or what lies behind it")
		}
	}
}

// TestPlansThatAreReturnedAreNew writes into each plan that is returned, and into what lies behind it.
func TestPlansThatAreReturnedAreNew(t *testing.T) {
	p := impl.Plan{Slots: []impl.Slot{{Green: phase(0), Ticks: 3}, {Green: phase(1), Ticks: 2}}, Between: 1}
	old := clone(p)
	scrawl := func(q impl.Plan) {
		for i := range q.Slots[:cap(q.Slots)] {
			q.Slots[:cap(q.Slots)][i] = impl.Slot{Ticks: 99}
		}
	}
	shift, _ := impl.ShiftPlan(p, 3)
	same, _ := impl.ShiftPlan(p, 0)
	single, _ := impl.WaveOf([]impl.Plan{p}, nil, 0)
	scrawl(shift)
	scrawl(same)
	scrawl(single[0])
	if !samePlan(p, old) {
		t.Fatalf("the plan is %v", p)
	}
	wave, _ := impl.WaveOf([]impl.Plan{p, p, p}, whole(0, 7), 0)
	for i := range wave {
		scrawl(wave[i])
		for k := range wave {
			if k > i && !samePlan(wave[k], old) {
				t.Fatalf("the plans %d and %d share memory", i, k)
			}
		}
	}
	if !samePlan(p, old) {
		t.Fatalf("the plan is %v", p)
	}
}

func TestPhasesThatAreReturnedAreNew(t *testing.T) {
	c := table([2]int{0, 1})
	for _, f := range []func() ([]impl.Phase, int64){
		func() ([]impl.Phase, int64) { return impl.GreatestPhases(c) },
		func() ([]impl.Phase, int64) { return impl.FewestPhases(c, phase(0, 1)) },
	} {
		one, _ := f()
		two, _ := f()
		one[0], one[1] = impl.Phase{}, impl.Phase{}
		three, code := f()
		wantPhases(t, "again", three, code, two, impl.OK)
	}
	phases := []impl.Phase{phase(0), phase(1)}
	p, _ := impl.ShareGreen(phases, [8]float32{}, 8, 1)
	phases[0] = phase(5)
	if p.Slots[0].Green != phase(0) {
		t.Error("a plan changes with the phases that it was made of")
	}
}

func TestManyPlansAndSlots(t *testing.T) {
	p := impl.Plan{Slots: []impl.Slot{{Green: phase(0), Ticks: 3}}}
	many := make([]impl.Plan, 100000)
	for i := range many {
		many[i] = p
	}
	wantWaveRefused(t, "many plans", many, make([]int64, len(many)-1), 0, impl.ErrRange)
	many[len(many)-1].Offset = 3
	wantWaveRefused(t, "many plans, the last one not valid", many, nil, 0, impl.ErrInvalid)
	wantWaveRefused(t, "many times", many[:2], make([]int64, 1000000), 0, impl.ErrRange)
	p.Slots = make([]impl.Slot, 200000)
	if _, code := impl.CycleOf(p); code != impl.ErrInvalid {
		t.Errorf("many slots: %d", code)
	}
	if !impl.SamePlan(p, clone(p)) {
		t.Error("many slots are not the same")
	}
}
