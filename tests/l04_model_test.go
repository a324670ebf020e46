package tests

import (
	"math"
	"testing"

	"loop.example/g01227/impl"
)

// phase makes the phase in which some movements have green.
func phase(movements ...int) impl.Phase {
	var p impl.Phase
	for _, m := range movements {
		p[m] = true
	}
	return p
}

// table makes a table of pairs that conflict.
func table(pairs ...[2]int) impl.Table {
	var c impl.Table
	for _, p := range pairs {
		c[p[0]][p[1]], c[p[1]][p[0]] = true, true
	}
	return c
}

func (d *draw) phase() impl.Phase {
	var p impl.Phase
	dense := 1 + d.below(7)
	for i := range p {
		p[i] = d.below(8) < dense
	}
	return p
}

func (d *draw) table() impl.Table {
	var pairs [][2]int
	dense := d.below(9)
	for i := range 8 {
		for k := range i {
			if d.below(8) < dense {
				pairs = append(pairs, [2]int{i, k})
			}
		}
	}
	return table(pairs...)
}

// plan draws a plan, some with no ticks between, some with as long a cycle as there may be.
func (d *draw) plan() impl.Plan {
	return d.planOf(1+d.below(8), d.below(2)*d.below(8), 1+d.below(20))
}

func (d *draw) planOf(slots, between, most int) impl.Plan {
	p := impl.Plan{Between: int64(between)}
	for range slots {
		p.Slots = append(p.Slots, impl.Slot{Green: d.phase(), Ticks: 1 + int64(d.below(most))})
	}
	if d.below(5) == 0 {
		p.Slots[d.below(slots)].Ticks += 240 - modelCycle(p)
	}
	p.Offset = int64(d.below(int(modelCycle(p))))
	return p
}

// part is what a plan has at a tick: a slot, or the ticks behind one.
type part struct {
	green impl.Phase
	left  int64
}

// modelParts writes out a cycle of a plan tick by tick, from its Offset on.
func modelParts(p impl.Plan) []part {
	var list []part
	for _, slot := range p.Slots {
		for left := slot.Ticks; left > 0; left-- {
			list = append(list, part{slot.Green, left})
		}
		for left := p.Between; left > 0; left-- {
			list = append(list, part{impl.Phase{}, left})
		}
	}
	return list
}

func modelCycle(p impl.Plan) int64 { return int64(len(modelParts(p))) }

func modelAt(p impl.Plan, tick int64) part {
	list := modelParts(p)
	for tick < p.Offset {
		tick += int64(len(list))
	}
	return list[(tick-p.Offset)%int64(len(list))]
}

// modelGreens tells for each tick of the cycle that begins at the tick 0 whether a movement has green.
func modelGreens(p impl.Plan, movement int64) []bool {
	list := modelParts(p)
	greens := make([]bool, len(list))
	for i, at := range list {
		greens[(int64(i)+p.Offset)%int64(len(list))] = at.green[movement]
	}
	return greens
}

func clone(p impl.Plan) impl.Plan {
	p.Slots = append([]impl.Slot{}, p.Slots...)
	return p
}

// samePlan is written by itself, so that a fault in SamePlan does not hide others.
func samePlan(p, q impl.Plan) bool {
	if len(p.Slots) != len(q.Slots) || p.Between != q.Between || p.Offset != q.Offset {
		return false
	}
	for i, slot := range p.Slots {
		if slot != q.Slots[i] {
			return false
		}
	}
	return true
}

func wantPlan(t *testing.T, name string, got impl.Plan, code int64, want impl.Plan, wantCode int64) {
	t.Helper()
	if !samePlan(got, want) || code != wantCode {
		t.Errorf("%s: got %v, %d, want %v, %d", name, got, code, want, wantCode)
	}
}

func wantPhase(t *testing.T, name string, got impl.Phase, code int64, want impl.Phase, wantCode int64) {
	t.Helper()
	if got != want || code != wantCode {
		t.Errorf("%s: got %v, %d, want %v, %d", name, got, code, want, wantCode)
	}
}

func wantPhases(t *testing.T, name string, got []impl.Phase, code int64, want []impl.Phase, wantCode int64) {
	t.Helper()
	equal := len(got) == len(want)
	for i := range got {
		equal = equal && got[i] == want[i]
	}
	if !equal || code != wantCode {
		t.Errorf("%s: got %v, %d, want %v, %d", name, got, code, want, wantCode)
	}
}

// wantWhole compares several whole numbers, the last one being a code.
func wantWhole(t *testing.T, name string, got, want []int64) {
	t.Helper()
	equal := len(got) == len(want)
	for i := range got {
		equal = equal && got[i] == want[i]
	}
	if !equal {
		t.Errorf("%s: got %v, want %v", name, got, want)
	}
}

func whole(list ...int64) []int64 { return list }

// badTables returns tables that are just not valid.
func badTables() map[string]impl.Table {
	out := map[string]impl.Table{}
	put := func(name string, i, k int) {
		c := table([2]int{0, 1}, [2]int{2, 7})
		c[i][k] = !c[i][k]
		out[name] = c
	}
	put("the first one conflicts with itself", 0, 0)
	put("one conflicts with itself", 3, 3)
	put("the last one conflicts with itself", 7, 7)
	put("one way only", 4, 5)
	put("the other way only", 5, 4)
	put("the last one, one way only", 6, 7)
	put("the last one, the other way only", 7, 6)
	put("one way lacks", 0, 1)
	put("the other way lacks", 7, 2)
	return out
}

// badPlans returns plans each of which is just not valid in one thing.
func badPlans() map[string]impl.Plan {
	out := map[string]impl.Plan{"zero": {}, "no slots": {Slots: []impl.Slot{}}}
	put := func(name string, change func(*impl.Plan)) {
		p := impl.Plan{Slots: []impl.Slot{{Green: phase(0), Ticks: 3}, {Green: phase(1, 7), Ticks: 2}}, Between: 1, Offset: 6}
		change(&p)
		out[name] = p
	}
	put("no slots, between", func(p *impl.Plan) { p.Slots, p.Offset = nil, 0 })
	for name, ticks := range map[string]int64{"0": 0, "-1": -1, "least": math.MinInt64, "greatest": math.MaxInt64, "2 in the low bits": 1<<32 + 2, "240": 240} {
		put("first ticks "+name, func(p *impl.Plan) { p.Slots[0].Ticks, p.Offset = ticks, 0 })
		put("last ticks "+name, func(p *impl.Plan) { p.Slots[1].Ticks, p.Offset = ticks, 0 })
	}
	for name, between := range map[string]int64{"-1": -1, "least": math.MinInt64, "greatest": math.MaxInt64, "half of the greatest": 1 << 62, "least and 1": math.MinInt64 + 1, "118": 118} {
		put("between "+name, func(p *impl.Plan) { p.Between, p.Offset = between, 0 })
	}
	put("a sum that is 7 where it overflows", func(p *impl.Plan) {
		p.Slots = []impl.Slot{{Ticks: math.MaxInt64}, {Ticks: math.MaxInt64}, {Ticks: 6}}
	})
	put("a sum that is 6 where the ticks between overflow", func(p *impl.Plan) {
		p.Slots, p.Between, p.Offset = append(p.Slots, p.Slots...), 1<<62-1, 0
	})
	for name, offset := range map[string]int64{"-1": -1, "the cycle": 7, "more": 8, "least": math.MinInt64, "greatest": math.MaxInt64} {
		put("offset "+name, func(p *impl.Plan) { p.Offset = offset })
	}
	put("a long cycle", func(p *impl.Plan) { p.Slots[0].Ticks, p.Offset = 237, 0 })
	put("many slots", func(p *impl.Plan) {
		p.Slots = nil
		for range 9 {
			p.Slots = append(p.Slots, impl.Slot{Ticks: 1})
		}
	})
	return out
}

// badMovements are no movements, and badTicks no ticks.
var (
	badMovements = []int64{-1, 8, 9, 1 << 32, math.MinInt64, math.MaxInt64}
	badTicks     = []int64{-1, 1000000001, 1 << 32, math.MinInt64, math.MaxInt64}
)
