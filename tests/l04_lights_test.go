package tests

import (
	"math"
	"strconv"
	"strings"
	"testing"

	"loop.example/g01227/impl"
)

func wantLight(t *testing.T, name string, got impl.Light, code int64, want impl.Light, wantCode int64) {
	t.Helper()
	if got != want || code != wantCode {
		t.Errorf("%s: got %v, %d, want %v, %d", name, got, code, want, wantCode)
	}
}

func (d *draw) light(p impl.Plan) impl.Light {
	l := impl.Light{Slot: int64(d.below(len(p.Slots))), Red: p.Between > 0 && d.below(2) == 0}
	l.Since = int64([]int{d.below(12), d.below(12), d.below(300), d.below(1000001), 999999, 1000000}[d.below(6)])
	return l
}

// modelLight goes on with a light that may do so.
func modelLight(p impl.Plan, l impl.Light, calls impl.Phase, least, most int64) (impl.Light, int64) {
	if l.Since == 1000000 {
		return impl.Light{}, impl.ErrState
	}
	later := impl.Light{Slot: l.Slot, Since: l.Since + 1, Red: l.Red}
	next := impl.Light{Slot: l.Slot + 1}
	if next.Slot == int64(len(p.Slots)) {
		next.Slot = 0
	}
	if l.Red {
		if later.Since == p.Between {
			return next, impl.OK
		}
		return later, impl.OK
	}
	called := false
	for m, green := range p.Slots[l.Slot].Green {
		called = called || green && calls[m]
	}
	ends := later.Since >= most
	if later.Since >= least && !called {
		ends = true
	}
	switch {
	case !ends:
		return later, impl.OK
	case p.Between == 0:
		return next, impl.OK
	}
	return impl.Light{Slot: l.Slot, Red: true}, impl.OK
}

func TestStepLightIsThatOfTheModel(t *testing.T) {
	d := &draw{240}
	for range 30000 {
		p := d.plan()
		l, calls := d.light(p), impl.Phase{}
		if d.below(3) > 0 {
			calls = d.phase()
		}
		least := int64(1 + d.below([]int{3, 20, 240}[d.below(3)]))
		most := least + int64(d.below(int(241-least)))
		want, wantCode := modelLight(p, l, calls, least, most)
		got, code := impl.StepLight(p, l, calls, least, most)
		wantLight(t, "StepLight", got, code, want, wantCode)
		if t.Failed() {
			t.Fatalf("%v %v %v %d %d", p, l, calls, least, most)
		}
	}
}

func TestPlainLights(t *testing.T) {
	if l := impl.FirstLight(); l != (impl.Light{}) {
		t.Errorf("FirstLight: %v", l)
	}
	slots := []impl.Slot{{Green: phase(0, 3), Ticks: 50}, {Green: phase(1), Ticks: 1}}
	three, none := impl.Plan{Slots: slots, Between: 3}, impl.Plan{Slots: slots}
	called, other := phase(3, 7), phase(1, 2)
	for _, x := range []struct {
		name    string
		p       impl.Plan
		l, want impl.Light
		calls   impl.Phase
	}{
		{"fewer than least", three, impl.Light{Since: 2}, impl.Light{Since: 3}, other},
		{"at least", three, impl.Light{Since: 3}, impl.Light{Red: true}, other},
		{"behind least", three, impl.Light{Since: 4}, impl.Light{Red: true}, impl.Phase{}},
		{"called", three, impl.Light{Since: 4}, impl.Light{Since: 5}, called},
		{"called, at most", three, impl.Light{Since: 5}, impl.Light{Red: true}, called},
		{"called, behind most", three, impl.Light{Since: 90}, impl.Light{Red: true}, called},
		{"called, the last one", three, impl.Light{Slot: 1, Since: 4}, impl.Light{Slot: 1, Since: 5}, other},
		{"the last one", three, impl.Light{Slot: 1, Since: 4}, impl.Light{Slot: 1, Red: true}, called},
		{"red", three, impl.Light{Since: 0, Red: true}, impl.Light{Since: 1, Red: true}, called},
		{"red for a while", three, impl.Light{Since: 1, Red: true}, impl.Light{Since: 2, Red: true}, impl.Phase{}},
		{"red comes to its end", three, impl.Light{Since: 2, Red: true}, impl.Light{Slot: 1}, called},
		{"red of the last one", three, impl.Light{Slot: 1, Since: 2, Red: true}, impl.Light{}, called},
		{"red for longer", three, impl.Light{Since: 3, Red: true}, impl.Light{Since: 4, Red: true}, impl.Phase{}},
		{"red for very long", three, impl.Light{Since: 999999, Red: true}, impl.Light{Since: 1000000, Red: true}, impl.Phase{}},
		{"green for very long", three, impl.Light{Since: 999999}, impl.Light{Red: true}, called},
		{"nothing between", none, impl.Light{Since: 3}, impl.Light{Slot: 1}, other},
		{"nothing between, the last one", none, impl.Light{Slot: 1, Since: 3}, impl.Light{}, called},
		{"nothing between, called", none, impl.Light{Since: 4}, impl.Light{Since: 5}, called},
		{"nothing between, at most", none, impl.Light{Since: 5}, impl.Light{Slot: 1}, called},
	} {
		got, code := impl.StepLight(x.p, x.l, x.calls, 4, 6)
		wantLight(t, x.name, got, code, x.want, impl.OK)
	}
	single := impl.Plan{Slots: slots[:1]}
	got, code := impl.StepLight(single, impl.Light{}, impl.Phase{}, 1, 1)
	wantLight(t, "one slot", got, code, impl.Light{}, impl.OK)
	got, code = impl.StepLight(three, impl.Light{Since: 239}, called, 240, 240)
	wantLight(t, "greatest least", got, code, impl.Light{Red: true}, impl.OK)
	// No plan's ticks are those of a light: it goes by calls alone.
	got, code = impl.StepLight(three, impl.Light{Slot: 1, Since: 60}, phase(1), 1, 240)
	wantLight(t, "longer than the slot", got, code, impl.Light{Slot: 1, Since: 61}, impl.OK)
}

// TestLightsServeAllSlots calls as it comes, and waits for each slot as long as it may take.
func TestLightsServeAllSlots(t *testing.T) {
	d := &draw{241}
	for range 200 {
		p := d.plan()
		least := int64(1 + d.below(10))
		most := least + int64(d.below(10))
		l, served, slots := impl.FirstLight(), map[int64]int{}, int64(len(p.Slots))
		for range 3 * slots * (most + p.Between) {
			served[l.Slot]++
			next, code := impl.StepLight(p, l, d.phase(), least, most)
			if code != impl.OK {
				t.Fatalf("%v of %v: %d", l, p, code)
			}
			if next.Slot != l.Slot && (next.Slot != (l.Slot+1)%slots || next.Since != 0 || next.Red) {
				t.Fatalf("%v behind %v", next, l)
			}
			l = next
		}
		for slot := range slots {
			if int64(served[slot]) < 3*least {
				t.Fatalf("the slot %d of %v was served in %d ticks", slot, p, served[slot])
			}
		}
	}
}

func TestLightPhase(t *testing.T) {
	d := &draw{242}
	for range 3000 {
		p := d.plan()
		l := d.light(p)
		want := p.Slots[l.Slot].Green
		if l.Red {
			want = impl.Phase{}
		}
		got, code := impl.LightPhase(p, l)
		wantPhase(t, "LightPhase", got, code, want, impl.OK)
	}
}

func TestLightsRefuse(t *testing.T) {
	slots := []impl.Slot{{Green: phase(0), Ticks: 3}, {Green: phase(1), Ticks: 2}}
	one, none := impl.Plan{Slots: slots, Between: 1}, impl.Plan{Slots: slots}
	refused := func(name string, p impl.Plan, l impl.Light, least, most, want int64) {
		t.Helper()
		got, code := impl.StepLight(p, l, phase(0), least, most)
		wantLight(t, name, got, code, impl.Light{}, want)
		if want == impl.ErrInvalid {
			green, code := impl.LightPhase(p, l)
			wantPhase(t, name, green, code, impl.Phase{}, want)
		}
	}
	for name, p := range badPlans() {
		refused(name, p, impl.Light{}, 1, 5, impl.ErrInvalid)
		refused(name, p, impl.Light{Slot: -1}, 0, 0, impl.ErrInvalid)
	}
	for _, bad := range []int64{-1, 2, 3, 1 << 32, math.MinInt64, math.MaxInt64} {
		refused("slot", one, impl.Light{Slot: bad}, 1, 5, impl.ErrInvalid)
		refused("slot and least", one, impl.Light{Slot: bad}, 0, 5, impl.ErrInvalid)
	}
	for _, bad := range []int64{-1, 1000001, 1 << 32, math.MinInt64, math.MaxInt64} {
		refused("since", one, impl.Light{Since: bad}, 1, 5, impl.ErrInvalid)
		refused("since, red", one, impl.Light{Since: bad, Red: true}, 0, 0, impl.ErrInvalid)
	}
	refused("red, nothing between", none, impl.Light{Red: true}, 1, 5, impl.ErrInvalid)
	for _, bad := range []int64{0, -1, 241, 1 << 32, math.MinInt64, math.MaxInt64} {
		for _, since := range []int64{0, 1000000} {
			refused("least", one, impl.Light{Since: since}, bad, bad, impl.ErrRange)
			refused("least", one, impl.Light{Since: since}, bad, 240, impl.ErrRange)
			refused("most", one, impl.Light{Since: since}, 1, bad, impl.ErrRange)
		}
	}
	refused("most less than least", one, impl.Light{}, 5, 4, impl.ErrRange)
	refused("since for too long", one, impl.Light{Since: 1000000}, 1, 5, impl.ErrState)
	refused("red for too long", one, impl.Light{Since: 1000000, Red: true}, 1, 5, impl.ErrState)
	refused("too long, nothing between", none, impl.Light{Since: 1000000}, 240, 240, impl.ErrState)
	green, code := impl.LightPhase(one, impl.Light{Slot: 1, Since: 1000000})
	wantPhase(t, "for long", green, code, phase(1), impl.OK)
}

func TestPlanText(t *testing.T) {
	p := impl.Plan{Slots: []impl.Slot{{Green: phase(0, 7), Ticks: 30}, {Ticks: 1}, {Green: phase(0, 1, 2, 3, 4, 5, 6, 7), Ticks: 2}}, Between: 10, Offset: 12}
	text := "plan 10 12 129 30 0 1 255 2"
	if got := impl.PlanText(p); got != text {
		t.Errorf("got %q, want %q", got, text)
	}
	back, code := impl.ReadPlan(text)
	wantPlan(t, "read", back, code, p, impl.OK)
	d := &draw{243}
	for range 3000 {
		p := d.plan()
		back, code := impl.ReadPlan(impl.PlanText(p))
		wantPlan(t, "read back", back, code, p, impl.OK)
	}
}

// loosePlanText writes a plan that need not be valid as PlanText would.
func loosePlanText(p impl.Plan) string {
	list := whole(p.Between, p.Offset)
	for _, slot := range p.Slots {
		list = append(list, impl.NumberOfPhase(slot.Green), slot.Ticks)
	}
	words := []string{"plan"}
	for _, n := range list {
		words = append(words, strconv.FormatInt(n, 10))
	}
	return strings.Join(words, " ")
}

func badPlanTexts() []string {
	text := "plan 1 6 1 3 130 2"
	words := strings.Split(text, " ")
	list := []string{
		"", " ", "plan", "plan ", "plan 0", "plan 0 0", "plan 0 0 ", "plan 0 0 1", "plan 1 6 1 3 130", "plan 1 6 1 3 130 2 1",
		" " + text, text + " ", text + "\n", "\n" + text, text + "\r", "Plan" + text[4:], "plans" + text[4:], "road" + text[4:], text[5:], strings.ToUpper(text),
		strings.Replace(text, " ", "  ", 1), strings.ReplaceAll(text, " ", "\t"), strings.Join(words, ","), text + " " + text, "plan 0 0" + strings.Repeat(" 1 1", 9),
		strings.Repeat(" ", 18), strings.Repeat(" ", 1000000), strings.Repeat("1 ", 500000), strings.Repeat("x", 1000000), "plan 0 0" + strings.Repeat(" 1 1", 240000),
	}
	for at := range words {
		bads := []string{"", "00", "01", "+1", "-1", "-0", "+0", "1.0", "1e0", "0x1", "1_0", "x", "256", "999", "９", "9223372036854775807", "-9223372036854775808", "9223372036854775808", "18446744073709551617", "4294967297"}
		for _, bad := range bads {
			other := append([]string{}, words...)
			other[at] = bad
			list = append(list, strings.Join(other, " "))
		}
	}
	for _, bad := range badPlans() {
		list = append(list, loosePlanText(bad))
	}
	return list
}

func TestReadPlanRefuses(t *testing.T) {
	for _, bad := range badPlanTexts() {
		got, code := impl.ReadPlan(bad)
		if len(bad) > 200 {
			bad = bad[:200]
		}
		wantPlan(t, "ReadPlan "+bad, got, code, impl.Plan{}, impl.ErrSyntax)
	}
}
