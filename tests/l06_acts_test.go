package tests

import (
	"math"
	"testing"

	"loop.example/g01227/impl"
)

// mentions tells which numbers the text of each kind has.
var mentions = map[int64]string{1: "AF", 2: "ABF", 3: "AB", 4: "A", 5: "ABCF", 6: "A"}

func (d *draw) fraction() float32 {
	a := float32(d.below(1000)) / float32(int(1)<<d.below(11))
	if d.below(4) == 0 {
		return 0 - a
	}
	return a
}

// act draws an act that may do something to a town.
func (d *draw) act() impl.Act {
	a := impl.Act{Kind: 1 + int64(d.below(6)), A: int64(d.below(5))}
	switch a.Kind {
	case impl.AcOffer:
		a.F = d.share()
	case impl.AcBlock:
		a.B, a.F = int64(d.below(17)), d.share()
	case impl.AcPlan:
		a.B = int64(d.below(3))
	case impl.AcTurn:
		a.A, a.B, a.C, a.F = int64(d.below(3)), int64(d.below(3)), int64(d.below(3)), d.share()
		if d.below(2) == 0 {
			a.F = 1
		}
	case impl.AcWait:
		a.A = int64(d.below(30))
	}
	if d.below(10) == 0 && a.Kind != impl.AcPlan && a.Kind < impl.AcFree {
		a.F = d.fraction()
	}
	return a
}

func TestValidAct(t *testing.T) {
	for kind, names := range mentions {
		for _, name := range []string{"A", "B", "C", "F"} {
			has := false
			for i := range names {
				has = has || names[i:i+1] == name
			}
			for _, n := range []int64{0, 1, 7, 120, 998, 999} {
				a := impl.Act{Kind: kind}
				set(&a, name, n)
				if impl.ValidAct(a) != (has || n == 0) {
					t.Errorf("%v: %v", a, !has)
				}
			}
			for _, n := range []int64{-1, 1000, 1 << 32, math.MinInt64, math.MaxInt64} {
				a := impl.Act{Kind: kind}
				if set(&a, name, n); name != "F" && impl.ValidAct(a) {
					t.Errorf("%v is valid", a)
				}
			}
		}
		for _, f := range []float32{-1, smallest, -smallest, 0.1, math.MaxFloat32, -math.MaxFloat32} {
			if got, want := impl.ValidAct(impl.Act{Kind: kind, F: f}), names[len(names)-1] == 'F'; got != want {
				t.Errorf("kind %d with %v: %v", kind, f, got)
			}
		}
		for _, f := range []float32{minusZero, inf, minusInf, nan, otherNaN} {
			if impl.ValidAct(impl.Act{Kind: kind, F: f}) {
				t.Errorf("kind %d with %v is valid", kind, f)
			}
		}
	}
	for _, kind := range []int64{0, -1, 7, 8, 1<<32 + 1, math.MinInt64, math.MaxInt64} {
		if impl.ValidAct(impl.Act{Kind: kind}) {
			t.Errorf("kind %d is valid", kind)
		}
	}
	if !impl.ValidAct(impl.Act{Kind: impl.AcTurn, A: 999, B: 999, C: 999, F: -0.3}) {
		t.Error("a full act is not valid")
	}
}

func set(a *impl.Act, name string, n int64) {
	switch name {
	case "A":
		a.A = n
	case "B":
		a.B = n
	case "C":
		a.C = n
	case "F":
		a.F = float32(n)
	}
}

// badActs are acts that are not valid.
func badActs() []impl.Act {
	return []impl.Act{{}, {Kind: 7}, {Kind: -1}, {Kind: impl.AcOffer, A: -1}, {Kind: impl.AcOffer, A: 1000}, {Kind: impl.AcOffer, B: 1},
		{Kind: impl.AcBlock, C: 1}, {Kind: impl.AcPlan, F: 1}, {Kind: impl.AcFree, B: 1}, {Kind: impl.AcTurn, C: -1},
		{Kind: impl.AcOffer, F: nan}, {Kind: impl.AcOffer, F: inf}, {Kind: impl.AcWait, F: minusZero}, {Kind: impl.AcWait, A: 1000}}
}

// wantDone does an act by itself, and as the only one of a list.
func wantDone(t *testing.T, name string, x impl.Town, a impl.Act, want impl.Town, wantCode int64) {
	t.Helper()
	got, code := impl.DoAct(x, a)
	wantTown(t, name, got, code, want, wantCode)
	got, done, code := impl.RunActs(x, []impl.Act{a})
	count := int64(1)
	if code != impl.OK {
		count = 0
	}
	wantTown(t, name+", run", got, code, want, wantCode)
	wantWhole(t, name+", done", whole(done), whole(count))
}

func TestPlainActs(t *testing.T) {
	for name, c := range map[string]struct {
		a      impl.Act
		change func(*impl.Town)
	}{
		"offer":                     {impl.Act{Kind: impl.AcOffer, A: 1, F: 0.5}, func(x *impl.Town) { x.Offered[1] = 0.5 }},
		"offer nothing":             {impl.Act{Kind: impl.AcOffer}, func(x *impl.Town) { x.Offered[0] = 0 }},
		"offer much":                {impl.Act{Kind: impl.AcOffer, F: math.MaxFloat32}, func(x *impl.Town) { x.Offered[0] = math.MaxFloat32 }},
		"block":                     {impl.Act{Kind: impl.AcBlock, A: 2, B: 3, F: 1}, func(x *impl.Town) { x.Roads[2].Cars[3] = 1 }},
		"block the last cell":       {impl.Act{Kind: impl.AcBlock, A: 4, B: 15, F: 0.25}, func(x *impl.Town) { x.Roads[4].Cars[15] = 0.25 }},
		"plan":                      {impl.Act{Kind: impl.AcPlan, A: 1, B: 1}, func(x *impl.Town) { x.Joints[1].Plan = 1 }},
		"the first plan":            {impl.Act{Kind: impl.AcPlan}, func(x *impl.Town) { x.Joints[0].Plan = 0 }},
		"the plan that it has":      {impl.Act{Kind: impl.AcPlan, B: 1}, func(x *impl.Town) {}},
		"free":                      {impl.Act{Kind: impl.AcFree}, func(x *impl.Town) { x.Joints[0].Plan = -1 }},
		"free without a plan":       {impl.Act{Kind: impl.AcFree, A: 1}, func(x *impl.Town) {}},
		"turn":                      {impl.Act{Kind: impl.AcTurn, A: 1, C: 1, F: 0.25}, func(x *impl.Town) { x.Joints[1].Junction.Turns[0] = impl.Four{0.75, 0.25} }},
		"turn of the second in":     {impl.Act{Kind: impl.AcTurn, B: 1, F: 1}, func(x *impl.Town) {}},
		"turn to nothing":           {impl.Act{Kind: impl.AcTurn, A: 1}, func(x *impl.Town) { x.Joints[1].Junction.Turns[0] = impl.Four{0, 1} }},
		"wait for nothing":          {impl.Act{Kind: impl.AcWait}, func(x *impl.Town) {}},
		"wait":                      {impl.Act{Kind: impl.AcWait, A: 7}, func(x *impl.Town) { wait(x, 7) }},
		"wait for as long as it is": {impl.Act{Kind: impl.AcWait, A: 120}, func(x *impl.Town) { wait(x, 120) }},
	} {
		x := crossTown(t)
		want := deep(x)
		c.change(&want)
		wantDone(t, name, x, c.a, want, impl.OK)
	}
}

// wait lets the model tick.
func wait(x *impl.Town, count int) {
	for range count {
		*x = modelTick(*x)
	}
}

func TestActsRefuse(t *testing.T) {
	for name, c := range map[string]struct {
		a    impl.Act
		code int64
	}{
		"offer to no road":             {impl.Act{Kind: impl.AcOffer, A: 5, F: 0.5}, impl.ErrRange},
		"offer to a far road":          {impl.Act{Kind: impl.AcOffer, A: 999}, impl.ErrRange},
		"offer no amount":              {impl.Act{Kind: impl.AcOffer, F: -smallest}, impl.ErrRange},
		"offer to an out":              {impl.Act{Kind: impl.AcOffer, A: 2, F: 0.5}, impl.ErrState},
		"offer to the last out":        {impl.Act{Kind: impl.AcOffer, A: 4, F: 0.5}, impl.ErrState},
		"offer nothing to an out":      {impl.Act{Kind: impl.AcOffer, A: 3}, impl.ErrState},
		"offer no amount to an out":    {impl.Act{Kind: impl.AcOffer, A: 3, F: -1}, impl.ErrRange},
		"block no road":                {impl.Act{Kind: impl.AcBlock, A: 5, F: 0.5}, impl.ErrRange},
		"block no cell":                {impl.Act{Kind: impl.AcBlock, A: 1, B: 16, F: 0.5}, impl.ErrRange},
		"block with more than all":     {impl.Act{Kind: impl.AcBlock, A: 1, B: 3, F: aboveOne}, impl.ErrRange},
		"block with less than nothing": {impl.Act{Kind: impl.AcBlock, A: 1, B: 3, F: -1}, impl.ErrRange},
		"plan of no joint":             {impl.Act{Kind: impl.AcPlan, A: 2}, impl.ErrRange},
		"no plan":                      {impl.Act{Kind: impl.AcPlan, B: 2}, impl.ErrRange},
		"free no joint":                {impl.Act{Kind: impl.AcFree, A: 2}, impl.ErrRange},
		"turn of no joint":             {impl.Act{Kind: impl.AcTurn, A: 2, F: 1}, impl.ErrRange},
		"turn from no in":              {impl.Act{Kind: impl.AcTurn, A: 1, B: 1, F: 0.5}, impl.ErrRange},
		"turn to no out":               {impl.Act{Kind: impl.AcTurn, A: 1, C: 2, F: 0.5}, impl.ErrRange},
		"turn with more than all":      {impl.Act{Kind: impl.AcTurn, A: 1, F: aboveOne}, impl.ErrRange},
		"turn to one out":              {impl.Act{Kind: impl.AcTurn, F: 0.5}, impl.ErrRange},
		"wait for long":                {impl.Act{Kind: impl.AcWait, A: 121}, impl.ErrRange},
		"wait for very long":           {impl.Act{Kind: impl.AcWait, A: 999}, impl.ErrRange},
	} {
		wantDone(t, name, crossTown(t), c.a, impl.Town{}, c.code)
	}
	x := crossTown(t)
	x.Joints[1].Junction.Turns[0] = impl.Four{1, smallest}
	wantDone(t, "turn of next to nothing", x, impl.Act{Kind: impl.AcTurn, A: 1, F: 0.25}, impl.Town{}, impl.ErrState)
	x.Tick = 999999990
	wantDone(t, "wait behind the last tick", x, impl.Act{Kind: impl.AcWait, A: 11}, impl.Town{}, impl.ErrState)
	wantDone(t, "wait for long behind the last tick", x, impl.Act{Kind: impl.AcWait, A: 121}, impl.Town{}, impl.ErrRange)
	for _, bad := range badActs() {
		got, code := impl.DoAct(x, bad)
		wantTown(t, "not valid", got, code, impl.Town{}, impl.ErrInvalid)
	}
	for name, bad := range badTowns(t) {
		for _, a := range []impl.Act{{Kind: impl.AcWait}, {Kind: impl.AcOffer, A: 9}, {Kind: impl.AcPlan, A: 9}, {}} {
			got, code := impl.DoAct(bad, a)
			wantTown(t, name, got, code, impl.Town{}, impl.ErrInvalid)
		}
	}
}

// modelAct does an act by itself; it waits by the model, and takes the town that is given apart.
func modelAct(x impl.Town, a impl.Act) (impl.Town, int64) {
	x = deep(x)
	road := a.A < int64(len(x.Roads))
	joint := a.A < int64(len(x.Joints))
	switch {
	case a.Kind == impl.AcOffer && (!road || a.F < 0), a.Kind == impl.AcBlock && (!road || a.B > 15 || a.F < 0 || a.F > 1),
		a.Kind == impl.AcPlan && (!joint || a.B >= int64(len(x.Plans))), a.Kind == impl.AcFree && !joint, a.Kind == impl.AcTurn && !joint,
		a.Kind == impl.AcWait && a.A > 120:
		return impl.Town{}, impl.ErrRange
	case a.Kind == impl.AcOffer && modelPlaceOf(x, int(a.A), jointOuts).found:
		return impl.Town{}, impl.ErrState
	case a.Kind == impl.AcWait && x.Tick+a.A > 1000000000:
		return impl.Town{}, impl.ErrState
	}
	code := int64(impl.OK)
	switch a.Kind {
	case impl.AcOffer:
		x.Offered[a.A] = a.F
	case impl.AcBlock:
		x.Roads[a.A].Cars[a.B] = a.F
	case impl.AcPlan:
		x.Joints[a.A].Plan = a.B
	case impl.AcFree:
		x.Joints[a.A].Plan = -1
	case impl.AcTurn:
		x.Joints[a.A].Junction, code = impl.SetTurn(x.Joints[a.A].Junction, a.B, a.C, a.F)
	case impl.AcWait:
		wait(&x, int(a.A))
	}
	if code != impl.OK {
		return impl.Town{}, code
	}
	return x, impl.OK
}

// course draws acts, most of which are done, and returns what the model makes of them.
func (d *draw) course(x impl.Town) ([]impl.Act, impl.Town, int64, int64) {
	var acts []impl.Act
	for range d.below(12) {
		a := d.act()
		next, code := modelAct(x, a)
		if code != impl.OK && d.below(6) > 0 {
			continue
		}
		acts = append(acts, a)
		if code != impl.OK {
			at := int64(len(acts) - 1)
			return append(acts, d.act()), impl.Town{}, at, code
		}
		x = next
	}
	return acts, x, int64(len(acts)), impl.OK
}

func TestActsAreThoseOfTheModel(t *testing.T) {
	d := &draw{430}
	var codes [9]int
	var kinds [7]int
	for range 1500 {
		x := d.town()
		acts, want, wantDone, wantCode := d.course(x)
		got, done, code := impl.RunActs(x, acts)
		wantTown(t, "acts", got, code, want, wantCode)
		wantWhole(t, "done", whole(done), whole(wantDone))
		single, last := x, int64(impl.OK)
		for _, a := range acts {
			if single, last = impl.DoAct(single, a); last != impl.OK {
				break
			}
		}
		wantTown(t, "one by one", single, last, want, wantCode)
		if t.Failed() {
			t.Fatalf("acts %v of %v", acts, x)
		}
		codes[code]++
		for _, a := range acts {
			kinds[a.Kind]++
		}
	}
	if codes[impl.OK] == 0 || codes[impl.ErrRange] == 0 || codes[impl.ErrState] == 0 {
		t.Errorf("codes %v", codes)
	}
	for kind, count := range kinds {
		if kind > 0 && count < 100 {
			t.Errorf("acts of the kind %d: %d", kind, count)
		}
	}
}

func TestRunActsRefuses(t *testing.T) {
	x := crossTown(t)
	wait, far := impl.Act{Kind: impl.AcWait, A: 1}, impl.Act{Kind: impl.AcFree, A: 9}
	offer := impl.Act{Kind: impl.AcOffer, A: 2, F: 1}
	many := func(count int, last ...impl.Act) []impl.Act {
		var list []impl.Act
		for range count {
			list = append(list, wait)
		}
		return append(list, last...)
	}
	check := func(name string, x impl.Town, acts []impl.Act, wantTick, wantDone, wantCode int64) {
		t.Helper()
		got, done, code := impl.RunActs(x, acts)
		if code != impl.OK && !sameTown(got, impl.Town{}) {
			t.Errorf("%s: got %v", name, got)
		}
		wantWhole(t, name, whole(got.Tick, done, code), whole(wantTick, wantDone, wantCode))
	}
	check("none", x, nil, 5, 0, impl.OK)
	check("as many as may be", x, many(120), 125, 120, impl.OK)
	check("one more", x, many(121), 0, 0, impl.ErrLimit)
	check("one more, the first one refused", x, append([]impl.Act{far}, many(120)...), 0, 0, impl.ErrLimit)
	check("the last one refused", x, many(119, far), 0, 119, impl.ErrRange)
	check("the first one refused", x, []impl.Act{far, offer}, 0, 0, impl.ErrRange)
	check("the first one of two", x, []impl.Act{wait, offer, far}, 0, 1, impl.ErrState)
	check("not valid behind one that is refused", x, []impl.Act{far, wait, {}}, 0, 0, impl.ErrInvalid)
	check("one more, the last one not valid", x, many(120, impl.Act{}), 0, 0, impl.ErrInvalid)
	for _, bad := range badActs() {
		check("not valid", x, []impl.Act{wait, bad, wait}, 0, 0, impl.ErrInvalid)
	}
	for name, bad := range badTowns(t) {
		check(name, bad, nil, 0, 0, impl.ErrInvalid)
		check(name, bad, []impl.Act{far}, 0, 0, impl.ErrInvalid)
		check(name, bad, many(121), 0, 0, impl.ErrInvalid)
	}
	x.Tick = 999999999
	check("the last tick", x, many(1), 1000000000, 1, impl.OK)
	check("behind the last tick", x, many(2), 0, 1, impl.ErrState)
}

// TestActsAreDoneOneAfterTheOther has acts whose order is seen.
func TestActsAreDoneOneAfterTheOther(t *testing.T) {
	x := crossTown(t)
	acts := []impl.Act{
		{Kind: impl.AcBlock, A: 2, B: 15, F: 1}, {Kind: impl.AcPlan, A: 1, B: 1}, {Kind: impl.AcWait, A: 2},
		{Kind: impl.AcFree, A: 1}, {Kind: impl.AcTurn, A: 1, F: 1}, {Kind: impl.AcWait, A: 1}, {Kind: impl.AcOffer, F: 0},
	}
	got, done, code := impl.RunActs(x, acts)
	want := deep(x)
	want.Roads[2].Cars[15], want.Joints[1].Plan = 1, 1
	wait(&want, 2)
	if want.Roads[2].Cars[15] != 1 || want.Roads[3].Cars[0] != 0 {
		t.Fatal("the road 2 has let cars go that may not")
	}
	want.Joints[1].Plan, want.Joints[1].Junction.Turns[0] = -1, impl.Four{1, 0}
	wait(&want, 1)
	if want.Roads[3].Cars[0] == 0 || want.Roads[4].Cars[0] != 0 {
		t.Fatal("the road 2 does not let cars turn to the road 3")
	}
	want.Offered[0] = 0
	wantTown(t, "in order", got, code, want, impl.OK)
	wantWhole(t, "done", whole(done), whole(7))
}
