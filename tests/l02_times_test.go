package tests

import (
	"math"
	"testing"

	"loop.example/g01227/impl"
)

func modelEmpty(r impl.Road) bool { return modelCars(r) < 1.0/1024 }

func modelFull(r impl.Road) bool {
	m := rulesOf(r)
	for cell := range int64(16) {
		if m.takes(r, cell) > 1.0/1024 {
			return false
		}
	}
	return true
}

// modelUntil returns -1 if no number of steps up to 400 is enough.
func modelUntil(r impl.Road, offered, room float32, done func(impl.Road) bool) int64 {
	for steps := range int64(401) {
		if done(r) {
			return steps
		}
		r = modelStep(r, offered, room).road
	}
	return -1
}

// wantTimes holds a count of steps against all budgets around it.
func wantTimes(t *testing.T, name string, want int64, f func(most int64) (int64, int64)) {
	t.Helper()
	for _, most := range []int64{0, 1, want - 1, want, want + 1, 399, 400} {
		if most < 0 || most > 400 {
			continue
		}
		got, code := f(most)
		if want < 0 || want > most {
			wantCount(t, name, got, code, 0, impl.ErrBudget)
		} else {
			wantCount(t, name, got, code, want, impl.OK)
		}
	}
}

func TestRoadsAreEmptyInTheStepsThatAreTold(t *testing.T) {
	d, never, some := &draw{40}, 0, 0
	for range 150 {
		r := d.paced()
		if d.below(3) == 0 {
			r.Pace = lesser(1, 0.3+r.Pace)
		}
		want := modelUntil(r, 0, 1, modelEmpty)
		if want < 0 {
			never++
		} else {
			some++
		}
		wantTimes(t, "empty", want, func(most int64) (int64, int64) { return impl.StepsToEmpty(r, most) })
		if want > 0 {
			before, _, _, _ := impl.StepRoads(r, 0, 1, want-1)
			behind, _, _, _ := impl.StepRoads(r, 0, 1, want)
			one, _ := impl.CarsOn(before)
			two, _ := impl.CarsOn(behind)
			if !(one >= 1.0/1024 && two < 1.0/1024) {
				t.Fatalf("%d steps of %v: %v and %v cars", want, r, one, two)
			}
		}
	}
	if never == 0 || some == 0 {
		t.Errorf("roads that are empty never, and in some steps: %d %d", never, some)
	}
}

func TestEmptyRoadsAtTheBound(t *testing.T) {
	bound := float32(1.0 / 1024)
	r := mustMake(t, 0.5, 0.5, 1)
	wantTimes(t, "no car", 0, func(most int64) (int64, int64) { return impl.StepsToEmpty(r, most) })
	r.Cars[15] = math.Nextafter32(bound, 0)
	wantTimes(t, "less", 0, func(most int64) (int64, int64) { return impl.StepsToEmpty(r, most) })
	r.Cars[15] = bound
	wantTimes(t, "just so many", 1, func(most int64) (int64, int64) { return impl.StepsToEmpty(r, most) })
	r.Cars[15], r.Lanes = bound/2, 2
	wantTimes(t, "on two lanes", 1, func(most int64) (int64, int64) { return impl.StepsToEmpty(r, most) })
	r.Cars[15], r.Lanes = bound, 0.25
	wantTimes(t, "on a narrow lane", 0, func(most int64) (int64, int64) { return impl.StepsToEmpty(r, most) })
	r.Cars, r.Lanes, r.Pace = impl.Cars{12: bound}, 1, 1
	wantTimes(t, "on its way", 4, func(most int64) (int64, int64) { return impl.StepsToEmpty(r, most) })
	slow, _ := impl.FillRoad(mustMake(t, 1.0/64, 1.0/64, 8), 1)
	wantTimes(t, "slow", -1, func(most int64) (int64, int64) { return impl.StepsToEmpty(slow, most) })
}

func TestRoadsAreFullInTheStepsThatAreTold(t *testing.T) {
	d, never, some := &draw{41}, 0, 0
	for range 150 {
		r, offered := d.paced(), d.amount()
		want := modelUntil(r, offered, 0, modelFull)
		if want < 0 {
			never++
		} else {
			some++
		}
		wantTimes(t, "full", want, func(most int64) (int64, int64) { return impl.StepsToFull(r, offered, most) })
	}
	if never == 0 || some == 0 {
		t.Errorf("roads that are full never, and in some steps: %d %d", never, some)
	}
}

func TestFullRoadsAtTheBound(t *testing.T) {
	bound := float32(1 - 1.0/512)
	r, _ := impl.FillRoad(mustMake(t, 0.5, 0.5, 1), bound)
	wantTimes(t, "takes just so much", 0, func(most int64) (int64, int64) { return impl.StepsToFull(r, 0, most) })
	for _, cell := range []int{0, 7, 15} {
		q := r
		q.Cars[cell] = math.Nextafter32(bound, 0)
		wantTimes(t, "one takes more", modelUntil(q, 1, 0, modelFull), func(most int64) (int64, int64) { return impl.StepsToFull(q, 1, most) })
		if got, code := impl.StepsToFull(q, 0, 0); got != 0 || code != impl.ErrBudget {
			t.Errorf("the cell %d takes more: %d %d", cell, got, code)
		}
	}
	full, _ := impl.FillRoad(r, 1)
	wantTimes(t, "full", 0, func(most int64) (int64, int64) { return impl.StepsToFull(full, 0, most) })
	empty := mustMake(t, 1, 1, 1)
	wantTimes(t, "nothing comes", -1, func(most int64) (int64, int64) { return impl.StepsToFull(empty, 0, most) })
	wantTimes(t, "all comes", modelUntil(empty, 1, 0, modelFull), func(most int64) (int64, int64) { return impl.StepsToFull(empty, 1, most) })
}

func modelDelay(r impl.Road, offered, room float32, steps int64) float32 {
	var sum float32
	for range steps {
		w := modelStep(r, offered, room)
		one := sub(r.Cars[0], div(w.flows[1], r.Pace))
		for i := 1; i < 16; i++ {
			one = add(one, sub(r.Cars[i], div(w.flows[i+1], r.Pace)))
		}
		sum, r = add(sum, one), w.road
	}
	return mul(sum, r.Lanes)
}

func TestDelayIsThatOfTheModel(t *testing.T) {
	d := &draw{42}
	for _, steps := range []int64{0, 1, 2, 9, 400} {
		for range 60 {
			r, offered, room := d.road(), d.amount(), d.amount()
			got, code := impl.DelayOf(r, offered, room, steps)
			wantNumber(t, "delay", got, code, modelDelay(r, offered, room, steps), impl.OK)
		}
	}
}

func TestDelayOfPlainRoads(t *testing.T) {
	r := mustMake(t, 0.5, 0.5, 2)
	full, _ := impl.FillRoad(r, 1)
	free, _ := impl.FillRoad(r, 0.25)
	one := r
	one.Cars[15] = 0.5
	for _, c := range []struct {
		name          string
		r             impl.Road
		offered, room float32
		steps         int64
		want          float32
	}{
		{"full", full, 0, 0, 2, 64}, {"full, no step", full, 0, 0, 0, 0}, {"full, out of it", full, 0, 1, 1, 31},
		{"free", free, 0.125, 1, 400, 0}, {"empty", r, 0, 0, 400, 0}, {"no room", one, 0, 0, 3, 3}, {"little room", one, 0, 0.125, 1, 0.5},
	} {
		got, code := impl.DelayOf(c.r, c.offered, c.room, c.steps)
		wantNumber(t, c.name, got, code, c.want, impl.OK)
	}
}

func TestTimesRefuse(t *testing.T) {
	r := (&draw{43}).road()
	full, _ := impl.FillRoad(r, 1)
	for _, most := range badSteps {
		got, code := impl.StepsToEmpty(r, most)
		wantCount(t, "empty", got, code, 0, impl.ErrRange)
		got, code = impl.StepsToFull(full, 0, most)
		wantCount(t, "full", got, code, 0, impl.ErrRange)
		delay, code := impl.DelayOf(r, 0, 0, most)
		wantNumber(t, "delay", delay, code, 0, impl.ErrRange)
	}
	for _, bad := range badAmounts {
		for _, most := range []int64{0, 5, 400, 401} {
			got, code := impl.StepsToFull(full, bad, most)
			wantCount(t, "full, bad amount", got, code, 0, impl.ErrRange)
			delay, code := impl.DelayOf(r, bad, 0, most)
			wantNumber(t, "delay, bad offer", delay, code, 0, impl.ErrRange)
			delay, code = impl.DelayOf(r, 0, bad, most)
			wantNumber(t, "delay, bad room", delay, code, 0, impl.ErrRange)
		}
	}
	for name, bad := range badRoads() {
		for _, most := range []int64{0, 5, -1, 401} {
			for _, a := range []float32{0, -1} {
				got, code := impl.StepsToEmpty(bad, most)
				wantCount(t, name+" empty", got, code, 0, impl.ErrInvalid)
				got, code = impl.StepsToFull(bad, a, most)
				wantCount(t, name+" full", got, code, 0, impl.ErrInvalid)
				delay, code := impl.DelayOf(bad, a, a, most)
				wantNumber(t, name+" delay", delay, code, 0, impl.ErrInvalid)
			}
		}
	}
}
