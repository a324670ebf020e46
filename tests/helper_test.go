package tests

import (
	"math"
	"testing"

	"loop.example/g01227/impl"
)

// Each operation of the model is made in wide numbers and rounded once, which for two
// narrow numbers is the same as rounding the exact result to a narrow one.

func add(a, b float32) float32 { return float32(float64(a) + float64(b)) }
func sub(a, b float32) float32 { return float32(float64(a) - float64(b)) }
func mul(a, b float32) float32 { return float32(float64(a) * float64(b)) }
func div(a, b float32) float32 { return float32(float64(a) / float64(b)) }

func lesser(a, b float32) float32 {
	if a < b {
		return a
	}
	return b
}

// same is written by itself, so that a fault in SameNumber does not hide others.
func same(a, b float32) bool {
	if a != a || b != b {
		return a != a && b != b
	}
	return math.Float32bits(a) == math.Float32bits(b)
}

func sameRoad(r, s impl.Road) bool {
	for i := range r.Cars {
		if !same(r.Cars[i], s.Cars[i]) {
			return false
		}
	}
	return same(r.Pace, s.Pace) && same(r.Back, s.Back) && same(r.Lanes, s.Lanes)
}

func fromBits(bits uint32) float32 { return math.Float32frombits(bits) }

var (
	minusZero = fromBits(0x80000000)
	nan       = fromBits(0x7fc00000)
	otherNaN  = fromBits(0xffc12345)
	inf       = fromBits(0x7f800000)
	minusInf  = fromBits(0xff800000)
	smallest  = fromBits(1)
	belowOne  = fromBits(0x3f7fffff)
	aboveOne  = fromBits(0x3f800001)
)

// draw gives numbers that look random but are the same in each run.
type draw struct{ state uint64 }

func (d *draw) bits() uint32 {
	d.state = d.state*6364136223846793005 + 1442695040888963407
	return uint32(d.state >> 33)
}

func (d *draw) below(n int) int { return int(d.bits()) % n }

// share mixes plain shares with those at the ends and with subnormal ones.
func (d *draw) share() float32 {
	switch d.below(12) {
	case 0:
		return 0
	case 1:
		return 1
	case 2:
		return fromBits(d.bits() % 0x00800000)
	case 3:
		return belowOne
	case 4, 5, 6, 7:
		return float32(d.bits()%(1<<24)) / (1 << 24)
	}
	return fromBits(0x3c000000 + d.bits()%0x03800000)
}

func (d *draw) pace() float32 {
	switch d.below(10) {
	case 0:
		return 1.0 / 64
	case 1:
		return 1
	}
	return 1.0/64 + float32(d.bits()%(1<<20))/(1<<20)*(63.0/64)
}

func (d *draw) road() impl.Road {
	r := impl.Road{Pace: d.pace(), Back: d.pace(), Lanes: 0.25 + float32(d.bits()%(1<<20))/(1<<20)*7.75}
	for i := range r.Cars {
		r.Cars[i] = d.share()
	}
	return r
}

func mustMake(t *testing.T, pace, back, lanes float32) impl.Road {
	t.Helper()
	r, code := impl.MakeRoad(pace, back, lanes)
	if code != impl.OK {
		t.Fatalf("MakeRoad(%v, %v, %v): code %d", pace, back, lanes, code)
	}
	return r
}

func wantNumber(t *testing.T, name string, got float32, code int64, want float32, wantCode int64) {
	t.Helper()
	if !same(got, want) || code != wantCode {
		t.Errorf("%s: got %v (%08x), %d, want %v (%08x), %d", name, got, math.Float32bits(got), code, want, math.Float32bits(want), wantCode)
	}
}

func wantRoad(t *testing.T, name string, got impl.Road, code int64, want impl.Road, wantCode int64) {
	t.Helper()
	if !sameRoad(got, want) || code != wantCode {
		t.Errorf("%s: got %v, %d, want %v, %d", name, got, code, want, wantCode)
	}
}
