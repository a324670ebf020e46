package tests

import (
	"bytes"
	"math"
	"runtime"
	"strings"
	"sync"
	"testing"

	"loop.example/g01227/impl"
)

func (n *noter) detector(w impl.Detector, code int64) {
	n.whole(w.Cell, int64(w.Count), w.Ticks, code)
	n.numbers(w.Carry, w.Full)
}

func (n *noter) tallies(list []impl.Tally, code int64) {
	for _, x := range list {
		n.whole(x.Turn, int64(x.Count), int64(x.Full))
	}
	n.whole(code)
}

func (n *noter) bytes(data []byte, code int64) {
	n.out = append(n.out, string(data))
	n.whole(code)
}

// post is what the functions of chapter 5 are called with.
type post struct {
	w, v     impl.Detector
	r        impl.Road
	one, two []impl.Tally
	data     []byte
	a, b     float32
	cell     int64
	times    int64
	most     int16
}

// postAnswers calls every function of chapter 5, and writes down all that they return.
func postAnswers(x post) string {
	n := &noter{}
	count := func(a, code int64) { n.whole(a, code) }
	number := func(a float32, code int64) { n.numbers(a); n.whole(code) }
	n.whole(int64(impl.ToCount(x.a)))
	n.truth(impl.ValidDetector(x.w))
	n.truth(impl.SameDetector(x.w, x.v))
	n.detector(impl.PlaceDetector(x.cell))
	n.detector(impl.WatchRoad(x.w, x.r))
	tally, anew, code := impl.ReadOff(x.w, x.cell)
	n.tallies([]impl.Tally{tally}, code)
	n.detector(anew, code)
	n.truth(impl.ValidTallies(x.one))
	count(impl.SumOfTallies(x.one))
	number(impl.MeanFull(x.one))
	middle, code := impl.MiddleCount(x.one)
	count(int64(middle), code)
	smooth, code := impl.SmoothCounts(x.one, x.b)
	n.numbers(smooth...)
	n.whole(code)
	count(impl.BusiestTurn(x.one))
	count(impl.FirstIncident(x.one, x.two, x.a, x.b, x.times))
	count(impl.FirstStuck(x.one, x.times))
	n.tallies(impl.WithoutWrong(x.one, x.most))
	n.tallies(impl.FillGaps(x.one))
	n.tallies(impl.JoinTallies(x.one, x.two))
	calls, code := impl.CallsOf(x.one, x.most)
	n.phases(calls)
	n.whole(code)
	n.bytes(impl.PacketOf(x.one))
	n.tallies(impl.ReadPacket(x.data))
	n.tallies(impl.TornTallies(x.data))
	return strings.Join(n.out, " ")
}

// kept copies what lies behind slices, their unused capacity as well.
func (x post) kept() string {
	n := &noter{}
	n.tallies(x.one[:cap(x.one)], 0)
	n.tallies(x.two[:cap(x.two)], 0)
	n.bytes(x.data[:cap(x.data)], 0)
	return strings.Join(n.out, " ")
}

// spacious returns a list with unused capacity, in which there are tallies as well.
func (d *draw) spacious(list []impl.Tally) []impl.Tally {
	count := len(list)
	return append(append([]impl.Tally{}, list...), impl.Tally{Turn: 77, Count: 78, Full: 79}, impl.Tally{Turn: 80})[:count]
}

func (d *draw) post(detectors []impl.Detector, roads []impl.Road, lists [][]impl.Tally) post {
	odd := []float32{0, minusZero, 1, -1, 0.5, 2.5, 300, smallest, -smallest, 32767.5, math.MaxFloat32, -math.MaxFloat32, inf, minusInf, nan, otherNaN}
	x := post{w: detectors[d.below(len(detectors))], v: detectors[d.below(len(detectors))], r: roads[d.below(len(roads))]}
	x.one, x.two = d.spacious(lists[d.below(len(lists))]), d.spacious(lists[d.below(len(lists))])
	x.a, x.b = odd[d.below(len(odd))], odd[d.below(len(odd))]
	if d.below(2) == 0 {
		x.a, x.b = float32(d.below(500)), d.share()
	}
	x.cell = d.oneOf(0, 3, 14, 15, 16, 65535, 65536, -1, 1<<32, math.MinInt64, math.MaxInt64)
	x.times = d.oneOf(0, 1, 2, 3, 96, 97, -1, 1<<32, math.MinInt64, math.MaxInt64)
	x.most = int16(d.oneOf(0, 1, 5, 32767, -1, -32768))
	x.data = []byte("DT")
	if packable(x.two) {
		x.data = append(modelPacket(x.two), 1, 2, 3)
		x.data = x.data[:len(x.data)-3]
	}
	switch d.below(4) {
	case 0:
		x.data[d.below(len(x.data))]++
	case 1:
		x.data = x.data[:d.below(len(x.data))]
	case 2:
		x.data = x.data[:cap(x.data)]
	}
	return x
}

func TestPromise1OfDetectors(t *testing.T) {
	d := &draw{350}
	var detectors []impl.Detector
	var roads []impl.Road
	var lists [][]impl.Tally
	for _, w := range badDetectors() {
		detectors = append(detectors, w)
	}
	for _, r := range badRoads() {
		roads = append(roads, r)
	}
	for _, list := range badTallies() {
		if len(list) < 1000 {
			lists = append(lists, list)
		}
	}
	for range 100 {
		detectors = append(detectors, d.detector())
		roads = append(roads, d.road())
		lists = append(lists, d.some(), d.tallies(d.below(12), d.below(13)))
	}
	for range 4000 {
		x := d.post(detectors, roads, lists)
		before := x.kept()
		first := postAnswers(x)
		if again := postAnswers(x); again != first {
			t.Fatalf("other answers for the same arguments:\n%s\n%s", first, again)
		}
		if x.kept() != before {
			t.Fatal("an argument is changed, or what lies behind it")
		}
	}
}

// TestTalliesThatAreReturnedAreNew writes into each list that is returned, and into what lies behind it.
func TestTalliesThatAreReturnedAreNew(t *testing.T) {
	list := []impl.Tally{{Turn: 1, Count: 2, Full: 3}, {Turn: 2, Count: 2, Full: 3}, {Turn: 3, Count: 4, Full: 5}}
	old := append([]impl.Tally{}, list...)
	data := mustPacket(t, list)
	oldData := bytes.Clone(data)
	for name, f := range map[string]func() ([]impl.Tally, int64){
		"WithoutWrong":   func() ([]impl.Tally, int64) { return impl.WithoutWrong(list, 9) },
		"FillGaps":       func() ([]impl.Tally, int64) { return impl.FillGaps(list) },
		"FillGaps, one":  func() ([]impl.Tally, int64) { return impl.FillGaps(list[:1]) },
		"JoinTallies":    func() ([]impl.Tally, int64) { return impl.JoinTallies(list, list) },
		"the first list": func() ([]impl.Tally, int64) { return impl.JoinTallies(list, nil) },
		"the other list": func() ([]impl.Tally, int64) { return impl.JoinTallies(nil, list) },
		"list by list":   func() ([]impl.Tally, int64) { return impl.JoinTallies(list[:1], list[1:]) },
		"ReadPacket":     func() ([]impl.Tally, int64) { return impl.ReadPacket(data) },
		"TornTallies":    func() ([]impl.Tally, int64) { return impl.TornTallies(data) },
	} {
		one, _ := f()
		two, _ := f()
		want := append([]impl.Tally{}, two...)
		for i := range one[:cap(one)] {
			one[:cap(one)][i] = impl.Tally{Turn: 99}
		}
		if len(one) == 0 || !sameTallies(two, want) || !sameTallies(list, old) || !bytes.Equal(data, oldData) {
			t.Errorf("%s: a list shares its memory", name)
		}
	}
	smooth, _ := impl.SmoothCounts(list, 0.5)
	smooth[0] = 99
	again, code := impl.SmoothCounts(list, 0.5)
	wantNumbers(t, "again", again, code, []float32{2, 2, 3}, impl.OK)
	packet, _ := impl.PacketOf(list)
	clear(packet)
	packet, code = impl.PacketOf(list)
	wantBytes(t, "again", packet, code, oldData, impl.OK)
}

// TestPacketsAreWrittenAtOnce calls PacketOf from many sides, and looks for what goes on behind it.
func TestPacketsAreWrittenAtOnce(t *testing.T) {
	list := (&draw{351}).tallies(96, 3)
	want := modelPacket(list)
	before := runtime.NumGoroutine()
	var group sync.WaitGroup
	for range 8 {
		group.Go(func() {
			for range 50 {
				if data, code := impl.PacketOf(list); code != impl.OK || !bytes.Equal(data, want) {
					t.Errorf("a packet is %v, %d", data, code)
				}
			}
		})
	}
	group.Wait()
	wantNobodyLeft(t, before)
}

// wantNobodyLeft waits for goroutines that are done, but may still be on their way out.
func wantNobodyLeft(t *testing.T, before int) {
	t.Helper()
	for range 1000000 {
		if runtime.NumGoroutine() <= before {
			return
		}
		runtime.Gosched()
	}
	t.Errorf("%d goroutines are left", runtime.NumGoroutine()-before)
}

func TestManyTallies(t *testing.T) {
	many := make([]impl.Tally, 333333)
	for i := range many {
		many[i].Turn = int64(i)
	}
	x := post{one: many, two: many, data: bytes.Repeat([]byte("DT\x00"), 333333), w: impl.Detector{}, r: mustMake(t, 0.5, 0.5, 1), times: 1}
	first := postAnswers(x)
	if again := postAnswers(x); again != first {
		t.Error("other answers for the same arguments")
	}
	if _, code := impl.JoinTallies(nil, many); code != impl.ErrInvalid {
		t.Errorf("many tallies: %d", code)
	}
}
