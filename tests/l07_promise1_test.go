package tests

import (
	"math"
	"runtime"
	"strings"
	"sync"
	"testing"

	"loop.example/g01227/impl"
)

// office is what the functions of chapter 7 are called with.
type office struct {
	c     impl.Centre
	deeds []impl.Deed
	post  int64
	lines string
}

// officeAnswers calls every function of chapter 7, and writes down all that they return.
func officeAnswers(x office) string {
	n := &noter{}
	n.truth(impl.ValidCentre(x.c))
	for _, d := range x.deeds[:min(len(x.deeds), 5)] {
		n.truth(impl.ValidDeed(d))
		n.out = append(n.out, impl.DeedText(d))
	}
	d, code := impl.ReadDeed(x.lines)
	n.deeds([]impl.Deed{d})
	n.whole(code)
	b, done, code := impl.BoardAfter(x.c, x.deeds)
	n.board(b)
	n.whole(done, code)
	at, why, code := impl.RefusedDeed(x.c, x.deeds)
	n.whole(at, why, code)
	p, code := impl.PostAfter(x.c, x.deeds, x.post)
	n.posts([]impl.Post{p})
	n.whole(code)
	agreed, code := impl.IsAgreed(x.c, x.deeds)
	n.truth(agreed)
	n.whole(code)
	late, code := impl.LatePosts(x.c, x.deeds)
	n.whole(late...)
	n.whole(code)
	last, code := impl.FinishDeeds(x.c, x.deeds)
	n.deeds(last)
	n.whole(code)
	out, code := impl.RunScript(x.c, x.lines)
	n.out = append(n.out, out)
	n.whole(code)
	return n.text()
}

// kept copies what lies behind slices, their unused capacity as well.
func (x office) kept() string {
	n := &noter{}
	n.whole(x.c.Plans)
	n.whole(x.c.First[:cap(x.c.First)]...)
	n.deeds(x.deeds[:cap(x.deeds)])
	return n.text()
}

func (d *draw) office(centres []impl.Centre, odd []impl.Deed) office {
	x := office{c: centres[d.below(len(centres))], post: d.oneOf(0, 1, 2, 5, 6, -1, 1<<32, math.MinInt64, math.MaxInt64)}
	from := d.centre()
	x.deeds = d.deeds(from, d.below(190))
	if d.below(8) == 0 {
		x.deeds = append(x.deeds, odd[d.below(len(odd))])
	}
	if d.below(8) == 0 {
		x.deeds = append(x.deeds, make([]impl.Deed, d.below(30))...)
	}
	x.deeds = wider(x.deeds, impl.Deed{Kind: 9, A: 9, B: 9}, impl.Deed{Kind: 1})
	for range d.below(40) {
		x.lines += d.centreLine(from, 3) + "\n"
	}
	if d.below(4) == 0 {
		x.lines = strings.TrimSuffix(d.centreLine(from, 3), "\n")
	}
	return x
}

func TestPromise1OfCentres(t *testing.T) {
	d := &draw{530}
	var centres []impl.Centre
	var odd []impl.Deed
	for _, bad := range badCentres() {
		centres = append(centres, bad)
	}
	for _, bad := range badDeeds() {
		odd = append(odd, bad)
	}
	for range 100 {
		c := d.centre()
		c.First = wider(c.First, 77, 78)
		centres = append(centres, c)
	}
	for range 2000 {
		x := d.office(centres, odd)
		before := x.kept()
		first := officeAnswers(x)
		if again := officeAnswers(x); again != first {
			t.Fatalf("other answers for the same arguments:\n%s\n%s", first, again)
		}
		if x.kept() != before {
			t.Fatal("an argument is changed, or what lies behind it")
		}
	}
}

// smear writes into all lists of a board, and into what lies behind them, and tells of those that change with another one.
func smear(t *testing.T, b impl.Board) {
	t.Helper()
	lists := map[string]func(){
		"Newest": func() { smearPosts(b.Newest) },
		"Posts":  func() { smearPosts(b.Posts) },
		"Saved":  func() { smearPosts(b.Saved) },
		"Known": func() {
			for i := range b.Known[:cap(b.Known)] {
				b.Known[:cap(b.Known)][i] = 77
			}
		},
		"Wire": func() { clear(b.Wire[:cap(b.Wire)]) },
	}
	for name, change := range lists {
		n := map[string]string{}
		for other := range lists {
			n[other] = listNotes(b, other)
		}
		change()
		for other := range lists {
			if other != name && listNotes(b, other) != n[other] {
				t.Errorf("%s and %s share memory", name, other)
			}
		}
	}
}

func smearPosts(list []impl.Post) {
	for i := range list[:cap(list)] {
		list[:cap(list)][i] = impl.Post{Plan: 77, Version: 77}
	}
}

// listNotes writes down one list of a board.
func listNotes(b impl.Board, name string) string {
	return boardNotes(map[string]impl.Board{
		"Newest": {Newest: b.Newest}, "Posts": {Posts: b.Posts}, "Saved": {Saved: b.Saved}, "Known": {Known: b.Known}, "Wire": {Wire: b.Wire},
	}[name])
}

func TestBoardsThatAreReturnedAreNew(t *testing.T) {
	c := impl.Centre{Plans: 4, First: wider([]int64{1, 3}, 9)}
	for _, text := range []string{"", "send 0", "order 1 2, send 1, deliver 0, save 1, send 0, send 1"} {
		deeds := wider(mustDeeds(t, text), impl.Deed{Kind: 9})
		old := append([]impl.Deed{}, deeds...)
		one, _, _ := impl.BoardAfter(c, deeds)
		two, _, _ := impl.BoardAfter(c, deeds)
		want := boardNotes(two)
		smear(t, one)
		if boardNotes(two) != want || c.First[0] != 1 || c.First[1] != 3 || c.First[:3][2] != 9 || !sameDeeds(deeds, old) {
			t.Errorf("%q: a board shares its memory", text)
		}
	}
	deeds := mustDeeds(t, "order 1 2, send 1, order 0 0")
	late, _ := impl.LatePosts(c, deeds)
	late[0], late[1] = 77, 77
	late, _ = impl.LatePosts(c, deeds)
	wantWhole(t, "late again", late, whole(0, 1))
	last, _ := impl.FinishDeeds(c, deeds)
	clear(last[:cap(last)])
	again, code := impl.FinishDeeds(c, deeds)
	wantDeeds(t, "last again", again, code, mustDeeds(t, "drop 0, send 0, deliver 0, deliver 0, save 0, send 1, deliver 0, deliver 0, save 1"), impl.OK)
}

// TestBoardsAtOnce asks for boards from many sides, and looks for posts that go on behind it.
func TestBoardsAtOnce(t *testing.T) {
	d := &draw{531}
	before := runtime.NumGoroutine()
	var group sync.WaitGroup
	for range 8 {
		x := d.office([]impl.Centre{d.centre()}, []impl.Deed{{}})
		want := officeAnswers(x)
		group.Go(func() {
			for range 20 {
				if got := officeAnswers(x); got != want {
					t.Errorf("got %s, want %s", got, want)
				}
			}
		})
	}
	group.Wait()
	wantNobodyLeft(t, before)
}

// TestNobodyIsLeftBehindAnError looks for posts that go on behind calls that are refused.
func TestNobodyIsLeftBehindAnError(t *testing.T) {
	c := impl.Centre{Plans: 3, First: []int64{0, 1, 2, 0, 1, 2}}
	before := runtime.NumGoroutine()
	for range 100 {
		impl.PostAfter(c, nil, 6)
		impl.RefusedDeed(c, nil)
		impl.FinishDeeds(c, make([]impl.Deed, 200))
		impl.FinishDeeds(c, mustDeeds(t, strings.Repeat("save 0, ", 199)+"save 0"))
		impl.RunScript(c, strings.Repeat("\n", 121))
		impl.BoardAfter(impl.Centre{Plans: 1, First: make([]int64, 7)}, nil)
	}
	wantNobodyLeft(t, before)
}

func TestManyInACentre(t *testing.T) {
	c := impl.Centre{Plans: 3, First: []int64{0, 2}}
	many := make([]impl.Deed, 333333)
	for i := range many {
		many[i] = impl.Deed{Kind: impl.DdOrder, A: 1, B: 1}
	}
	wantWhole(t, "many deeds", courseCodes(t, "many deeds", c, many, 0), sixTimes(impl.ErrRange))
	many[len(many)-1].Kind = 8
	wantWhole(t, "many deeds, the last one not valid", courseCodes(t, "many deeds", c, many, 0), sixTimes(impl.ErrInvalid))
	c.First = make([]int64, 1000000)
	wantWhole(t, "many posts", courseCodes(t, "many posts", c, nil, 0), sixTimes(impl.ErrInvalid))
	for _, text := range []string{" ", "0", "order ", "order 0 ", "save 0", "\n", "save 0 "} {
		long := strings.Repeat(text, 1000000/len(text))
		for _, head := range []string{"", "order ", "order 0 ", "order 0 0", "save ", "save 0"} {
			if d, code := impl.ReadDeed(head + long); d != (impl.Deed{}) || code != impl.ErrSyntax {
				t.Errorf("a long text that begins with %q: %v, %d", head+text, d, code)
			}
		}
	}
}
