package tests

import (
	"testing"

	"loop.example/g01227/impl"
)

// wantCourse holds all that deeds come to against the model.
func wantCourse(t *testing.T, c impl.Centre, deeds []impl.Deed) *modelBoard {
	t.Helper()
	m, done := newModelBoard(c), int64(0)
	refused := whole(0, 0, impl.ErrNotFound)
	for i, d := range deeds {
		code := m.do(d)
		if code == impl.OK {
			done++
		} else if refused[2] == impl.ErrNotFound {
			refused = whole(int64(i), code, impl.OK)
		}
	}
	b, count, code := impl.BoardAfter(c, deeds)
	wantBoard(t, "board", b, count, code, m.board(), done, impl.OK)
	at, why, code := impl.RefusedDeed(c, deeds)
	wantWhole(t, "refused", whole(at, why, code), refused)
	for post := range c.First {
		p, code := impl.PostAfter(c, deeds, int64(post))
		if p != m.board().Posts[post] || code != impl.OK {
			t.Errorf("the post %d: got %v, %d, want %v", post, p, code, m.board().Posts[post])
		}
	}
	agreed, code := impl.IsAgreed(c, deeds)
	if agreed != m.agreed() || code != impl.OK {
		t.Errorf("agreed: got %v, %d", agreed, code)
	}
	late, code := impl.LatePosts(c, deeds)
	wantWhole(t, "late", append(late, code), append(m.late(), impl.OK))
	wantFinish(t, c, deeds, m)
	return m
}

func wantFinish(t *testing.T, c impl.Centre, deeds []impl.Deed, m *modelBoard) {
	t.Helper()
	last, code := impl.FinishDeeds(c, deeds)
	if want := m.last(); len(deeds)+len(want) > 200 {
		wantDeeds(t, "finish", last, code, nil, impl.ErrLimit)
	} else {
		wantDeeds(t, "finish", last, code, want, impl.OK)
	}
}

func TestDeedsAreThoseOfTheModel(t *testing.T) {
	d := &draw{510}
	var full, emptied, crashed, late, agreed, back int
	for range 3000 {
		c := d.centre()
		deeds := d.deeds(c, d.below(201))
		m := wantCourse(t, c, deeds)
		if t.Failed() {
			t.Fatalf("%v: %v", c, deeds)
		}
		full += count(len(m.wire) == 10)
		emptied += count(len(m.wire) == 0)
		late += count(len(m.late()) > 0)
		agreed += count(m.agreed() && len(deeds) > 20)
		for post := range c.First {
			now := follows(m.met[post])
			crashed += count(now < m.known(int64(post)))
			back += count(now > savedVersion(m.met[post]))
		}
	}
	if full < 300 || emptied < 50 || crashed < 300 || late < 300 || agreed < 30 || back < 300 {
		t.Errorf("full wires %d, empty ones %d, posts that have crashed %d, centres with late posts %d, agreed ones %d, posts that have not saved %d",
			full, emptied, crashed, late, agreed, back)
	}
}

func count(is bool) int {
	if is {
		return 1
	}
	return 0
}

// plainPost is what a post and its centre have: versions, and the plan that is followed.
type plainPost struct{ newest, follows, plan, saved, known int64 }

// TestPlainDeeds tells for a centre with the plans 0 to 3 what the post 1, which follows the plan 3 at first, comes to.
func TestPlainDeeds(t *testing.T) {
	for text, want := range map[string]plainPost{
		"":                                     {0, 0, 3, 0, 0},
		"order 1 2":                            {1, 0, 3, 0, 0},
		"order 1 3":                            {1, 0, 3, 0, 0},
		"order 1 2, order 1 2":                 {2, 0, 3, 0, 0},
		"order 0 2":                            {0, 0, 3, 0, 0},
		"order 1 2, send 1":                    {1, 0, 3, 0, 0},
		"order 1 2, send 1, deliver 0":         {1, 1, 2, 0, 0},
		"order 1 2, send 1, copy 0":            {1, 1, 2, 0, 0},
		"order 1 2, send 1, drop 0":            {1, 0, 3, 0, 0},
		"order 1 2, send 1, drop 0, deliver 0": {1, 0, 3, 0, 0},
		"order 1 2, send 0, deliver 0":         {1, 0, 3, 0, 0},
		"order 1 2, send 1, copy 0, drop 1":    {1, 1, 2, 0, 0},
		// What comes back tells the centre, also twice.
		"order 1 2, send 1, deliver 0, deliver 0":         {1, 1, 2, 0, 1},
		"order 1 2, send 1, deliver 0, copy 0, deliver 0": {1, 1, 2, 0, 1},
		"order 1 2, send 1, copy 0, deliver 1":            {1, 1, 2, 0, 1},
		"order 1 2, send 1, deliver 0, drop 0":            {1, 1, 2, 0, 0},
		// A notice has the plan and the version of the time at which it was sent.
		"order 1 2, send 1, order 1 0, deliver 0":                      {2, 1, 2, 0, 0},
		"order 1 2, send 1, order 1 0, send 1, deliver 0, deliver 0":   {2, 2, 0, 0, 0},
		"order 1 2, send 1, order 1 0, send 1, deliver 1, deliver 0":   {2, 2, 0, 0, 0},
		"send 1, order 1 2, deliver 0, deliver 0":                      {1, 0, 3, 0, 0},
		"order 1 2, send 1, order 1 2, send 1, deliver 1, deliver 1":   {2, 2, 2, 0, 2},
		"order 1 2, send 1, order 1 0, send 1, copy 1, copy 0, copy 2": {2, 2, 0, 0, 2},
		// What comes back tells what is followed, and not what came in.
		"order 1 2, send 1, order 1 0, send 1, deliver 1, deliver 0, drop 0, deliver 0": {2, 2, 0, 0, 2},
		// A crash loses what is not saved, and nothing else.
		"crash 1":                                             {0, 0, 3, 0, 0},
		"save 1, crash 1":                                     {0, 0, 3, 0, 0},
		"order 1 2, crash 1":                                  {1, 0, 3, 0, 0},
		"order 1 2, send 1, deliver 0, crash 1":               {1, 0, 3, 0, 0},
		"order 1 2, send 1, deliver 0, crash 0":               {1, 1, 2, 0, 0},
		"order 1 2, send 1, deliver 0, save 1":                {1, 1, 2, 1, 0},
		"order 1 2, send 1, deliver 0, save 0, crash 1":       {1, 0, 3, 0, 0},
		"order 1 2, send 1, deliver 0, save 1, crash 1":       {1, 1, 2, 1, 0},
		"order 1 2, send 1, save 1, deliver 0, crash 1":       {1, 0, 3, 0, 0},
		"order 1 2, send 1, deliver 0, crash 1, save 1":       {1, 0, 3, 0, 0},
		"order 1 2, send 1, crash 1, deliver 0":               {1, 1, 2, 0, 0},
		"order 1 2, send 1, deliver 0, deliver 0, crash 1":    {1, 0, 3, 0, 1},
		"order 1 2, send 1, deliver 0, crash 1, deliver 0":    {1, 0, 3, 0, 1},
		"order 1 2, send 1, copy 0, crash 1, deliver 0":       {1, 1, 2, 0, 0},
		"order 1 2, send 1, copy 0, save 1, crash 1, crash 1": {1, 1, 2, 1, 0},
		// Behind a crash an older notice is newer than what is followed.
		"order 1 2, send 1, order 1 0, send 1, deliver 1, crash 1, deliver 0":                         {2, 1, 2, 0, 0},
		"order 1 2, send 1, order 1 0, send 1, deliver 1, save 1, crash 1, deliver 0":                 {2, 2, 0, 2, 0},
		"order 1 2, send 1, copy 0, save 1, order 1 0, send 1, deliver 2, crash 1":                    {2, 1, 2, 1, 0},
		"order 1 2, send 1, copy 0, save 1, order 1 0, send 1, deliver 2, crash 1, send 1, deliver 3": {2, 2, 0, 1, 0},
		// What the centre knows never becomes less.
		"order 1 2, send 1, deliver 0, deliver 0, crash 1, order 1 1, send 1, drop 0":    {2, 0, 3, 0, 1},
		"send 1, order 1 2, send 1, deliver 1, deliver 1, crash 1, deliver 0, deliver 0": {1, 0, 3, 0, 1},
	} {
		c := impl.Centre{Plans: 4, First: []int64{1, 3}}
		deeds := mustDeeds(t, text)
		b, _, code := impl.BoardAfter(c, deeds)
		got := plainPost{b.Newest[1].Version, b.Posts[1].Version, b.Posts[1].Plan, b.Saved[1].Version, b.Known[1]}
		if got != want || code != impl.OK {
			t.Errorf("%q: got %v, %d, want %v", text, got, code, want)
		}
		if b.Newest[0].Version > 0 != (text == "order 0 2") || b.Posts[0] != (impl.Post{Plan: 1}) || b.Saved[0] != (impl.Post{Plan: 1}) || b.Known[0] != 0 {
			t.Errorf("%q: the post 0 is another one in %v", text, b)
		}
		wantCourse(t, c, deeds)
	}
}

// wantWire holds the wire behind deeds against notices.
func wantWire(t *testing.T, text string, want ...impl.Notice) {
	t.Helper()
	b, _, code := impl.BoardAfter(impl.Centre{Plans: 4, First: []int64{1, 3}}, mustDeeds(t, text))
	if boardNotes(impl.Board{Wire: b.Wire}) != boardNotes(impl.Board{Wire: want}) || code != impl.OK {
		t.Errorf("%q: got %v, %d, want %v", text, b.Wire, code, want)
	}
}

func TestWires(t *testing.T) {
	to0, to1 := impl.Notice{Plan: 1}, impl.Notice{Post: 1, Plan: 3}
	newer := impl.Notice{Post: 1, Plan: 2, Version: 1}
	back0, back1 := impl.Notice{Back: true, Plan: 1}, impl.Notice{Back: true, Post: 1, Plan: 3}
	backNewer := impl.Notice{Back: true, Post: 1, Plan: 2, Version: 1}
	wantWire(t, "")
	wantWire(t, "send 0", to0)
	wantWire(t, "send 1, send 0, send 1", to1, to0, to1)
	wantWire(t, "send 1, order 1 2, send 1, send 0", to1, newer, to0)
	wantWire(t, "send 0, send 1, deliver 0", to1, back0)
	wantWire(t, "send 0, send 1, deliver 1", to0, back1)
	wantWire(t, "send 0, send 1, copy 0", to0, to1, back0)
	wantWire(t, "send 0, send 1, copy 0, copy 2", to0, to1, back0)
	wantWire(t, "send 0, send 1, copy 0, deliver 2", to0, to1)
	wantWire(t, "send 0, send 1, copy 0, drop 1", to0, back0)
	wantWire(t, "send 0, send 1, drop 0, drop 0")
	wantWire(t, "send 0, send 1, drop 2", to0, to1)
	wantWire(t, "send 1, order 1 2, send 1, deliver 1, deliver 0", backNewer, backNewer)
	wantWire(t, "send 1, order 1 2, send 1, deliver 1, crash 1, deliver 0", backNewer, back1)
	wantWire(t, "send 0, crash 0, save 0", to0)
	wantWire(t, "order 1 2, send 1, order 1 0, order 1 1, copy 0", newer, backNewer)
}

const tenSends = "send 0, send 1, send 0, send 1, send 0, send 1, send 0, send 1, send 0, send 1"

func TestFullWires(t *testing.T) {
	c := impl.Centre{Plans: 4, First: []int64{1, 3}}
	for more, want := range map[string][]int64{
		"":                                  whole(0, 0, impl.ErrNotFound),
		"send 0":                            whole(10, impl.ErrLimit, impl.OK),
		"send 2":                            whole(10, impl.ErrRange, impl.OK),
		"copy 0":                            whole(10, impl.ErrLimit, impl.OK),
		"copy 9":                            whole(10, impl.ErrLimit, impl.OK),
		"copy 10":                           whole(10, impl.ErrRange, impl.OK),
		"deliver 0":                         whole(0, 0, impl.ErrNotFound),
		"deliver 9":                         whole(0, 0, impl.ErrNotFound),
		"deliver 10":                        whole(10, impl.ErrRange, impl.OK),
		"drop 10":                           whole(10, impl.ErrRange, impl.OK),
		"drop 9, send 1":                    whole(0, 0, impl.ErrNotFound),
		"drop 9, copy 0":                    whole(0, 0, impl.ErrNotFound),
		"drop 9, copy 0, copy 0":            whole(12, impl.ErrLimit, impl.OK),
		"drop 9, copy 0, copy 9":            whole(0, 0, impl.ErrNotFound),
		"deliver 0, copy 9":                 whole(0, 0, impl.ErrNotFound),
		"deliver 0, copy 8":                 whole(11, impl.ErrLimit, impl.OK),
		"deliver 0, send 0":                 whole(11, impl.ErrLimit, impl.OK),
		"deliver 0, deliver 9, send 0":      whole(0, 0, impl.ErrNotFound),
		"order 0 4, send 0":                 whole(10, impl.ErrRange, impl.OK),
		"order 0 3, save 0, crash 1":        whole(0, 0, impl.ErrNotFound),
		"order 2 0":                         whole(10, impl.ErrRange, impl.OK),
		"save 2":                            whole(10, impl.ErrRange, impl.OK),
		"crash 2":                           whole(10, impl.ErrRange, impl.OK),
		"send 0, send 0, order 9 0":         whole(10, impl.ErrLimit, impl.OK),
		"send 999":                          whole(10, impl.ErrRange, impl.OK),
		"order 0 999":                       whole(10, impl.ErrRange, impl.OK),
		"drop 0, drop 9, deliver 0, copy 9": whole(11, impl.ErrRange, impl.OK),
	} {
		text := tenSends
		if more != "" {
			text += ", " + more
		}
		at, why, code := impl.RefusedDeed(c, mustDeeds(t, text))
		wantWhole(t, more, whole(at, why, code), want)
		wantCourse(t, c, mustDeeds(t, text))
	}
}

// TestACopyThatIsLeftOutDoesNotComeIn looks at a post that would follow what comes in.
func TestACopyThatIsLeftOutDoesNotComeIn(t *testing.T) {
	c := impl.Centre{Plans: 4, First: []int64{1, 3}}
	deeds := mustDeeds(t, "order 0 2, order 1 2, "+tenSends+", copy 0, copy 1")
	b, done, code := impl.BoardAfter(c, deeds)
	if b.Posts[0] != (impl.Post{Plan: 1}) || b.Posts[1] != (impl.Post{Plan: 3}) || len(b.Wire) != 10 || done != 12 || code != impl.OK {
		t.Errorf("got %v, %d, %d", b, done, code)
	}
	b, done, _ = impl.BoardAfter(c, append(deeds, mustDeeds(t, "deliver 0")...))
	if b.Posts[0] != (impl.Post{Plan: 2, Version: 1}) || len(b.Wire) != 10 || done != 13 {
		t.Errorf("got %v, %d", b, done)
	}
}

// TestLatePostsAndAgreement tells a post that follows its newest plan from one of which the centre knows it.
func TestLatePostsAndAgreement(t *testing.T) {
	c := impl.Centre{Plans: 3, First: []int64{2, 1, 0}}
	for text, want := range map[string]struct {
		agreed bool
		late   []int64
	}{
		"":                                {true, nil},
		"send 1":                          {true, nil},
		"order 1 0":                       {false, whole(1)},
		"order 1 1":                       {false, whole(1)},
		"order 2 0, order 0 1, order 1 1": {false, whole(0, 1, 2)},
		"order 2 0, order 0 1":            {false, whole(0, 2)},
		"order 1 0, send 1, deliver 0":    {true, whole(1)},
		"order 1 0, send 1, deliver 0, deliver 0":                               {true, nil},
		"order 1 0, send 1, deliver 0, deliver 0, crash 1":                      {false, nil},
		"order 1 0, send 1, deliver 0, deliver 0, save 1, crash 1":              {true, nil},
		"order 1 0, send 1, deliver 0, crash 1":                                 {false, whole(1)},
		"order 1 0, send 1, deliver 0, deliver 0, order 1 0":                    {false, whole(1)},
		"order 1 0, send 1, deliver 0, order 1 2, order 1 0, deliver 0":         {false, whole(1)},
		"order 1 0, order 2 1, send 2, deliver 0, deliver 0":                    {false, whole(1)},
		"order 1 0, order 2 1, send 2, send 1, deliver 0, deliver 0, deliver 1": {true, whole(2)},
	} {
		deeds := mustDeeds(t, text)
		agreed, code := impl.IsAgreed(c, deeds)
		if agreed != want.agreed || code != impl.OK {
			t.Errorf("%q: agreed %v, %d", text, agreed, code)
		}
		late, code := impl.LatePosts(c, deeds)
		wantWhole(t, text, append(late, code), append(want.late, impl.OK))
	}
}

// courseCodes calls all functions with deeds, and returns their codes; all else has to be zero.
func courseCodes(t *testing.T, name string, c impl.Centre, deeds []impl.Deed, post int64) []int64 {
	t.Helper()
	b, done, one := impl.BoardAfter(c, deeds)
	at, why, two := impl.RefusedDeed(c, deeds)
	p, three := impl.PostAfter(c, deeds, post)
	agreed, four := impl.IsAgreed(c, deeds)
	late, five := impl.LatePosts(c, deeds)
	last, six := impl.FinishDeeds(c, deeds)
	if boardNotes(b) != boardNotes(impl.Board{}) || done != 0 || at != 0 || why != 0 || p != (impl.Post{}) || agreed || len(late) > 0 || len(last) > 0 {
		t.Errorf("%s: got %v, %d, %d, %d, %v, %v, %v, %v beside an error", name, b, done, at, why, p, agreed, late, last)
	}
	return whole(one, two, three, four, five, six)
}

func sixTimes(code int64) []int64 { return whole(code, code, code, code, code, code) }

func TestDeedsRefuse(t *testing.T) {
	good := impl.Centre{Plans: 3, First: []int64{2, 1, 0}}
	ordered := mustDeeds(t, "order 1 2, send 1, deliver 0")
	long := make([]impl.Deed, 201)
	for i := range long {
		long[i] = impl.Deed{Kind: impl.DdSave}
	}
	for name, bad := range badCentres() {
		for _, deeds := range [][]impl.Deed{nil, ordered, long, {{}}} {
			wantWhole(t, name, courseCodes(t, name, bad, deeds, 9), sixTimes(impl.ErrInvalid))
		}
		out, code := impl.RunScript(bad, "agreed\n")
		if out != "" || code != impl.ErrInvalid {
			t.Errorf("%s: %q, %d", name, out, code)
		}
	}
	for name, bad := range badDeeds() {
		for _, deeds := range [][]impl.Deed{{bad}, append([]impl.Deed{bad}, ordered...), append(append([]impl.Deed{}, long...), bad)} {
			wantWhole(t, name, courseCodes(t, name, good, deeds, 9), sixTimes(impl.ErrInvalid))
		}
	}
	wantWhole(t, "many deeds", courseCodes(t, "many deeds", good, long, 0), sixTimes(impl.ErrRange))
	wantWhole(t, "many deeds, no post", courseCodes(t, "many deeds, no post", good, long, 3), sixTimes(impl.ErrRange))
}

func TestNoSuchPost(t *testing.T) {
	c := impl.Centre{Plans: 3, First: []int64{2, 1, 0}}
	deeds := mustDeeds(t, "order 2 2, send 2, deliver 0")
	for _, post := range []int64{-1, 3, 4, 6, 999, 1 << 32, -1 << 63, 1<<63 - 1} {
		if p, code := impl.PostAfter(c, deeds, post); p != (impl.Post{}) || code != impl.ErrRange {
			t.Errorf("the post %d: %v, %d", post, p, code)
		}
	}
	p, code := impl.PostAfter(c, deeds, 2)
	if p != (impl.Post{Plan: 2, Version: 1}) || code != impl.OK {
		t.Errorf("the post 2: %v, %d", p, code)
	}
}

func TestAsManyDeedsAsThereMayBe(t *testing.T) {
	c := impl.Centre{Plans: 9, First: []int64{8, 7, 6, 5, 4, 3}}
	deeds := make([]impl.Deed, 200)
	for i := range deeds {
		deeds[i] = impl.Deed{Kind: impl.DdOrder, A: 5, B: int64(i % 9)}
	}
	b, done, code := impl.BoardAfter(c, deeds)
	if b.Newest[5] != (impl.Post{Plan: 1, Version: 200}) || done != 200 || code != impl.OK {
		t.Errorf("got %v, %d, %d", b, done, code)
	}
	last, code := impl.FinishDeeds(c, deeds)
	wantDeeds(t, "no room", last, code, nil, impl.ErrLimit)
	want := mustDeeds(t, "send 0, deliver 0, deliver 0, save 0, send 1, deliver 0, deliver 0, save 1, send 2, deliver 0, deliver 0, save 2, "+
		"send 3, deliver 0, deliver 0, save 3, send 4, deliver 0, deliver 0, save 4, send 5, deliver 0, deliver 0, save 5")
	last, code = impl.FinishDeeds(c, deeds[:176])
	wantDeeds(t, "just room", last, code, want, impl.OK)
	last, code = impl.FinishDeeds(c, deeds[:177])
	wantDeeds(t, "one too many", last, code, nil, impl.ErrLimit)
	// A notice on the wire takes one deed more, and a deed that is left out counts as well.
	deeds[10] = impl.Deed{Kind: impl.DdSend}
	last, code = impl.FinishDeeds(c, deeds[:175])
	wantDeeds(t, "just room with a notice", last, code, append(mustDeeds(t, "drop 0"), want...), impl.OK)
	last, code = impl.FinishDeeds(c, deeds[:176])
	wantDeeds(t, "one too many with a notice", last, code, nil, impl.ErrLimit)
	deeds[10] = impl.Deed{Kind: impl.DdDrop}
	last, code = impl.FinishDeeds(c, deeds[:176])
	wantDeeds(t, "just room with a deed left out", last, code, want, impl.OK)
	last, code = impl.FinishDeeds(c, deeds[:177])
	wantDeeds(t, "one too many with a deed left out", last, code, nil, impl.ErrLimit)
}
