package tests

import (
	"strings"
	"testing"

	"loop.example/g01227/impl"
)

// What a post has met, beside the versions that came in.
const (
	metSave  = -1
	metCrash = -2
)

// modelNotice has no plan, as its version tells which one it is.
type modelNotice struct {
	back          bool
	post, version int64
}

// modelBoard keeps the whole past, and asks it for all that posts follow, have saved, and are known to follow.
type modelBoard struct {
	plans int64
	// The plans of all versions of each post.
	ordered [][]int64
	met     [][]int64
	heard   [][]int64
	wire    []modelNotice
}

func newModelBoard(c impl.Centre) *modelBoard {
	m := &modelBoard{plans: c.Plans, met: make([][]int64, len(c.First)), heard: make([][]int64, len(c.First))}
	for _, plan := range c.First {
		m.ordered = append(m.ordered, []int64{plan})
	}
	return m
}

// follows returns the version that a post follows behind all that is told.
func follows(met []int64) int64 {
	if len(met) == 0 {
		return 0
	}
	before, last := met[:len(met)-1], met[len(met)-1]
	switch last {
	case metCrash:
		return savedVersion(before)
	case metSave:
		return follows(before)
	}
	return max(last, follows(before))
}

func savedVersion(met []int64) int64 {
	for i := len(met) - 1; i >= 0; i-- {
		if met[i] == metSave {
			return follows(met[:i])
		}
	}
	return 0
}

func (m *modelBoard) newest(post int64) int64 { return int64(len(m.ordered[post])) - 1 }

func (m *modelBoard) known(post int64) int64 {
	most := int64(0)
	for _, version := range m.heard[post] {
		most = max(most, version)
	}
	return most
}

func (m *modelBoard) has(post int64) bool { return post >= 0 && post < int64(len(m.ordered)) }

func (m *modelBoard) without(number int64) []modelNotice {
	return append(append([]modelNotice{}, m.wire[:number]...), m.wire[number+1:]...)
}

func (m *modelBoard) comesIn(n modelNotice) {
	if n.back {
		m.heard[n.post] = append(m.heard[n.post], n.version)
		return
	}
	m.met[n.post] = append(m.met[n.post], n.version)
	m.wire = append(m.wire, modelNotice{true, n.post, follows(m.met[n.post])})
}

// refuses returns the error of a deed.
func (m *modelBoard) refuses(d impl.Deed) int64 {
	full := len(m.wire) == 10
	switch d.Kind {
	case 1:
		if !m.has(d.A) || d.B >= m.plans {
			return impl.ErrRange
		}
	case 2, 6, 7:
		if !m.has(d.A) {
			return impl.ErrRange
		}
		if d.Kind == 2 && full {
			return impl.ErrLimit
		}
	default:
		if d.A >= int64(len(m.wire)) {
			return impl.ErrRange
		}
		if d.Kind == 4 && full && !m.wire[d.A].back {
			return impl.ErrLimit
		}
	}
	return impl.OK
}

func (m *modelBoard) do(d impl.Deed) int64 {
	if code := m.refuses(d); code != impl.OK {
		return code
	}
	switch d.Kind {
	case 1:
		m.ordered[d.A] = append(m.ordered[d.A], d.B)
	case 2:
		m.wire = append(m.wire, modelNotice{false, d.A, m.newest(d.A)})
	case 3:
		n := m.wire[d.A]
		m.wire = m.without(d.A)
		m.comesIn(n)
	case 4:
		m.comesIn(m.wire[d.A])
	case 5:
		m.wire = m.without(d.A)
	case 6:
		m.met[d.A] = append(m.met[d.A], metSave)
	case 7:
		m.met[d.A] = append(m.met[d.A], metCrash)
	}
	return impl.OK
}

func (m *modelBoard) at(post, version int64) impl.Post {
	return impl.Post{Plan: m.ordered[post][version], Version: version}
}

func (m *modelBoard) board() impl.Board {
	var b impl.Board
	for i := range m.ordered {
		post := int64(i)
		b.Newest = append(b.Newest, m.at(post, m.newest(post)))
		b.Posts = append(b.Posts, m.at(post, follows(m.met[post])))
		b.Saved = append(b.Saved, m.at(post, savedVersion(m.met[post])))
		b.Known = append(b.Known, m.known(post))
	}
	for _, n := range m.wire {
		p := m.at(n.post, n.version)
		b.Wire = append(b.Wire, impl.Notice{Back: n.back, Post: n.post, Plan: p.Plan, Version: p.Version})
	}
	return b
}

func (m *modelBoard) agreed() bool {
	for post := range m.ordered {
		if follows(m.met[post]) != m.newest(int64(post)) {
			return false
		}
	}
	return true
}

func (m *modelBoard) late() []int64 {
	var late []int64
	for post := range int64(len(m.ordered)) {
		if m.known(post) != m.newest(post) {
			late = append(late, post)
		}
	}
	return late
}

func (m *modelBoard) last() []impl.Deed {
	var last []impl.Deed
	for range m.wire {
		last = append(last, impl.Deed{Kind: 5})
	}
	for post := range int64(len(m.ordered)) {
		last = append(last, impl.Deed{Kind: 2, A: post}, impl.Deed{Kind: 3}, impl.Deed{Kind: 3}, impl.Deed{Kind: 6, A: post})
	}
	return last
}

// wantBoard holds two boards against each other by all that is in them.
func wantBoard(t *testing.T, name string, got impl.Board, done, code int64, want impl.Board, wantDone, wantCode int64) {
	t.Helper()
	if boardNotes(got) != boardNotes(want) || done != wantDone || code != wantCode {
		t.Errorf("%s: got %v, %d, %d, want %v, %d, %d", name, got, done, code, want, wantDone, wantCode)
	}
}

func boardNotes(b impl.Board) string {
	n := &noter{}
	n.board(b)
	return n.text()
}

func (n *noter) posts(list []impl.Post) {
	n.whole(int64(len(list)))
	for _, p := range list {
		n.whole(p.Plan, p.Version)
	}
}

func (n *noter) board(b impl.Board) {
	n.posts(b.Newest)
	n.posts(b.Posts)
	n.posts(b.Saved)
	n.whole(int64(len(b.Known)))
	n.whole(b.Known...)
	n.whole(int64(len(b.Wire)))
	for _, x := range b.Wire {
		n.truth(x.Back)
		n.whole(x.Post, x.Plan, x.Version)
	}
}

func (n *noter) deeds(list []impl.Deed) {
	n.whole(int64(len(list)))
	for _, d := range list {
		n.whole(d.Kind, d.A, d.B)
	}
}

func sameDeeds(a, b []impl.Deed) bool {
	n, m := &noter{}, &noter{}
	n.deeds(a)
	m.deeds(b)
	return n.text() == m.text()
}

func wantDeeds(t *testing.T, name string, got []impl.Deed, code int64, want []impl.Deed, wantCode int64) {
	t.Helper()
	if !sameDeeds(got, want) || code != wantCode {
		t.Errorf("%s: got %v, %d, want %v, %d", name, got, code, want, wantCode)
	}
}

func (d *draw) centre() impl.Centre {
	c := impl.Centre{Plans: 1 + int64(d.below(9))}
	for range 1 + d.below(6) {
		c.First = append(c.First, int64(d.below(int(c.Plans))))
	}
	return c
}

// deed draws a deed for a centre that mostly can be done; the greater crowd is, the fuller the wire becomes.
func (d *draw) deed(c impl.Centre, crowd int) impl.Deed {
	x := impl.Deed{Kind: int64(1 + d.below(7)), A: int64(d.below(len(c.First)))}
	if d.below(12) < crowd {
		x.Kind = impl.DdSend
	}
	switch x.Kind {
	case impl.DdOrder:
		x.B = int64(d.below(int(c.Plans)))
		if d.below(12) == 0 {
			x.B = c.Plans + int64(d.below(2))
		}
	case impl.DdDeliver, impl.DdCopy, impl.DdDrop:
		x.A = int64(d.below(2 + crowd))
	}
	if d.below(15) == 0 {
		x.A = d.oneOf(int64(len(c.First)), int64(len(c.First))+1, 10, 999)
	}
	return x
}

func (d *draw) deeds(c impl.Centre, count int) []impl.Deed {
	crowd := d.below(6)
	var list []impl.Deed
	for range count {
		list = append(list, d.deed(c, crowd))
	}
	return list
}

// mustDeeds reads deeds that are separated by commas.
func mustDeeds(t *testing.T, text string) []impl.Deed {
	t.Helper()
	var list []impl.Deed
	if text == "" {
		return nil
	}
	for _, line := range strings.Split(text, ", ") {
		x, code := impl.ReadDeed(line)
		if code != impl.OK {
			t.Fatalf("no deed: %q", line)
		}
		list = append(list, x)
	}
	return list
}

func badCentres() map[string]impl.Centre {
	return map[string]impl.Centre{
		"nothing":          {},
		"no plans":         {Plans: 0, First: []int64{0}},
		"fewer than none":  {Plans: -1, First: []int64{-1}},
		"too many plans":   {Plans: 10, First: []int64{0}},
		"far too many":     {Plans: 1<<32 + 1, First: []int64{0}},
		"no posts":         {Plans: 3},
		"too many posts":   {Plans: 3, First: make([]int64, 7)},
		"no such plan":     {Plans: 3, First: []int64{0, 3}},
		"a plan below all": {Plans: 3, First: []int64{0, -1, 2}},
		"a far plan":       {Plans: 9, First: []int64{1 << 32}},
	}
}

func badDeeds() map[string]impl.Deed {
	return map[string]impl.Deed{
		"nothing":          {},
		"kind 8":           {Kind: 8},
		"kind -1":          {Kind: -1},
		"a far kind":       {Kind: 1<<32 + 1},
		"A below all":      {Kind: impl.DdOrder, A: -1},
		"A above all":      {Kind: impl.DdSend, A: 1000},
		"B below all":      {Kind: impl.DdOrder, B: -1},
		"B above all":      {Kind: impl.DdOrder, B: 1000},
		"B of a send":      {Kind: impl.DdSend, B: 1},
		"B of a deliver":   {Kind: impl.DdDeliver, B: 1},
		"B of a copy":      {Kind: impl.DdCopy, B: 1},
		"B of a drop":      {Kind: impl.DdDrop, B: 1},
		"B of a save":      {Kind: impl.DdSave, B: 1},
		"B of a crash":     {Kind: impl.DdCrash, B: 999},
		"a B that is less": {Kind: impl.DdCrash, B: -1},
	}
}
