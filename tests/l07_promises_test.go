package tests

import (
	"testing"

	"loop.example/g01227/impl"
)

// TestNoPostFollowsWhatHasNotBeenOrdered goes through deeds one by one, and keeps what has been ordered and followed so far.
func TestNoPostFollowsWhatHasNotBeenOrdered(t *testing.T) {
	d, newer, older := &draw{540}, 0, 0
	for range 150 {
		c := d.centre()
		deeds := d.deeds(c, 120)
		ordered, followed := make([]map[impl.Post]bool, len(c.First)), make([]map[int64]bool, len(c.First))
		for post, plan := range c.First {
			ordered[post] = map[impl.Post]bool{{Plan: plan}: true}
			followed[post] = map[int64]bool{0: true}
		}
		before, _, _ := impl.BoardAfter(c, nil)
		for i, x := range deeds {
			after, _, code := impl.BoardAfter(c, deeds[:i+1])
			if code != impl.OK {
				t.Fatalf("%d deeds: %d", i+1, code)
			}
			for post := range c.First {
				ordered[post][after.Newest[post]] = true
				now := after.Posts[post]
				followed[post][now.Version] = true
				if !ordered[post][now] || !ordered[post][after.Saved[post]] {
					t.Fatalf("%v: the post %d follows or has saved what has not been ordered: %v", deeds[:i+1], post, after)
				}
				newer += count(now.Version > before.Posts[post].Version)
				if now.Version < before.Posts[post].Version {
					older++
					if x != (impl.Deed{Kind: impl.DdCrash, A: int64(post)}) || now != before.Saved[post] {
						t.Fatalf("%v: the post %d goes back without a crash: %v", deeds[:i+1], post, after)
					}
				}
				if !followed[post][after.Known[post]] || after.Known[post] < before.Known[post] || after.Newest[post].Version < before.Newest[post].Version {
					t.Fatalf("%v: the centre knows of the post %d what has not been: %v", deeds[:i+1], post, after)
				}
			}
			before = after
		}
	}
	if newer < 300 || older < 100 {
		t.Errorf("posts went on %d times, and back %d times", newer, older)
	}
}

// TestInTheEndAllFollowTheNewestPlans does the planned deeds behind others.
func TestInTheEndAllFollowTheNewestPlans(t *testing.T) {
	d, open := &draw{541}, 0
	for range 1500 {
		c := d.centre()
		deeds := d.deeds(c, d.below(160))
		before, done, _ := impl.BoardAfter(c, deeds)
		last, code := impl.FinishDeeds(c, deeds)
		if code != impl.OK {
			t.Fatalf("%v: %d", deeds, code)
		}
		all := append(append([]impl.Deed{}, deeds...), last...)
		after, more, code := impl.BoardAfter(c, all)
		want := before
		want.Posts, want.Saved, want.Wire = want.Newest, want.Newest, nil
		want.Known = nil
		for _, p := range want.Newest {
			want.Known = append(want.Known, p.Version)
		}
		wantBoard(t, "the end", after, more, code, want, done+int64(len(last)), impl.OK)
		agreed, _ := impl.IsAgreed(c, all)
		late, _ := impl.LatePosts(c, all)
		if !agreed || len(late) > 0 || t.Failed() {
			t.Fatalf("%v: agreed %v, late %v", all, agreed, late)
		}
		was, _ := impl.IsAgreed(c, deeds)
		open += count(!was)
		// What has been saved in the end is there behind crashes of all posts.
		for post := range c.First {
			all = append(all, impl.Deed{Kind: impl.DdCrash, A: int64(post)})
		}
		if agreed, code = impl.IsAgreed(c, all[:min(len(all), 200)]); !agreed || code != impl.OK {
			t.Fatalf("%v: agreed %v, %d", all, agreed, code)
		}
	}
	if open < 500 {
		t.Errorf("only %d centres were not agreed before", open)
	}
}

// scene is a town, and a centre that has a post for each of its joints.
type scene struct {
	town   impl.Town
	centre impl.Centre
	deeds  []impl.Deed
}

// scene draws a town all of whose joints follow plans.
func (d *draw) scene() scene {
	x := d.town()
	for len(x.Joints) == 0 || len(x.Plans) == 0 {
		x = d.town()
	}
	x.Tick = int64(d.below(1000))
	c := impl.Centre{Plans: int64(len(x.Plans))}
	for i := range x.Joints {
		x.Joints[i].Plan = int64(d.below(len(x.Plans)))
		c.First = append(c.First, x.Joints[i].Plan)
	}
	return scene{x, c, nil}
}

// do does a deed, lets the joints follow what their posts follow, and ticks three times.
func (s *scene) do(t *testing.T, x impl.Deed, inParts bool) {
	t.Helper()
	s.deeds = append(s.deeds, x)
	acts := []impl.Act{}
	for joint := range s.centre.First {
		p, code := impl.PostAfter(s.centre, s.deeds, int64(joint))
		if code != impl.OK {
			t.Fatalf("%v: %d", s.deeds, code)
		}
		acts = append(acts, impl.Act{Kind: impl.AcPlan, A: int64(joint), B: p.Plan})
	}
	if !inParts {
		s.run(t, append(acts, impl.Act{Kind: impl.AcWait, A: 3}))
		return
	}
	for _, a := range append(acts, impl.Act{Kind: impl.AcWait, A: 1}, impl.Act{Kind: impl.AcWait, A: 2}) {
		s.run(t, []impl.Act{a})
		town, code := impl.ReadTown(impl.TownText(s.town))
		wantTown(t, "read again", town, code, s.town, impl.OK)
		s.town = town
	}
}

func (s *scene) run(t *testing.T, acts []impl.Act) {
	t.Helper()
	later, _, code := impl.RunActs(s.town, acts)
	if code != impl.OK {
		t.Fatalf("%v: %d", acts, code)
	}
	s.town = later
}

// TestATownInPartsIsTheTownAtOnce runs towns whose centre changes plans, and the same ones act by act and through their texts.
func TestATownInPartsIsTheTownAtOnce(t *testing.T) {
	d, changed := &draw{542}, 0
	for range 60 {
		once := d.scene()
		parts, still := once, once.town
		deeds := d.deeds(once.centre, 20)
		last, _ := impl.FinishDeeds(once.centre, deeds)
		deeds = append(deeds, last...)
		for _, x := range deeds {
			once.do(t, x, false)
			parts.do(t, x, true)
			still, _ = impl.TickTowns(still, 3)
		}
		wantTown(t, "parts", parts.town, impl.OK, once.town, impl.OK)
		b, _, _ := impl.BoardAfter(once.centre, deeds)
		for joint, p := range b.Newest {
			if got := once.town.Joints[joint].Plan; got != p.Plan {
				t.Errorf("the joint %d follows %d, and not %d", joint, got, p.Plan)
			}
		}
		changed += count(!sameRoads(still.Roads, once.town.Roads))
		if t.Failed() {
			t.Fatalf("%v", deeds)
		}
	}
	if changed < 20 {
		t.Errorf("plans changed only %d towns", changed)
	}
}

// TestALossyDay is a day on which notices are lost, come twice, and come late, and on which posts crash.
func TestALossyDay(t *testing.T) {
	c := impl.Centre{Plans: 3, First: []int64{0, 0}}
	day := "order 0 1, order 1 1, send 0, send 1, drop 0, deliver 0, " + // the notice to the post 0 is lost
		"deliver 0, order 1 2, send 1, copy 0, copy 0, " + // the newer one to the post 1 comes twice
		"crash 1, send 0, deliver 0" // the post 1 has saved nothing, and gets its notice once more
	b, done, code := impl.BoardAfter(c, mustDeeds(t, day))
	want := impl.Board{
		Newest: []impl.Post{{Plan: 1, Version: 1}, {Plan: 2, Version: 2}},
		Posts:  []impl.Post{{}, {Plan: 2, Version: 2}},
		Saved:  []impl.Post{{}, {}},
		Known:  whole(0, 1),
		Wire: []impl.Notice{{Back: true, Post: 1, Plan: 2, Version: 2}, {Back: true, Post: 1, Plan: 2, Version: 2},
			{Post: 0, Plan: 1, Version: 1}, {Back: true, Post: 1, Plan: 2, Version: 2}},
	}
	wantBoard(t, "the day", b, done, code, want, 14, impl.OK)
	last, code := impl.FinishDeeds(c, mustDeeds(t, day))
	wantDeeds(t, "the end of the day", last, code, mustDeeds(t, "drop 0, drop 0, drop 0, drop 0, "+
		"send 0, deliver 0, deliver 0, save 0, send 1, deliver 0, deliver 0, save 1"), impl.OK)
}
