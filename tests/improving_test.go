package tests

import (
	"slices"
	"testing"

	"loop.example/g00265/impl"
)

func wantTwoOpt(c impl.Case, r impl.Route, i, j int64) (impl.Route, int64, bool) {
	if i < 0 || i >= j || j >= int64(len(r.Stops)) {
		return impl.Route{}, 0, false
	}
	var turned []int64
	for at := j; at >= i; at-- {
		turned = append(turned, r.Stops[at])
	}
	return wantChange(c, r, slices.Concat(r.Stops[:i], turned, r.Stops[j+1:]))
}

func expectTurn(t *testing.T, what string, c impl.Case, r impl.Route, i, j, more int64) {
	t.Helper()
	if gotI, gotJ, got := impl.BestTwoOpt(c, r); gotI != i || gotJ != j || got != more {
		t.Errorf("%s: %v: best turn %d %d %d, not %d %d %d", what, r, gotI, gotJ, got, i, j, more)
	}
}

func expectPolished(t *testing.T, what string, c impl.Case, r, want impl.Route, ok bool) {
	t.Helper()
	if got, gotOk := impl.Polished(c, r); gotOk != ok || !sameRoute(got, want) {
		t.Errorf("%s: %v polished: %v %v, not %v %v", what, r, got, gotOk, want, ok)
	}
}

func TestTurnsWordForWord(t *testing.T) {
	c, r := lineCase(), route(7, 103, 101, 102)
	for _, w := range []struct {
		i, j int64
		want routeAnswer
	}{
		{0, 1, routeAnswer{route(7, 101, 103, 102), -20, true}},
		{0, 2, routeAnswer{route(7, 102, 101, 103), 0, true}},
		{1, 2, routeAnswer{route(7, 103, 102, 101), -20, true}},
		{0, 0, routeAnswer{}},
		{1, 1, routeAnswer{}},
		{2, 2, routeAnswer{}},
		{1, 0, routeAnswer{}},
		{2, 1, routeAnswer{}},
		{0, 3, routeAnswer{}},
		{2, 3, routeAnswer{}},
		{3, 3, routeAnswer{}},
		{-1, 0, routeAnswer{}},
		{-1, 2, routeAnswer{}},
		{0, -1, routeAnswer{}},
		{-2, -1, routeAnswer{}},
	} {
		expectRoute(t, "turned", answered(impl.TwoOpt(c, r, w.i, w.j)), w.want)
	}
	expectTurn(t, "of two that cost the same the first", c, r, 0, 1, -20)
	expectPolished(t, "by one turn", c, r, route(7, 101, 103, 102), true)
	expectTurn(t, "no turn costs less than 0", c, route(7, 101, 103, 102), -1, -1, 0)
	expectTurn(t, "the dearest way first", c, route(7, 102, 104, 101, 105, 103), 1, 2, -40)
	expectPolished(t, "by two turns", c, route(7, 102, 104, 101, 105, 103), route(7, 101, 102, 104, 105, 103), true)
}

func TestTurnsOfFewStops(t *testing.T) {
	c := lineCase()
	for _, r := range []impl.Route{route(7), route(7, 103)} {
		expectRoute(t, "nothing to turn", answered(impl.TwoOpt(c, r, 0, 0)), routeAnswer{})
		expectRoute(t, "nothing to turn", answered(impl.TwoOpt(c, r, 0, 1)), routeAnswer{})
		expectTurn(t, "nothing to turn", c, r, -1, -1, 0)
		expectPolished(t, "nothing to turn", c, r, r, true)
	}
	expectRoute(t, "a turn that costs 0", answered(impl.TwoOpt(c, route(7, 103, 101), 0, 1)), routeAnswer{route(7, 101, 103), 0, true})
	expectTurn(t, "a turn that costs 0", c, route(7, 103, 101), -1, -1, 0)
	expectPolished(t, "a turn that costs 0", c, route(7, 103, 101), route(7, 103, 101), true)
}

func TestTurnsOfTwelveStops(t *testing.T) {
	c := lineCase()
	r := route(5, 112, 111, 110, 109, 108, 107, 101, 102, 103, 104, 105, 106)
	expectRoute(t, "all", answered(impl.TwoOpt(c, r, 0, 11)), routeAnswer{route(5, 106, 105, 104, 103, 102, 101, 107, 108, 109, 110, 111, 112), 0, true})
	expectRoute(t, "one behind", answered(impl.TwoOpt(c, r, 0, 12)), routeAnswer{})
	expectTurn(t, "12 stops", c, r, 6, 11, -100)
	expectPolished(t, "12 stops", c, r, route(5, 112, 111, 110, 109, 108, 107, 106, 105, 104, 103, 102, 101), true)
	all := route(5)
	for _, o := range c.Orders {
		all.Stops = append(all.Stops, o.Id)
	}
	expectTurn(t, "there and back", c, all, -1, -1, 0)
}

// The turn 0 3 comes ahead of the turn 1 2: the least i counts first.
func TestLeastFirstStopCountsFirst(t *testing.T) {
	c := impl.Case{Times: evenMatrix(5, 10)}
	for i := range int64(4) {
		c.Orders = append(c.Orders, impl.Order{Id: 1 + i, Place: 1 + i, To: 1000})
	}
	c.Vehicles = []impl.Vehicle{{Id: 7, Room: 9, To: 1000}}
	cheap := func(from, to int64) { c.Times.Times[from*5+to] = 8 }
	// Both 4 3 2 1 and 1 3 2 4 have three of these legs, all other turns two.
	for _, leg := range [][2]int64{{4, 3}, {3, 2}, {2, 1}, {1, 3}, {2, 4}} {
		cheap(leg[0], leg[1])
	}
	r := route(7, 1, 2, 3, 4)
	for i, want := range map[[2]int64]int64{{0, 1}: -4, {0, 2}: -4, {0, 3}: -6, {1, 2}: -6, {1, 3}: -4, {2, 3}: -4} {
		if _, more, ok := impl.TwoOpt(c, r, i[0], i[1]); !ok || more != want {
			t.Errorf("turn %v costs %d, not %d", i, more, want)
		}
	}
	expectTurn(t, "0 3 and 1 2", c, r, 0, 3, -6)
}

// A turn that would cost less does not count when it cannot be driven.
func TestTurnsKeepTheHours(t *testing.T) {
	c, r := lineCase(), route(7, 103, 101, 102)
	c.Orders[2].To = 130
	expectRoute(t, "late behind the turn", answered(impl.TwoOpt(c, r, 0, 1)), routeAnswer{})
	expectTurn(t, "the one that keeps the hours", c, r, 1, 2, -20)
	expectPolished(t, "the one that keeps the hours", c, r, route(7, 103, 102, 101), true)
	c.Orders[0].To = 152
	expectTurn(t, "none keeps the hours", c, r, -1, -1, 0)
	expectPolished(t, "none keeps the hours", c, r, r, true)
	// Turned it would be in time, but as it is it cannot be driven.
	c = lineCase()
	c.Orders[0].To = 110
	expectRoute(t, "late ahead of the turn", answered(impl.TwoOpt(c, r, 0, 1)), routeAnswer{})
}

func TestRoutesWithACodeAreNotTurned(t *testing.T) {
	cases, routes := codedRoutes()
	for k, c := range cases {
		for i := int64(-1); i < 4; i++ {
			for j := int64(-1); j < 4; j++ {
				expectRoute(t, "a code", answered(impl.TwoOpt(c, routes[k], i, j)), routeAnswer{})
			}
		}
		expectTurn(t, "a code", c, routes[k], -1, -1, 0)
		expectPolished(t, "a code", c, routes[k], impl.Route{}, false)
	}
	c, r := lineCase(), route(7, 103, 101, 102)
	for _, n := range far {
		for _, m := range append(slices.Clone(far), 0, 1, 2) {
			expectRoute(t, "far off", answered(impl.TwoOpt(c, r, n, m)), routeAnswer{})
			expectRoute(t, "far off", answered(impl.TwoOpt(c, r, m, n)), routeAnswer{})
		}
	}
}

func TestStopsTurnedTwiceAreAsTheyWere(t *testing.T) {
	d := &dice{61}
	turned, refused, ties, polished := 0, 0, 0, 0
	for range 4000 {
		c := anyCase(d)
		r := anyRoute(d, c)
		bestI, bestJ, best := int64(-1), int64(-1), int64(0)
		for i := int64(-1); i <= int64(len(r.Stops)); i++ {
			for j := int64(-1); j <= int64(len(r.Stops)); j++ {
				got, want := answered(impl.TwoOpt(c, r, i, j)), answered(wantTwoOpt(c, r, i, j))
				if !got.same(want) {
					t.Fatalf("%v %v: %d %d: %v, not %v", c, r, i, j, got, want)
				}
				if !got.ok {
					refused++
					continue
				}
				turned++
				if back := answered(impl.TwoOpt(c, got.r, i, j)); !back.same(routeAnswer{r, -got.more, true}) {
					t.Fatalf("%v %v: %d %d twice: %v", c, r, i, j, back)
				}
				if got.more < 0 && got.more == best {
					ties++
				}
				if got.more < best {
					bestI, bestJ, best = i, j, got.more
				}
			}
		}
		expectTurn(t, "any", c, r, bestI, bestJ, best)
		if best < 0 {
			polished++
		}
		checkPolished(t, c, r)
	}
	if turned < 1000 || refused < 1000 || ties < 200 || polished < 200 {
		t.Errorf("%d turned, %d refused, %d ties, %d polished", turned, refused, ties, polished)
	}
}

func checkPolished(t *testing.T, c impl.Case, r impl.Route) {
	t.Helper()
	want, ok := r, impl.CostOf(c, r) >= 0
	if !ok {
		want = impl.Route{}
	}
	for {
		i, j, more := impl.BestTwoOpt(c, want)
		if more >= 0 {
			break
		}
		want, _, _ = impl.TwoOpt(c, want, i, j)
	}
	expectPolished(t, "any", c, r, want, ok)
	for i := range want.Stops {
		for j := range want.Stops {
			if _, more, _ := impl.TwoOpt(c, want, int64(i), int64(j)); more < 0 {
				t.Fatalf("%v %v: the turn %d %d costs %d", c, want, i, j, more)
			}
		}
	}
}

// planAnswer is what Relocated answers.
type planAnswer struct {
	p    impl.Plan
	more int64
	ok   bool
}

func answeredPlan(p impl.Plan, more int64, ok bool) planAnswer { return planAnswer{p, more, ok} }

func (a planAnswer) same(b planAnswer) bool {
	return samePlan(a.p, b.p) && a.more == b.more && a.ok == b.ok
}

func expectMoved(t *testing.T, what string, got, want planAnswer) {
	t.Helper()
	if !got.same(want) {
		t.Errorf("%s: %v, not %v", what, got, want)
	}
}

func expectMove(t *testing.T, what string, c impl.Case, p impl.Plan, id, to, at, more int64) {
	t.Helper()
	if gotId, gotTo, gotAt, got := impl.BestRelocate(c, p); gotId != id || gotTo != to || gotAt != at || got != more {
		t.Errorf("%s: %v: best move %d %d %d %d, not %d %d %d %d", what, p, gotId, gotTo, gotAt, got, id, to, at, more)
	}
}

// wantRelocated works out what Relocated answers from plans as a whole.
func wantRelocated(c impl.Case, p impl.Plan, id, to, at int64) planAnswer {
	if impl.PlanCode(c, p) != impl.PnOk || !slices.Contains(impl.Served(c, p), id) {
		return planAnswer{}
	}
	next := p
	for _, r := range p.Routes {
		if i := slices.Index(r.Stops, id); i >= 0 {
			next = withStops(c, next, r.Vehicle, slices.Concat(r.Stops[:i], r.Stops[i+1:]))
		}
	}
	stops := stopsOf(next, to)
	if at < 0 || at > int64(len(stops)) {
		return planAnswer{}
	}
	next = withStops(c, next, to, slices.Concat(stops[:at], []int64{id}, stops[at:]))
	if impl.PlanCode(c, next) != impl.PnOk {
		return planAnswer{}
	}
	return planAnswer{next, impl.PlanCost(c, next) - impl.PlanCost(c, p), true}
}

func lineMoved(routes ...impl.Route) impl.Plan {
	return impl.Plan{Routes: routes, Left: linePlan().Left}
}

func TestMovesWordForWord(t *testing.T) {
	c, p := lineCase(), linePlan()
	c.Vehicles = []impl.Vehicle{{Id: 3, Home: 4, Room: 20, To: 2000}, c.Vehicles[0], {Id: 6, Home: 4, Room: 20, To: 2000}, c.Vehicles[1], {Id: 9, Room: 20, To: 2000}}
	for _, w := range []struct {
		what       string
		id, to, at int64
		want       planAnswer
	}{
		{"within its route", 104, 5, 1, planAnswer{lineMoved(route(5, 101, 104), route(7, 102, 103, 112)), 0, true}},
		{"where it is", 104, 5, 0, planAnswer{p, 0, true}},
		{"behind what is left of its route", 104, 5, 2, planAnswer{}},
		{"to the end of its route", 102, 7, 2, planAnswer{lineMoved(route(5, 104, 101), route(7, 103, 112, 102)), 0, true}},
		{"behind the end of its route", 102, 7, 3, planAnswer{}},
		{"to the beginning of another one", 104, 7, 0, planAnswer{lineMoved(route(5, 101), route(7, 104, 102, 103, 112)), -20, true}},
		{"to the end of another one", 104, 7, 3, planAnswer{lineMoved(route(5, 101), route(7, 102, 103, 112, 104)), -60, true}},
		{"behind the end of another one", 104, 7, 4, planAnswer{}},
		{"ahead of it", 104, 7, -1, planAnswer{}},
		{"into a new route, the first", 104, 3, 0, planAnswer{lineMoved(route(3, 104), route(5, 101), route(7, 102, 103, 112)), -60, true}},
		{"into a new route in the middle", 104, 6, 0, planAnswer{lineMoved(route(5, 101), route(6, 104), route(7, 102, 103, 112)), -60, true}},
		{"into a new route, the last", 104, 9, 0, planAnswer{lineMoved(route(5, 101), route(7, 102, 103, 112), route(9, 104)), 20, true}},
		{"behind the end of a new one", 104, 9, 1, planAnswer{}},
		{"no such vehicle", 104, 8, 0, planAnswer{}},
		{"no such order", 113, 5, 0, planAnswer{}},
		{"left", 105, 5, 0, planAnswer{}},
	} {
		expectMoved(t, w.what, answeredPlan(impl.Relocated(c, p, w.id, w.to, w.at)), w.want)
	}
	// To 3 and to 6 cost the same, and to 7 as the third stop, too.
	expectMove(t, "the least vehicle", c, p, 104, 3, 0, -60)
}

func TestRoutesThatGo(t *testing.T) {
	c := lineCase()
	p := lineMoved(route(5, 104), route(7, 101, 102, 103, 112))
	expectMoved(t, "the route goes", answeredPlan(impl.Relocated(c, p, 104, 7, 3)), planAnswer{lineMoved(route(7, 101, 102, 103, 104, 112)), -80, true})
	expectMoved(t, "it goes and is new", answeredPlan(impl.Relocated(c, p, 104, 5, 0)), planAnswer{p, 0, true})
	expectMoved(t, "behind the only place", answeredPlan(impl.Relocated(c, p, 104, 5, 1)), planAnswer{})
	expectMove(t, "the route goes", c, p, 104, 7, 3, -80)
	p = lineMoved(route(5, 101, 102, 103, 112), route(7, 104))
	expectMoved(t, "the last route goes", answeredPlan(impl.Relocated(c, p, 104, 5, 4)), planAnswer{lineMoved(route(5, 101, 102, 103, 112, 104)), -80, true})
	expectMove(t, "the last route goes", c, p, 104, 5, 3, -80)
	got, n := impl.Descended(c, p, 60)
	if n != 1 || !samePlan(got, lineMoved(route(5, 101, 102, 103, 104, 112))) {
		t.Errorf("%v %d", got, n)
	}
	expectMove(t, "no move costs less than 0", c, got, 0, 0, 0, 0)
}

// Of moves that cost the same the least order comes first, then the least
// vehicle, then the least place.
func TestMovesThatCostTheSame(t *testing.T) {
	c := evenCase()
	c.Vehicles = append(c.Vehicles, impl.Vehicle{Id: 9, Room: 9, To: 1000})
	p := impl.Plan{Routes: []impl.Route{route(5, 13), route(7, 12), route(9, 11)}}
	expectMove(t, "all cost the same", c, p, 11, 5, 0, -10)
	c.Orders[0].Load = 9
	expectMove(t, "where 11 finds no other one", c, p, 12, 5, 0, -10)
	c = evenCase()
	c.Orders[2].Load = 9
	p = impl.Plan{Routes: []impl.Route{route(5, 13), route(7, 12)}, Left: []int64{11}}
	expectMove(t, "none finds room", c, p, 0, 0, 0, 0)
	c.Vehicles[1].Room = 10
	expectMove(t, "where 5 has no room", c, p, 13, 7, 0, -10)
	c.Vehicles[0].Room = 10
	expectMove(t, "the least order goes to the least vehicle", c, p, 12, 5, 0, -10)
}

// Only the plan that is made in the end must hold: without its first stop the
// route would be late.
func TestMovesWithinARouteThatIsLateBetween(t *testing.T) {
	c := lineCase()
	c.Orders = c.Orders[:3]
	c.Times.Times[2], c.Times.Times[3] = 500, 500
	c.Orders[1].To, c.Orders[2].To = 160, 160
	p := impl.Plan{Routes: []impl.Route{route(7, 101, 102, 103)}}
	if impl.PlanCode(c, p) != impl.PnOk {
		t.Fatal("does not hold")
	}
	expectRoute(t, "taken out", answered(impl.Removed(c, p.Routes[0], 0)), routeAnswer{})
	expectMoved(t, "where it was", answeredPlan(impl.Relocated(c, p, 101, 7, 0)), planAnswer{p, 0, true})
	expectMoved(t, "late", answeredPlan(impl.Relocated(c, p, 101, 7, 1)), planAnswer{})
	expectMoved(t, "what it leaves is late", answeredPlan(impl.Relocated(c, p, 101, 5, 0)), planAnswer{})
	expectMoved(t, "what it comes to is late", answeredPlan(impl.Relocated(c, p, 103, 5, 0)), planAnswer{})
	expectMoved(t, "within", answeredPlan(impl.Relocated(c, p, 103, 7, 1)), planAnswer{impl.Plan{Routes: []impl.Route{route(7, 101, 103, 102)}}, 0, true})
}

func TestSteps(t *testing.T) {
	c, p := lineCase(), linePlan()
	one := lineMoved(route(5, 101), route(7, 102, 103, 104, 112))
	two := lineMoved(route(7, 101, 102, 103, 104, 112))
	for _, w := range []struct {
		steps, n int64
		p        impl.Plan
	}{{0, 0, p}, {1, 1, one}, {2, 2, two}, {3, 2, two}, {59, 2, two}, {60, 2, two}, {61, -1, impl.Plan{}}, {-1, -1, impl.Plan{}}} {
		if got, n := impl.Descended(c, p, w.steps); n != w.n || !samePlan(got, w.p) {
			t.Errorf("%d steps: %v %d, not %v %d", w.steps, got, n, w.p, w.n)
		}
	}
	for _, steps := range far {
		if got, n := impl.Descended(c, p, steps); n != -1 || !samePlan(got, impl.Plan{}) {
			t.Errorf("%d steps: %v %d", steps, got, n)
		}
	}
	empty, _ := impl.EmptyPlan(c)
	expectMove(t, "nothing to move", c, empty, 0, 0, 0, 0)
	if got, n := impl.Descended(c, empty, 60); n != 0 || !samePlan(got, empty) {
		t.Errorf("%v %d", got, n)
	}
}

func TestNothingIsMovedInPlansThatDoNotHold(t *testing.T) {
	cases, plans := brokenPlans()
	for i, c := range cases {
		expectMoved(t, "does not hold", answeredPlan(impl.Relocated(c, plans[i], 104, 7, 1)), planAnswer{})
		expectMoved(t, "does not hold", answeredPlan(impl.Relocated(c, plans[i], 101, 5, 0)), planAnswer{})
		expectMove(t, "does not hold", c, plans[i], 0, 0, 0, 0)
		for _, steps := range []int64{0, 1, 60, 61} {
			if got, n := impl.Descended(c, plans[i], steps); n != -1 || !samePlan(got, impl.Plan{}) {
				t.Errorf("%v %d", got, n)
			}
		}
	}
	c, p := lineCase(), linePlan()
	for _, n := range append(slices.Clone(far), -1, 0, 6, 8, 100, 113) {
		expectMoved(t, "no such order", answeredPlan(impl.Relocated(c, p, n, 5, 0)), planAnswer{})
		expectMoved(t, "no such vehicle", answeredPlan(impl.Relocated(c, p, 104, n, 0)), planAnswer{})
		if n != 0 {
			expectMoved(t, "no such place", answeredPlan(impl.Relocated(c, p, 104, 7, n)), planAnswer{})
		}
	}
	for _, id := range p.Left {
		expectMoved(t, "left", answeredPlan(impl.Relocated(c, p, id, 5, 0)), planAnswer{})
	}
}

func TestOrdersThatAreMovedAreServedThere(t *testing.T) {
	d := &dice{62}
	moved, refused, ties, descents := 0, 0, 0, int64(0)
	for range 1500 {
		c := anyCase(d)
		p := holding(d, c)
		vehicles := []int64{0, impl.MaxId}
		for _, v := range c.Vehicles {
			vehicles = append(vehicles, v.Id)
		}
		slices.Sort(vehicles)
		var best [4]int64
		ids := anyIds(c)
		slices.Sort(ids)
		for _, id := range ids {
			for _, to := range vehicles {
				for at := int64(-1); at <= int64(len(stopsOf(p, to)))+1; at++ {
					got, want := answeredPlan(impl.Relocated(c, p, id, to, at)), wantRelocated(c, p, id, to, at)
					if !got.same(want) {
						t.Fatalf("%v %v: %d to %d at %d: %v, not %v", c, p, id, to, at, got, want)
					}
					if !got.ok {
						refused++
						continue
					}
					moved++
					if stops := stopsOf(got.p, to); stops[at] != id || impl.PlanCode(c, got.p) != impl.PnOk {
						t.Fatalf("%v %v: %d to %d at %d: %v", c, p, id, to, at, got)
					}
					if got.more < 0 && got.more == best[3] {
						ties++
					}
					if got.more < best[3] {
						best = [4]int64{id, to, at, got.more}
					}
				}
			}
		}
		expectMove(t, "any", c, p, best[0], best[1], best[2], best[3])
		descents += checkDescended(t, c, p, d.roll(0, 4))
	}
	if moved < 1000 || refused < 1000 || ties < 200 || descents < 200 {
		t.Errorf("%d moved, %d refused, %d ties, %d steps", moved, refused, ties, descents)
	}
}

// checkDescended answers how many steps were made.
func checkDescended(t *testing.T, c impl.Case, p impl.Plan, steps int64) int64 {
	t.Helper()
	want, count := p, int64(0)
	for count < steps {
		id, to, at, more := impl.BestRelocate(c, want)
		if more >= 0 {
			break
		}
		want, _, _ = impl.Relocated(c, want, id, to, at)
		count++
	}
	got, n := impl.Descended(c, p, steps)
	if n != count || !samePlan(got, want) || impl.PlanCode(c, got) != impl.PnOk || impl.PlanCost(c, got) > impl.PlanCost(c, p)-n {
		t.Fatalf("%v %v: %d steps: %v %d, not %v %d", c, p, steps, got, n, want, count)
	}
	end, more := impl.Descended(c, got, impl.MaxSteps)
	all, both := impl.Descended(c, p, impl.MaxSteps)
	if both != n+more || both == impl.MaxSteps || !samePlan(end, all) || n < steps && more != 0 {
		t.Fatalf("%v %v: %d and %d steps: %v, at once %d: %v", c, p, n, more, end, both, all)
	}
	for _, id := range impl.Served(c, end) {
		for _, v := range c.Vehicles {
			for at := range int64(impl.MaxOrders) {
				if _, more, _ := impl.Relocated(c, end, id, v.Id, at); more < 0 {
					t.Fatalf("%v %v: %d to %d at %d costs %d", c, end, id, v.Id, at, more)
				}
			}
		}
	}
	return n
}

func TestImprovingLeavesItsArguments(t *testing.T) {
	d := &dice{63}
	for range 500 {
		c := roomyCase(anyCase(d))
		p := roomyPlan(holding(d, c))
		r := anyRoute(d, c)
		r.Stops = roomy(r.Stops)
		i, j, steps := d.roll(0, 2), d.roll(1, 4), d.roll(0, 5)
		id, to := anyIds(c)[d.roll(0, int64(len(c.Orders))+2)], r.Vehicle
		caseWas, planWas, stopsWere := wholeCase(c), wholePlan(p), whole(r.Stops)
		alike(t, "TwoOpt", func() any { return answered(impl.TwoOpt(c, r, i, j)) })
		alike(t, "BestTwoOpt", func() any { i, j, more := impl.BestTwoOpt(c, r); return []int64{i, j, more} })
		alike(t, "Polished", func() any { r, ok := impl.Polished(c, r); return []any{r, ok} })
		alike(t, "Relocated", func() any { return answeredPlan(impl.Relocated(c, p, id, to, i)) })
		alike(t, "BestRelocate", func() any { id, to, at, more := impl.BestRelocate(c, p); return []int64{id, to, at, more} })
		alike(t, "Descended", func() any { p, n := impl.Descended(c, p, steps); return []any{p, n} })
		ownMemory(t, "TwoOpt", answered(impl.TwoOpt(c, r, i, j)).r.Stops)
		ownMemory(t, "Polished", first(impl.Polished(c, r)).Stops)
		ownMemory(t, "Relocated", listsOf(answeredPlan(impl.Relocated(c, p, id, to, i)).p)...)
		ownMemory(t, "Descended", listsOf(first(impl.Descended(c, p, steps)))...)
		if !sameCase(wholeCase(c), caseWas) || !samePlan(wholePlan(p), planWas) || !slices.Equal(whole(r.Stops), stopsWere) {
			t.Fatal("an argument was written into")
		}
	}
}
