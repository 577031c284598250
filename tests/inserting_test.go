package tests

import (
	"slices"
	"testing"

	"loop.example/g00265/impl"
)

func route(vehicle int64, stops ...int64) impl.Route {
	return impl.Route{Vehicle: vehicle, Stops: stops}
}

// tiesCase has so short times that much costs the same, and hours in which
// most can be driven.
func tiesCase(d *dice) impl.Case {
	n := d.roll(2, 4)
	c := impl.Case{Times: randomMatrix(d, n, d.roll(1, 4)), Fine: d.roll(0, 5)}
	for i := range d.roll(1, 7) {
		o := impl.Order{Id: 1 + 2*i, Place: d.roll(0, n-1), Load: d.roll(0, 2), From: d.roll(0, 3), To: d.roll(6, 40), Serve: d.roll(0, 1)}
		c.Orders = append(c.Orders, o)
	}
	for i := range d.roll(1, 3) {
		c.Vehicles = append(c.Vehicles, impl.Vehicle{Id: 2 + 2*i, Home: d.roll(0, n-1), Room: d.roll(2, 12), To: d.roll(10, 50)})
	}
	return c
}

// anyCase has ties, or longer times and loads.
func anyCase(d *dice) impl.Case {
	if d.roll(0, 1) == 1 {
		return tiesCase(d)
	}
	c := easyCase(d)
	c.Fine = d.roll(0, 25)
	return c
}

// anyRoute has some orders of the case; now and then it cannot be driven.
func anyRoute(d *dice, c impl.Case) impl.Route {
	r := impl.Route{Vehicle: d.roll(1, 9)}
	if len(c.Vehicles) > 0 && d.roll(0, 9) > 0 {
		r.Vehicle = c.Vehicles[d.roll(0, int64(len(c.Vehicles))-1)].Id
	}
	for _, at := range shuffled(d, places(len(c.Orders))) {
		if d.roll(0, 1) == 1 {
			r.Stops = append(r.Stops, c.Orders[at].Id)
		}
	}
	if len(r.Stops) > 0 && d.roll(0, 19) == 0 {
		r.Stops = append(r.Stops, r.Stops[0])
	}
	if d.roll(0, 4) > 0 {
		for len(r.Stops) > 0 && impl.CostOf(c, r) < 0 {
			r.Stops = r.Stops[1:]
		}
	}
	return r
}

// anyIds are those of all orders, and some that are none.
func anyIds(c impl.Case) []int64 {
	ids := []int64{-1, 0, impl.MaxId}
	for _, o := range c.Orders {
		ids = append(ids, o.Id)
	}
	return ids
}

// wantChange is what the document asks of a route with other stops.
func wantChange(c impl.Case, r impl.Route, stops []int64) (impl.Route, int64, bool) {
	next := impl.Route{Vehicle: r.Vehicle, Stops: stops}
	was, is := impl.CostOf(c, r), impl.CostOf(c, next)
	if was < 0 || is < 0 {
		return impl.Route{}, 0, false
	}
	return next, is - was, true
}

func wantInsert(c impl.Case, r impl.Route, id, at int64) (impl.Route, int64, bool) {
	if at < 0 || at > int64(len(r.Stops)) {
		return impl.Route{}, 0, false
	}
	return wantChange(c, r, slices.Concat(r.Stops[:at], []int64{id}, r.Stops[at:]))
}

func wantRemoved(c impl.Case, r impl.Route, at int64) (impl.Route, int64, bool) {
	if at < 0 || at >= int64(len(r.Stops)) {
		return impl.Route{}, 0, false
	}
	return wantChange(c, r, slices.Concat(r.Stops[:at], r.Stops[at+1:]))
}

// routeAnswer is what the functions that change a route answer.
type routeAnswer struct {
	r    impl.Route
	more int64
	ok   bool
}

func answered(r impl.Route, more int64, ok bool) routeAnswer { return routeAnswer{r, more, ok} }

func (a routeAnswer) same(b routeAnswer) bool {
	return sameRoute(a.r, b.r) && a.more == b.more && a.ok == b.ok
}

func expectRoute(t *testing.T, what string, got, want routeAnswer) {
	t.Helper()
	if !got.same(want) {
		t.Errorf("%s: %v, not %v", what, got, want)
	}
}

func expectPlace(t *testing.T, c impl.Case, r impl.Route, id, at, more int64, ok bool) {
	t.Helper()
	if gotAt, gotMore, gotOk := impl.BestPlace(c, r, id); gotAt != at || gotMore != more || gotOk != ok {
		t.Errorf("best place of %d in %v: %d %d %v, not %d %d %v", id, r, gotAt, gotMore, gotOk, at, more, ok)
	}
}

func TestInsertAndRemoveWordForWord(t *testing.T) {
	c, r := lineCase(), route(7, 102, 104)
	for _, w := range []struct {
		at   int64
		want routeAnswer
	}{
		{-1, routeAnswer{}},
		{0, routeAnswer{route(7, 103, 102, 104), 20, true}},
		{1, routeAnswer{route(7, 102, 103, 104), 0, true}},
		{2, routeAnswer{route(7, 102, 104, 103), 0, true}},
		{3, routeAnswer{}},
	} {
		expectRoute(t, "put in", answered(impl.InsertAt(c, r, 103, w.at)), w.want)
	}
	for _, w := range []struct {
		at   int64
		want routeAnswer
	}{
		{-1, routeAnswer{}},
		{0, routeAnswer{route(7, 104), 0, true}},
		{1, routeAnswer{route(7, 102), -40, true}},
		{2, routeAnswer{}},
	} {
		expectRoute(t, "taken out", answered(impl.Removed(c, r, w.at)), w.want)
	}
	// The first of two places that cost the same.
	expectPlace(t, c, r, 103, 1, 0, true)
}

func TestRoutesWithoutStopsAndWithOne(t *testing.T) {
	c := lineCase()
	expectRoute(t, "into none", answered(impl.InsertAt(c, route(5), 103, 0)), routeAnswer{route(5, 103), 60, true})
	expectRoute(t, "into none, behind it", answered(impl.InsertAt(c, route(5), 103, 1)), routeAnswer{})
	expectRoute(t, "out of none", answered(impl.Removed(c, route(5), 0)), routeAnswer{})
	expectRoute(t, "the only one", answered(impl.Removed(c, route(5, 103), 0)), routeAnswer{route(5), -60, true})
	expectRoute(t, "behind the only one", answered(impl.Removed(c, route(5, 103), 1)), routeAnswer{})
	expectPlace(t, c, route(5), 103, 0, 60, true)
	expectPlace(t, c, route(5, 103), 103, 0, 0, false)
}

func TestTwelveStopsTakeNoMore(t *testing.T) {
	c := lineCase()
	all := route(5, 101, 102, 103, 104, 105, 106, 107, 108, 109, 110, 111, 112)
	for at := range int64(12) {
		less, more, ok := impl.Removed(c, all, at)
		if !ok || len(less.Stops) != 11 || slices.Contains(less.Stops, 101+at) {
			t.Fatalf("%d out: %v", at, less)
		}
		expectRoute(t, "the twelfth", answered(impl.InsertAt(c, less, 101+at, at)), routeAnswer{all, -more, true})
		// On the way there and back all but the outermost place cost nothing;
		// that one costs the same on both sides of its neighbour.
		expectPlace(t, c, less, 101+at, min(at, 10), -more, true)
		expectPlace(t, c, all, 101+at, 0, 0, false)
	}
	expectRoute(t, "a stop behind the last one", answered(impl.Removed(c, all, 12)), routeAnswer{})
	for at := range int64(14) {
		expectRoute(t, "a thirteenth", answered(impl.InsertAt(c, all, 101, at)), routeAnswer{})
		expectRoute(t, "no order", answered(impl.InsertAt(c, all, 113, at)), routeAnswer{})
	}
}

// A route that has a code is refused though what would be made of it has none,
// and what would have a code is refused though the route has none.
func TestBothRoutesMustBeDriven(t *testing.T) {
	c := lineCase()
	c.Orders[1].To = 120
	expectRoute(t, "the late stop out", answered(impl.Removed(c, route(7, 101, 102), 0)), routeAnswer{})
	expectRoute(t, "late behind it", answered(impl.InsertAt(c, route(7, 102), 101, 0)), routeAnswer{})
	expectRoute(t, "just in time ahead of it", answered(impl.InsertAt(c, route(7, 102), 101, 1)), routeAnswer{route(7, 102, 101), 0, true})
	// Over place 1 it comes to place 2 sooner than straight on.
	c.Times.Times[2] = 500
	c.Orders[1].To = 200
	expectRoute(t, "late without the way round", answered(impl.Removed(c, route(7, 101, 102), 0)), routeAnswer{})
	expectRoute(t, "the way round put in", answered(impl.InsertAt(c, route(7, 102), 101, 0)), routeAnswer{})
	c.Orders[1].To = 1000
	expectRoute(t, "dearer without the way round", answered(impl.Removed(c, route(7, 101, 102), 0)), routeAnswer{route(7, 102), 480, true})
	expectPlace(t, c, route(7, 102), 101, 0, -480, true)
}

// codedRoutes are routes of these cases with each code of Schedule, to which
// 103 could be put in or of which a stop taken out if they had none.
func codedRoutes() (cases []impl.Case, routes []impl.Route) {
	for _, m := range wrongMatrices() {
		c := lineCase()
		c.Times = m
		cases, routes = append(cases, c), append(routes, route(7, 101, 102, 104))
	}
	for _, change := range []func(c *impl.Case, r *impl.Route){
		func(c *impl.Case, r *impl.Route) { c.Fine = -1 },
		func(c *impl.Case, r *impl.Route) { c.Orders[11].Id = impl.MaxId + 1 },
		func(c *impl.Case, r *impl.Route) { c.Vehicles[0].Id = 7 },
		func(c *impl.Case, r *impl.Route) { r.Vehicle = 6 },
		func(c *impl.Case, r *impl.Route) { r.Stops[1] = 113 },
		func(c *impl.Case, r *impl.Route) { r.Stops[2] = 101 },
		func(c *impl.Case, r *impl.Route) { r.Stops = slices.Repeat([]int64{101}, 13) },
		func(c *impl.Case, r *impl.Route) { r.Stops = make([]int64, 100000) },
		func(c *impl.Case, r *impl.Route) { c.Vehicles[1].Room = 2 },
		func(c *impl.Case, r *impl.Route) { c.Orders[3].To = 100 },
		func(c *impl.Case, r *impl.Route) { c.Vehicles[1].To = 180 },
	} {
		c, r := lineCase(), route(7, 101, 102, 104)
		change(&c, &r)
		cases, routes = append(cases, c), append(routes, r)
	}
	for _, id := range far {
		cases = append(cases, lineCase(), lineCase())
		routes = append(routes, route(id, 101, 102, 104), route(7, 101, id, 104))
	}
	return cases, routes
}

func TestRoutesWithACodeAreNotChanged(t *testing.T) {
	cases, routes := codedRoutes()
	for i, c := range cases {
		r := routes[i]
		if impl.CostOf(c, r) != -1 {
			t.Fatalf("%v %v can be driven", c, r)
		}
		for at := int64(-1); at < 5; at++ {
			expectRoute(t, "put in", answered(impl.InsertAt(c, r, 103, at)), routeAnswer{})
			expectRoute(t, "taken out", answered(impl.Removed(c, r, at)), routeAnswer{})
		}
		expectPlace(t, c, r, 103, 0, 0, false)
	}
}

func TestNumbersFarOffAreNotPutIn(t *testing.T) {
	c, r := lineCase(), route(7, 102, 104)
	for _, n := range append(slices.Clone(far), -1, 3, 1000) {
		expectRoute(t, "a place far off", answered(impl.InsertAt(c, r, 103, n)), routeAnswer{})
		expectRoute(t, "a stop far off", answered(impl.Removed(c, r, n)), routeAnswer{})
		for at := range int64(3) {
			expectRoute(t, "no order", answered(impl.InsertAt(c, r, n, at)), routeAnswer{})
		}
		expectPlace(t, c, r, n, 0, 0, false)
	}
	for at := range int64(3) {
		expectRoute(t, "in the route already", answered(impl.InsertAt(c, r, 104, at)), routeAnswer{})
	}
	expectPlace(t, c, r, 104, 0, 0, false)
}

func TestWhatIsPutInAndTakenOutLeavesTheRoute(t *testing.T) {
	d := &dice{51}
	put, refused, dearer, ties := 0, 0, 0, 0
	for range 3000 {
		c := anyCase(d)
		r := anyRoute(d, c)
		for _, id := range anyIds(c) {
			best, bestAt, found := int64(0), int64(0), false
			for at := int64(-1); at <= int64(len(r.Stops))+1; at++ {
				got, want := answered(impl.InsertAt(c, r, id, at)), answered(wantInsert(c, r, id, at))
				if !got.same(want) {
					t.Fatalf("%v %v: %d at %d: %v, not %v", c, r, id, at, got, want)
				}
				if !got.ok {
					refused++
					continue
				}
				put++
				back := answered(impl.Removed(c, got.r, at))
				if !back.same(routeAnswer{r, -got.more, true}) {
					t.Fatalf("%v %v: %d at %d and out: %v", c, r, id, at, back)
				}
				if found && got.more == best {
					ties++
				}
				if !found || got.more < best {
					best, bestAt, found = got.more, at, true
				}
			}
			expectPlace(t, c, r, id, bestAt, best, found)
		}
		for at := int64(-1); at <= int64(len(r.Stops)); at++ {
			got, want := answered(impl.Removed(c, r, at)), answered(wantRemoved(c, r, at))
			if !got.same(want) {
				t.Fatalf("%v %v: out at %d: %v, not %v", c, r, at, got, want)
			}
			if got.more > 0 {
				dearer++
			}
		}
	}
	if put < 1000 || refused < 1000 || dearer < 100 || ties < 1000 {
		t.Errorf("%d put in, %d refused, %d dearer without, %d ties", put, refused, dearer, ties)
	}
}

func expectGreedyOne(t *testing.T, what string, c impl.Case, p, want impl.Plan, ok bool) {
	t.Helper()
	if got, gotOk := impl.GreedyOne(c, p); gotOk != ok || !samePlan(got, want) {
		t.Errorf("%s: %v %v, not %v %v", what, got, gotOk, want, ok)
	}
}

// evenCase has three orders, each 10 from all others and from home, and two
// vehicles, alike.
func evenCase() impl.Case {
	c := impl.Case{Times: evenMatrix(4, 10), Fine: 20}
	for i := range int64(3) {
		c.Orders = append(c.Orders, impl.Order{Id: 11 + i, Place: 1 + i, Load: 1, To: 1000})
	}
	c.Vehicles = []impl.Vehicle{{Id: 5, Room: 9, To: 1000}, {Id: 7, Room: 9, To: 1000}}
	return c
}

func TestGreedyTakesTheFirstOfThoseThatCostTheSame(t *testing.T) {
	c := evenCase()
	p, _ := impl.EmptyPlan(c)
	one := impl.Plan{Routes: []impl.Route{route(5, 11)}, Left: []int64{12, 13}}
	expectGreedyOne(t, "the first order, the first vehicle", c, p, one, true)
	two := impl.Plan{Routes: []impl.Route{route(5, 12, 11)}, Left: []int64{13}}
	expectGreedyOne(t, "the first place", c, one, two, true)
	c.Vehicles[0].Room = 0
	expectGreedyOne(t, "the vehicle that has room", c, p, impl.Plan{Routes: []impl.Route{route(7, 11)}, Left: []int64{12, 13}}, true)
	c = evenCase()
	c.Orders[0].Load, c.Orders[1].Load = 10, 10
	expectGreedyOne(t, "the order that finds room", c, p, impl.Plan{Routes: []impl.Route{route(5, 13)}, Left: []int64{11, 12}}, true)
	c = evenCase()
	c.Orders[0].Load = 9
	c.Vehicles[0].Room = 1
	expectGreedyOne(t, "the first order ahead of the first vehicle", c, p, impl.Plan{Routes: []impl.Route{route(7, 11)}, Left: []int64{12, 13}}, true)
	// An order that comes later and a vehicle that comes later, if that costs less.
	c.Vehicles[1].Home = 3
	expectGreedyOne(t, "what costs least", c, p, impl.Plan{Routes: []impl.Route{route(7, 13)}, Left: []int64{11, 12}}, true)
}

func TestGreedyTakesAtJustTheFine(t *testing.T) {
	c := evenCase()
	p, _ := impl.EmptyPlan(c)
	if got, ok := impl.Greedy(c, p); !ok || !samePlan(got, impl.Plan{Routes: []impl.Route{route(5, 13, 12, 11)}}) {
		t.Errorf("%v %v", got, ok)
	}
	c.Fine = 19
	expectGreedyOne(t, "one more than the fine", c, p, p, false)
	if got, ok := impl.Greedy(c, p); !ok || !samePlan(got, p) {
		t.Errorf("%v %v", got, ok)
	}
	// What costs more alone costs 10 once another one is served.
	p = impl.Plan{Routes: []impl.Route{route(7, 12)}, Left: []int64{11, 13}}
	if got, ok := impl.Greedy(c, p); !ok || !samePlan(got, impl.Plan{Routes: []impl.Route{route(7, 13, 11, 12)}}) {
		t.Errorf("%v %v", got, ok)
	}
	c.Fine = 10
	expectGreedyOne(t, "just the fine", c, p, impl.Plan{Routes: []impl.Route{route(7, 11, 12)}, Left: []int64{13}}, true)
	c.Fine = 9
	expectGreedyOne(t, "one more than the fine", c, p, p, false)
	c.Fine = 0
	for i := range c.Orders {
		c.Orders[i].Place = 0
	}
	p, _ = impl.EmptyPlan(c)
	if got, ok := impl.Greedy(c, p); !ok || !samePlan(got, impl.Plan{Routes: []impl.Route{route(5, 13, 12, 11)}}) {
		t.Errorf("for nothing: %v %v", got, ok)
	}
}

// A route that is new stands at its vehicle's place among the others.
func TestGreedyBeginsRoutes(t *testing.T) {
	for place, vehicle := range []int64{3, 5, 9} {
		c := evenCase()
		c.Vehicles = []impl.Vehicle{{Id: 3, Room: 1, To: 99}, {Id: 4, Room: 1, To: 99}, {Id: 5, Room: 1, To: 99}, {Id: 6, Room: 1, To: 99}, {Id: 9, Room: 1, To: 99}}
		for i := range c.Vehicles {
			if id := c.Vehicles[i].Id; id != 4 && id != 6 && id != vehicle {
				c.Vehicles[i].Room = 0
			}
		}
		p := impl.Plan{Routes: []impl.Route{route(4, 13), route(6, 11)}, Left: []int64{12}}
		want := impl.Plan{Routes: slices.Insert(slices.Clone(p.Routes), place, route(vehicle, 12))}
		expectGreedyOne(t, "a new route", c, p, want, true)
		if got, ok := impl.Greedy(c, p); !ok || !samePlan(got, want) {
			t.Errorf("%v %v, not %v", got, ok, want)
		}
	}
}

func TestGreedyWithNothingToTake(t *testing.T) {
	c := evenCase()
	full := impl.Plan{Routes: []impl.Route{route(5, 13, 12, 11)}}
	expectGreedyOne(t, "none left", c, full, full, false)
	c.Vehicles = nil
	p, _ := impl.EmptyPlan(c)
	expectGreedyOne(t, "no vehicles", c, p, p, false)
	if got, ok := impl.Greedy(c, p); !ok || !samePlan(got, p) {
		t.Errorf("no vehicles: %v %v", got, ok)
	}
	c.Orders = nil
	expectGreedyOne(t, "no orders", c, impl.Plan{}, impl.Plan{}, false)
	if got, ok := impl.Greedy(c, impl.Plan{}); !ok || !samePlan(got, impl.Plan{}) {
		t.Errorf("no orders: %v %v", got, ok)
	}
}

// brokenPlans do not hold for their cases: each code, and numbers far off.
func brokenPlans() (cases []impl.Case, plans []impl.Plan) {
	add := func(c impl.Case, p impl.Plan) { cases, plans = append(cases, c), append(plans, p) }
	for _, m := range wrongMatrices() {
		c := lineCase()
		c.Times = m
		add(c, linePlan())
	}
	for _, change := range []func(c *impl.Case, p *impl.Plan){
		func(c *impl.Case, p *impl.Plan) { c.Fine = impl.MaxWhen + 1 },
		func(c *impl.Case, p *impl.Plan) { c.Vehicles[0].Home = 16 },
		func(c *impl.Case, p *impl.Plan) { p.Routes = append(p.Routes, route(8)) },
		func(c *impl.Case, p *impl.Plan) { p.Routes[0].Stops = nil },
		func(c *impl.Case, p *impl.Plan) { p.Routes[0], p.Routes[1] = p.Routes[1], p.Routes[0] },
		func(c *impl.Case, p *impl.Plan) { c.Orders[3].To = 0 },
		func(c *impl.Case, p *impl.Plan) { c.Vehicles[1].To = 200 },
		func(c *impl.Case, p *impl.Plan) { c.Vehicles[0].Room = 1 },
		func(c *impl.Case, p *impl.Plan) { p.Routes[0].Stops = []int64{104, 101, 102} },
		func(c *impl.Case, p *impl.Plan) { p.Left[0] = 104 },
		func(c *impl.Case, p *impl.Plan) { p.Left[0], p.Left[1] = 106, 105 },
		func(c *impl.Case, p *impl.Plan) { p.Left = p.Left[1:] },
		func(c *impl.Case, p *impl.Plan) { p.Left = nil },
		func(c *impl.Case, p *impl.Plan) { *p = impl.Plan{} },
		func(c *impl.Case, p *impl.Plan) { p.Left = make([]int64, 100000) },
		func(c *impl.Case, p *impl.Plan) { p.Routes = make([]impl.Route, 100000) },
	} {
		c, p := lineCase(), linePlan()
		change(&c, &p)
		add(c, p)
	}
	for _, id := range far {
		vehicle, stop, left := linePlan(), linePlan(), linePlan()
		vehicle.Routes[1].Vehicle, stop.Routes[1].Stops[2], left.Left[6] = id, id, id
		add(lineCase(), vehicle)
		add(lineCase(), stop)
		add(lineCase(), left)
	}
	return cases, plans
}

func TestNothingIsPutIntoPlansThatDoNotHold(t *testing.T) {
	cases, plans := brokenPlans()
	for i, c := range cases {
		if impl.PlanCode(c, plans[i]) == impl.PnOk {
			t.Fatalf("%v holds", plans[i])
		}
		expectGreedyOne(t, "does not hold", c, plans[i], impl.Plan{}, false)
		if got, ok := impl.Greedy(c, plans[i]); ok || !samePlan(got, impl.Plan{}) {
			t.Errorf("%v %v", got, ok)
		}
	}
}

func stopsOf(p impl.Plan, vehicle int64) []int64 {
	for _, r := range p.Routes {
		if r.Vehicle == vehicle {
			return r.Stops
		}
	}
	return nil
}

// withStops is the plan with these stops for the vehicle's route, or without
// it when there are none.
func withStops(c impl.Case, p impl.Plan, vehicle int64, stops []int64) impl.Plan {
	next := impl.Plan{Left: p.Left}
	ids := []int64{vehicle}
	for _, v := range c.Vehicles {
		if v.Id != vehicle {
			ids = append(ids, v.Id)
		}
	}
	slices.Sort(ids)
	for _, id := range ids {
		list := stopsOf(p, id)
		if id == vehicle {
			list = stops
		}
		if len(list) > 0 {
			next.Routes = append(next.Routes, impl.Route{Vehicle: id, Stops: list})
		}
	}
	return next
}

// wantGreedyOne asks BestPlace of each order left with each vehicle, and how
// many others cost the same as the one that is taken.
func wantGreedyOne(c impl.Case, p impl.Plan) (next impl.Plan, ties int, ok bool) {
	next = p
	least := c.Fine + 1
	for i, id := range p.Left {
		for _, v := range c.Vehicles {
			r := impl.Route{Vehicle: v.Id, Stops: stopsOf(p, v.Id)}
			at, more, can := impl.BestPlace(c, r, id)
			if can && ok && more == least {
				ties++
			}
			if can && more < least {
				put, _, _ := impl.InsertAt(c, r, id, at)
				next = withStops(c, p, v.Id, put.Stops)
				next.Left = slices.Concat(p.Left[:i], p.Left[i+1:])
				least, ties, ok = more, 0, true
			}
		}
	}
	return next, ties, ok
}

func TestWhatIsPutInGreedilyHolds(t *testing.T) {
	d := &dice{52}
	taken, none, tied := 0, 0, 0
	for range 2000 {
		c := anyCase(d)
		p := holding(d, c)
		was := p
		for ok := true; ok; {
			want, ties, wantOk := wantGreedyOne(c, p)
			next, nextOk := impl.GreedyOne(c, p)
			if nextOk != wantOk || !samePlan(next, want) {
				t.Fatalf("%v %v: %v %v, not %v %v", c, p, next, nextOk, want, wantOk)
			}
			if impl.PlanCode(c, next) != impl.PnOk || impl.PlanCost(c, next) > impl.PlanCost(c, p) {
				t.Fatalf("%v %v: %v costs %d, code %d", c, p, next, impl.PlanCost(c, next), impl.PlanCode(c, next))
			}
			if ok = nextOk; ok {
				taken++
			} else {
				none++
			}
			if ties > 0 {
				tied++
			}
			p = next
		}
		if got, ok := impl.Greedy(c, was); !ok || !samePlan(got, p) {
			t.Fatalf("%v %v: %v %v, not %v", c, was, got, ok, p)
		}
		for _, id := range p.Left {
			for _, v := range c.Vehicles {
				if _, more, ok := impl.BestPlace(c, impl.Route{Vehicle: v.Id, Stops: stopsOf(p, v.Id)}, id); ok && more <= c.Fine {
					t.Fatalf("%v %v: %d could be taken by %d at %d", c, p, id, v.Id, more)
				}
			}
		}
	}
	if taken < 1000 || none < 1000 || tied < 500 {
		t.Errorf("%d taken, %d none, %d tied", taken, none, tied)
	}
}

// ownMemory fills the lists of one answer, with the room behind them, one by
// one: none must show in another one.
func ownMemory(t *testing.T, what string, lists ...[]int64) {
	t.Helper()
	for i, list := range lists {
		for k := range list[:cap(list)] {
			list[:cap(list)][k] = int64(-100 - i)
		}
	}
	for i, list := range lists {
		for _, n := range list[:cap(list)] {
			if n != int64(-100-i) {
				t.Fatalf("%s: two lists of the answer share memory", what)
			}
		}
	}
}

func listsOf(p impl.Plan) [][]int64 {
	lists := [][]int64{p.Left}
	for i := range p.Routes {
		lists = append(lists, p.Routes[i].Stops)
		p.Routes[i].Vehicle = spare
	}
	return lists
}

func TestPuttingInLeavesItsArguments(t *testing.T) {
	d := &dice{53}
	for range 500 {
		c := roomyCase(anyCase(d))
		p := roomyPlan(holding(d, c))
		r := anyRoute(d, c)
		r.Stops = roomy(r.Stops)
		at, id := d.roll(0, int64(len(r.Stops))), anyIds(c)[d.roll(0, int64(len(c.Orders))+2)]
		caseWas, planWas, stopsWere := wholeCase(c), wholePlan(p), whole(r.Stops)
		alike(t, "InsertAt", func() any { return answered(impl.InsertAt(c, r, id, at)) })
		alike(t, "Removed", func() any { return answered(impl.Removed(c, r, at)) })
		alike(t, "BestPlace", func() any { at, more, ok := impl.BestPlace(c, r, id); return []any{at, more, ok} })
		alike(t, "GreedyOne", func() any { p, ok := impl.GreedyOne(c, p); return []any{p, ok} })
		alike(t, "Greedy", func() any { p, ok := impl.Greedy(c, p); return []any{p, ok} })
		ownMemory(t, "InsertAt", answered(impl.InsertAt(c, r, id, at)).r.Stops)
		ownMemory(t, "Removed", answered(impl.Removed(c, r, at)).r.Stops)
		ownMemory(t, "GreedyOne", listsOf(first(impl.GreedyOne(c, p)))...)
		ownMemory(t, "Greedy", listsOf(first(impl.Greedy(c, p)))...)
		if !sameCase(wholeCase(c), caseWas) || !samePlan(wholePlan(p), planWas) || !slices.Equal(whole(r.Stops), stopsWere) {
			t.Fatal("an argument was written into")
		}
	}
}
