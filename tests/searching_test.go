package tests

import (
	"math/big"
	"slices"
	"testing"

	"loop.example/g00265/impl"
)

const lastSeed = 1<<31 - 1

// noSeeds are just outside of the seeds, and far.
var noSeeds = append([]int64{-1, lastSeed + 1, -lastSeed}, far...)

// wantRand reckons in numbers without end.
func wantRand(seed int64) int64 {
	n := new(big.Int).Mul(big.NewInt(seed), big.NewInt(1103515245))
	n.Add(n, big.NewInt(12345))
	return n.Mod(n, big.NewInt(1<<31)).Int64()
}

// wantPicked counts the numbers that are left one by one.
func wantPicked(seed, n, k int64) ([]int64, int64) {
	taken := make([]bool, n)
	var list []int64
	for left := n; left > n-k; left-- {
		seed = wantRand(seed)
		skip := seed / 65536 % left
		for i := range n {
			if taken[i] {
				continue
			}
			if skip == 0 {
				taken[i] = true
				list = append(list, i)
				break
			}
			skip--
		}
	}
	return list, seed
}

func expectPicked(t *testing.T, seed, n, k int64, want []int64, last int64) {
	t.Helper()
	if list, s := impl.Picked(seed, n, k); s != last || !slices.Equal(list, want) {
		t.Errorf("seed %d: %d of %d: %v %d, not %v %d", seed, k, n, list, s, want, last)
	}
}

func anySeed(d *dice) int64 { return edge(d, 0, lastSeed) }

func TestNextRand(t *testing.T) {
	for _, w := range [][2]int64{
		{0, 12345}, {1, 1103527590}, {2, 59559187}, {77, 1218823938}, {1 << 30, 1073754169},
		{lastSeed - 1, 2087949151}, {lastSeed, 1043980748}, {-1, 0}, {lastSeed + 1, 0},
	} {
		if got := impl.NextRand(w[0]); got != w[1] {
			t.Errorf("behind %d: %d, not %d", w[0], got, w[1])
		}
	}
	for _, seed := range noSeeds {
		if got := impl.NextRand(seed); got != 0 {
			t.Errorf("behind %d: %d", seed, got)
		}
	}
	d := &dice{100}
	for range 20000 {
		seed := anySeed(d)
		if got := impl.NextRand(seed); got != wantRand(seed) || got < 0 || got > lastSeed {
			t.Fatalf("behind %d: %d, not %d", seed, got, wantRand(seed))
		}
	}
}

func TestPickedWordForWord(t *testing.T) {
	expectPicked(t, 1, 5, 5, []int64{3, 2, 0, 4, 1}, 2035015474)
	expectPicked(t, 0, 5, 5, []int64{0, 1, 3, 4, 2}, 229283573)
	expectPicked(t, lastSeed, 5, 5, []int64{4, 1, 2, 0, 3}, 571035320)
	expectPicked(t, 1, 5, 3, []int64{3, 2, 0}, 662824084)
	expectPicked(t, 1, 5, 1, []int64{3}, 1103527590)
	expectPicked(t, 1, 1, 1, []int64{0}, 1103527590)
	expectPicked(t, lastSeed, 64, 4, []int64{57, 63, 4, 0}, first(reversed(wantPicked(lastSeed, 64, 4))))
	all, last := impl.Picked(0, 64, 64)
	if last != 422948032 || len(all) != 64 || !slices.Equal(all[:4], []int64{0, 49, 7, 37}) || !slices.Equal(all[60:], []int64{57, 2, 34, 25}) {
		t.Errorf("%v %d", all, last)
	}
}

func reversed[A, B any](a A, b B) (B, A) { return b, a }

// Where none is picked the seed stays as it is.
func TestNoneOfSomeArePicked(t *testing.T) {
	for _, seed := range []int64{0, 1, lastSeed} {
		for _, n := range []int64{0, 1, 63, 64} {
			expectPicked(t, seed, n, 0, nil, seed)
		}
	}
}

func TestWhatIsNotPicked(t *testing.T) {
	for n := range int64(65) {
		for _, k := range append([]int64{-1, n + 1, n + 2}, far...) {
			expectPicked(t, 1, n, k, nil, -1)
		}
	}
	for _, n := range append([]int64{-1, 65, 66}, far...) {
		for _, k := range []int64{-1, 0, 1, 64, 65, n} {
			expectPicked(t, 1, n, k, nil, -1)
		}
	}
	for _, seed := range noSeeds {
		for _, n := range []int64{-1, 0, 1, 5, 64, 65} {
			expectPicked(t, seed, n, n, nil, -1)
			expectPicked(t, seed, n, 0, nil, -1)
		}
	}
}

func TestPickedAreUnlikeNumbersBelowTheBound(t *testing.T) {
	d := &dice{101}
	whole := 0
	for range 4000 {
		seed, n := anySeed(d), edge(d, 0, 64)
		k := edge(d, 0, n)
		list, last := impl.Picked(seed, n, k)
		want, wantLast := wantPicked(seed, n, k)
		if last != wantLast || !slices.Equal(list, want) {
			t.Fatalf("seed %d: %d of %d: %v %d, not %v %d", seed, k, n, list, last, want, wantLast)
		}
		rising := slices.Clone(list)
		slices.Sort(rising)
		if int64(len(slices.Compact(rising))) != k || k > 0 && (rising[0] < 0 || rising[k-1] >= n) {
			t.Fatalf("seed %d: %d of %d: %v", seed, k, n, list)
		}
		if k == n && n > 0 {
			whole++
		}
		fewer := edge(d, 0, k)
		some, between := impl.Picked(seed, n, fewer)
		if !slices.Equal(some, list[:fewer]) {
			t.Fatalf("seed %d: %d of %d: %v, %d of them %v", seed, k, n, list, fewer, some)
		}
		for range k - fewer {
			between = impl.NextRand(between)
		}
		if between != last {
			t.Fatalf("seed %d: %d and %d more of %d: seed %d, at once %d", seed, fewer, k-fewer, n, between, last)
		}
	}
	if whole < 300 {
		t.Errorf("all picked %d times", whole)
	}
}

// wantDestroyed works out what Destroyed answers from plans as a whole.
func wantDestroyed(c impl.Case, p impl.Plan, seed, k int64) planAnswer {
	if impl.PlanCode(c, p) != impl.PnOk {
		return planAnswer{impl.Plan{}, -1, false}
	}
	served := impl.Served(c, p)
	count := int64(len(served))
	list, last := wantPicked(seed, count, min(k, count))
	out := at(served, list)
	next := impl.Plan{Left: slices.Concat(p.Left, out)}
	slices.Sort(next.Left)
	for _, r := range p.Routes {
		var stops []int64
		for _, id := range r.Stops {
			if !slices.Contains(out, id) {
				stops = append(stops, id)
			}
		}
		if len(stops) > 0 {
			next.Routes = append(next.Routes, impl.Route{Vehicle: r.Vehicle, Stops: stops})
		}
	}
	if impl.PlanCode(c, next) != impl.PnOk {
		return planAnswer{p, last, false}
	}
	return planAnswer{next, last, true}
}

func destroyed(c impl.Case, p impl.Plan, seed, k int64) planAnswer {
	return answeredPlan(impl.Destroyed(c, p, seed, k))
}

// linePlanWithout is linePlan with these routes instead, all other orders left.
func linePlanWithout(routes ...impl.Route) impl.Plan {
	p := impl.Plan{Routes: routes}
	for _, o := range lineCase().Orders {
		if !slices.ContainsFunc(routes, func(r impl.Route) bool { return slices.Contains(r.Stops, o.Id) }) {
			p.Left = append(p.Left, o.Id)
		}
	}
	return p
}

func TestDestroyedWordForWord(t *testing.T) {
	c, p := lineCase(), linePlan()
	for _, w := range []struct {
		what    string
		seed, k int64
		want    planAnswer
	}{
		{"none", 1, 0, planAnswer{p, 1, true}},
		{"none by the last seed", lastSeed, 0, planAnswer{p, lastSeed, true}},
		{"104", 1, 1, planAnswer{linePlanWithout(route(5, 101), route(7, 102, 103, 112)), 1103527590, true}},
		{"104 and 103", 1, 2, planAnswer{linePlanWithout(route(5, 101), route(7, 102, 112)), 377401575, true}},
		{"104, 103 and 101: a route goes", 1, 3, planAnswer{linePlanWithout(route(7, 102, 112)), 662824084, true}},
		{"all but 102", 1, 4, planAnswer{linePlanWithout(route(7, 102)), first(reversed(wantPicked(1, 5, 4))), true}},
		{"all", 1, 5, planAnswer{linePlanWithout(), 2035015474, true}},
		{"more than there are", 1, 6, planAnswer{linePlanWithout(), 2035015474, true}},
		{"MaxOrders", 1, 12, planAnswer{linePlanWithout(), 2035015474, true}},
		{"one more than MaxOrders", 1, 13, planAnswer{impl.Plan{}, -1, false}},
		{"fewer than none", 1, -1, planAnswer{impl.Plan{}, -1, false}},
		{"101 by the seed 0", 0, 1, planAnswer{linePlanWithout(route(5, 104), route(7, 102, 103, 112)), 12345, true}},
		{"the last by the last seed", lastSeed, 1, planAnswer{linePlanWithout(route(5, 104, 101), route(7, 102, 103)), 1043980748, true}},
		{"no seed", -1, 1, planAnswer{impl.Plan{}, -1, false}},
		{"no seed, none to take", -1, 0, planAnswer{impl.Plan{}, -1, false}},
		{"behind the last seed", lastSeed + 1, 1, planAnswer{impl.Plan{}, -1, false}},
	} {
		expectMoved(t, w.what, destroyed(c, p, w.seed, w.k), w.want)
	}
}

func TestPlansThatServeNothingOrAllAreDestroyed(t *testing.T) {
	c := lineCase()
	empty, _ := impl.EmptyPlan(c)
	for _, k := range []int64{0, 1, 12} {
		expectMoved(t, "serves nothing", destroyed(c, empty, 9, k), planAnswer{empty, 9, true})
	}
	expectMoved(t, "serves nothing", destroyed(c, empty, 9, 13), planAnswer{impl.Plan{}, -1, false})
	none := lineCase()
	none.Orders = nil
	expectMoved(t, "no orders", destroyed(none, impl.Plan{}, 9, 3), planAnswer{impl.Plan{}, 9, true})
	expectMoved(t, "the least case", destroyed(impl.Case{Times: evenMatrix(1, 0)}, impl.Plan{}, 9, 3), planAnswer{impl.Plan{}, 9, true})
	all := linePlanWithout(route(5, 112, 111, 110, 109, 108, 107), route(7, 101, 102, 103, 104, 105, 106))
	_, last := wantPicked(9, 12, 12)
	expectMoved(t, "12 of 12", destroyed(c, all, 9, 12), planAnswer{empty, last, true})
	expectMoved(t, "11 of 12", destroyed(c, all, 9, 11), wantDestroyed(c, all, 9, 11))
	expectMoved(t, "13 of 12", destroyed(c, all, 9, 13), planAnswer{impl.Plan{}, -1, false})
}

// byOneWay has a plan that is late as soon as 101 is out of it, with the way
// round by it, unless 102 and 103 are out, too.
func byOneWay() (impl.Case, impl.Plan) {
	c := lineCase()
	c.Orders = c.Orders[:4]
	c.Times.Times[2], c.Times.Times[3] = 500, 500
	c.Orders[1].To, c.Orders[2].To = 160, 160
	return c, impl.Plan{Routes: []impl.Route{route(5, 104), route(7, 101, 102, 103)}}
}

// seedFor is the first seed by which just these of n are picked.
func seedFor(n int64, want ...int64) int64 {
	for seed := range int64(lastSeed) {
		if list, _ := wantPicked(seed, n, int64(len(want))); slices.Equal(list, want) {
			return seed
		}
	}
	panic("no such seed")
}

func TestPlansThatDoNotHoldOnceTheirOrdersAreTakenOut(t *testing.T) {
	c, p := byOneWay()
	if impl.PlanCode(c, p) != impl.PnOk {
		t.Fatal("does not hold")
	}
	for _, w := range []struct {
		what string
		out  []int64
		want impl.Plan
		ok   bool
	}{
		{"late", []int64{0}, p, false},
		{"102 and 103 are late", []int64{0, 3}, p, false},
		{"103 is late", []int64{1, 0}, p, false},
		{"102 is late", []int64{2, 3, 0}, p, false},
		{"102", []int64{1}, impl.Plan{Routes: []impl.Route{route(5, 104), route(7, 101, 103)}, Left: []int64{102}}, true},
		{"the route goes", []int64{0, 2, 1}, impl.Plan{Routes: []impl.Route{route(5, 104)}, Left: []int64{101, 102, 103}}, true},
		{"all", []int64{0, 1, 2, 3}, impl.Plan{Left: []int64{101, 102, 103, 104}}, true},
	} {
		k := int64(len(w.out))
		seed := seedFor(4, w.out...)
		_, last := wantPicked(seed, 4, k)
		expectMoved(t, w.what, destroyed(c, p, seed, k), planAnswer{w.want, last, w.ok})
	}
}

func TestPlansThatDoNotHoldAreNotDestroyed(t *testing.T) {
	nothing := planAnswer{impl.Plan{}, -1, false}
	cases, plans := brokenPlans()
	for i, c := range cases {
		for _, k := range []int64{0, 1, 12, 13} {
			expectMoved(t, "does not hold", destroyed(c, plans[i], 1, k), nothing)
		}
		expectMoved(t, "does not hold, no seed", destroyed(c, plans[i], -1, 1), nothing)
	}
	c, p := lineCase(), linePlan()
	for _, seed := range noSeeds {
		for _, k := range []int64{0, 1, 12} {
			expectMoved(t, "no seed", destroyed(c, p, seed, k), nothing)
		}
	}
	for _, k := range far {
		expectMoved(t, "far off", destroyed(c, p, 1, k), nothing)
		expectMoved(t, "far off", destroyed(c, p, k, k), nothing)
	}
}

// tightened leaves some hours just as long as the plan needs them, so that
// what is taken out makes it late where no shorter way is left.
func tightened(d *dice, c impl.Case, p impl.Plan) impl.Case {
	c.Orders, c.Vehicles = slices.Clone(c.Orders), slices.Clone(c.Vehicles)
	for _, r := range p.Routes {
		visits, home, _ := impl.Schedule(c, r)
		for i := range c.Orders {
			for _, v := range visits {
				if v.Id == c.Orders[i].Id && d.roll(0, 1) == 1 {
					c.Orders[i].To = v.Start
				}
			}
		}
		for i := range c.Vehicles {
			if c.Vehicles[i].Id == r.Vehicle && d.roll(0, 1) == 1 {
				c.Vehicles[i].To = home
			}
		}
	}
	return c
}

// roundCase has so long times between some places that the way round by
// another one is shorter, and hours for all.
func roundCase(d *dice) impl.Case {
	n := d.roll(3, 9)
	c := impl.Case{Times: randomMatrix(d, n, 9), Fine: d.roll(5, 60)}
	for i, time := range c.Times.Times {
		if time > 0 && d.roll(0, 1) == 0 {
			c.Times.Times[i] = time * 10
		}
	}
	for i := range d.roll(2, 9) {
		c.Orders = append(c.Orders, impl.Order{Id: 1 + 2*i, Place: d.roll(0, n-1), Load: d.roll(0, 2), To: 1000})
	}
	for i := range d.roll(1, 3) {
		c.Vehicles = append(c.Vehicles, impl.Vehicle{Id: 2 + 2*i, Home: d.roll(0, n-1), Room: 20, To: 2000})
	}
	return c
}

// dealt serves nearly all orders, in any order, by any vehicle.
func dealt(d *dice, c impl.Case) impl.Plan {
	var p impl.Plan
	for _, at := range shuffled(d, places(len(c.Orders))) {
		id, v := c.Orders[at].Id, c.Vehicles[d.roll(0, int64(len(c.Vehicles))-1)].Id
		if d.roll(0, 9) == 0 {
			p.Left = append(p.Left, id)
		} else {
			p = withStops(c, p, v, append(slices.Clone(stopsOf(p, v)), id))
		}
	}
	slices.Sort(p.Left)
	return p
}

// tightCase is a case and a plan that holds for it, now and then just so.
func tightCase(d *dice) (impl.Case, impl.Plan) {
	c := anyCase(d)
	p := holding(d, c)
	if d.roll(0, 3) > 0 {
		c = roundCase(d)
		p, _ = impl.Descended(c, dealt(d, c), d.roll(0, 9))
	}
	if d.roll(0, 2) > 0 {
		c = tightened(d, c, p)
	}
	return c, p
}

func TestPlansThatAreDestroyedHold(t *testing.T) {
	d := &dice{102}
	whole, some, refused, gone := 0, 0, 0, 0
	for range 4000 {
		c, p := tightCase(d)
		seed, k := anySeed(d), d.roll(0, edge(d, 2, impl.MaxOrders))
		got, want := destroyed(c, p, seed, k), wantDestroyed(c, p, seed, k)
		if !got.same(want) {
			t.Fatalf("%v %v: seed %d, %d: %v, not %v", c, p, seed, k, got, want)
		}
		served := int64(len(impl.Served(c, p)))
		if impl.PlanCode(c, got.p) != impl.PnOk || got.ok && int64(len(got.p.Left)-len(p.Left)) != min(k, served) {
			t.Fatalf("%v %v: seed %d, %d: %v", c, p, seed, k, got)
		}
		switch {
		case !got.ok:
			refused++
		case k >= served && k > 0:
			whole++
		case k > 0:
			some++
		}
		if len(got.p.Routes) > 0 && len(got.p.Routes) < len(p.Routes) {
			gone++
		}
	}
	if whole < 300 || some < 300 || refused < 150 || gone < 100 {
		t.Errorf("%d whole, %d some, %d refused, %d with a route less", whole, some, refused, gone)
	}
}

// searchAnswer is what Searched answers.
type searchAnswer struct {
	p     impl.Plan
	trace []int64
	ok    bool
}

func searched(c impl.Case, p impl.Plan, seed, steps int64) searchAnswer {
	q, trace, ok := impl.Searched(c, p, seed, steps)
	return searchAnswer{q, trace, ok}
}

func (a searchAnswer) same(b searchAnswer) bool {
	return samePlan(a.p, b.p) && slices.Equal(a.trace, b.trace) && a.ok == b.ok
}

func expectSearched(t *testing.T, what string, got, want searchAnswer) {
	t.Helper()
	if !got.same(want) {
		t.Errorf("%s: %v, not %v", what, got, want)
	}
}

// stepCounts are how often steps of each kind were made.
type stepCounts struct{ less, even, more, refused, lessBehindRefused int }

// wantSearched makes the steps by what Destroyed, Greedy and Descended answer.
func wantSearched(c impl.Case, p impl.Plan, seed, steps int64, n *stepCounts) searchAnswer {
	if impl.PlanCode(c, p) != impl.PnOk {
		return searchAnswer{}
	}
	trace := []int64{impl.PlanCost(c, p)}
	refused := false
	for step := range steps {
		next, last, ok := impl.Destroyed(c, p, seed, []int64{1, 2, 3}[step%3])
		seed = last
		if !ok {
			n.refused++
			refused = true
		} else {
			next, _ = impl.Greedy(c, next)
			next, _ = impl.Descended(c, next, 3)
			switch was, is := impl.PlanCost(c, p), impl.PlanCost(c, next); {
			case is < was:
				p = next
				n.less++
				if refused {
					n.lessBehindRefused++
				}
			case is == was && !samePlan(next, p):
				n.even++
			case is > was:
				n.more++
			}
		}
		trace = append(trace, impl.PlanCost(c, p))
	}
	return searchAnswer{p, trace, true}
}

func TestSearchedWordForWord(t *testing.T) {
	c, p := lineCase(), linePlan()
	// All on one way there and back cost 240, whoever drives it.
	end := impl.Plan{Routes: []impl.Route{route(7, 101, 102, 103, 104, 105, 106, 107, 108, 109, 110, 111, 112)}}
	expectSearched(t, "no step", searched(c, p, 1, 0), searchAnswer{p, []int64{670}, true})
	// 104 is taken out; put in greedily all but 101 come into the route of 7,
	// and it is moved there.
	expectSearched(t, "one step", searched(c, p, 1, 1), searchAnswer{end, []int64{670, 240}, true})
	long := searched(c, p, 1, 60)
	if !long.ok || !samePlan(long.p, end) || len(long.trace) != 61 || long.trace[0] != 670 || slices.Max(long.trace[1:]) != 240 || slices.Min(long.trace) != 240 {
		t.Errorf("60 steps: %v", long)
	}
	expectSearched(t, "61 steps", searched(c, p, 1, 61), searchAnswer{})
	expectSearched(t, "fewer than none", searched(c, p, 1, -1), searchAnswer{})
	for _, seed := range []int64{0, lastSeed} {
		if got := searched(c, p, seed, 1); !got.same(wantSearched(c, p, seed, 1, &stepCounts{})) || !got.ok {
			t.Errorf("seed %d: %v", seed, got)
		}
	}
	expectSearched(t, "no seed", searched(c, p, -1, 1), searchAnswer{})
	expectSearched(t, "behind the last seed", searched(c, p, lastSeed+1, 1), searchAnswer{})
}

func TestSearchesWithNothingToDo(t *testing.T) {
	least := impl.Case{Times: evenMatrix(1, 0)}
	expectSearched(t, "no orders", searched(least, impl.Plan{}, 3, 2), searchAnswer{impl.Plan{}, []int64{0, 0, 0}, true})
	c := lineCase()
	c.Vehicles = nil
	empty, _ := impl.EmptyPlan(c)
	expectSearched(t, "no vehicles", searched(c, empty, 3, 3), searchAnswer{empty, []int64{600, 600, 600, 600}, true})
	c = lineCase()
	c.Fine = 0
	for i := range c.Orders {
		c.Orders[i].To = 105
	}
	expectSearched(t, "none in time", searched(c, empty, 3, 1), searchAnswer{empty, []int64{0, 0}, true})
}

// What costs the same is not taken: the plan stays as it is.
func TestStepsThatCostTheSame(t *testing.T) {
	c := evenCase()
	p := impl.Plan{Routes: []impl.Route{route(5, 13, 12, 11)}}
	var n stepCounts
	// Behind the third step all were out, and come back as they were.
	for seed := range int64(20) {
		for _, trace := range [][]int64{{40, 40}, {40, 40, 40}, {40, 40, 40, 40}} {
			want, steps := searchAnswer{p, trace, true}, int64(len(trace))-1
			expectSearched(t, "costs the same", searched(c, p, seed, steps), want)
			if !wantSearched(c, p, seed, steps, &n).same(want) {
				t.Errorf("seed %d, %d steps", seed, steps)
			}
		}
	}
	if n.even < 20 {
		t.Errorf("%v", n)
	}
}

// The first step takes 101 out, which is late; the second one two others, by
// the seed that went on. With the first seed again it would be 101 again.
func TestSeedsGoOnBehindStepsThatAreRefused(t *testing.T) {
	c, p := byOneWay()
	seed := int64(-1)
	for again := true; again; {
		seed++
		one, last := wantPicked(seed, 4, 1)
		two, _ := wantPicked(last, 4, 2)
		again = one[0] != 0 || slices.Contains(two, 0)
	}
	got := searched(c, p, seed, 2)
	if !got.ok || !slices.Equal(got.trace, []int64{140, 140, 80}) || impl.PlanCost(c, got.p) != 80 {
		t.Errorf("%v", got)
	}
	expectSearched(t, "refused", searched(c, p, seed, 1), searchAnswer{p, []int64{140, 140}, true})
	if _, _, ok := impl.Destroyed(c, p, seed, 2); ok {
		t.Error("the first seed takes 101 out in the second step, too")
	}
}

func TestPlansThatDoNotHoldAreNotSearched(t *testing.T) {
	cases, plans := brokenPlans()
	for i, c := range cases {
		for _, steps := range []int64{0, 1, 60, 61} {
			expectSearched(t, "does not hold", searched(c, plans[i], 1, steps), searchAnswer{})
		}
		expectSearched(t, "does not hold, no seed", searched(c, plans[i], -1, 1), searchAnswer{})
	}
	c, p := lineCase(), linePlan()
	for _, seed := range noSeeds {
		for _, steps := range []int64{0, 1, 60} {
			expectSearched(t, "no seed", searched(c, p, seed, steps), searchAnswer{})
		}
	}
	for _, steps := range far {
		expectSearched(t, "far off", searched(c, p, 1, steps), searchAnswer{})
	}
}

func TestSearchesNeverEndWithAPlanThatCostsMore(t *testing.T) {
	d := &dice{103}
	var n stepCounts
	for range 1500 {
		c, p := tightCase(d)
		seed, steps := anySeed(d), edge(d, 0, 9)
		got, want := searched(c, p, seed, steps), wantSearched(c, p, seed, steps, &n)
		if !got.same(want) {
			t.Fatalf("%v %v: seed %d, %d steps: %v, not %v", c, p, seed, steps, got, want)
		}
		if !slices.IsSortedFunc(got.trace, func(a, b int64) int { return int(b - a) }) || int64(len(got.trace)) != steps+1 {
			t.Fatalf("%v %v: seed %d: costs %v", c, p, seed, got.trace)
		}
		if impl.PlanCode(c, got.p) != impl.PnOk || got.trace[0] != impl.PlanCost(c, p) || got.trace[steps] != impl.PlanCost(c, got.p) {
			t.Fatalf("%v %v: seed %d: %v", c, p, seed, got)
		}
		fewer := d.roll(0, steps)
		if early := searched(c, p, seed, fewer); !slices.Equal(early.trace, got.trace[:fewer+1]) {
			t.Fatalf("%v %v: seed %d: %d steps %v, %d steps %v", c, p, seed, fewer, early.trace, steps, got.trace)
		}
	}
	if n.less < 500 || n.even < 300 || n.more < 100 || n.refused < 300 || n.lessBehindRefused < 30 {
		t.Errorf("%+v", n)
	}
}

func TestLongSearches(t *testing.T) {
	d := &dice{104}
	var n stepCounts
	late := 0
	for range 40 {
		c, p := tightCase(d)
		seed := anySeed(d)
		got, want := searched(c, p, seed, impl.MaxSteps), wantSearched(c, p, seed, impl.MaxSteps, &n)
		if !got.same(want) || len(got.trace) != impl.MaxSteps+1 {
			t.Fatalf("%v %v: seed %d: %v, not %v", c, p, seed, got, want)
		}
		if got.trace[impl.MaxSteps] < got.trace[6] {
			late++
		}
	}
	if late < 3 {
		t.Errorf("%d went on behind the sixth step", late)
	}
}

func TestSearchingLeavesItsArguments(t *testing.T) {
	d := &dice{105}
	refused := 0
	for range 500 {
		c, p := tightCase(d)
		c, p = roomyCase(c), roomyPlan(p)
		seed, k, steps := anySeed(d), d.roll(0, edge(d, 2, impl.MaxOrders)), d.roll(0, 6)
		caseWas, planWas := wholeCase(c), wholePlan(p)
		alike(t, "NextRand", func() any { return impl.NextRand(seed) })
		alike(t, "Picked", func() any { list, last := impl.Picked(seed, 64, k); return []any{list, last} })
		alike(t, "Destroyed", func() any { return destroyed(c, p, seed, k) })
		alike(t, "Searched", func() any { return searched(c, p, seed, steps) })
		ownMemory(t, "Picked", first(impl.Picked(seed, 64, k)))
		taken := destroyed(c, p, seed, k)
		if !taken.ok {
			refused++
		}
		ownMemory(t, "Destroyed", listsOf(taken.p)...)
		got := searched(c, p, seed, steps)
		ownMemory(t, "Searched", append(listsOf(got.p), got.trace)...)
		if !sameCase(wholeCase(c), caseWas) || !samePlan(wholePlan(p), planWas) {
			t.Fatal("an argument was written into")
		}
	}
	if refused < 10 {
		t.Errorf("%d refused", refused)
	}
}
