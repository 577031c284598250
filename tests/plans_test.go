package tests

import (
	"reflect"
	"slices"
	"strings"
	"testing"

	"loop.example/g00265/impl"
)

// linePlan holds for lineCase.
func linePlan() impl.Plan {
	return impl.Plan{
		Routes: []impl.Route{{Vehicle: 5, Stops: []int64{104, 101}}, {Vehicle: 7, Stops: []int64{102, 103, 112}}},
		Left:   []int64{105, 106, 107, 108, 109, 110, 111},
	}
}

func expectPlanCode(t *testing.T, what string, c impl.Case, p impl.Plan, want int64) {
	t.Helper()
	if got := impl.PlanCode(c, p); got != want {
		t.Errorf("%s: %v: code %d, not %d", what, p, got, want)
	}
	if want != impl.PnOk && (impl.PlanCost(c, p) != -1 || len(impl.Served(c, p)) != 0) {
		t.Errorf("%s: %v: costs %d, serves %v", what, p, impl.PlanCost(c, p), impl.Served(c, p))
	}
}

func TestPlanWordForWord(t *testing.T) {
	c, p := lineCase(), linePlan()
	expectPlanCode(t, "line", c, p, impl.PnOk)
	if got := impl.PlanCost(c, p); got != 80+240+7*50 {
		t.Errorf("costs %d", got)
	}
	if got := impl.Served(c, p); !slices.Equal(got, []int64{101, 102, 103, 104, 112}) {
		t.Errorf("serves %v", got)
	}
	if got := impl.PlanText(p); got != "route 5 104 101\nroute 7 102 103 112\nleft 105 106 107 108 109 110 111\n" {
		t.Errorf("%q", got)
	}
	if got := impl.PlanText(impl.Plan{}); got != "left\n" {
		t.Errorf("%q", got)
	}
}

func TestWrongPlans(t *testing.T) {
	route := func(vehicle int64, stops ...int64) impl.Route { return impl.Route{Vehicle: vehicle, Stops: stops} }
	c := lineCase()
	c.Orders = c.Orders[:4]
	for _, w := range []struct {
		what string
		p    impl.Plan
		code int64
	}{
		{"all left", impl.Plan{Left: []int64{101, 102, 103, 104}}, impl.PnOk},
		{"none left", impl.Plan{Routes: []impl.Route{route(7, 104, 102, 101, 103)}}, impl.PnOk},
		{"both vehicles", impl.Plan{Routes: []impl.Route{route(5, 104, 102), route(7, 103)}, Left: []int64{101}}, impl.PnOk},
		{"no stops", impl.Plan{Routes: []impl.Route{route(5)}, Left: []int64{101, 102, 103, 104}}, impl.PnRoute},
		{"no stops in the second one", impl.Plan{Routes: []impl.Route{route(5, 101), route(7)}, Left: []int64{102, 103, 104}}, impl.PnRoute},
		{"vehicles that fall", impl.Plan{Routes: []impl.Route{route(7, 101), route(5, 102)}, Left: []int64{103, 104}}, impl.PnRoute},
		{"one vehicle twice", impl.Plan{Routes: []impl.Route{route(5, 101), route(5, 102)}, Left: []int64{103, 104}}, impl.PnRoute},
		{"no such vehicle", impl.Plan{Routes: []impl.Route{route(6, 101)}, Left: []int64{102, 103, 104}}, impl.PnRoute},
		{"no such stop", impl.Plan{Routes: []impl.Route{route(5, 101, 105)}, Left: []int64{102, 103, 104}}, impl.PnRoute},
		{"twice in a route", impl.Plan{Routes: []impl.Route{route(5, 101, 101)}, Left: []int64{102, 103, 104}}, impl.PnRoute},
		{"in two routes", impl.Plan{Routes: []impl.Route{route(5, 101, 102), route(7, 103, 101)}, Left: []int64{104}}, impl.PnTwice},
		{"in a route and left", impl.Plan{Routes: []impl.Route{route(5, 101, 102)}, Left: []int64{102, 103, 104}}, impl.PnTwice},
		{"in a route and left twice", impl.Plan{Routes: []impl.Route{route(5, 104, 102)}, Left: []int64{103, 104, 101, 104}}, impl.PnTwice},
		{"left twice", impl.Plan{Left: []int64{101, 102, 102, 103, 104}}, impl.PnLeft},
		{"left twice in place of another one", impl.Plan{Left: []int64{101, 102, 102, 104}}, impl.PnLeft},
		{"left that falls", impl.Plan{Left: []int64{101, 103, 102, 104}}, impl.PnLeft},
		{"left is no order", impl.Plan{Left: []int64{101, 102, 103, 104, 105}}, impl.PnLeft},
		{"no order in place of one", impl.Plan{Left: []int64{101, 102, 103, 105}}, impl.PnLeft},
		{"nowhere", impl.Plan{Left: []int64{101, 102, 104}}, impl.PnLeft},
		{"nowhere, with a route", impl.Plan{Routes: []impl.Route{route(5, 101, 102)}, Left: []int64{104}}, impl.PnLeft},
		{"nothing", impl.Plan{}, impl.PnLeft},
	} {
		expectPlanCode(t, w.what, c, w.p, w.code)
	}
}

// Each fault has the code of its place; of several the first one is told.
func TestFirstCodeOfAPlan(t *testing.T) {
	faults := []func(c *impl.Case, p *impl.Plan){
		func(c *impl.Case, p *impl.Plan) { c.Fine = impl.MaxWhen + 1 },
		func(c *impl.Case, p *impl.Plan) { c.Orders[2].To = 0 },
		func(c *impl.Case, p *impl.Plan) { p.Routes[0].Stops = []int64{104, 101, 102} },
		func(c *impl.Case, p *impl.Plan) { p.Left = []int64{105, 107, 106, 108, 109, 110, 111} },
	}
	for set := range 1 << len(faults) {
		c, p := lineCase(), linePlan()
		want := int64(impl.PnOk)
		for i := len(faults) - 1; i >= 0; i-- {
			if set>>i&1 == 1 {
				faults[i](&c, &p)
				want = int64(i + 1)
			}
		}
		expectPlanCode(t, "several faults", c, p, want)
	}
}

func TestNumbersFarOffInPlans(t *testing.T) {
	for _, id := range append(slices.Clone(far), -1, 0, 113, impl.MaxId, impl.MaxId+1) {
		c, p := lineCase(), linePlan()
		p.Routes[1].Vehicle = id
		expectPlanCode(t, "vehicle", c, p, impl.PnRoute)
		p = linePlan()
		p.Routes[1].Stops[1] = id
		expectPlanCode(t, "stop", c, p, impl.PnRoute)
		for i := range linePlan().Left {
			p = linePlan()
			p.Left[i] = id
			expectPlanCode(t, "left", c, p, impl.PnLeft)
		}
	}
	c, p := lineCase(), linePlan()
	p.Left = make([]int64, 100000)
	expectPlanCode(t, "100000 left", c, p, impl.PnLeft)
	p.Routes = make([]impl.Route, 100000)
	expectPlanCode(t, "100000 routes", c, p, impl.PnRoute)
}

// Each code of Schedule breaks the plan, wherever the route stands.
func TestRoutesOfPlansCanBeDriven(t *testing.T) {
	for at := range 2 {
		for _, fault := range []func(c *impl.Case, p *impl.Plan){
			func(c *impl.Case, p *impl.Plan) { c.Vehicles[at].Id += 1 },
			func(c *impl.Case, p *impl.Plan) { p.Routes[at].Stops[0] = 113 },
			func(c *impl.Case, p *impl.Plan) { c.Vehicles[at].Room = 1 },
			func(c *impl.Case, p *impl.Plan) { c.Orders[p.Routes[at].Stops[0]-101].To = 0 },
			func(c *impl.Case, p *impl.Plan) { c.Vehicles[at].To = 101 },
		} {
			c, p := lineCase(), linePlan()
			fault(&c, &p)
			expectPlanCode(t, "a route with a code", c, p, impl.PnRoute)
		}
	}
}

func TestEmptyPlans(t *testing.T) {
	d := &dice{31}
	for range 200 {
		c := randomCase(d)
		p, ok := impl.EmptyPlan(c)
		if !ok || len(p.Routes) != 0 || len(p.Left) != len(c.Orders) {
			t.Fatalf("%v: %v", c, p)
		}
		for i, o := range c.Orders {
			if p.Left[i] != o.Id {
				t.Fatalf("%v: %v", c, p)
			}
		}
		expectPlanCode(t, "empty", c, p, impl.PnOk)
		if impl.PlanCost(c, p) != c.Fine*int64(len(c.Orders)) || len(impl.Served(c, p)) != 0 {
			t.Fatalf("%v costs %d", p, impl.PlanCost(c, p))
		}
		c.Fine = -1
		if p, ok := impl.EmptyPlan(c); ok || !samePlan(p, impl.Plan{}) {
			t.Fatalf("of a wrong case: %v", p)
		}
		expectPlanCode(t, "empty, of a wrong case", c, p, impl.PnCase)
	}
}

// wantCode works a plan's code out by counting how often each order stands where.
func wantCode(c impl.Case, p impl.Plan) int64 {
	inRoutes, left := map[int64]int{}, map[int64]int{}
	for i, r := range p.Routes {
		if impl.CostOf(c, r) < 0 || len(r.Stops) == 0 || i > 0 && p.Routes[i-1].Vehicle >= r.Vehicle {
			return impl.PnRoute
		}
		for _, id := range r.Stops {
			inRoutes[id]++
		}
	}
	for _, id := range p.Left {
		left[id]++
	}
	for id, n := range inRoutes {
		if n > 1 || left[id] > 0 {
			return impl.PnTwice
		}
	}
	all := 0
	for _, o := range c.Orders {
		if inRoutes[o.Id]+left[o.Id] != 1 {
			return impl.PnLeft
		}
		all++
	}
	if !slices.IsSorted(p.Left) || len(inRoutes)+len(left) != all {
		return impl.PnLeft
	}
	return impl.PnOk
}

// disturbed is a plan with one thing of it changed by chance.
func disturbed(d *dice, c impl.Case, p impl.Plan) impl.Plan {
	p = copyPlan(p)
	if len(c.Orders) == 0 {
		return p
	}
	id := c.Orders[d.roll(0, int64(len(c.Orders))-1)].Id
	switch d.roll(0, 5) {
	case 0:
		p.Left = append(p.Left, id)
	case 1:
		p.Left = append(p.Left, id)
		slices.Sort(p.Left)
	case 2:
		p.Left = shuffled(d, p.Left)
	case 3:
		p.Left = p.Left[:max(0, len(p.Left)-1)]
	case 4:
		if len(p.Routes) > 0 {
			r := &p.Routes[d.roll(0, int64(len(p.Routes))-1)]
			r.Stops = append(r.Stops, id)
		}
	case 5:
		if len(p.Routes) > 1 {
			p.Routes[0], p.Routes[1] = p.Routes[1], p.Routes[0]
		}
	}
	return p
}

func TestInPlansThatHoldEachOrderStandsOnce(t *testing.T) {
	d := &dice{32}
	count := map[int64]int{}
	for range 4000 {
		c := easyCase(d)
		p := anyPlan(d, c)
		if d.roll(0, 1) == 1 {
			p = holding(d, c)
		}
		if d.roll(0, 1) == 1 {
			p = disturbed(d, c, p)
		}
		code := wantCode(c, p)
		count[code]++
		expectPlanCode(t, "any", c, p, code)
		if code == impl.PnOk {
			checkPlan(t, c, p)
		}
	}
	for _, code := range []int64{impl.PnOk, impl.PnRoute, impl.PnTwice, impl.PnLeft} {
		if count[code] < 100 {
			t.Errorf("code %d only %d times", code, count[code])
		}
	}
}

func checkPlan(t *testing.T, c impl.Case, p impl.Plan) {
	t.Helper()
	cost, stops := c.Fine*int64(len(p.Left)), []int64(nil)
	for _, r := range p.Routes {
		cost += impl.CostOf(c, r)
		stops = append(stops, r.Stops...)
	}
	slices.Sort(stops)
	if impl.PlanCost(c, p) != cost || !slices.Equal(impl.Served(c, p), stops) {
		t.Fatalf("%v %v: costs %d, serves %v", c, p, impl.PlanCost(c, p), impl.Served(c, p))
	}
	all := append(stops, p.Left...)
	slices.Sort(all)
	for i, o := range c.Orders {
		if len(all) != len(c.Orders) || all[i] != o.Id {
			t.Fatalf("%v %v: %v", c, p, all)
		}
	}
	expectPlanComesBack(t, p)
}

func TestGreatestPlanCost(t *testing.T) {
	c := fullCase()
	c.Fine = impl.MaxWhen
	p, _ := impl.EmptyPlan(c)
	if got := impl.PlanCost(c, p); got != impl.MaxOrders*impl.MaxWhen {
		t.Errorf("%d", got)
	}
}

func expectPlanComesBack(t *testing.T, p impl.Plan) {
	t.Helper()
	text := impl.PlanText(p)
	back, ok := impl.ReadPlan(text)
	if text == "" || !ok || !samePlan(back, p) {
		t.Errorf("%v came back from %q as %v", p, text, back)
	}
}

// randomPlan can be written, whether there is a case for it or not.
func randomPlan(d *dice) impl.Plan {
	ids := func() []int64 {
		var list []int64
		for range edge(d, 0, impl.MaxOrders) {
			list = append(list, edge(d, 1, impl.MaxId))
		}
		return list
	}
	p := impl.Plan{Left: ids()}
	for range edge(d, 0, impl.MaxVehicles) {
		p.Routes = append(p.Routes, impl.Route{Vehicle: edge(d, 1, impl.MaxId), Stops: ids()})
	}
	return p
}

// fullPlan has as much of everything as a text may have.
func fullPlan() impl.Plan {
	p := impl.Plan{Left: slices.Repeat([]int64{impl.MaxId}, impl.MaxOrders)}
	for range impl.MaxVehicles {
		p.Routes = append(p.Routes, impl.Route{Vehicle: impl.MaxId, Stops: slices.Repeat([]int64{1}, impl.MaxOrders)})
	}
	return p
}

func TestPlansThatCanBeWrittenComeBack(t *testing.T) {
	d := &dice{33}
	for range 1000 {
		expectPlanComesBack(t, randomPlan(d))
	}
	expectPlanComesBack(t, fullPlan())
	expectPlanComesBack(t, impl.Plan{})
	expectPlanComesBack(t, impl.Plan{Routes: []impl.Route{{Vehicle: 1}}})
}

func TestPlansThatCannotBeWritten(t *testing.T) {
	check := func(what string, change func(p *impl.Plan)) {
		t.Helper()
		p := fullPlan()
		change(&p)
		if got := impl.PlanText(p); got != "" {
			t.Errorf("%s: %q", what, got)
		}
	}
	check("6 routes", func(p *impl.Plan) { p.Routes = append(p.Routes, impl.Route{Vehicle: 1}) })
	check("13 stops", func(p *impl.Plan) { p.Routes[4].Stops = append(p.Routes[4].Stops, 1) })
	check("13 left", func(p *impl.Plan) { p.Left = append(p.Left, 1) })
	for _, n := range append(slices.Clone(far), -1, 0, impl.MaxId+1) {
		for at := range impl.MaxVehicles {
			check("vehicle", func(p *impl.Plan) { p.Routes[at].Vehicle = n })
			check("first stop", func(p *impl.Plan) { p.Routes[at].Stops[0] = n })
			check("last stop", func(p *impl.Plan) { p.Routes[at].Stops[11] = n })
		}
		check("first left", func(p *impl.Plan) { p.Left[0] = n })
		check("last left", func(p *impl.Plan) { p.Left[11] = n })
	}
}

const planText = "route 7 1 20\nroute 30\nroute 7 1000000000\nleft 5 1\n"

func expectNoPlan(t *testing.T, s string) {
	t.Helper()
	if p, ok := impl.ReadPlan(s); ok || !reflect.DeepEqual(p, impl.Plan{}) {
		t.Errorf("read %.200q: %v %v", s, p, ok)
	}
}

func TestWrongPlanTexts(t *testing.T) {
	for _, s := range []string{
		"", " ", "\n", "left", "left ", "left \n", "left  1\n", "left 1 \n", "left 1  2\n", " left 1\n", "left 1", "left1\n", "lefts\n", "Left\n",
		"left 0\n", "left 01\n", "left +1\n", "left -1\n", "left 1.0\n", "left 1000000001\n", "left 10000000000\n", "left 18446744073709551617\n",
		"left\n\n", "\nleft\n", "left\nleft\n", "left\nroute 7 1\n", "left 1\nleft 2\n", "left\n ", "left\nx", "left\r\n", "left\t1\n",
		"route 7 1\n", "route\nleft\n", "route \nleft\n", "route 0 1\nleft\n", "route 7 0\nleft\n", "route 07 1\nleft\n", "route 7 01\nleft\n",
		"route 7 \nleft\n", "route 7  1\nleft\n", "route  7 1\nleft\n", "route 7 1 \nleft\n", "route 7 1\n\nleft\n", "route 7 1 left\n", "route 7 1left\n",
		"route 1000000001 1\nleft\n", "route 7 1000000001\nleft\n", "routes 7 1\nleft\n", "route7 1\nleft\n", "route -7 1\nleft\n",
		strings.Repeat("route 7 1\n", 6) + "left\n", "route 7" + strings.Repeat(" 1", 13) + "\nleft\n", "left" + strings.Repeat(" 1", 13) + "\n",
		"left " + strings.Repeat("1", 100000) + "\n",
	} {
		expectNoPlan(t, s)
	}
	for i := range len(planText) {
		expectNoPlan(t, planText[:i])
		if planText[i] == ' ' {
			for _, ahead := range []string{"0", "+", "-", " ", "\t", "\n"} {
				expectNoPlan(t, planText[:i+1]+ahead+planText[i+1:])
			}
		}
		if planText[i] == '\n' {
			for _, ahead := range []string{" ", " 0", "\n", "\r", "."} {
				expectNoPlan(t, planText[:i]+ahead+planText[i:])
			}
		}
	}
}

// Whatever is read must be the very text of what was read: here at each text
// that is one byte away from a right one.
func TestOnlyCanonicalPlanTextsAreRead(t *testing.T) {
	read := 0
	for _, s := range oneByteAway(planText) {
		p, ok := impl.ReadPlan(s)
		if ok {
			read++
		}
		if ok && impl.PlanText(p) != s || !ok && !reflect.DeepEqual(p, impl.Plan{}) {
			t.Fatalf("%q: %v %v", s, p, ok)
		}
	}
	if read < 100 {
		t.Errorf("only %d of them were read", read)
	}
}

func TestPlansLeaveTheirArguments(t *testing.T) {
	d := &dice{34}
	for range 200 {
		c := roomyCase(easyCase(d))
		p := roomyPlan(holding(d, c))
		caseWas, planWas := wholeCase(c), wholePlan(p)
		text := impl.PlanText(p)
		alike(t, "PlanCode", func() any { return impl.PlanCode(c, p) })
		alike(t, "EmptyPlan", func() any { e, ok := impl.EmptyPlan(c); return []any{e, ok} })
		alike(t, "PlanCost", func() any { return impl.PlanCost(c, p) })
		alike(t, "PlanText", func() any { return impl.PlanText(p) })
		alike(t, "ReadPlan", func() any { r, ok := impl.ReadPlan(text); return []any{r, ok} })
		alike(t, "Served", func() any { return impl.Served(c, p) })
		for _, list := range [][]int64{impl.Served(c, p), first(impl.EmptyPlan(c)).Left} {
			for i := range list {
				list[i] = spare
			}
		}
		if !sameCase(wholeCase(c), caseWas) || !samePlan(wholePlan(p), planWas) {
			t.Fatal("an argument was written into")
		}
	}
}

func TestReadPlansShareNothing(t *testing.T) {
	p, _ := impl.ReadPlan(planText)
	for i := range p.Routes {
		p.Routes[i].Stops = append(p.Routes[i].Stops, spare, spare)
	}
	p.Left = append(p.Left, spare)
	for i, want := range [][]int64{{1, 20, spare, spare}, {spare, spare}, {impl.MaxId, spare, spare}} {
		if !slices.Equal(p.Routes[i].Stops, want) {
			t.Errorf("%v, not %v", p.Routes[i].Stops, want)
		}
	}
}
