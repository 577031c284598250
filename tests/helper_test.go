package tests

import (
	"math"
	"reflect"
	"slices"
	"testing"

	"loop.example/g00265/impl"
)

// dice is a random source of its own, so that every run tests the same inputs.
type dice struct{ state uint64 }

// roll answers a number low .. high.
func (d *dice) roll(low, high int64) int64 {
	d.state = d.state*6364136223846793005 + 1442695040888963407
	return low + int64((d.state>>33)%uint64(high-low+1))
}

// far are numbers outside of every limit.
var far = []int64{math.MinInt64, math.MinInt64 + 1, -1 << 32, 1 << 31, 1 << 32, 1<<32 + 1, math.MaxInt64 - 1, math.MaxInt64}

func randomMatrix(d *dice, n, longest int64) impl.Matrix {
	m := impl.Matrix{N: n}
	for a := range n {
		for b := range n {
			time := d.roll(0, longest)
			if a == b {
				time = 0
			}
			m.Times = append(m.Times, time)
		}
	}
	return m
}

func evenMatrix(n, time int64) impl.Matrix {
	m := impl.Matrix{N: n, Times: make([]int64, n*n)}
	for i := range m.Times {
		if int64(i)/n != int64(i)%n {
			m.Times[i] = time
		}
	}
	return m
}

// edge answers one of both ends of low .. high, or a number between them.
func edge(d *dice, low, high int64) int64 {
	return []int64{low, high, d.roll(low, high)}[d.roll(0, 2)]
}

func randomHours(d *dice) (int64, int64) {
	from := edge(d, 0, impl.MaxWhen)
	return from, edge(d, from, impl.MaxWhen)
}

func randomCase(d *dice) impl.Case {
	n := edge(d, 1, impl.MaxPlaces)
	c := impl.Case{Times: randomMatrix(d, n, edge(d, 0, impl.MaxTime)), Fine: edge(d, 0, impl.MaxWhen)}
	orders, vehicles := edge(d, 0, impl.MaxOrders), edge(d, 0, impl.MaxVehicles)
	for i := range orders {
		o := impl.Order{Id: 1 + i*70000000, Place: edge(d, 0, n-1), Load: edge(d, 0, impl.MaxLoad), Serve: edge(d, 0, impl.MaxTime)}
		o.Id += d.roll(0, 60000000)
		o.From, o.To = randomHours(d)
		c.Orders = append(c.Orders, o)
	}
	for i := range vehicles {
		v := impl.Vehicle{Id: impl.MaxId - vehicles + 1 + i, Home: edge(d, 0, n-1), Room: edge(d, 0, impl.MaxLoad)}
		v.From, v.To = randomHours(d)
		c.Vehicles = append(c.Vehicles, v)
	}
	return c
}

// spare is what stands in the room behind a list that is handed in.
const spare = -77

// roomy copies a list and leaves filled room behind it.
func roomy(list []int64) []int64 {
	long := append(slices.Clone(list), spare, spare, spare)
	return long[:len(list)]
}

func roomyCase(c impl.Case) impl.Case {
	c.Times.Times = roomy(c.Times.Times)
	c.Orders = append(slices.Clone(c.Orders), impl.Order{Id: spare})[:len(c.Orders)]
	c.Vehicles = append(slices.Clone(c.Vehicles), impl.Vehicle{Id: spare})[:len(c.Vehicles)]
	return c
}

// whole copies a list together with the room behind it.
func whole[T any](list []T) []T { return slices.Clone(list[:cap(list)]) }

func wholeCase(c impl.Case) impl.Case {
	c.Times.Times = whole(c.Times.Times)
	c.Orders = whole(c.Orders)
	c.Vehicles = whole(c.Vehicles)
	return c
}

// sameCase takes an empty list and nil for the same.
func sameCase(a, b impl.Case) bool {
	return a.Times.N == b.Times.N && a.Fine == b.Fine && slices.Equal(a.Times.Times, b.Times.Times) &&
		slices.Equal(a.Orders, b.Orders) && slices.Equal(a.Vehicles, b.Vehicles)
}

// alike fails unless call answers the same when it is asked again.
func alike(t *testing.T, name string, call func() any) {
	t.Helper()
	if first, second := call(), call(); !reflect.DeepEqual(first, second) {
		t.Errorf("%s: %v, then %v", name, first, second)
	}
}

// easyCase has hours and room in which most short routes can be driven.
func easyCase(d *dice) impl.Case {
	n := d.roll(1, 8)
	c := impl.Case{Times: randomMatrix(d, n, d.roll(0, 20)), Fine: d.roll(0, 40)}
	for i := range edge(d, 0, impl.MaxOrders) {
		o := impl.Order{Id: 10*i + d.roll(1, 10), Place: d.roll(0, n-1), Load: d.roll(0, 4), From: d.roll(0, 60), Serve: d.roll(0, 5)}
		o.To = o.From + d.roll(20, 200)
		c.Orders = append(c.Orders, o)
	}
	for i := range edge(d, 0, impl.MaxVehicles) {
		v := impl.Vehicle{Id: 10*i + d.roll(1, 10), Home: d.roll(0, n-1), Room: d.roll(3, 20), From: d.roll(0, 30)}
		v.To = v.From + d.roll(50, 300)
		c.Vehicles = append(c.Vehicles, v)
	}
	return c
}

// shuffled answers the list in any order.
func shuffled(d *dice, list []int64) []int64 {
	list = slices.Clone(list)
	for i := range list {
		j := d.roll(0, int64(i))
		list[i], list[j] = list[j], list[i]
	}
	return list
}

// anyPlan deals all orders out, whether that can be driven or not.
func anyPlan(d *dice, c impl.Case) impl.Plan {
	stops := map[int64][]int64{}
	var p impl.Plan
	for _, at := range shuffled(d, places(len(c.Orders))) {
		if v := d.roll(-2, int64(len(c.Vehicles))-1); v >= 0 {
			stops[v] = append(stops[v], c.Orders[at].Id)
		} else {
			p.Left = append(p.Left, c.Orders[at].Id)
		}
	}
	slices.Sort(p.Left)
	for i, v := range c.Vehicles {
		if len(stops[int64(i)]) > 0 {
			p.Routes = append(p.Routes, impl.Route{Vehicle: v.Id, Stops: stops[int64(i)]})
		}
	}
	return p
}

func places(count int) []int64 {
	var list []int64
	for i := range count {
		list = append(list, int64(i))
	}
	return list
}

// holding leaves the stops of all routes of anyPlan that cannot be driven.
func holding(d *dice, c impl.Case) impl.Plan {
	p := anyPlan(d, c)
	var routes []impl.Route
	for _, r := range p.Routes {
		if impl.CostOf(c, r) >= 0 {
			routes = append(routes, r)
		} else {
			p.Left = append(p.Left, r.Stops...)
		}
	}
	slices.Sort(p.Left)
	p.Routes = routes
	return p
}

func roomyPlan(p impl.Plan) impl.Plan {
	q := impl.Plan{Left: roomy(p.Left)}
	for _, r := range p.Routes {
		q.Routes = append(q.Routes, impl.Route{Vehicle: r.Vehicle, Stops: roomy(r.Stops)})
	}
	q.Routes = append(q.Routes, impl.Route{Vehicle: spare})[:len(p.Routes)]
	return q
}

func copyPlan(p impl.Plan) impl.Plan {
	q := impl.Plan{Left: slices.Clone(p.Left)}
	for _, r := range p.Routes {
		q.Routes = append(q.Routes, impl.Route{Vehicle: r.Vehicle, Stops: slices.Clone(r.Stops)})
	}
	return q
}

// wholePlan copies a plan together with the room behind all its lists.
func wholePlan(p impl.Plan) impl.Plan {
	q := impl.Plan{Left: whole(p.Left), Routes: whole(p.Routes)}
	for i := range q.Routes {
		q.Routes[i].Stops = whole(q.Routes[i].Stops)
	}
	return q
}

func sameRoute(a, b impl.Route) bool {
	return a.Vehicle == b.Vehicle && slices.Equal(a.Stops, b.Stops)
}

// samePlan takes an empty list and nil for the same.
func samePlan(a, b impl.Plan) bool {
	return slices.Equal(a.Left, b.Left) && slices.EqualFunc(a.Routes, b.Routes, sameRoute)
}

// oneByteAway are the texts with one byte more, another one, or one less.
func oneByteAway(text string) []string {
	const bytes = "0123456789 \n+-.:!cxz\x00\xff"
	var list []string
	for i := range len(text) + 1 {
		for _, b := range []byte(bytes) {
			list = append(list, text[:i]+string([]byte{b})+text[i:])
			if i < len(text) {
				list = append(list, text[:i]+string([]byte{b})+text[i+1:])
			}
		}
		if i < len(text) {
			list = append(list, text[:i]+text[i+1:])
		}
	}
	return list
}

func first[A, B any](a A, b B) A { return a }
