package tests

import (
	"math"
	"reflect"
	"slices"
	"testing"

	"loop.example/g00265/impl"
)

// dice is a random source of its own, so that every run tests the same inputs.
type dice struct{ state uint64 }

// roll answers a number low .. high.
func (d *dice) roll(low, high int64) int64 {
	d.state = d.state*6364136223846793005 + 1442695040888963407
	return low + int64((d.state>>33)%uint64(high-low+1))
}

// far are numbers outside of every limit.
var far = []int64{math.MinInt64, math.MinInt64 + 1, -1 << 32, 1 << 31, 1 << 32, 1<<32 + 1, math.MaxInt64 - 1, math.MaxInt64}

func randomMatrix(d *dice, n, longest int64) impl.Matrix {
	m := impl.Matrix{N: n}
	for a := range n {
		for b := range n {
			time := d.roll(0, longest)
			if a == b {
				time = 0
			}
			m.Times = append(m.Times, time)
		}
	}
	return m
}

func evenMatrix(n, time int64) impl.Matrix {
	m := impl.Matrix{N: n, Times: make([]int64, n*n)}
	for i := range m.Times {
		if int64(i)/n != int64(i)%n {
			m.Times[i] = time
		}
	}
	return m
}

// edge answers one of both ends of low .. high, or a number between them.
func edge(d *dice, low, high int64) int64 {
	return []int64{low, high, d.roll(low, high)}[d.roll(0, 2)]
}

func randomHours(d *dice) (int64, int64) {
	from := edge(d, 0, impl.MaxWhen)
	return from, edge(d, from, impl.MaxWhen)
}

func randomCase(d *dice) impl.Case {
	n := edge(d, 1, impl.MaxPlaces)
	c := impl.Case{Times: randomMatrix(d, n, edge(d, 0, impl.MaxTime)), Fine: edge(d, 0, impl.MaxWhen)}
	orders, vehicles := edge(d, 0, impl.MaxOrders), edge(d, 0, impl.MaxVehicles)
	for i := range orders {
		o := impl.Order{Id: 1 + i*70000000, Place: edge(d, 0, n-1), Load: edge(d, 0, impl.MaxLoad), Serve: edge(d, 0, impl.MaxTime)}
		o.Id += d.roll(0, 60000000)
		o.From, o.To = randomHours(d)
		c.Orders = append(c.Orders, o)
	}
	for i := range vehicles {
		v := impl.Vehicle{Id: impl.MaxId - vehicles + 1 + i, Home: edge(d, 0, n-1), Room: edge(d, 0, impl.MaxLoad)}
		v.From, v.To = randomHours(d)
		c.Vehicles = append(c.Vehicles, v)
	}
	return c
}

// spare is what stands in the room behind a list that is handed in.
const spare = -77

// roomy copies a list and leaves filled room behind it.
func roomy(list []int64) []int64 {
	long := append(slices.Clone(list), spare, spare, spare)
	return long[:len(list)]
}

func roomyCase(c impl.Case) impl.Case {
	c.Times.Times = roomy(c.Times.Times)
	c.Orders = append(slices.Clone(c.Orders), impl.Order{Id: spare})[:len(c.Orders)]
	c.Vehicles = append(slices.Clone(c.Vehicles), impl.Vehicle{Id: spare})[:len(c.Vehicles)]
	return c
}

// whole copies a list together with the room behind it.
func whole[T any](list []T) []T { return slices.Clone(list[:cap(list)]) }

func wholeCase(c impl.Case) impl.Case {
	c.Times.Times = whole(c.Times.Times)
	c.Orders = whole(c.Orders)
	c.Vehicles = whole(c.Vehicles)
	return c
}

// sameCase takes an empty list and nil for the same.
func sameCase(a, b impl.Case) bool {
	return a.Times.N == b.Times.N && a.Fine == b.Fine && slices.Equal(a.Times.Times, b.Times.Times) &&
		slices.Equal(a.Orders, b.Orders) && slices.Equal(a.Vehicles, b.Vehicles)
}

// alike fails unless call answers the same when it is asked again.
func alike(t *testing.T, name string, call func() any) {
	t.Helper()
	if first, second := call(), call(); !reflect.DeepEqual(first, second) {
		t.Errorf("%s: %v, then %v", name, first, second)
	}
}
