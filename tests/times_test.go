package tests

import (
	"reflect"
	"slices"
	"testing"

	"loop.example/g00265/impl"
)

// wrongMatrices are all not right.
func wrongMatrices() []impl.Matrix {
	list := []impl.Matrix{
		{},
		{N: 0, Times: []int64{0}},
		{N: 1},
		{N: 1, Times: []int64{1}},
		{N: 1, Times: []int64{-1}},
		{N: 1, Times: []int64{0, 0}},
		{N: -1, Times: []int64{0}},
		{N: -2, Times: []int64{0, 1, 1, 0}},
		{N: 2, Times: []int64{0, 1, 1}},
		{N: 2, Times: []int64{0, 1, 1, 0, 0}},
		{N: 2, Times: []int64{0, 1, 1, 1}},
		{N: 2, Times: []int64{0, -1, 1, 0}},
		{N: 2, Times: []int64{0, 1, -1, 0}},
		{N: 2, Times: []int64{0, impl.MaxTime + 1, 1, 0}},
		{N: 2, Times: []int64{0, 1, impl.MaxTime + 1, 0}},
		evenMatrix(impl.MaxPlaces+1, 1),
		{N: impl.MaxPlaces, Times: make([]int64, impl.MaxPlaces*impl.MaxPlaces-1)},
		{N: impl.MaxPlaces, Times: make([]int64, impl.MaxPlaces*impl.MaxPlaces+1)},
	}
	for _, n := range far {
		list = append(list, impl.Matrix{N: n}, impl.Matrix{N: n, Times: []int64{0}}, impl.Matrix{N: 2, Times: []int64{0, n, 1, 0}}, impl.Matrix{N: 1, Times: []int64{n}})
	}
	last := evenMatrix(impl.MaxPlaces, 1)
	last.Times[len(last.Times)-1] = 1
	return append(list, last)
}

func TestWrongMatricesHaveFixedAnswers(t *testing.T) {
	for _, m := range wrongMatrices() {
		if impl.MatrixOk(m) || impl.Triangle(m) || impl.Symmetric(m) {
			t.Errorf("right: %v", m)
		}
		if impl.TimeOf(m, 0, 0) != -1 || impl.PathTime(m, nil) != -1 || impl.PathTime(m, []int64{0}) != -1 {
			t.Errorf("a time in %v", m)
		}
		if c := impl.Closed(m); c.N != 0 || len(c.Times) != 0 {
			t.Errorf("closed %v: %v", m, c)
		}
	}
}

func TestMatrixLimitsAreMet(t *testing.T) {
	for _, n := range []int64{1, 2, impl.MaxPlaces} {
		for _, time := range []int64{0, 1, impl.MaxTime} {
			m := evenMatrix(n, time)
			if !impl.MatrixOk(m) || !impl.Triangle(m) || !impl.Symmetric(m) {
				t.Errorf("not right: %d places, %d", n, time)
			}
			if c := impl.Closed(m); !reflect.DeepEqual(c, m) {
				t.Errorf("closed: %d places, %d: %v", n, time, c)
			}
			if n > 1 && (impl.TimeOf(m, 0, n-1) != time || impl.TimeOf(m, n-1, 0) != time) {
				t.Errorf("time: %d places, %d", n, time)
			}
		}
	}
}

func TestTimeOfEachPair(t *testing.T) {
	d := &dice{1}
	for n := int64(1); n <= impl.MaxPlaces; n++ {
		m := randomMatrix(d, n, impl.MaxTime)
		for a := range n {
			for b := range n {
				if got := impl.TimeOf(m, a, b); got != m.Times[a*n+b] {
					t.Fatalf("%v: from %d to %d: %d", m, a, b, got)
				}
			}
		}
		for _, wrong := range append(slices.Clone(far), -1, n, n+1) {
			if impl.TimeOf(m, wrong, 0) != -1 || impl.TimeOf(m, 0, wrong) != -1 || impl.TimeOf(m, wrong, wrong) != -1 {
				t.Errorf("%d of %d places has a time", wrong, n)
			}
			if impl.PathTime(m, []int64{wrong}) != -1 || impl.PathTime(m, []int64{0, wrong}) != -1 || impl.PathTime(m, []int64{wrong, 0}) != -1 {
				t.Errorf("%d of %d places is on a path", wrong, n)
			}
		}
	}
}

func TestPathTimeAtItsLimit(t *testing.T) {
	m := evenMatrix(impl.MaxPlaces, impl.MaxTime)
	var path []int64
	for i := range int64(100) {
		path = append(path, i%impl.MaxPlaces)
		if got := impl.PathTime(m, path); got != i*impl.MaxTime {
			t.Fatalf("%d places: %d", i+1, got)
		}
	}
	if got := impl.PathTime(m, append(path, 0)); got != -1 {
		t.Errorf("101 places: %d", got)
	}
	if got := impl.PathTime(impl.Matrix{N: 1, Times: []int64{0}}, make([]int64, 100)); got != 0 {
		t.Errorf("100 times one place: %d", got)
	}
	if got := impl.PathTime(impl.Matrix{N: 1, Times: []int64{0}}, make([]int64, 101)); got != -1 {
		t.Errorf("101 times one place: %d", got)
	}
	path[99] = impl.MaxPlaces
	if got := impl.PathTime(m, path); got != -1 {
		t.Errorf("no place at the end: %d", got)
	}
	if got := impl.PathTime(m, nil); got != 0 {
		t.Errorf("no places: %d", got)
	}
}

func TestPathInTwoPartsTakesTheTimeOfBoth(t *testing.T) {
	d := &dice{2}
	for range 300 {
		n := edge(d, 1, impl.MaxPlaces)
		m := randomMatrix(d, n, impl.MaxTime)
		var path []int64
		for range d.roll(1, 100) {
			path = append(path, d.roll(0, n-1))
		}
		for i := range path {
			if got := impl.PathTime(m, path[:i+1]) + impl.PathTime(m, path[i:]); got != impl.PathTime(m, path) {
				t.Fatalf("%v in %v at %d: %d", path, m, i, got)
			}
		}
	}
}

// leastByLegs works the least times out by paths of one more leg at a time.
func leastByLegs(m impl.Matrix) []int64 {
	least := slices.Clone(m.Times)
	for range m.N {
		next := slices.Clone(least)
		for a := range m.N {
			for k := range m.N {
				for b := range m.N {
					next[a*m.N+b] = min(next[a*m.N+b], least[a*m.N+k]+m.Times[k*m.N+b])
				}
			}
		}
		least = next
	}
	return least
}

// zigzag has one short way through all places, whose order jumps to and fro.
func zigzag(n int64) impl.Matrix {
	m := evenMatrix(n, impl.MaxTime)
	for i := range n - 1 {
		m.Times[zig(n, i)*n+zig(n, i+1)] = 1
	}
	return m
}

func zig(n, i int64) int64 {
	if i%2 == 0 {
		return i / 2
	}
	return n - 1 - i/2
}

func TestClosedHasTheLeastTimes(t *testing.T) {
	d := &dice{3}
	list := []impl.Matrix{zigzag(2), zigzag(5), zigzag(impl.MaxPlaces)}
	for range 300 {
		list = append(list, randomMatrix(d, edge(d, 1, impl.MaxPlaces), []int64{1, 9, impl.MaxTime}[d.roll(0, 2)]))
	}
	for _, m := range list {
		c := impl.Closed(m)
		if c.N != m.N || !slices.Equal(c.Times, leastByLegs(m)) {
			t.Fatalf("closed %v: %v", m, c)
		}
		if !impl.MatrixOk(c) || !impl.Triangle(c) || !reflect.DeepEqual(impl.Closed(c), c) {
			t.Fatalf("closed %v has a shorter way round: %v", m, c)
		}
		for i := range m.Times {
			if c.Times[i] > m.Times[i] {
				t.Fatalf("closed %v is longer: %v", m, c)
			}
		}
	}
	if got := impl.TimeOf(impl.Closed(zigzag(impl.MaxPlaces)), 0, zig(impl.MaxPlaces, impl.MaxPlaces-1)); got != impl.MaxPlaces-1 {
		t.Errorf("way through all places: %d", got)
	}
}

func TestNoPathIsShorterThanClosed(t *testing.T) {
	d := &dice{4}
	for range 200 {
		n := edge(d, 1, impl.MaxPlaces)
		m := randomMatrix(d, n, d.roll(0, 30))
		c := impl.Closed(m)
		for range 30 {
			var path []int64
			for range d.roll(1, 8) {
				path = append(path, d.roll(0, n-1))
			}
			if impl.PathTime(m, path) < impl.TimeOf(c, path[0], path[len(path)-1]) {
				t.Fatalf("%v in %v is shorter than in %v", path, m, c)
			}
		}
	}
}

func TestTriangleAndSymmetricSeeEachPair(t *testing.T) {
	const n = impl.MaxPlaces
	for a := range int64(n) {
		for b := range int64(n) {
			if a == b {
				continue
			}
			m := evenMatrix(n, 5)
			m.Times[a*n+b] = 10
			if impl.Symmetric(m) || !impl.Triangle(m) {
				t.Errorf("10 from %d to %d: %v %v", a, b, impl.Symmetric(m), impl.Triangle(m))
			}
			m.Times[a*n+b] = 11
			if impl.Symmetric(m) || impl.Triangle(m) {
				t.Errorf("11 from %d to %d: %v %v", a, b, impl.Symmetric(m), impl.Triangle(m))
			}
			m.Times[b*n+a] = 11
			if !impl.Symmetric(m) || impl.Triangle(m) {
				t.Errorf("11 between %d and %d: %v %v", a, b, impl.Symmetric(m), impl.Triangle(m))
			}
		}
	}
}

func TestTriangleNeedsOnlyOneShorterWay(t *testing.T) {
	for k := range int64(impl.MaxPlaces) {
		m := evenMatrix(impl.MaxPlaces, impl.MaxTime)
		a, b := (k+3)%impl.MaxPlaces, (k+9)%impl.MaxPlaces
		m.Times[a*impl.MaxPlaces+k] = impl.MaxTime / 2
		m.Times[k*impl.MaxPlaces+b] = impl.MaxTime / 2
		if !impl.Triangle(m) {
			t.Errorf("by %d as long", k)
		}
		m.Times[k*impl.MaxPlaces+b]--
		if impl.Triangle(m) {
			t.Errorf("by %d shorter", k)
		}
	}
}

func TestTimesLeaveTheirArguments(t *testing.T) {
	d := &dice{5}
	for range 50 {
		n := edge(d, 1, impl.MaxPlaces)
		m := randomMatrix(d, n, impl.MaxTime)
		m.Times = roomy(m.Times)
		path := roomy([]int64{0, n - 1, 0})
		timesWere, pathWas := whole(m.Times), whole(path)
		alike(t, "MatrixOk", func() any { return impl.MatrixOk(m) })
		alike(t, "TimeOf", func() any { return impl.TimeOf(m, 0, n-1) })
		alike(t, "PathTime", func() any { return impl.PathTime(m, path) })
		alike(t, "Closed", func() any { return impl.Closed(m) })
		alike(t, "Triangle", func() any { return impl.Triangle(m) })
		alike(t, "Symmetric", func() any { return impl.Symmetric(m) })
		c := impl.Closed(m)
		for i := range c.Times {
			c.Times[i] = spare
		}
		if !slices.Equal(whole(m.Times), timesWere) || !slices.Equal(whole(path), pathWas) {
			t.Fatal("an argument was written into")
		}
	}
}
