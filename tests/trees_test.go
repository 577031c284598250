package tests

import (
	"slices"
	"testing"

	"loop.example/g00265/impl"
)

// evenWays is the matrix with the time from the lesser to the greater place
// for both ways.
func evenWays(m impl.Matrix) impl.Matrix {
	m.Times = slices.Clone(m.Times)
	for a := range m.N {
		for b := range a {
			m.Times[a*m.N+b] = m.Times[b*m.N+a]
		}
	}
	return m
}

func anyTies(d *dice, n int64) impl.Matrix {
	return evenWays(randomMatrix(d, n, []int64{0, 1, 2, 5, 50, impl.MaxTime}[d.roll(0, 5)]))
}

// wantTree looks at all edges from a place that is in to one that is not,
// again and again, and tells how often another one has the same time.
func wantTree(m impl.Matrix) (list []impl.Edge, ties int) {
	in := map[int64]bool{0: true}
	for int64(len(in)) < m.N {
		best := impl.Edge{Time: impl.MaxTime + 1}
		same := 0
		for a := range m.N {
			for b := range m.N {
				time := m.Times[a*m.N+b]
				switch {
				case !in[a] || in[b] || time > best.Time:
				case time < best.Time:
					best, same = impl.Edge{A: a, B: b, Time: time}, 0
				default:
					same++
				}
			}
		}
		if same > 0 {
			ties++
		}
		list = append(list, best)
		in[best.B] = true
	}
	return list, ties
}

func expectTree(t *testing.T, what string, m impl.Matrix, want ...impl.Edge) {
	t.Helper()
	if got := impl.SpanTree(m); !slices.Equal(got, want) {
		t.Errorf("%s: %v: %v, not %v", what, m, got, want)
	}
}

func expectSpans(t *testing.T, what string, n int64, list []impl.Edge, want bool) {
	t.Helper()
	if got := impl.Spans(n, list); got != want {
		t.Errorf("%s: %d places, %v: %v", what, n, list, got)
	}
}

func expectTreeTime(t *testing.T, what string, list []impl.Edge, want int64) {
	t.Helper()
	if got := impl.TreeTime(list); got != want {
		t.Errorf("%s: %v: %d, not %d", what, list, got, want)
	}
}

// path has the edges of the places one behind the other.
func path(places ...int64) []impl.Edge {
	var list []impl.Edge
	for i := 1; i < len(places); i++ {
		list = append(list, impl.Edge{A: places[i-1], B: places[i]})
	}
	return list
}

// star has edges from all other places to one.
func star(n, to int64) []impl.Edge {
	var list []impl.Edge
	for place := range n {
		if place != to {
			list = append(list, impl.Edge{A: place, B: to})
		}
	}
	return list
}

func TestTreesOfFewPlaces(t *testing.T) {
	expectTree(t, "one place", evenMatrix(1, 0))
	expectSpans(t, "one place", 1, nil, true)
	expectSpans(t, "one place", 1, path(0, 0), false)
	for _, time := range []int64{0, 1, impl.MaxTime} {
		expectTree(t, "two places", evenMatrix(2, time), impl.Edge{A: 0, B: 1, Time: time})
	}
	expectSpans(t, "two places", 2, path(0, 1), true)
	expectSpans(t, "two places", 2, path(1, 0), true)
	expectSpans(t, "two places", 2, path(0, 0), false)
	expectSpans(t, "two places", 2, nil, false)
}

func TestTreeOfSixteenPlaces(t *testing.T) {
	c := lineCase()
	var line, star []impl.Edge
	for b := int64(1); b < impl.MaxPlaces; b++ {
		line = append(line, impl.Edge{A: b - 1, B: b, Time: 10})
		star = append(star, impl.Edge{A: 0, B: b, Time: impl.MaxTime})
	}
	expectTree(t, "a line", c.Times, line...)
	expectTreeTime(t, "a line", line, 150)
	expectSpans(t, "a line", 16, line, true)
	// Where all times are the same the least A is 0 each time.
	expectTree(t, "all the same", evenMatrix(16, impl.MaxTime), star...)
	expectTreeTime(t, "all the same", star, 15*impl.MaxTime)
	for i := range star {
		star[i].Time = 0
	}
	expectTree(t, "all nought", evenMatrix(16, 0), star...)
	expectSpans(t, "all nought", 16, star, true)
}

func TestEdgesOfTheSameTime(t *testing.T) {
	// Place 3 comes in first; then 1 and 2 are as near to 0 as to 3, and 2
	// is as near to 1.
	m := impl.Matrix{N: 4, Times: []int64{
		0, 5, 5, 1,
		5, 0, 5, 5,
		5, 5, 0, 5,
		1, 5, 5, 0,
	}}
	expectTree(t, "the least A, then the least B", m, impl.Edge{A: 0, B: 3, Time: 1}, impl.Edge{A: 0, B: 1, Time: 5}, impl.Edge{A: 0, B: 2, Time: 5})
	// From 0 to 2 it is the same as from 3 to 1: the least A counts ahead of
	// the least B.
	m = impl.Matrix{N: 4, Times: []int64{
		0, 9, 5, 1,
		9, 0, 9, 5,
		5, 9, 0, 9,
		1, 5, 9, 0,
	}}
	expectTree(t, "the least A ahead of B", m, impl.Edge{A: 0, B: 3, Time: 1}, impl.Edge{A: 0, B: 2, Time: 5}, impl.Edge{A: 3, B: 1, Time: 5})
	// A greater A with a lesser time counts ahead of both.
	m.Times[13], m.Times[7] = 4, 4
	expectTree(t, "the least time", m, impl.Edge{A: 0, B: 3, Time: 1}, impl.Edge{A: 3, B: 1, Time: 4}, impl.Edge{A: 0, B: 2, Time: 5})
}

func TestNoTreeOfOtherMatrices(t *testing.T) {
	for _, m := range wrongMatrices() {
		expectTree(t, "not right", m)
	}
	for _, n := range []int64{2, 5, impl.MaxPlaces} {
		for a := range n {
			for b := range n {
				m := evenMatrix(n, 7)
				m.Times[a*n+b]++
				expectTree(t, "not the same in both ways", m)
			}
		}
	}
}

func TestTreeTimeAtItsLimits(t *testing.T) {
	expectTreeTime(t, "none", nil, 0)
	sixteen := slices.Repeat([]impl.Edge{{A: 3, B: 3, Time: impl.MaxTime}}, 16)
	expectTreeTime(t, "sixteen", sixteen, 16*impl.MaxTime)
	expectTreeTime(t, "seventeen", append(slices.Clone(sixteen), impl.Edge{}), -1)
	expectTreeTime(t, "seventeen of nought", make([]impl.Edge, 17), -1)
	expectTreeTime(t, "many", make([]impl.Edge, 100000), -1)
	for at := range sixteen {
		for _, time := range append([]int64{-1, impl.MaxTime + 1, -impl.MaxTime}, far...) {
			wrong := slices.Clone(sixteen)
			wrong[at].Time = time
			expectTreeTime(t, "a wrong time", wrong, -1)
			expectTreeTime(t, "a wrong time alone", wrong[at:at+1], -1)
		}
		right := slices.Clone(sixteen)
		right[at].Time = 0
		expectTreeTime(t, "a time of nought", right, 15*impl.MaxTime)
	}
	// Its places are nothing to the time.
	for _, place := range far {
		expectTreeTime(t, "places far off", []impl.Edge{{A: place, B: -place, Time: 3}, {A: 1, B: place, Time: 4}}, 7)
	}
}

func TestWhatSpans(t *testing.T) {
	for n := int64(1); n <= impl.MaxPlaces; n++ {
		line := path(places(int(n))...)
		expectSpans(t, "a path", n, line, true)
		slices.Reverse(line)
		expectSpans(t, "a path, from its end", n, line, true)
		for to := range n {
			list := star(n, to)
			expectSpans(t, "a star", n, list, true)
			expectSpans(t, "n edges", n, append(slices.Clone(list), impl.Edge{A: 0, B: n - 1}), false)
			if n == 1 {
				continue
			}
			expectSpans(t, "n - 2 edges", n, list[1:], false)
			for _, place := range append([]int64{-1, n, impl.MaxPlaces}, far...) {
				wrong := slices.Clone(list)
				wrong[n-2].A = place
				expectSpans(t, "a place that is none", n, wrong, false)
				wrong = slices.Clone(list)
				wrong[0].B = place
				expectSpans(t, "a place that is none", n, wrong, false)
			}
			itself := slices.Clone(list)
			itself[n-2] = impl.Edge{A: to, B: to}
			expectSpans(t, "from a place to itself", n, itself, false)
		}
	}
	expectSpans(t, "a ring, and one left out", 4, path(0, 1, 2, 0), false)
	expectSpans(t, "a ring, and one left out", 4, path(1, 2, 3, 1), false)
	expectSpans(t, "two rings", 6, append(path(0, 1, 2, 0), path(3, 4, 3)...), false)
	expectSpans(t, "the same twice", 3, path(0, 1, 0), false)
	expectSpans(t, "a ring of n edges", 3, path(0, 1, 2, 0), false)
	expectSpans(t, "all in whatever direction", 5, []impl.Edge{{A: 4, B: 0}, {A: 1, B: 0}, {A: 2, B: 3}, {A: 3, B: 4}}, true)
	expectSpans(t, "times do not count", 3, []impl.Edge{{A: 0, B: 1, Time: -5}, {A: 2, B: 1, Time: far[0]}}, true)
	expectSpans(t, "seventeen places", 17, path(places(17)...), false)
	expectSpans(t, "many edges", 16, make([]impl.Edge, 100000), false)
	for _, n := range append([]int64{0, -1, 17}, far...) {
		for count := range 3 {
			expectSpans(t, "so many places", n, make([]impl.Edge, count), false)
		}
	}
}

// reached floods from place 0.
func reached(n int64, list []impl.Edge) bool {
	in := map[int64]bool{0: true}
	for range n {
		for _, e := range list {
			if in[e.A] || in[e.B] {
				in[e.A], in[e.B] = true, true
			}
		}
	}
	return int64(len(in)) == n
}

func TestSpansIsWhatEachPlaceComesToEachOtherBy(t *testing.T) {
	d := &dice{91}
	yes := 0
	for range 30000 {
		n := d.roll(1, impl.MaxPlaces)
		list := make([]impl.Edge, n-1)
		for i := range list {
			list[i] = impl.Edge{A: d.roll(0, n-1), B: d.roll(0, n-1), Time: d.roll(0, 3)}
			if d.roll(0, 9) > 0 {
				list[i] = impl.Edge{A: int64(i) + 1, B: d.roll(0, int64(i))}
			}
		}
		want := reached(n, list)
		if want {
			yes++
		}
		if impl.Spans(n, list) != want {
			t.Fatalf("%d places, %v: not %v", n, list, want)
		}
	}
	if yes < 5000 || yes > 25000 {
		t.Errorf("%d span", yes)
	}
}

// allLists tells every list of count of the edges, in their order.
func allLists(edges []impl.Edge, count int, tell func([]impl.Edge)) {
	var grow func(from int, begun []impl.Edge)
	grow = func(from int, begun []impl.Edge) {
		if len(begun) == count {
			tell(begun)
			return
		}
		for at := from; at < len(edges); at++ {
			grow(at+1, append(slices.Clone(begun), edges[at]))
		}
	}
	grow(0, nil)
}

func checkTree(t *testing.T, m impl.Matrix) (ties int) {
	t.Helper()
	want, ties := wantTree(m)
	expectTree(t, "random", m, want...)
	expectSpans(t, "random", m.N, want, true)
	total := int64(0)
	for _, e := range want {
		total += e.Time
	}
	expectTreeTime(t, "random", want, total)
	if t.Failed() {
		t.FailNow()
	}
	return ties
}

// Each list of edges that spans is another tree: none takes less time, nor
// does a path through all places, in whatever order.
func TestNoTreeNorPathTakesLess(t *testing.T) {
	d := &dice{92}
	trees, just, ties := 0, 0, 0
	for round := range 300 {
		m := anyTies(d, int64(round%5)+1)
		ties += checkTree(t, m)
		least := impl.TreeTime(impl.SpanTree(m))
		var edges []impl.Edge
		for a := range m.N {
			for b := range a {
				edges = append(edges, impl.Edge{A: a, B: b, Time: m.Times[a*m.N+b]})
			}
		}
		allLists(edges, int(m.N)-1, func(list []impl.Edge) {
			if !impl.Spans(m.N, list) {
				return
			}
			trees++
			if time := impl.TreeTime(list); time < least {
				t.Fatalf("%v: %v takes %d, not %d", m, list, time, least)
			} else if time == least {
				just++
			}
		})
		for _, way := range listRows(int(m.N)) {
			if time := impl.PathTime(m, way); time < least {
				t.Fatalf("%v: %v takes %d, not %d", m, way, time, least)
			}
		}
	}
	// Of 1 .. 5 places there are 1, 1, 3, 16 and 125 trees.
	if trees != 60*(1+1+3+16+125) || just < 1000 || ties < 200 {
		t.Errorf("%d trees, %d of them the least, %d ties", trees, just, ties)
	}
}

func TestTreesOfManyPlaces(t *testing.T) {
	d := &dice{93}
	ties := 0
	for range 1000 {
		m := anyTies(d, d.roll(6, impl.MaxPlaces))
		ties += checkTree(t, m)
		least := impl.TreeTime(impl.SpanTree(m))
		for range 20 {
			if way := shuffled(d, places(int(m.N))); impl.PathTime(m, way) < least {
				t.Fatalf("%v: %v takes %d, not %d", m, way, impl.PathTime(m, way), least)
			}
		}
		// Other trees: each place hangs on any that stands ahead of it.
		order := shuffled(d, places(int(m.N)))
		var other []impl.Edge
		for i, b := range order[1:] {
			a := order[d.roll(0, int64(i))]
			other = append(other, impl.Edge{A: a, B: b, Time: m.Times[a*m.N+b]})
		}
		if !impl.Spans(m.N, other) || impl.TreeTime(other) < least {
			t.Fatalf("%v: %v takes %d, not %d", m, other, impl.TreeTime(other), least)
		}
	}
	if ties < 1000 {
		t.Errorf("%d ties", ties)
	}
}

func TestTreesLeaveTheirArguments(t *testing.T) {
	d := &dice{94}
	for range 300 {
		m := anyTies(d, d.roll(1, impl.MaxPlaces))
		m.Times = roomy(m.Times)
		list := append(first(wantTree(m)), impl.Edge{A: spare}, impl.Edge{B: spare})[:m.N-1]
		timesWere, listWas := whole(m.Times), whole(list)
		alike(t, "SpanTree", func() any { return impl.SpanTree(m) })
		alike(t, "TreeTime", func() any { return impl.TreeTime(list) })
		alike(t, "Spans", func() any { return impl.Spans(m.N, list) })
		tree, again := impl.SpanTree(m), impl.SpanTree(m)
		for i := range tree[:cap(tree)] {
			tree[:cap(tree)][i] = impl.Edge{A: spare, B: spare, Time: spare}
		}
		if !slices.Equal(again, list) {
			t.Fatal("two answers share memory")
		}
		if !slices.Equal(whole(m.Times), timesWere) || !slices.Equal(whole(list), listWas) {
			t.Fatal("an argument was written into")
		}
	}
}
