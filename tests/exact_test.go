package tests

import (
	"math"
	"slices"
	"testing"

	"loop.example/g00265/impl"
)

// listRows are all rows of the places 0 .. count - 1, each made of the one
// ahead of it: the last place that can be made greater gets the least greater
// one of those behind it, and these stand in order again.
func listRows(count int) [][]int64 {
	row := places(count)
	rows := [][]int64{slices.Clone(row)}
	for {
		at := count - 2
		for at >= 0 && row[at] > row[at+1] {
			at--
		}
		if at < 0 {
			return rows
		}
		next := count - 1
		for row[next] < row[at] {
			next--
		}
		row[at], row[next] = row[next], row[at]
		slices.Reverse(row[at+1:])
		rows = append(rows, slices.Clone(row))
	}
}

func at(list, row []int64) []int64 {
	var next []int64
	for _, place := range row {
		next = append(next, list[place])
	}
	return next
}

func expectRow(t *testing.T, list []int64, n int64, want []int64, ok bool) {
	t.Helper()
	if got, gotOk := impl.Permuted(list, n); gotOk != ok || !slices.Equal(got, want) {
		t.Errorf("row %d of %v: %v %v, not %v %v", n, list, got, gotOk, want, ok)
	}
}

func TestCountOfRows(t *testing.T) {
	for n, want := range []int64{1, 1, 2, 6, 24, 120, 720, -1, -1} {
		if got := impl.Count(int64(n)); got != want {
			t.Errorf("%d things: %d, not %d", n, got, want)
		}
	}
	for _, n := range append([]int64{-1, -2, -6, 20, 21, 66}, far...) {
		if got := impl.Count(n); got != -1 {
			t.Errorf("%d things: %d", n, got)
		}
	}
}

// That there are Count rows, each of all places, which rise, leaves none out
// and tells none twice.
func TestRowsAreAllToldEachOnce(t *testing.T) {
	things := []int64{math.MaxInt64, -7, 0, math.MinInt64, 7, 1 << 40}
	for count := range impl.MaxExact + 1 {
		list, rows := things[:count], listRows(count)
		if int64(len(rows)) != impl.Count(int64(count)) {
			t.Fatalf("%d things make %d rows", count, len(rows))
		}
		var last []int64
		for n := range impl.Count(int64(count)) {
			got, ok := impl.Permuted(list, n)
			var row []int64
			for _, thing := range got {
				row = append(row, int64(slices.Index(list, thing)))
			}
			if sorted := slices.Sorted(slices.Values(row)); !ok || !slices.Equal(sorted, places(count)) {
				t.Fatalf("row %d of %v: %v %v", n, list, got, ok)
			}
			if n > 0 && slices.Compare(last, row) >= 0 {
				t.Fatalf("row %d of %d: %v behind %v", n, count, row, last)
			}
			last = row
			expectRow(t, list, n, at(list, rows[n]), true)
		}
	}
}

func TestFirstAndLastRow(t *testing.T) {
	list := []int64{60, 50, 40, 30, 20, 10}
	for count := range impl.MaxExact + 1 {
		begun := list[:count]
		turned := slices.Clone(begun)
		slices.Reverse(turned)
		last := impl.Count(int64(count)) - 1
		expectRow(t, begun, 0, begun, true)
		expectRow(t, begun, last, turned, true)
		expectRow(t, begun, last+1, nil, false)
		for _, n := range append([]int64{-1, -2, 720, 721}, far...) {
			expectRow(t, begun, n, nil, false)
		}
	}
	for _, count := range []int{7, 8, 20, 21, 66, 100000} {
		for _, n := range append([]int64{-2, -1, 0, 1, 719, 720, 5039}, far...) {
			expectRow(t, make([]int64, count), n, nil, false)
		}
	}
}

// Rows are those of places, so what stands there twice is told twice.
func TestRowsOfWhatStandsTwice(t *testing.T) {
	expectRow(t, []int64{5, 5}, 0, []int64{5, 5}, true)
	expectRow(t, []int64{5, 5}, 1, []int64{5, 5}, true)
	expectRow(t, []int64{5, 5}, 2, nil, false)
	for n, want := range [][]int64{{4, 9, 4}, {4, 4, 9}, {9, 4, 4}, {9, 4, 4}, {4, 4, 9}, {4, 9, 4}} {
		expectRow(t, []int64{4, 9, 4}, int64(n), want, true)
	}
	expectRow(t, []int64{4, 9, 4}, 6, nil, false)
	expectRow(t, []int64{1, 1, 1, 1, 1, 1}, 719, []int64{1, 1, 1, 1, 1, 1}, true)
}

// wantBestRoute asks CostOf each row, and tells how many rows that can be
// driven there are, and how many of them cost the least.
func wantBestRoute(c impl.Case, vehicle int64, ids []int64) (want routeAnswer, driven, least int) {
	if len(ids) > impl.MaxExact {
		return want, 0, 0
	}
	for _, row := range listRows(len(ids)) {
		r := impl.Route{Vehicle: vehicle, Stops: at(ids, row)}
		cost := impl.CostOf(c, r)
		if cost < 0 {
			continue
		}
		driven++
		switch {
		case !want.ok || cost < want.more:
			want, least = routeAnswer{r, cost, true}, 1
		case cost == want.more:
			least++
		}
	}
	return want, driven, least
}

func expectBest(t *testing.T, what string, c impl.Case, vehicle int64, ids []int64, want routeAnswer) {
	t.Helper()
	expectRoute(t, what, answered(impl.BestRoute(c, vehicle, ids)), want)
}

func TestBestRouteWordForWord(t *testing.T) {
	c := lineCase()
	expectBest(t, "no stops", c, 7, nil, routeAnswer{route(7), 0, true})
	expectBest(t, "no stops", c, 7, []int64{}, routeAnswer{route(7), 0, true})
	expectBest(t, "one stop", c, 5, []int64{103}, routeAnswer{route(5, 103), 60, true})
	// There and back again both ways cost the same: the first row counts.
	expectBest(t, "two rows", c, 5, []int64{103, 101}, routeAnswer{route(5, 103, 101), 60, true})
	expectBest(t, "two rows", c, 5, []int64{101, 103}, routeAnswer{route(5, 101, 103), 60, true})
	expectBest(t, "three stops", c, 5, []int64{103, 101, 105}, routeAnswer{route(5, 103, 105, 101), 100, true})
	six := []int64{101, 106, 103, 104, 102, 105}
	expectBest(t, "six stops", c, 7, six, routeAnswer{route(7, 101, 106, 105, 104, 103, 102), 120, true})
	expectBest(t, "seven stops", c, 7, append(six, 107), routeAnswer{})
	expectBest(t, "seven stops", c, 7, make([]int64, 7), routeAnswer{})
}

// Rows that cannot be driven do not count, however little they would cost.
func TestBestRouteKeepsHoursAndRoom(t *testing.T) {
	c := lineCase()
	c.Orders[1].To = 130
	expectBest(t, "just in time", c, 7, []int64{101, 103, 102}, routeAnswer{route(7, 101, 102, 103), 60, true})
	// Behind order 1 it would start order 2 at 122, so that comes first.
	c.Orders[1].To = 121
	expectBest(t, "one too late", c, 7, []int64{101, 103, 102}, routeAnswer{route(7, 102, 103, 101), 60, true})
	// It must be at the far place first, and then at the near one.
	c.Orders[2].To = 130
	c.Orders[1].From = 140
	c.Orders[1].To = 142
	c.Orders[0].From = 154
	c.Orders[0].To = 154
	expectBest(t, "one row alone", c, 7, []int64{101, 102, 103}, routeAnswer{route(7, 103, 102, 101), 60, true})
	c.Orders[0].To, c.Orders[0].From = 153, 153
	expectBest(t, "no row", c, 7, []int64{101, 102, 103}, routeAnswer{})
	c = lineCase()
	c.Vehicles[0].Room = 3
	expectBest(t, "just room", c, 5, []int64{104, 101, 102}, routeAnswer{route(5, 104, 102, 101), 80, true})
	c.Vehicles[0].Room = 2
	expectBest(t, "too much", c, 5, []int64{104, 101, 102}, routeAnswer{})
	c = lineCase()
	c.Vehicles[1].To = 100 + 80 + 6
	expectBest(t, "home just in time", c, 7, []int64{104, 101, 102}, routeAnswer{route(7, 104, 102, 101), 80, true})
	c.Vehicles[1].To--
	expectBest(t, "home too late", c, 7, []int64{104, 101, 102}, routeAnswer{})
}

func TestBestRouteOfWrongInputs(t *testing.T) {
	cases, routes := codedRoutes()
	late := 0
	for i, c := range cases {
		r := routes[i]
		_, _, code := impl.Schedule(c, r)
		want, _, _ := wantBestRoute(c, r.Vehicle, r.Stops)
		if code <= impl.RtRoom && want.ok {
			t.Fatalf("%v can be driven", r)
		}
		if code > impl.RtRoom {
			late++
		}
		expectBest(t, "a code", c, r.Vehicle, r.Stops, want)
		// A vehicle without stops asks for a right case and a vehicle alone.
		if code <= impl.RtVehicle {
			expectBest(t, "no stops", c, r.Vehicle, nil, routeAnswer{})
		}
	}
	if late != 2 {
		t.Errorf("%d late", late)
	}
	c := lineCase()
	for _, id := range append([]int64{-1, 0, 100, 113, impl.MaxId, impl.MaxId + 1}, far...) {
		expectBest(t, "no such vehicle", c, id, []int64{101}, routeAnswer{})
		expectBest(t, "no such vehicle", c, id, nil, routeAnswer{})
		expectBest(t, "no such order", c, 7, []int64{id}, routeAnswer{})
		expectBest(t, "no such order", c, 7, []int64{101, 102, 103, 104, 105, id}, routeAnswer{})
	}
	expectBest(t, "twice", c, 7, []int64{101, 101}, routeAnswer{})
	expectBest(t, "twice", c, 7, []int64{101, 102, 103, 104, 105, 101}, routeAnswer{})
	c.Vehicles = nil
	expectBest(t, "no vehicles", c, 7, nil, routeAnswer{})
	expectBest(t, "an empty case", impl.Case{}, 0, nil, routeAnswer{})
}

// someIds are some orders of the case in any order, as many at most; now and
// then one that is none, or that stands twice.
func someIds(d *dice, c impl.Case, most int64) []int64 {
	var ids []int64
	for _, at := range shuffled(d, places(len(c.Orders))) {
		if int64(len(ids)) < most {
			ids = append(ids, c.Orders[at].Id)
		}
	}
	if len(ids) > 0 && d.roll(0, 19) == 0 {
		ids[d.roll(0, int64(len(ids))-1)] = anyIds(c)[d.roll(0, int64(len(c.Orders))+2)]
	}
	return ids
}

func TestNoRowCostsLessThanTheBestRoute(t *testing.T) {
	d := &dice{71}
	none, some, tied, six := 0, 0, 0, 0
	for range 5000 {
		c := anyCase(d)
		ids := someIds(d, c, d.roll(0, 7))
		vehicle := anyRoute(d, c).Vehicle
		want, driven, least := wantBestRoute(c, vehicle, ids)
		expectBest(t, "random", c, vehicle, ids, want)
		if t.Failed() {
			t.Fatalf("%v %d %v", c, vehicle, ids)
		}
		switch {
		case driven == 0:
			none++
		case int64(driven) < impl.Count(int64(len(ids))):
			some++
		}
		if least > 1 {
			tied++
		}
		if want.ok && len(ids) == impl.MaxExact {
			six++
		}
	}
	if none < 500 || some < 200 || tied < 500 || six < 50 {
		t.Errorf("%d none, %d some, %d tied, %d of six", none, some, tied, six)
	}
}

func TestExactAnswersLeaveTheirArguments(t *testing.T) {
	d := &dice{72}
	for range 300 {
		c := roomyCase(anyCase(d))
		ids := roomy(someIds(d, c, d.roll(0, 7)))
		vehicle, n := anyRoute(d, c).Vehicle, d.roll(0, 30)
		caseWas, idsWere := wholeCase(c), whole(ids)
		alike(t, "Count", func() any { return impl.Count(n) })
		alike(t, "Permuted", func() any { row, ok := impl.Permuted(ids, n); return []any{row, ok} })
		alike(t, "BestRoute", func() any { return answered(impl.BestRoute(c, vehicle, ids)) })
		ownMemory(t, "Permuted", ids, first(impl.Permuted(ids, n)))
		copy(ids[:cap(ids)], idsWere)
		ownMemory(t, "BestRoute", ids, answered(impl.BestRoute(c, vehicle, ids)).r.Stops)
		copy(ids[:cap(ids)], idsWere)
		row, _ := impl.Permuted(ids, n)
		again, _ := impl.Permuted(ids, n)
		ownMemory(t, "two rows", row, again)
		if !sameCase(wholeCase(c), caseWas) || !slices.Equal(whole(ids), idsWere) {
			t.Fatal("an argument was written into")
		}
	}
}
