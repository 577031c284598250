package tests

import (
	"slices"
	"testing"

	"loop.example/g00265/impl"
)

// lineCase has places 0, 1, 2 .. 15 in a row, a time of 10 from each to the
// next one, an order of load 1 and 2 to serve at each place but the first, and
// the vehicles 5 and 7 at home at place 0.
func lineCase() impl.Case {
	c := impl.Case{Times: evenMatrix(impl.MaxPlaces, 0), Fine: 50}
	for a := range int64(impl.MaxPlaces) {
		for b := range int64(impl.MaxPlaces) {
			c.Times.Times[a*impl.MaxPlaces+b] = 10 * max(a-b, b-a)
		}
	}
	for i := range int64(impl.MaxOrders) {
		c.Orders = append(c.Orders, impl.Order{Id: 101 + i, Place: 1 + i, Load: 1, From: 0, To: 1000, Serve: 2})
	}
	c.Vehicles = []impl.Vehicle{{Id: 5, Room: 20, From: 100, To: 2000}, {Id: 7, Room: 20, From: 100, To: 2000}}
	return c
}

func expectCode(t *testing.T, what string, c impl.Case, r impl.Route, want int64) {
	t.Helper()
	visits, home, code := impl.Schedule(c, r)
	late, leave := impl.Latest(c, r)
	if code != want {
		t.Errorf("%s: code %d, not %d", what, code, want)
	}
	if want == impl.RtOk {
		if len(visits) != len(r.Stops) || len(late) != len(r.Stops) || leave < 0 || impl.CostOf(c, r) < 0 || impl.WaitOf(c, r) < 0 {
			t.Errorf("%s: %v %v %d", what, visits, late, leave)
		}
		return
	}
	if len(visits) != 0 || home != 0 || len(late) != 0 || leave != -1 || impl.CostOf(c, r) != -1 || impl.WaitOf(c, r) != -1 {
		t.Errorf("%s: not nothing with code %d: %v %d %v %d", what, code, visits, home, late, leave)
	}
	if want < impl.RtLate && (impl.Keeps(c, r, nil) || impl.Keeps(c, r, make([]int64, len(r.Stops)))) {
		t.Errorf("%s: keeps with code %d", what, code)
	}
}

func TestRouteWithoutStops(t *testing.T) {
	c := lineCase()
	for _, hours := range [][2]int64{{0, 0}, {3, 3}, {3, 9}, {0, impl.MaxWhen}, {impl.MaxWhen, impl.MaxWhen}} {
		c.Vehicles[1].From, c.Vehicles[1].To = hours[0], hours[1]
		c.Vehicles[1].Room = 0
		r := impl.Route{Vehicle: 7, Stops: []int64{}}
		visits, home, code := impl.Schedule(c, r)
		late, leave := impl.Latest(c, r)
		if len(visits) != 0 || home != hours[0] || code != impl.RtOk || len(late) != 0 || leave != hours[1] {
			t.Errorf("%v: %v %d %d %v %d", hours, visits, home, code, late, leave)
		}
		if impl.CostOf(c, r) != 0 || impl.WaitOf(c, r) != 0 || !impl.Keeps(c, r, nil) || impl.Keeps(c, r, []int64{hours[0]}) {
			t.Errorf("%v: %d %d", hours, impl.CostOf(c, r), impl.WaitOf(c, r))
		}
	}
	expectCode(t, "no vehicle", c, impl.Route{}, impl.RtVehicle)
}

func TestRouteWordForWord(t *testing.T) {
	c := lineCase()
	c.Orders[2].From = 150
	c.Orders[0].To = 190
	r := impl.Route{Vehicle: 7, Stops: []int64{103, 101, 102}}
	visits, home, code := impl.Schedule(c, r)
	want := []impl.Visit{{Id: 103, Arrive: 130, Start: 150, Leave: 152}, {Id: 101, Arrive: 172, Start: 172, Leave: 174}, {Id: 102, Arrive: 184, Start: 184, Leave: 186}}
	if code != impl.RtOk || home != 206 || !slices.Equal(visits, want) {
		t.Errorf("%v %d %d", visits, home, code)
	}
	late, leave := impl.Latest(c, r)
	if !slices.Equal(late, []int64{168, 190, 1000}) || leave != 138 || impl.CostOf(c, r) != 80 || impl.WaitOf(c, r) != 20 {
		t.Errorf("%v %d %d %d", late, leave, impl.CostOf(c, r), impl.WaitOf(c, r))
	}
}

func TestTwelveStopsAndThirteen(t *testing.T) {
	c := lineCase()
	r := impl.Route{Vehicle: 5}
	for _, o := range c.Orders {
		r.Stops = append(r.Stops, o.Id)
	}
	expectCode(t, "12 stops", c, r, impl.RtOk)
	if got := impl.CostOf(c, r); got != 240 {
		t.Errorf("12 stops cost %d", got)
	}
	r.Stops = append(r.Stops, 101)
	expectCode(t, "13 stops", c, r, impl.RtOrder)
	r.Stops = make([]int64, 100000)
	expectCode(t, "100000 stops", c, r, impl.RtOrder)
	for i := range impl.MaxOrders {
		for j := range i {
			r.Stops = []int64{101, 102, 103, 104, 105, 106, 107, 108, 109, 110, 111, 112}
			r.Stops[i] = r.Stops[j]
			expectCode(t, "one stands twice", c, r, impl.RtOrder)
		}
	}
}

func TestLoadsFindJustRoom(t *testing.T) {
	c := lineCase()
	c.Orders[0].Load, c.Orders[1].Load = 600, 400
	r := impl.Route{Vehicle: 7, Stops: []int64{102, 101}}
	for room, want := range map[int64]int64{1000: impl.RtOk, 999: impl.RtRoom, 0: impl.RtRoom} {
		c.Vehicles[1].Room = room
		expectCode(t, "room", c, r, want)
	}
	c.Vehicles[1].Room, c.Orders[0].Load = impl.MaxLoad, 601
	expectCode(t, "one load more", c, r, impl.RtRoom)
	c.Vehicles[1].Room, c.Orders[0].Load, c.Orders[1].Load = 0, 0, 0
	expectCode(t, "no loads and no room", c, r, impl.RtOk)
}

func TestHoursAtTheirEnds(t *testing.T) {
	r := impl.Route{Vehicle: 7, Stops: []int64{101, 103}}
	for at, start := range []int64{110, 0, 132} {
		c := lineCase()
		if at == 1 {
			continue
		}
		c.Orders[at].To = start
		expectCode(t, "a start just in time", c, r, impl.RtOk)
		c.Orders[at].To = start - 1
		expectCode(t, "a start too late", c, r, impl.RtLate)
	}
	c := lineCase()
	c.Vehicles[1].To = 164
	expectCode(t, "home just in time", c, r, impl.RtOk)
	c.Vehicles[1].To = 163
	expectCode(t, "home too late", c, r, impl.RtHome)
	c = lineCase()
	for from, wait := range map[int64]int64{131: 0, 132: 0, 133: 1, 1000: 868} {
		c.Orders[2].From = from
		visits, _, code := impl.Schedule(c, r)
		if code != impl.RtOk || visits[1].Arrive != 132 || visits[1].Start != 132+wait || impl.WaitOf(c, r) != wait {
			t.Errorf("from %d: %v %d", from, visits, code)
		}
	}
}

// Each fault has the code of its place; of several the first one is told.
func TestFirstCodeOfARoute(t *testing.T) {
	faults := []func(c *impl.Case, r *impl.Route){
		func(c *impl.Case, r *impl.Route) { c.Fine = -1 },
		func(c *impl.Case, r *impl.Route) { r.Vehicle = 6 },
		func(c *impl.Case, r *impl.Route) { r.Stops = append(r.Stops, 113) },
		func(c *impl.Case, r *impl.Route) { c.Vehicles[1].Room = 1 },
		func(c *impl.Case, r *impl.Route) { c.Orders[1].To = 3 },
		func(c *impl.Case, r *impl.Route) { c.Vehicles[1].To = 100 },
	}
	for set := range 1 << len(faults) {
		c, r := lineCase(), impl.Route{Vehicle: 7, Stops: []int64{101, 102}}
		want := int64(impl.RtOk)
		for i := len(faults) - 1; i >= 0; i-- {
			if set>>i&1 == 1 {
				faults[i](&c, &r)
				want = int64(i + 1)
			}
		}
		expectCode(t, "several faults", c, r, want)
	}
}

func TestVehiclesAndStopsThatAreNone(t *testing.T) {
	c := lineCase()
	for _, id := range append(slices.Clone(far), -1, 0, 1, 4, 6, 8, 100, 113, impl.MaxId+1) {
		expectCode(t, "no vehicle", c, impl.Route{Vehicle: id, Stops: []int64{101}}, impl.RtVehicle)
		expectCode(t, "no order", c, impl.Route{Vehicle: 7, Stops: []int64{id}}, impl.RtOrder)
		expectCode(t, "no order behind one", c, impl.Route{Vehicle: 7, Stops: []int64{101, id}}, impl.RtOrder)
	}
	for _, m := range wrongMatrices() {
		c.Times = m
		expectCode(t, "wrong times", c, impl.Route{Vehicle: 7, Stops: []int64{101}}, impl.RtCase)
		expectCode(t, "wrong times, no stops", c, impl.Route{Vehicle: 7}, impl.RtCase)
	}
}

func TestIdsAtTheirEnds(t *testing.T) {
	c := lineCase()
	c.Orders[0].Id, c.Orders[11].Id = 1, impl.MaxId
	c.Vehicles[0].Id, c.Vehicles[1].Id = 1, impl.MaxId
	for _, r := range []impl.Route{{Vehicle: 1, Stops: []int64{1, impl.MaxId}}, {Vehicle: impl.MaxId, Stops: []int64{impl.MaxId, 1}}} {
		expectCode(t, "the least and the greatest Ids", c, r, impl.RtOk)
	}
}

// Times and hours as long as they can be add up as they should.
func TestGreatestNumbers(t *testing.T) {
	c := fullCase()
	for i := range c.Orders {
		c.Orders[i] = impl.Order{Id: 10 + int64(i), Place: int64(i), To: impl.MaxWhen, Serve: impl.MaxTime}
	}
	c.Vehicles[0].Home, c.Vehicles[0].To = 15, impl.MaxWhen
	r := impl.Route{Vehicle: 10, Stops: []int64{10, 11, 12, 13, 14, 15, 16, 17, 18, 19, 20, 21}}
	if _, home, code := impl.Schedule(c, r); code != impl.RtOk || home != 3+25*impl.MaxTime || impl.CostOf(c, r) != 13*impl.MaxTime {
		t.Errorf("%d %d %d", home, code, impl.CostOf(c, r))
	}
	if late, leave := impl.Latest(c, r); leave != impl.MaxWhen-25*impl.MaxTime || late[11] != impl.MaxWhen-2*impl.MaxTime {
		t.Errorf("%v %d", late, leave)
	}
	c.Orders[11].From = impl.MaxWhen
	c.Vehicles[0].From = impl.MaxWhen
	expectCode(t, "leaving at the last hour", c, r, impl.RtLate)
	c.Vehicles[0].From = 0
	expectCode(t, "waiting for the last hour", c, r, impl.RtHome)
}

// fewCase is so small that all starts can be tried.
func fewCase(d *dice) impl.Case {
	c := impl.Case{Times: randomMatrix(d, d.roll(1, 4), d.roll(0, 3)), Fine: d.roll(0, 9)}
	for i := range d.roll(1, 4) {
		o := impl.Order{Id: 1 + i, Place: d.roll(0, c.Times.N-1), Load: d.roll(0, 3), From: d.roll(0, 9), Serve: d.roll(0, 2)}
		o.To = d.roll(o.From, 11)
		c.Orders = append(c.Orders, o)
	}
	for i := range d.roll(1, 2) {
		v := impl.Vehicle{Id: 1 + i, Home: d.roll(0, c.Times.N-1), Room: d.roll(2, 9), From: d.roll(0, 4)}
		v.To = d.roll(v.From, 16)
		c.Vehicles = append(c.Vehicles, v)
	}
	return c
}

// fewRoute has at most three stops, now and then one twice or none there is.
func fewRoute(d *dice, c impl.Case) impl.Route {
	r := impl.Route{Vehicle: d.roll(1, int64(len(c.Vehicles)))}
	for range d.roll(0, 3) {
		r.Stops = append(r.Stops, d.roll(1, int64(len(c.Orders))))
	}
	return r
}

// drives is whether the route can be driven with these starts, leaving home
// at leave: the document's words, one by one, for stops that there are.
func drives(c impl.Case, r impl.Route, leave int64, starts []int64) bool {
	v, _ := impl.VehicleOf(c, r.Vehicle)
	place, free := v.Home, leave
	for i, id := range r.Stops {
		o, _ := impl.OrderOf(c, id)
		if starts[i] < o.From || starts[i] > o.To || starts[i] < free+impl.TimeOf(c.Times, place, o.Place) {
			return false
		}
		place, free = o.Place, starts[i]+o.Serve
	}
	return free+impl.TimeOf(c.Times, place, v.Home) <= v.To
}

// allStarts calls f with each list of so many numbers 0 .. 12.
func allStarts(count int, f func([]int64)) {
	starts := make([]int64, count)
	for {
		f(slices.Clone(starts))
		at := 0
		for at < count && starts[at] == 12 {
			starts[at] = 0
			at++
		}
		if at == count {
			return
		}
		starts[at]++
	}
}

func loadCode(c impl.Case, r impl.Route) int64 {
	for i, id := range r.Stops {
		if _, ok := impl.OrderOf(c, id); !ok || slices.Contains(r.Stops[:i], id) {
			return impl.RtOrder
		}
	}
	if v, _ := impl.VehicleOf(c, r.Vehicle); impl.LoadOf(c, r.Stops) > v.Room {
		return impl.RtRoom
	}
	return impl.RtOk
}

// All starts are tried: there are some just where Schedule has no code, the
// least of each stop are the earliest ones and the greatest the latest ones.
func TestStartsLieBetweenEarliestAndLatest(t *testing.T) {
	d := &dice{21}
	count := map[int64]int{}
	for range 3000 {
		c := fewCase(d)
		r := fewRoute(d, c)
		visits, home, code := impl.Schedule(c, r)
		count[code]++
		if want := loadCode(c, r); want != impl.RtOk {
			expectCode(t, "load", c, r, want)
			continue
		}
		v, _ := impl.VehicleOf(c, r.Vehicle)
		var least, most []int64
		allStarts(len(r.Stops), func(starts []int64) {
			can := drives(c, r, v.From, starts)
			if got := impl.Keeps(c, r, starts); got != can {
				t.Fatalf("%v %v: keeps %v: %v", c, r, starts, got)
			}
			if can && least == nil {
				least, most = slices.Clone(starts), slices.Clone(starts)
			}
			for i := range starts {
				if can {
					least[i], most[i] = min(least[i], starts[i]), max(most[i], starts[i])
				}
			}
		})
		if (code == impl.RtOk) != (least != nil) {
			t.Fatalf("%v %v: code %d, starts %v", c, r, code, least)
		}
		if code != impl.RtOk {
			continue
		}
		checkVisits(t, c, r, visits, home, least)
		checkLatest(t, c, r, most)
	}
	for _, code := range []int64{impl.RtOk, impl.RtOrder, impl.RtRoom, impl.RtLate, impl.RtHome} {
		if count[code] < 50 {
			t.Errorf("code %d only %d times", code, count[code])
		}
	}
}

func checkVisits(t *testing.T, c impl.Case, r impl.Route, visits []impl.Visit, home int64, least []int64) {
	t.Helper()
	v, _ := impl.VehicleOf(c, r.Vehicle)
	path, now, wait := []int64{v.Home}, v.From, int64(0)
	for i, id := range r.Stops {
		o, _ := impl.OrderOf(c, id)
		arrive := now + impl.TimeOf(c.Times, path[i], o.Place)
		if want := (impl.Visit{Id: id, Arrive: arrive, Start: least[i], Leave: least[i] + o.Serve}); visits[i] != want {
			t.Fatalf("%v %v: %v, not %v", c, r, visits[i], want)
		}
		path, now, wait = append(path, o.Place), visits[i].Leave, wait+least[i]-arrive
	}
	path = append(path, v.Home)
	if home != now+impl.TimeOf(c.Times, path[len(path)-2], v.Home) || impl.WaitOf(c, r) != wait || impl.CostOf(c, r) != impl.PathTime(c.Times, path) {
		t.Fatalf("%v %v: home %d, waits %d, costs %d", c, r, home, impl.WaitOf(c, r), impl.CostOf(c, r))
	}
}

func checkLatest(t *testing.T, c impl.Case, r impl.Route, most []int64) {
	t.Helper()
	late, leave := impl.Latest(c, r)
	if !slices.Equal(late, most) || !impl.Keeps(c, r, late) {
		t.Fatalf("%v %v: latest %v, not %v", c, r, late, most)
	}
	if !drives(c, r, leave, late) {
		t.Fatalf("%v %v: cannot leave at %d", c, r, leave)
	}
	allStarts(len(r.Stops), func(starts []int64) {
		if len(starts) > 0 && drives(c, r, leave+1, starts) {
			t.Fatalf("%v %v: can leave behind %d", c, r, leave)
		}
	})
}

// Starts that keep the hours do so no more when one of the earliest ones is
// earlier, or one of the latest ones later.
func TestStartsOneOff(t *testing.T) {
	c := lineCase()
	c.Orders[1].From, c.Orders[3].To = 200, 400
	r := impl.Route{Vehicle: 7, Stops: []int64{102, 104, 101}}
	visits, _, _ := impl.Schedule(c, r)
	late, _ := impl.Latest(c, r)
	for i := range r.Stops {
		var starts []int64
		for _, v := range visits {
			starts = append(starts, v.Start)
		}
		earlier, later := slices.Clone(starts), slices.Clone(late)
		if !impl.Keeps(c, r, starts) || !impl.Keeps(c, r, later) {
			t.Fatalf("%v or %v does not keep", starts, later)
		}
		earlier[i]--
		later[i]++
		if impl.Keeps(c, r, earlier) || impl.Keeps(c, r, later) {
			t.Errorf("%v or %v keeps", earlier, later)
		}
		// One later of the earliest takes all behind it along, one earlier of
		// the latest all ahead of it.
		for j := range starts {
			if j >= i {
				starts[j]++
			}
			if j <= i {
				late[j]--
			}
		}
		if !impl.Keeps(c, r, starts) || !impl.Keeps(c, r, late) {
			t.Errorf("%v or %v does not keep", starts, late)
		}
		late, _ = impl.Latest(c, r)
	}
}

func TestWrongStarts(t *testing.T) {
	c := lineCase()
	r := impl.Route{Vehicle: 7, Stops: []int64{101, 102}}
	for _, starts := range [][]int64{nil, {110}, {110, 122, 140}, {122, 110}} {
		if impl.Keeps(c, r, starts) {
			t.Errorf("%v keeps", starts)
		}
	}
	for _, n := range far {
		for _, starts := range [][]int64{{n, 122}, {110, n}, {n, n}} {
			if impl.Keeps(c, r, starts) {
				t.Errorf("%v keeps", starts)
			}
		}
	}
	c.Vehicles[1].To = 143
	if impl.Keeps(c, r, []int64{110, 122}) {
		t.Error("keeps, and is home too late")
	}
	c.Vehicles[1].To = 144
	if !impl.Keeps(c, r, []int64{110, 122}) {
		t.Error("keeps not, and is home in time")
	}
}

func TestRoutesLeaveTheirArguments(t *testing.T) {
	d := &dice{22}
	for range 200 {
		c := roomyCase(fewCase(d))
		r := fewRoute(d, c)
		r.Stops = roomy(r.Stops)
		starts := roomy([]int64{d.roll(0, 9), d.roll(0, 9)})
		caseWas, stopsWere, startsWere := wholeCase(c), whole(r.Stops), whole(starts)
		alike(t, "Schedule", func() any { v, home, code := impl.Schedule(c, r); return []any{v, home, code} })
		alike(t, "CostOf", func() any { return impl.CostOf(c, r) })
		alike(t, "Latest", func() any { s, leave := impl.Latest(c, r); return []any{s, leave} })
		alike(t, "WaitOf", func() any { return impl.WaitOf(c, r) })
		alike(t, "Keeps", func() any { return impl.Keeps(c, r, starts) })
		late, _ := impl.Latest(c, r)
		for i := range late {
			late[i] = spare
		}
		if !sameCase(wholeCase(c), caseWas) || !slices.Equal(whole(r.Stops), stopsWere) || !slices.Equal(whole(starts), startsWere) {
			t.Fatal("an argument was written into")
		}
	}
}
