package tests

import (
	"reflect"
	"slices"
	"strings"
	"testing"

	"loop.example/g00265/impl"
)

// fullCase has as much of everything as a case may have.
func fullCase() impl.Case {
	c := impl.Case{Times: evenMatrix(impl.MaxPlaces, impl.MaxTime), Fine: impl.MaxWhen}
	for i := range int64(impl.MaxOrders) {
		c.Orders = append(c.Orders, impl.Order{Id: 10 + i, Place: i, Load: 100 + i, From: 5, To: 500, Serve: 7})
	}
	for i := range int64(impl.MaxVehicles) {
		c.Vehicles = append(c.Vehicles, impl.Vehicle{Id: 10 + i, Home: i, Room: 900, From: 3, To: 3000})
	}
	return c
}

// limits names each number of a case with both ends of what is right there.
func limits(c *impl.Case, order, vehicle int) []limit {
	o, v := &c.Orders[order], &c.Vehicles[vehicle]
	low, high := around(order, len(c.Orders))
	least, most := around(vehicle, len(c.Vehicles))
	return []limit{
		{"Fine", &c.Fine, 0, impl.MaxWhen},
		{"a time", &c.Times.Times[1], 0, impl.MaxTime},
		{"order Id", &o.Id, low, high},
		{"order Place", &o.Place, 0, c.Times.N - 1},
		{"order Load", &o.Load, 0, impl.MaxLoad},
		{"order From", &o.From, 0, o.To},
		{"order To", &o.To, o.From, impl.MaxWhen},
		{"order Serve", &o.Serve, 0, impl.MaxTime},
		{"vehicle Id", &v.Id, least, most},
		{"vehicle Home", &v.Home, 0, c.Times.N - 1},
		{"vehicle Room", &v.Room, 0, impl.MaxLoad},
		{"vehicle From", &v.From, 0, v.To},
		{"vehicle To", &v.To, v.From, impl.MaxWhen},
	}
}

type limit struct {
	name      string
	field     *int64
	low, high int64
}

// around answers the Ids between those on both sides of the place at in fullCase.
func around(at, count int) (int64, int64) {
	low, high := int64(10+at), int64(10+at)
	if at == 0 {
		low = 1
	}
	if at == count-1 {
		high = impl.MaxId
	}
	return low, high
}

func TestCaseLimits(t *testing.T) {
	for order := range impl.MaxOrders {
		vehicle := order % impl.MaxVehicles
		c := fullCase()
		for _, l := range limits(&c, order, vehicle) {
			was := *l.field
			for _, right := range []int64{l.low, l.high} {
				*l.field = right
				expectRight(t, c, l.name)
			}
			for _, wrong := range append(slices.Clone(far), l.low-1, l.high+1) {
				*l.field = wrong
				expectWrong(t, c, l.name)
			}
			*l.field = was
		}
	}
}

func expectRight(t *testing.T, c impl.Case, what string) {
	t.Helper()
	if !impl.CaseOk(c) {
		t.Errorf("%s: not right: %v", what, c)
		return
	}
	back, ok := impl.ReadCase(impl.CaseText(c))
	if !ok || !sameCase(back, c) {
		t.Errorf("%s: %v came back as %v", what, c, back)
	}
	for _, o := range c.Orders {
		if got, ok := impl.OrderOf(c, o.Id); !ok || got != o {
			t.Errorf("%s: order %d: %v", what, o.Id, got)
		}
	}
	for _, v := range c.Vehicles {
		if got, ok := impl.VehicleOf(c, v.Id); !ok || got != v {
			t.Errorf("%s: vehicle %d: %v", what, v.Id, got)
		}
	}
}

func expectWrong(t *testing.T, c impl.Case, what string) {
	t.Helper()
	if impl.CaseOk(c) || impl.CaseText(c) != "" || impl.LoadOf(c, nil) != -1 {
		t.Errorf("%s: right: %v", what, c)
	}
	for _, o := range c.Orders {
		if got, ok := impl.OrderOf(c, o.Id); ok || got != (impl.Order{}) || impl.LoadOf(c, []int64{o.Id}) != -1 {
			t.Errorf("%s: order %d of a wrong case: %v", what, o.Id, got)
		}
	}
	for _, v := range c.Vehicles {
		if got, ok := impl.VehicleOf(c, v.Id); ok || got != (impl.Vehicle{}) {
			t.Errorf("%s: vehicle %d of a wrong case: %v", what, v.Id, got)
		}
	}
}

func TestHowManyOrdersAndVehicles(t *testing.T) {
	full := fullCase()
	for n := range impl.MaxOrders + 1 {
		c := full
		c.Orders = full.Orders[:n]
		c.Vehicles = full.Vehicles[:min(n, impl.MaxVehicles)]
		expectRight(t, c, "fewer")
	}
	c := fullCase()
	c.Orders = append(c.Orders, impl.Order{Id: 900})
	expectWrong(t, c, "13 orders")
	c = fullCase()
	c.Vehicles = append(c.Vehicles, impl.Vehicle{Id: 900})
	expectWrong(t, c, "6 vehicles")
	expectRight(t, impl.Case{Times: evenMatrix(1, 0)}, "the least case")
	expectWrong(t, impl.Case{}, "no places")
	for _, m := range wrongMatrices() {
		expectWrong(t, impl.Case{Times: m}, "a wrong matrix")
		c := fullCase()
		c.Times = m
		expectWrong(t, c, "a wrong matrix in a full case")
	}
}

func TestIdsMustRise(t *testing.T) {
	for i := range impl.MaxOrders - 1 {
		c := fullCase()
		c.Orders[i+1].Id = c.Orders[i].Id
		expectWrong(t, c, "two orders alike")
		c = fullCase()
		c.Orders[i], c.Orders[i+1] = c.Orders[i+1], c.Orders[i]
		expectWrong(t, c, "orders that fall")
	}
	for i := range impl.MaxVehicles - 1 {
		c := fullCase()
		c.Vehicles[i+1].Id = c.Vehicles[i].Id
		expectWrong(t, c, "two vehicles alike")
		c = fullCase()
		c.Vehicles[i], c.Vehicles[i+1] = c.Vehicles[i+1], c.Vehicles[i]
		expectWrong(t, c, "vehicles that fall")
	}
}

func TestIdsThatAreNone(t *testing.T) {
	c := fullCase()
	for _, id := range append(slices.Clone(far), -10, -1, 0, 1, 9, 22, impl.MaxId, impl.MaxId+1) {
		if o, ok := impl.OrderOf(c, id); ok || o != (impl.Order{}) {
			t.Errorf("order %d: %v", id, o)
		}
		if v, ok := impl.VehicleOf(c, id); ok || v != (impl.Vehicle{}) {
			t.Errorf("vehicle %d: %v", id, v)
		}
		if impl.LoadOf(c, []int64{id}) != -1 || impl.LoadOf(c, []int64{10, id}) != -1 || impl.LoadOf(c, []int64{id, 10}) != -1 {
			t.Errorf("load of %d", id)
		}
	}
	if v, ok := impl.VehicleOf(c, 20); ok {
		t.Errorf("an order's Id is a vehicle: %v", v)
	}
	if impl.LoadOf(impl.Case{Times: evenMatrix(1, 0)}, []int64{1}) != -1 || impl.LoadOf(impl.Case{Times: evenMatrix(1, 0)}, nil) != 0 {
		t.Error("load without orders")
	}
}

func TestLoadAtItsLimit(t *testing.T) {
	c := fullCase()
	for i := range c.Orders {
		c.Orders[i].Load = impl.MaxLoad
	}
	var ids, once []int64
	for _, o := range c.Orders {
		ids = append(ids, o.Id)
		once = append(once, 21)
	}
	if got := impl.LoadOf(c, ids); got != impl.MaxOrders*impl.MaxLoad {
		t.Errorf("all: %d", got)
	}
	if got := impl.LoadOf(c, once); got != impl.MaxOrders*impl.MaxLoad {
		t.Errorf("one 12 times: %d", got)
	}
	if impl.LoadOf(c, append(ids, 10)) != -1 || impl.LoadOf(c, append(once, 21)) != -1 {
		t.Error("13 of them")
	}
}

func TestLoadInTwoPartsIsThatOfBoth(t *testing.T) {
	d := &dice{11}
	for range 300 {
		c := randomCase(d)
		if len(c.Orders) == 0 {
			continue
		}
		var ids []int64
		sum := int64(0)
		for range d.roll(0, impl.MaxOrders) {
			o := c.Orders[d.roll(0, int64(len(c.Orders)-1))]
			ids = append(ids, o.Id)
			sum += o.Load
		}
		if got := impl.LoadOf(c, ids); got != sum {
			t.Fatalf("%v of %v: %d", ids, c.Orders, got)
		}
		for i := range len(ids) + 1 {
			if got := impl.LoadOf(c, ids[:i]) + impl.LoadOf(c, ids[i:]); got != sum {
				t.Fatalf("%v of %v in two parts at %d: %d", ids, c.Orders, i, got)
			}
		}
	}
}

func TestRightCasesComeBack(t *testing.T) {
	d := &dice{12}
	for range 500 {
		expectRight(t, randomCase(d), "random")
	}
	expectRight(t, fullCase(), "full")
}

const smallText = "case 2 50\ntimes 0 10\ntimes 5 0\norder 1 1 20 0 90 1\norder 30 0 2 9 9 0\nvehicle 7 0 4 0 99\nvehicle 1000000000 1 0 1000000 1000000\n"

func TestCaseTextWordForWord(t *testing.T) {
	c := impl.Case{
		Times:    impl.Matrix{N: 2, Times: []int64{0, 10, 5, 0}},
		Orders:   []impl.Order{{Id: 1, Place: 1, Load: 20, From: 0, To: 90, Serve: 1}, {Id: 30, Place: 0, Load: 2, From: 9, To: 9}},
		Vehicles: []impl.Vehicle{{Id: 7, Home: 0, Room: 4, From: 0, To: 99}, {Id: impl.MaxId, Home: 1, From: impl.MaxWhen, To: impl.MaxWhen}},
		Fine:     50,
	}
	if got := impl.CaseText(c); got != smallText {
		t.Errorf("%q", got)
	}
	if got, ok := impl.ReadCase(smallText); !ok || !sameCase(got, c) {
		t.Errorf("%v", got)
	}
	if got := impl.CaseText(impl.Case{Times: evenMatrix(1, 0)}); got != "case 1 0\ntimes 0\n" {
		t.Errorf("%q", got)
	}
}

// wrongTexts are no text of any case.
func wrongTexts() []string {
	list := []string{
		"", "\n", " ", "case", "case\n", "case 1\n", "case 1 0", "case 1 0\n", "case 1 0\ntimes", "case 1 0\ntimes 0",
		"case 1 0\ntimes\n", "case 1 0\ntimes \n", "case 1 0\ntimes 0 0\n", "case 1 0\ntimes 0\ntimes 0\n",
		"case 0 0\n", "case 0 0\ntimes\n", "case 17 0\n", "case -1 0\ntimes 0\n", "case 1 -1\ntimes 0\n", "case 1 -0\ntimes 0\n",
		"case 2 0\ntimes 0 1\n", "case 2 0\ntimes 0 1\ntimes 1\n", "case 2 0\ntimes 0 1 1 0\n", "case 2 0\ntimes 0 1\ntimes 1 1\n",
		"case 99999999999999999999 0\ntimes 0\n", "case 18446744073709551617 0\ntimes 0\n", "case 1 18446744073709551616\ntimes 0\n",
		"case 1 9223372036854775808\ntimes 0\n", "case 1 00000000000000000000\ntimes 0\n", "case 1 " + strings.Repeat("9", 100000) + "\ntimes 0\n",
		"Case 1 0\ntimes 0\n", "cases 1 0\ntimes 0\n", "case1 0\ntimes 0\n", "case 1 0x0\ntimes 0\n", "case 1 0_0\ntimes 0\n", "case 1 \u0660\ntimes 0\n",
		"case 1 0\r\ntimes 0\r\n", "case 1\t0\ntimes 0\n", "\ufeffcase 1 0\ntimes 0\n",
	}
	for i := range len(smallText) {
		if smallText[i] == ' ' {
			for _, ahead := range []string{"0", "00", "+", "-", "--", "+0", "-0", " ", "\t", "\n"} {
				list = append(list, smallText[:i+1]+ahead+smallText[i+1:])
			}
		}
		if smallText[i] == '\n' {
			for _, ahead := range []string{" ", " 0", " -0", "\n", "\r", ".", ".0", "e0"} {
				list = append(list, smallText[:i]+ahead+smallText[i:])
			}
		}
	}
	list = append(list, strings.TrimSuffix(smallText, "\n"), smallText+"\n", smallText+" ", smallText+"x", smallText+"\x00", smallText+smallText)
	return append(list, strings.ReplaceAll(smallText, "\n", " \n"), strings.ReplaceAll(smallText, " ", "  "), strings.ReplaceAll(smallText, "\n", "\n\n"))
}

func expectNoCase(t *testing.T, s string) {
	t.Helper()
	if c, ok := impl.ReadCase(s); ok || !reflect.DeepEqual(c, impl.Case{}) {
		t.Errorf("read %.200q: %v %v", s, c, ok)
	}
}

func TestWrongTextsAreNotRead(t *testing.T) {
	for _, s := range wrongTexts() {
		expectNoCase(t, s)
	}
	full := impl.CaseText(fullCase())
	expectNoCase(t, full+"vehicle 900 0 0 0 0\n")
	expectNoCase(t, strings.Replace(full, "vehicle", "order 900 0 0 0 0 0\nvehicle", 1))
	expectNoCase(t, strings.Replace(full, "case 16 ", "case 17 ", 1))
	expectNoCase(t, strings.Replace(full, "case 16 ", "case 15 ", 1))
}

func TestLinesInAnotherOrderAreNotRead(t *testing.T) {
	lines := strings.SplitAfter(strings.TrimSuffix(smallText, "\n"), "\n")
	lines[len(lines)-1] += "\n"
	for i := range lines {
		expectNoCase(t, strings.Join(slices.Insert(slices.Clone(lines), i, lines[i]), ""))
		expectNoCase(t, strings.Join(slices.Insert(slices.Clone(lines), i, "\n"), ""))
		for j := range i {
			swapped := slices.Clone(lines)
			swapped[i], swapped[j] = swapped[j], swapped[i]
			expectNoCase(t, strings.Join(swapped, ""))
		}
	}
}

func TestBeginningsOfTextsAreReadOnlyAtTheirEnds(t *testing.T) {
	for i := range len(smallText) {
		c, ok := impl.ReadCase(smallText[:i])
		ends := strings.HasSuffix(smallText[:i], "\n") && strings.Count(smallText[:i], "\n") >= 3
		if ok != ends || ok && impl.CaseText(c) != smallText[:i] {
			t.Errorf("%q: %v", smallText[:i], ok)
		}
	}
}

// Whatever is read must be the very text of what was read: here at each text
// that is one byte away from a right one.
func TestOnlyCanonicalTextsAreRead(t *testing.T) {
	read := 0
	for _, s := range oneByteAway(smallText) {
		c, ok := impl.ReadCase(s)
		if ok {
			read++
		}
		if ok && (!impl.CaseOk(c) || impl.CaseText(c) != s) || !ok && !reflect.DeepEqual(c, impl.Case{}) {
			t.Fatalf("%q: %v %v", s, c, ok)
		}
	}
	if read < 100 {
		t.Errorf("only %d of them were read", read)
	}
}

func TestCasesLeaveTheirArguments(t *testing.T) {
	d := &dice{13}
	for range 100 {
		c := roomyCase(randomCase(d))
		ids := roomy([]int64{1})
		if len(c.Orders) > 0 {
			ids[0] = c.Orders[0].Id
		}
		caseWas, idsWere := wholeCase(c), whole(ids)
		text := impl.CaseText(c)
		alike(t, "CaseOk", func() any { return impl.CaseOk(c) })
		alike(t, "OrderOf", func() any { o, ok := impl.OrderOf(c, ids[0]); return []any{o, ok} })
		alike(t, "VehicleOf", func() any { v, ok := impl.VehicleOf(c, impl.MaxId); return []any{v, ok} })
		alike(t, "LoadOf", func() any { return impl.LoadOf(c, ids) })
		alike(t, "CaseText", func() any { return impl.CaseText(c) })
		alike(t, "ReadCase", func() any { r, ok := impl.ReadCase(text); return []any{r, ok} })
		if !sameCase(wholeCase(c), caseWas) || !slices.Equal(whole(ids), idsWere) {
			t.Fatal("an argument was written into")
		}
	}
}

func TestReadCasesShareNothing(t *testing.T) {
	first, _ := impl.ReadCase(smallText)
	second, _ := impl.ReadCase(smallText)
	for i := range first.Times.Times {
		first.Times.Times[i] = spare
	}
	first.Orders[0].Id, first.Vehicles[0].Id = spare, spare
	third, ok := impl.ReadCase(smallText)
	if !ok || !sameCase(second, third) || impl.CaseText(second) != smallText {
		t.Errorf("%v and %v", second, third)
	}
}
