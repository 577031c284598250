package impl

import (
	"strconv"
	"strings"
)

const (
	MaxOrders   = 12
	MaxVehicles = 5
	MaxLoad     = 1000
	MaxWhen     = 1000000
	MaxId       = 1000000000
)

// mostDigits is how many digits MaxId has; no number in any text has more.
const mostDigits = 10

type Order struct {
	Id    int64
	Place int64
	Load  int64
	From  int64
	To    int64
	Serve int64
}

type Vehicle struct {
	Id   int64
	Home int64
	Room int64
	From int64
	To   int64
}

type Case struct {
	Times    Matrix
	Orders   []Order
	Vehicles []Vehicle
	Fine     int64
}

func CaseOk(c Case) bool {
	return MatrixOk(c.Times) && ordersOk(c) && vehiclesOk(c) && within(c.Fine, 0, MaxWhen)
}

func ordersOk(c Case) bool {
	if len(c.Orders) > MaxOrders {
		return false
	}
	last := int64(0)
	for _, o := range c.Orders {
		if !within(o.Id, last+1, MaxId) || !orderOk(c.Times, o) {
			return false
		}
		last = o.Id
	}
	return true
}

func orderOk(m Matrix, o Order) bool {
	return isPlace(m, o.Place) && within(o.Load, 0, MaxLoad) && hoursOk(o.From, o.To) && within(o.Serve, 0, MaxTime)
}

func vehiclesOk(c Case) bool {
	if len(c.Vehicles) > MaxVehicles {
		return false
	}
	last := int64(0)
	for _, v := range c.Vehicles {
		if !within(v.Id, last+1, MaxId) || !vehicleOk(c.Times, v) {
			return false
		}
		last = v.Id
	}
	return true
}

func vehicleOk(m Matrix, v Vehicle) bool {
	return isPlace(m, v.Home) && within(v.Room, 0, MaxLoad) && hoursOk(v.From, v.To)
}

func hoursOk(from int64, to int64) bool { return 0 <= from && from <= to && to <= MaxWhen }

func OrderOf(c Case, id int64) (Order, bool) {
	if !CaseOk(c) {
		return Order{}, false
	}
	return findOrder(c, id)
}

// findOrder is OrderOf for a case that is known to be right.
func findOrder(c Case, id int64) (Order, bool) {
	for _, o := range c.Orders {
		if o.Id == id {
			return o, true
		}
	}
	return Order{}, false
}

func VehicleOf(c Case, id int64) (Vehicle, bool) {
	if !CaseOk(c) {
		return Vehicle{}, false
	}
	return findVehicle(c, id)
}

// findVehicle is VehicleOf for a case that is known to be right.
func findVehicle(c Case, id int64) (Vehicle, bool) {
	for _, v := range c.Vehicles {
		if v.Id == id {
			return v, true
		}
	}
	return Vehicle{}, false
}

func LoadOf(c Case, ids []int64) int64 {
	if !CaseOk(c) || len(ids) > MaxOrders {
		return -1
	}
	total := int64(0)
	for _, id := range ids {
		o, ok := findOrder(c, id)
		if !ok {
			return -1
		}
		total += o.Load
	}
	return total
}

func CaseText(c Case) string {
	if !CaseOk(c) {
		return ""
	}
	var b strings.Builder
	n := c.Times.N
	writeLine(&b, "case", n, c.Fine)
	for a := range n {
		writeLine(&b, "times", c.Times.Times[a*n:(a+1)*n]...)
	}
	for _, o := range c.Orders {
		writeLine(&b, "order", o.Id, o.Place, o.Load, o.From, o.To, o.Serve)
	}
	for _, v := range c.Vehicles {
		writeLine(&b, "vehicle", v.Id, v.Home, v.Room, v.From, v.To)
	}
	return b.String()
}

func writeLine(b *strings.Builder, word string, numbers ...int64) {
	b.WriteString(word)
	for _, n := range numbers {
		b.WriteByte(' ')
		b.WriteString(strconv.FormatInt(n, 10))
	}
	b.WriteByte('\n')
}

func ReadCase(s string) (Case, bool) { return readWhole(s, takeCase) }

// takeCase leaves in r what stands behind the case, for texts that go on there.
func takeCase(r *reader) Case {
	head := r.line("case", 2)
	c := Case{Times: takeMatrix(r, head[0]), Fine: head[1]}
	for r.atLine("order") {
		r.must(len(c.Orders) < MaxOrders)
		n := r.line("order", 6)
		c.Orders = append(c.Orders, Order{Id: n[0], Place: n[1], Load: n[2], From: n[3], To: n[4], Serve: n[5]})
	}
	for r.atLine("vehicle") {
		r.must(len(c.Vehicles) < MaxVehicles)
		n := r.line("vehicle", 5)
		c.Vehicles = append(c.Vehicles, Vehicle{Id: n[0], Home: n[1], Room: n[2], From: n[3], To: n[4]})
	}
	r.must(CaseOk(c))
	return c
}

func takeMatrix(r *reader, n int64) Matrix {
	r.must(within(n, 1, MaxPlaces))
	m := Matrix{N: n}
	for range n {
		m.Times = append(m.Times, r.line("times", n)...)
	}
	return m
}

// reader takes a text from its beginning on. Where the text is not as asked
// it gives up with a panic, so that nobody who reads has to ask at each step.
type reader struct {
	rest string
}

type gaveUp struct{}

// readWhole answers what take makes of s, and true, if nothing of s is left
// then; a reader that gave up is false here.
func readWhole[T any](s string, take func(*reader) T) (thing T, ok bool) {
	defer func() {
		if recover() != nil {
			var none T
			thing, ok = none, false
		}
	}()
	r := &reader{rest: s}
	thing = take(r)
	r.must(r.rest == "")
	return thing, true
}

func (r *reader) must(ok bool) {
	if !ok {
		panic(gaveUp{})
	}
}

func (r *reader) take(text string) {
	r.must(strings.HasPrefix(r.rest, text))
	r.rest = r.rest[len(text):]
}

// atLine is whether the next line has this first word, and more behind it.
func (r *reader) atLine(word string) bool { return strings.HasPrefix(r.rest, word+" ") }

// line takes a line of this word and so many numbers.
func (r *reader) line(word string, count int64) []int64 {
	r.take(word)
	return r.numbers(count)
}

// numbers takes so many numbers, and the line's end behind them.
func (r *reader) numbers(count int64) []int64 {
	var numbers []int64
	for range count {
		r.take(" ")
		numbers = append(numbers, r.number())
	}
	r.take("\n")
	return numbers
}

// number takes digits alone: no number in a text of a right thing is below 0.
// One of too many digits is given up ahead of working it out, so none wraps.
func (r *reader) number() int64 {
	length := 0
	for length < len(r.rest) && '0' <= r.rest[length] && r.rest[length] <= '9' {
		length++
	}
	r.must(0 < length && length <= mostDigits)
	r.must(length == 1 || r.rest[0] != '0')
	n := int64(0)
	for _, digit := range []byte(r.rest[:length]) {
		n = n*10 + int64(digit-'0')
	}
	r.rest = r.rest[length:]
	return n
}
