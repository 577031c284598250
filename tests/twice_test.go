package tests

import (
	"go/ast"
	"go/parser"
	"go/token"
	"path/filepath"
	"reflect"
	"slices"
	"testing"

	"loop.example/g00265/impl"
)

// question is a function of the program and what it is asked.
type question struct {
	function  any
	arguments []any
}

func of(function any, arguments ...any) question { return question{function, arguments} }

// askedOfTimes are of the layers 1 to 4.
func askedOfTimes(d *dice, c impl.Case, p impl.Plan) map[string]question {
	m, r := c.Times, anyRoute(d, c)
	path := []int64{d.roll(0, m.N-1), d.roll(0, m.N-1), d.roll(0, m.N)}
	if d.roll(0, 9) == 0 {
		m.N++
	}
	starts, _ := impl.Latest(c, r)
	id, vehicle, ids := d.roll(1, 60), d.roll(1, 50), someIds(d, c, 6)
	if len(c.Orders) > 0 && len(c.Vehicles) > 0 && d.roll(0, 3) > 0 {
		id, vehicle = c.Orders[0].Id, c.Vehicles[0].Id
	}
	return map[string]question{
		"MatrixOk":  of(impl.MatrixOk, m),
		"TimeOf":    of(impl.TimeOf, m, path[0], path[2]),
		"PathTime":  of(impl.PathTime, m, path),
		"Closed":    of(impl.Closed, m),
		"Triangle":  of(impl.Triangle, m),
		"Symmetric": of(impl.Symmetric, m),
		"CaseOk":    of(impl.CaseOk, c),
		"OrderOf":   of(impl.OrderOf, c, id),
		"VehicleOf": of(impl.VehicleOf, c, vehicle),
		"LoadOf":    of(impl.LoadOf, c, ids),
		"CaseText":  of(impl.CaseText, c),
		"ReadCase":  of(impl.ReadCase, impl.CaseText(c)),
		"Schedule":  of(impl.Schedule, c, r),
		"CostOf":    of(impl.CostOf, c, r),
		"Latest":    of(impl.Latest, c, r),
		"WaitOf":    of(impl.WaitOf, c, r),
		"Keeps":     of(impl.Keeps, c, r, starts),
		"PlanCode":  of(impl.PlanCode, c, p),
		"EmptyPlan": of(impl.EmptyPlan, c),
		"PlanCost":  of(impl.PlanCost, c, p),
		"PlanText":  of(impl.PlanText, p),
		"ReadPlan":  of(impl.ReadPlan, impl.PlanText(p)),
		"Served":    of(impl.Served, c, p),
	}
}

// askedOfPlans are of the layers 5 to 7 and 10.
func askedOfPlans(d *dice, c impl.Case, p impl.Plan) map[string]question {
	r, ids, seed := anyRoute(d, c), someIds(d, c, 6), anySeed(d)
	id, vehicle, at := d.roll(1, 60), d.roll(1, 50), d.roll(0, 4)
	if len(p.Routes) > 0 && d.roll(0, 2) > 0 {
		r, id = p.Routes[0], p.Routes[0].Stops[0]
		vehicle = p.Routes[len(p.Routes)-1].Vehicle
	}
	left := id
	if len(p.Left) > 0 {
		left = p.Left[0]
	}
	return map[string]question{
		"InsertAt":     of(impl.InsertAt, c, r, left, at),
		"Removed":      of(impl.Removed, c, r, at),
		"BestPlace":    of(impl.BestPlace, c, r, left),
		"GreedyOne":    of(impl.GreedyOne, c, p),
		"Greedy":       of(impl.Greedy, c, p),
		"TwoOpt":       of(impl.TwoOpt, c, r, int64(0), at),
		"BestTwoOpt":   of(impl.BestTwoOpt, c, r),
		"Polished":     of(impl.Polished, c, r),
		"Relocated":    of(impl.Relocated, c, p, id, vehicle, int64(0)),
		"BestRelocate": of(impl.BestRelocate, c, p),
		"Descended":    of(impl.Descended, c, p, at-1),
		"Count":        of(impl.Count, d.roll(-1, 7)),
		"Permuted":     of(impl.Permuted, ids, d.roll(0, 9)),
		"BestRoute":    of(impl.BestRoute, c, vehicle, ids),
		"NextRand":     of(impl.NextRand, seed),
		"Picked":       of(impl.Picked, seed, d.roll(0, 65), at),
		"Destroyed":    of(impl.Destroyed, c, p, seed, at),
		"Searched":     of(impl.Searched, c, p, seed, at),
	}
}

// askedOfCosts are of the layers 8 and 9.
func askedOfCosts(d *dice) map[string]question {
	n, costs := anyCosts(d)
	rows, cols, _ := impl.DualsOf(n, costs)
	m := anyTies(d, d.roll(1, 6))
	if d.roll(0, 3) == 0 {
		m = randomMatrix(d, m.N, 9)
	}
	tree := impl.SpanTree(m)
	return map[string]question{
		"AssignCost": of(impl.AssignCost, n, costs, shuffled(d, places(int(n)))),
		"Assigned":   of(impl.Assigned, n, costs),
		"DualsOf":    of(impl.DualsOf, n, costs),
		"Proves":     of(impl.Proves, n, costs, rows, cols),
		"SpanTree":   of(impl.SpanTree, m),
		"TreeTime":   of(impl.TreeTime, tree),
		"Spans":      of(impl.Spans, m.N+d.roll(0, 1), tree),
	}
}

// askedOfDisks are of the layers 11 to 14.
func askedOfDisks(d *dice) map[string]question {
	lines, _ := anyScript(d, map[string]int{})
	s := []impl.Store{someStore(), fullStore(), textStore()}[d.roll(0, 2)]
	q, name := anyAsk(d, s), s.Tenants[d.roll(0, int64(len(s.Tenants))-1)].Name
	disk, op := anyDisk(d), anyOp(d)
	journal := impl.Disk{}
	var acts []impl.Act
	for range d.roll(0, 9) {
		acts = append(acts, anyAct(d, journal, view(journal).S))
		journal = acted(journal, acts[len(acts)-1]).D
	}
	log, _ := impl.ReadFile(journal, "log")
	return map[string]question{
		"StoreOk":     of(impl.StoreOk, []impl.Store{s, storeFault(d, fullStore())}[d.roll(0, 1)]),
		"TenantOf":    of(impl.TenantOf, s, name),
		"Obeyed":      of(impl.Obeyed, s, q),
		"PublishedOf": of(impl.PublishedOf, s, name),
		"RequestText": of(impl.RequestText, q),
		"ReadRequest": of(impl.ReadRequest, impl.RequestText(q)),
		"StoreText":   of(impl.StoreText, s),
		"ReadStore":   of(impl.ReadStore, impl.StoreText(s)),
		"DiskOk":      of(impl.DiskOk, []impl.Disk{disk, diskFault(d, disk)}[d.roll(0, 1)]),
		"Do":          of(impl.Do, disk, op),
		"Sync":        of(impl.Sync, disk),
		"Crash":       of(impl.Crash, disk, anyKeep(d, len(disk.Ops)), d.roll(0, 9)),
		"ReadFile":    of(impl.ReadFile, disk, op.Name),
		"Replace":     of(impl.Replace, disk, op.Name, op.Data),
		"FrameOf":     of(impl.FrameOf, log),
		"TakeFrames":  of(impl.TakeFrames, log),
		"JournalView": of(impl.JournalView, journal),
		"JournalDo":   of(impl.JournalDo, journal, anyAct(d, journal, view(journal).S)),
		"JournalPlay": of(impl.JournalPlay, journal, acts),
		"RunScript":   of(impl.RunScript, joined(lines)),
	}
}

// answers calls the function with what is handed in itself.
func (q question) answers() []any {
	var in []reflect.Value
	for _, a := range q.arguments {
		in = append(in, reflect.ValueOf(a))
	}
	var out []any
	for _, v := range reflect.ValueOf(q.function).Call(in) {
		out = append(out, v.Interface())
	}
	return out
}

// askTwice asks for the same answers, in memory of their own, with arguments
// that stay as they were, with the room behind their lists.
func askTwice(t *testing.T, name string, q question) string {
	t.Helper()
	var was []any
	for i, a := range q.arguments {
		q.arguments[i] = remade(reflect.ValueOf(a), 2).Interface()
		was = append(was, frozen(q.arguments[i]))
	}
	unchanged := func() {
		t.Helper()
		for i, a := range q.arguments {
			if !same(frozen(a), was[i]) {
				t.Fatalf("%s: argument %d was %s, is %s", name, i, told(was[i]), told(frozen(a)))
			}
		}
	}
	one := q.answers()
	unchanged()
	var before []any
	for _, a := range one {
		before = append(before, frozen(a))
	}
	two := q.answers()
	unchanged()
	var lists []span
	for i := range one {
		if !same(one[i], two[i]) {
			t.Fatalf("%s: %s, then %s", name, told(one), told(two))
		}
		if !same(frozen(one[i]), before[i]) {
			t.Fatalf("%s: the second call changed what the first one answered", name)
		}
		expectApart(t, name, one[i], append(slices.Clone(two), q.arguments...)...)
		for _, a := range spansOf(reflect.ValueOf(one[i])) {
			if slices.ContainsFunc(lists, func(b span) bool { return a.from < b.to && b.from < a.to }) {
				t.Fatalf("%s: two lists of one answer share memory", name)
			}
		}
		lists = append(lists, spansOf(reflect.ValueOf(one[i]))...)
	}
	return told(one)
}

// exported are the program's functions by their names.
func exported(t *testing.T) []string {
	t.Helper()
	paths, err := filepath.Glob("../impl/*.go")
	if err != nil {
		t.Fatal(err)
	}
	var list []string
	for _, path := range paths {
		file, err := parser.ParseFile(token.NewFileSet(), path, nil, 0)
		if err != nil {
			t.Fatal(err)
		}
		for _, d := range file.Decls {
			if f, ok := d.(*ast.FuncDecl); ok && f.Recv == nil && f.Name.IsExported() {
				list = append(list, f.Name.Name)
			}
		}
	}
	slices.Sort(list)
	return list
}

func TestEachFunctionIsAskedTwice(t *testing.T) {
	d := &dice{150}
	answers := map[string]map[string]int{}
	for i := range 300 {
		c := anyCase(d)
		p := holding(d, c)
		if i%5 == 0 {
			p = anyPlan(d, c)
		}
		if i%20 == 0 {
			c.Fine = -1
		}
		for _, list := range []map[string]question{askedOfTimes(d, c, p), askedOfPlans(d, c, p), askedOfCosts(d), askedOfDisks(d)} {
			for name, q := range list {
				if answers[name] == nil {
					answers[name] = map[string]int{}
				}
				answers[name][askTwice(t, name, q)]++
			}
		}
	}
	names := exported(t)
	if len(answers) != len(names) {
		t.Errorf("%d functions, %d of them asked", len(names), len(answers))
	}
	for _, name := range names {
		if len(answers[name]) < 2 {
			t.Errorf("%s: %d unlike answers", name, len(answers[name]))
		}
	}
}
