package tests

import (
	"slices"
	"testing"

	"loop.example/g00265/impl"
)

// sumOf is what a list of columns costs.
func sumOf(n int64, costs, list []int64) int64 {
	total := int64(0)
	for i, column := range list {
		total += costs[int64(i)*n+column]
	}
	return total
}

// wantAssigned goes through all lists, and tells how many cost the least.
func wantAssigned(n int64, costs []int64) (list []int64, cost int64, least int) {
	for _, next := range listRows(int(n)) {
		switch sum := sumOf(n, costs, next); {
		case least == 0 || sum < cost:
			list, cost, least = next, sum, 1
		case sum == cost:
			least++
		}
	}
	return list, cost, least
}

// wantColumnPrice is the least of 0 and of all steps to the column that pass
// no column twice; those that pass one twice cost no less.
func wantColumnPrice(n int64, costs, list []int64, to int64) int64 {
	least := int64(0)
	var back func(column, cost int64, passed []int64)
	back = func(column, cost int64, passed []int64) {
		least = min(least, cost)
		for i, own := range list {
			if !slices.Contains(passed, own) {
				step := costs[int64(i)*n+column] - costs[int64(i)*n+own]
				back(own, cost+step, append(slices.Clone(passed), own))
			}
		}
	}
	back(to, 0, []int64{to})
	return least
}

func wantDuals(n int64, costs []int64) (rows, cols []int64) {
	list, _, _ := wantAssigned(n, costs)
	for j := range n {
		cols = append(cols, wantColumnPrice(n, costs, list, j))
	}
	for i, own := range list {
		rows = append(rows, costs[int64(i)*n+own]-cols[own])
	}
	return rows, cols
}

func randomCosts(d *dice, n, low, high int64) []int64 {
	var costs []int64
	for range n * n {
		costs = append(costs, d.roll(low, high))
	}
	return costs
}

// anyCosts are all kinds of costs: many alike, all below nought, at both ends.
func anyCosts(d *dice) (int64, []int64) {
	n := d.roll(1, impl.MaxSide)
	switch d.roll(0, 4) {
	case 0:
		return n, randomCosts(d, n, 0, 2)
	case 1:
		return n, randomCosts(d, n, -4, 3)
	case 2:
		return n, randomCosts(d, n, -20, -1)
	case 3:
		return n, randomCosts(d, n, -impl.MaxCost, impl.MaxCost)
	}
	var costs []int64
	for range n * n {
		costs = append(costs, edge(d, -impl.MaxCost, impl.MaxCost))
	}
	return n, costs
}

func expectCost(t *testing.T, what string, n int64, costs, list []int64, want int64, ok bool) {
	t.Helper()
	if got, gotOk := impl.AssignCost(n, costs, list); got != want || gotOk != ok {
		t.Errorf("%s: %v with %v: %d %v, not %d %v", what, list, costs, got, gotOk, want, ok)
	}
}

func expectAssigned(t *testing.T, what string, n int64, costs, list []int64, cost int64, ok bool) {
	t.Helper()
	if gotList, got, gotOk := impl.Assigned(n, costs); !slices.Equal(gotList, list) || got != cost || gotOk != ok {
		t.Errorf("%s: %v: %v %d %v, not %v %d %v", what, costs, gotList, got, gotOk, list, cost, ok)
	}
}

func expectDuals(t *testing.T, what string, n int64, costs, rows, cols []int64, ok bool) {
	t.Helper()
	if gotRows, gotCols, gotOk := impl.DualsOf(n, costs); !slices.Equal(gotRows, rows) || !slices.Equal(gotCols, cols) || gotOk != ok {
		t.Errorf("%s: %v: %v %v %v, not %v %v %v", what, costs, gotRows, gotCols, gotOk, rows, cols, ok)
	}
}

func expectProof(t *testing.T, what string, n int64, costs, rows, cols []int64, want int64, ok bool) {
	t.Helper()
	if got, gotOk := impl.Proves(n, costs, rows, cols); got != want || gotOk != ok {
		t.Errorf("%s: %v with %v and %v: %d %v, not %d %v", what, costs, rows, cols, got, gotOk, want, ok)
	}
}

func TestAssigningWordForWord(t *testing.T) {
	costs := []int64{
		7, 5, 9,
		2, 1, 8,
		6, 3, 4,
	}
	expectCost(t, "three", 3, costs, []int64{2, 0, 1}, 14, true)
	expectCost(t, "three", 3, costs, []int64{0, 1, 2}, 12, true)
	expectAssigned(t, "three", 3, costs, []int64{1, 0, 2}, 11, true)
	// From column 1 to column 0 it is 2 more for row 0, from column 0 to
	// column 1 it is 1 less for row 1, from column 2 to column 1 1 less for
	// row 2, and all others are more.
	expectDuals(t, "three", 3, costs, []int64{6, 2, 4}, []int64{0, -1, 0}, true)
	expectProof(t, "three", 3, costs, []int64{6, 2, 4}, []int64{0, -1, 0}, 11, true)
	expectProof(t, "less", 3, costs, []int64{5, -90, 4}, []int64{0, -1, -7}, -89, true)
}

func TestOneRowAndSix(t *testing.T) {
	for _, cost := range []int64{-impl.MaxCost, -1, 0, 1, impl.MaxCost} {
		expectCost(t, "one", 1, []int64{cost}, []int64{0}, cost, true)
		expectAssigned(t, "one", 1, []int64{cost}, []int64{0}, cost, true)
		expectDuals(t, "one", 1, []int64{cost}, []int64{cost}, []int64{0}, true)
		expectProof(t, "one", 1, []int64{cost}, []int64{cost + 5}, []int64{-5}, cost, true)
	}
	six := slices.Repeat([]int64{impl.MaxCost}, 36)
	turned := []int64{5, 4, 3, 2, 1, 0}
	expectCost(t, "six", 6, six, turned, 6*impl.MaxCost, true)
	expectAssigned(t, "six", 6, six, places(6), 6*impl.MaxCost, true)
	for i, column := range turned {
		six[6*i+int(column)] = -impl.MaxCost
	}
	expectCost(t, "six", 6, six, turned, -6*impl.MaxCost, true)
	expectAssigned(t, "six", 6, six, turned, -6*impl.MaxCost, true)
	expectDuals(t, "six", 6, six, slices.Repeat([]int64{-impl.MaxCost}, 6), make([]int64, 6), true)
}

// The longest way to a column passes all of them, each step below nought.
func TestPricesOfManySteps(t *testing.T) {
	for _, list := range listRows(impl.MaxSide) {
		costs := slices.Repeat([]int64{impl.MaxCost}, 36)
		for i := range 6 {
			costs[6*i+i] = 0
		}
		for i := range 5 {
			costs[6*list[i]+list[i+1]] = -10
		}
		cols, rows := make([]int64, 6), make([]int64, 6)
		for i, column := range list {
			cols[column], rows[column] = -10*int64(i), 10*int64(i)
		}
		expectAssigned(t, "a chain", 6, costs, places(6), 0, true)
		expectDuals(t, "a chain", 6, costs, rows, cols, true)
	}
}

func TestListsThatCostTheSame(t *testing.T) {
	expectAssigned(t, "two", 2, []int64{3, 4, 4, 5}, []int64{0, 1}, 8, true)
	expectAssigned(t, "two", 2, []int64{-3, -4, -4, -5}, []int64{0, 1}, -8, true)
	// The least two are 1 2 0 and 2 0 1.
	costs := []int64{9, 1, 1, 1, 9, 1, 1, 1, 9}
	expectAssigned(t, "three", 3, costs, []int64{1, 2, 0}, 3, true)
	expectDuals(t, "three", 3, costs, []int64{1, 1, 1}, []int64{0, 0, 0}, true)
	for n := range int64(impl.MaxSide) {
		expectAssigned(t, "all", n+1, make([]int64, (n+1)*(n+1)), places(int(n+1)), 0, true)
	}
}

// wrongCosts are no costs: too few, too many, one just outside, n far off.
func wrongCosts() (sides []int64, costs [][]int64) {
	add := func(n int64, list []int64) { sides, costs = append(sides, n), append(costs, list) }
	for n := int64(1); n <= impl.MaxSide; n++ {
		add(n, make([]int64, n*n-1))
		add(n, make([]int64, n*n+1))
		add(n, nil)
		add(-n, make([]int64, n*n))
		for at := range n * n {
			for _, cost := range append([]int64{-impl.MaxCost - 1, impl.MaxCost + 1}, far...) {
				list := make([]int64, n*n)
				list[at] = cost
				add(n, list)
			}
		}
	}
	add(0, nil)
	add(0, make([]int64, 1))
	add(7, make([]int64, 49))
	add(7, make([]int64, 36))
	add(6, make([]int64, 49))
	add(3, make([]int64, 100000))
	for _, n := range far {
		add(n, nil)
		add(n, make([]int64, 1))
		add(n, make([]int64, 36))
	}
	return sides, costs
}

func TestWhatAreNoCosts(t *testing.T) {
	sides, costs := wrongCosts()
	for i, n := range sides {
		zeros := make([]int64, max(0, min(n, 7)))
		expectCost(t, "no costs", n, costs[i], places(len(zeros)), 0, false)
		expectAssigned(t, "no costs", n, costs[i], nil, 0, false)
		expectDuals(t, "no costs", n, costs[i], nil, nil, false)
		less := slices.Repeat([]int64{-impl.MaxCost}, len(zeros))
		expectProof(t, "no costs", n, costs[i], zeros, less, 0, false)
	}
}

func TestWhatAreNoColumns(t *testing.T) {
	for n := int64(1); n <= impl.MaxSide; n++ {
		costs := slices.Repeat([]int64{1}, int(n*n))
		all := places(int(n))
		expectCost(t, "all columns", n, costs, all, n, true)
		expectCost(t, "none", n, costs, nil, 0, false)
		expectCost(t, "one too few", n, costs, all[1:], 0, false)
		expectCost(t, "one too many", n, costs, append(slices.Clone(all), n), 0, false)
		expectCost(t, "one too many", n, costs, append(slices.Clone(all), 0), 0, false)
		for at := range n {
			for _, column := range append([]int64{-1, n, -n, n * n}, far...) {
				list := slices.Clone(all)
				list[at] = column
				expectCost(t, "no column", n, costs, list, 0, false)
			}
			for other := range n {
				list := slices.Clone(all)
				list[at] = list[other]
				if at != other {
					expectCost(t, "twice", n, costs, list, 0, false)
				}
			}
		}
	}
	expectCost(t, "many", 2, make([]int64, 4), make([]int64, 100000), 0, false)
}

func TestPricesAtTheirLimits(t *testing.T) {
	const most = 100 * impl.MaxCost
	expectProof(t, "both ends", 1, []int64{0}, []int64{most}, []int64{-most}, 0, true)
	expectProof(t, "both ends", 1, []int64{0}, []int64{-most}, []int64{most}, 0, true)
	expectProof(t, "both low", 1, []int64{-impl.MaxCost}, []int64{-most}, []int64{-most}, -2*most, true)
	expectProof(t, "both high", 1, []int64{impl.MaxCost}, []int64{most}, []int64{most}, 0, false)
	for n := int64(1); n <= impl.MaxSide; n++ {
		// A price of 1 too much would be right, but for its limit.
		costs := slices.Repeat([]int64{1}, int(n*n))
		low := slices.Repeat([]int64{-most}, int(n))
		expectProof(t, "all low", n, costs, low, low, -2*n*most, true)
		for at := range n {
			for _, price := range append([]int64{-most - 1, most + 1, -2 * most}, far...) {
				wrong := slices.Clone(low)
				wrong[at] = price
				expectProof(t, "a row's price", n, costs, wrong, low, 0, false)
				expectProof(t, "a column's price", n, costs, low, wrong, 0, false)
				expectProof(t, "both", n, costs, wrong, wrong, 0, false)
			}
			right := slices.Clone(low)
			right[at] = most
			expectProof(t, "a row's price", n, costs, right, low, -2*n*most+2*most, true)
			expectProof(t, "a column's price", n, costs, low, right, -2*n*most+2*most, true)
		}
		expectProof(t, "a row too few", n, costs, low[1:], low, 0, false)
		expectProof(t, "a column too few", n, costs, low, low[1:], 0, false)
		expectProof(t, "a row too many", n, costs, append(slices.Clone(low), 0), low, 0, false)
		expectProof(t, "a column too many", n, costs, low, append(slices.Clone(low), 0), 0, false)
		expectProof(t, "no rows", n, costs, nil, low, 0, false)
		expectProof(t, "no columns", n, costs, low, nil, 0, false)
		expectProof(t, "none", n, costs, nil, nil, 0, false)
	}
}

// changedAt is the list with one number other by so much.
func changedAt(list []int64, at int, by int64) []int64 {
	list = slices.Clone(list)
	list[at] += by
	return list
}

// No row of columns costs less; the prices, which come just to the cost of
// each row with its own column, prove it, and none of them can be 1 more.
func TestPricesProveThatNoListCostsLess(t *testing.T) {
	d := &dice{81}
	tied, priced, below := 0, 0, 0
	for range 3000 {
		n, costs := anyCosts(d)
		list, cost, least := wantAssigned(n, costs)
		rows, cols := wantDuals(n, costs)
		expectAssigned(t, "random", n, costs, list, cost, true)
		expectCost(t, "random", n, costs, list, cost, true)
		expectDuals(t, "random", n, costs, rows, cols, true)
		expectProof(t, "random", n, costs, rows, cols, cost, true)
		for i := range list {
			expectProof(t, "a row's 1 more", n, costs, changedAt(rows, i, 1), cols, 0, false)
			expectProof(t, "a column's 1 more", n, costs, rows, changedAt(cols, i, 1), 0, false)
			expectProof(t, "a row's 1 less", n, costs, changedAt(rows, i, -1), cols, cost-1, true)
			expectProof(t, "a column's 1 less", n, costs, rows, changedAt(cols, i, -1), cost-1, true)
		}
		if least > 1 {
			tied++
		}
		if slices.Min(cols) < 0 {
			priced++
		}
		if cost < 0 {
			below++
		}
		if t.Failed() {
			t.FailNow()
		}
	}
	if tied < 500 || priced < 500 || below < 500 {
		t.Errorf("%d tied, %d with prices, %d below nought", tied, priced, below)
	}
}

// rightPrices takes any prices of the columns, and of the rows such that
// nothing is above its cost, by so much less at most.
func rightPrices(d *dice, n int64, costs []int64, less int64) (rows, cols []int64) {
	for range n {
		cols = append(cols, d.roll(-30, 30))
	}
	for i := range n {
		price := costs[i*n] - cols[0]
		for j := range n {
			price = min(price, costs[i*n+j]-cols[j])
		}
		rows = append(rows, price-d.roll(0, less))
	}
	return rows, cols
}

func TestWhateverPricesAreRightComeToNoMore(t *testing.T) {
	d := &dice{82}
	just, less := 0, 0
	for range 3000 {
		n, costs := anyCosts(d)
		rows, cols := rightPrices(d, n, costs, d.roll(0, 3))
		total := int64(0)
		for i := range rows {
			total += rows[i] + cols[i]
		}
		expectProof(t, "right", n, costs, rows, cols, total, true)
		_, cost, _ := impl.Assigned(n, costs)
		for _, list := range listRows(int(n)) {
			sum, ok := impl.AssignCost(n, costs, list)
			if !ok || sum < cost || sum < total || sum != sumOf(n, costs, list) {
				t.Fatalf("%v: %v costs %d %v, the least %d, the prices %d", costs, list, sum, ok, cost, total)
			}
		}
		if total == cost {
			just++
		} else {
			less++
		}
		// One pair that is 1 above its cost is enough to prove nothing.
		i, j := d.roll(0, n-1), d.roll(0, n-1)
		above := costs[i*n+j] - rows[i] - cols[j] + 1
		expectProof(t, "1 above", n, costs, changedAt(rows, int(i), above), cols, 0, false)
		expectProof(t, "1 above", n, costs, rows, changedAt(cols, int(j), above), 0, false)
	}
	if just < 300 || less < 300 {
		t.Errorf("%d just as much, %d less", just, less)
	}
}

func TestAssigningLeavesItsArguments(t *testing.T) {
	d := &dice{83}
	for range 300 {
		n, plain := anyCosts(d)
		costs := roomy(plain)
		list := roomy(shuffled(d, places(int(n))))
		rows, cols := wantDuals(n, plain)
		rows, cols = roomy(rows), roomy(cols)
		were := slices.Concat(whole(costs), whole(list), whole(rows), whole(cols))
		alike(t, "AssignCost", func() any { cost, ok := impl.AssignCost(n, costs, list); return []any{cost, ok} })
		alike(t, "Assigned", func() any { list, cost, ok := impl.Assigned(n, costs); return []any{list, cost, ok} })
		alike(t, "DualsOf", func() any { rows, cols, ok := impl.DualsOf(n, costs); return []any{rows, cols, ok} })
		alike(t, "Proves", func() any { sum, ok := impl.Proves(n, costs, rows, cols); return []any{sum, ok} })
		best, _, _ := impl.Assigned(n, costs)
		again, _, _ := impl.Assigned(n, costs)
		ofRows, ofCols, _ := impl.DualsOf(n, costs)
		ownMemory(t, "Assigned and DualsOf", best, again, ofRows, ofCols)
		if !slices.Equal(were, slices.Concat(whole(costs), whole(list), whole(rows), whole(cols))) {
			t.Fatal("an argument was written into")
		}
	}
}
