package tests

import (
	"slices"
	"strings"
	"testing"

	"loop.example/g00265/impl"
)

// byAnn is what becomes of someStore when ann becomes that.
func byAnn(change func(ann *impl.Tenant)) impl.Store {
	s := someStore()
	change(&s.Tenants[0])
	return s
}

func TestEachKindIsObeyed(t *testing.T) {
	want := []obeyAnswer{
		{byAnn(func(ann *impl.Tenant) {
			ann.Snaps = append(ann.Snaps, impl.Snapshot{Id: 7, Case: shopCase(9)})
			ann.Next = 8
		}), 7, impl.AnDone},
		{byAnn(func(ann *impl.Tenant) {
			ann.Versions = append(ann.Versions, impl.Version{Id: 7, Snap: 3, Plan: shopPlans()[1]})
			ann.Next = 8
		}), 7, impl.AnDone},
		{byAnn(func(ann *impl.Tenant) {
			p, _, _ := impl.Searched(shopCase(1), shopPlans()[2], 5, 2)
			ann.Versions = append(ann.Versions, impl.Version{Id: 7, Snap: 1, Plan: p})
			ann.Next = 8
		}), 7, impl.AnDone},
		{byAnn(func(ann *impl.Tenant) { ann.Published = 6 }), 0, impl.AnDone},
		{byAnn(func(ann *impl.Tenant) { ann.Snaps, ann.Versions = ann.Snaps[1:], ann.Versions[1:] }), 0, impl.AnDone},
	}
	for i, q := range asks() {
		expectObeyed(t, "ann", someStore(), q, want[i])
		if !impl.StoreOk(want[i].S) {
			t.Errorf("%v is not right", want[i].S)
		}
	}
}

// breaks are what makes a request be refused, one behind the other as they are
// told.
type breaks []struct {
	code   int64
	broken func(s *impl.Store, q *impl.Request)
}

var (
	breakStore  = func(s *impl.Store, q *impl.Request) { s.Tenants[2].Published = 99 }
	breakForm   = func(s *impl.Store, q *impl.Request) { q.Kind = 0 }
	breakTenant = func(s *impl.Store, q *impl.Request) { q.Tenant = "zed" }
	breakId     = func(s *impl.Store, q *impl.Request) { q.Id = 99 }
	breakPlan   = func(s *impl.Store, q *impl.Request) { q.Plan = impl.Plan{Left: []int64{1}} }
	lastNext    = func(s *impl.Store, q *impl.Request) { s.Tenants[0].Next = impl.MaxId }
	fullKept    = func(s *impl.Store, q *impl.Request) {
		was := s.Tenants[0]
		s.Tenants[0] = tenant("ann", impl.MaxKept)
		s.Tenants[0].Next = max(was.Next, 17)
	}
)

// Of all sets of what is wrong the first one is told, and the store is as it
// was.
func TestTheFirstRefusalIsTold(t *testing.T) {
	for _, w := range []struct {
		q    impl.Request
		list breaks
	}{
		{asks()[0], breaks{{impl.AnWrong, breakStore}, {impl.AnForm, breakForm}, {impl.AnFull, lastNext}, {impl.AnFull, fullKept}}},
		{asks()[1], breaks{{impl.AnWrong, breakStore}, {impl.AnForm, breakForm}, {impl.AnTenant, breakTenant}, {impl.AnCase, breakId}, {impl.AnPlan, breakPlan}, {impl.AnFull, lastNext}, {impl.AnFull, fullKept}}},
		{asks()[2], breaks{{impl.AnWrong, breakStore}, {impl.AnForm, breakForm}, {impl.AnTenant, breakTenant}, {impl.AnVersion, breakId}, {impl.AnFull, lastNext}, {impl.AnFull, fullKept}}},
		{asks()[3], breaks{{impl.AnWrong, breakStore}, {impl.AnForm, breakForm}, {impl.AnTenant, breakTenant}, {impl.AnVersion, breakId}, {impl.AnDone, lastNext}, {impl.AnDone, fullKept}}},
		{asks()[4], breaks{{impl.AnWrong, breakStore}, {impl.AnForm, breakForm}, {impl.AnTenant, breakTenant}, {impl.AnDone, lastNext}, {impl.AnDone, fullKept}}},
	} {
		for set := range 1 << len(w.list) {
			s, q, code := someStore(), w.q, int64(impl.AnDone)
			for i := len(w.list) - 1; i >= 0; i-- {
				if set>>i&1 == 1 {
					w.list[i].broken(&s, &q)
					code = w.list[i].code
				}
			}
			if got := obeyed(s, q); got.Code != code {
				t.Errorf("%s of %s: %d, not %d", told(q), told(s), got.Code, code)
			}
			if code == impl.AnWrong {
				expectObeyed(t, "wrong", s, q, obeyAnswer{Code: impl.AnWrong})
			} else if code != impl.AnDone {
				expectRefused(t, "refused", s, q, code)
			}
		}
	}
}

func TestIdsOfTheOtherList(t *testing.T) {
	s := someStore()
	for _, id := range []int64{2, 4, 5 + 1, 7, 99, impl.MaxId} {
		expectRefused(t, "no snapshot", s, planAsk("ann", id, shopPlans()[0]), impl.AnCase)
	}
	for _, id := range []int64{1, 3, 5, 7, 99, impl.MaxId} {
		expectRefused(t, "no version", s, searchAsk("ann", id, 0, 0), impl.AnVersion)
		expectRefused(t, "no version", s, publishAsk("ann", id), impl.AnVersion)
	}
	// Others' are none of ann's.
	for _, id := range []int64{1, 2} {
		expectRefused(t, "bob", s, planAsk("bob", id, shopPlans()[0]), impl.AnCase)
		expectRefused(t, "bob", s, searchAsk("bob", id, 0, 0), impl.AnVersion)
		expectRefused(t, "bob", s, publishAsk("bob", id), impl.AnVersion)
	}
	for _, q := range asks()[1:] {
		for _, name := range []string{"a", "anna", "an", "aob", "zed"} {
			q.Tenant = name
			expectRefused(t, "no tenant", s, q, impl.AnTenant)
			expectRefused(t, "no tenant", impl.Store{}, q, impl.AnTenant)
			expectRefused(t, "no tenant", fullStore(), changedKind(q, "aa"), impl.AnTenant)
		}
	}
}

func changedKind(q impl.Request, name string) impl.Request {
	q.Tenant = name
	return q
}

func TestPlansMustHoldForTheirSnapshot(t *testing.T) {
	cases, plans := brokenPlans()
	s := impl.Store{Tenants: []impl.Tenant{{Name: "ann", Next: 2, Snaps: []impl.Snapshot{{Id: 1}}}}}
	refused := 0
	for i, c := range cases {
		s.Tenants[0].Snaps[0].Case = c
		q := planAsk("ann", 1, plans[i])
		switch {
		case !impl.CaseOk(c):
			expectObeyed(t, "wrong case", s, q, obeyAnswer{Code: impl.AnWrong})
		case impl.PlanText(plans[i]) == "":
			expectRefused(t, "cannot be written", s, q, impl.AnForm)
		default:
			refused++
			expectRefused(t, "does not hold", s, q, impl.AnPlan)
		}
	}
	if refused < 5 {
		t.Errorf("%d refused", refused)
	}
}

func newTenant(name string) impl.Tenant {
	return impl.Tenant{Name: name, Next: 2, Snaps: []impl.Snapshot{snapshot(1)}}
}

func TestSnapshotsMakeTenants(t *testing.T) {
	expectObeyed(t, "the first", impl.Store{}, snapAsk("ann", shopCase(1)), obeyAnswer{impl.Store{Tenants: []impl.Tenant{newTenant("ann")}}, 1, impl.AnDone})
	for i, name := range []string{"aaa", "anna", "bobs", "zed"} {
		want := someStore()
		want.Tenants = slices.Insert(want.Tenants, i, newTenant(name))
		expectObeyed(t, "one more", someStore(), snapAsk(name, shopCase(1)), obeyAnswer{want, 1, impl.AnDone})
		if !impl.StoreOk(want) {
			t.Errorf("%v is not right", want)
		}
	}
	four := impl.Store{Tenants: fullStore().Tenants[1:]}
	expectObeyed(t, "the fifth", four, snapAsk("aa", shopCase(1)), obeyAnswer{impl.Store{Tenants: slices.Insert(slices.Clone(four.Tenants), 0, newTenant("aa"))}, 1, impl.AnDone})
	for _, name := range []string{"aa", "c", "zzzzzzzzzzza"} {
		expectRefused(t, "the sixth", fullStore(), snapAsk(name, shopCase(1)), impl.AnFull)
		expectNotOfItsForm(t, "the sixth without a case", snapAsk(name, impl.Case{}))
	}
	// bob is there, though he has nothing.
	want := someStore()
	want.Tenants[1] = newTenant("bob")
	expectObeyed(t, "bob", someStore(), snapAsk("bob", shopCase(1)), obeyAnswer{want, 1, impl.AnDone})
	full := impl.Store{Tenants: append(fullStore().Tenants[:4], impl.Tenant{Name: "zzzzzzzzzzzz", Next: 5})}
	later := impl.Tenant{Name: "zzzzzzzzzzzz", Next: 6, Snaps: []impl.Snapshot{snapshot(5)}}
	expectObeyed(t, "one of five", full, snapAsk("zzzzzzzzzzzz", shopCase(5)), obeyAnswer{impl.Store{Tenants: append(fullStore().Tenants[:4], later)}, 5, impl.AnDone})
}

func TestTheLastIds(t *testing.T) {
	for i, q := range asks()[:3] {
		s := byAnn(func(ann *impl.Tenant) { ann.Next = impl.MaxId - 1 })
		got := obeyed(s, q)
		if got.Code != impl.AnDone || got.Id != impl.MaxId-1 || got.S.Tenants[0].Next != impl.MaxId || !impl.StoreOk(got.S) {
			t.Errorf("%d: %v", i, got)
		}
		expectRefused(t, "MaxId", got.S, q, impl.AnFull)
		expectRightStore(t, "the last Id", got.S)
	}
	s := byAnn(func(ann *impl.Tenant) { ann.Next = impl.MaxId })
	published := byAnn(func(ann *impl.Tenant) { ann.Next, ann.Published = impl.MaxId, 6 })
	expectObeyed(t, "MaxId", s, asks()[3], obeyAnswer{S: published})
}

func TestMaxKept(t *testing.T) {
	kept := func(snaps, versions int) impl.Store {
		ann := tenant("ann", impl.MaxKept)
		ann.Snaps, ann.Versions = ann.Snaps[:snaps], ann.Versions[:versions]
		return impl.Store{Tenants: []impl.Tenant{ann}}
	}
	for _, w := range []struct {
		snaps, versions int
		codes           [3]int64
	}{
		{8, 7, [3]int64{impl.AnFull, impl.AnDone, impl.AnDone}},
		{8, 8, [3]int64{impl.AnFull, impl.AnFull, impl.AnFull}},
		{7, 7, [3]int64{impl.AnDone, impl.AnDone, impl.AnDone}},
		{8, 1, [3]int64{impl.AnFull, impl.AnDone, impl.AnDone}},
	} {
		for i, q := range asks()[:3] {
			if got := obeyed(kept(w.snaps, w.versions), q); got.Code != w.codes[i] || !impl.StoreOk(got.S) {
				t.Errorf("%v: %v: %v", w, q, got)
			}
		}
	}
	s := kept(8, 8)
	s.Tenants[0].Snaps = s.Tenants[0].Snaps[:7]
	s.Tenants[0].Versions[7].Snap = 1
	if got := obeyed(s, asks()[0]); got.Code != impl.AnDone || got.Id != 17 {
		t.Errorf("%v", got)
	}
	expectRefused(t, "8 versions", s, asks()[1], impl.AnFull)
	expectRefused(t, "8 versions", s, asks()[2], impl.AnFull)
}

func TestSearchesMakeVersions(t *testing.T) {
	c := lineCase()
	empty, _ := impl.EmptyPlan(c)
	for _, p := range []impl.Plan{linePlan(), empty} {
		s := impl.Store{Tenants: []impl.Tenant{{Name: "ann", Next: 5, Snaps: []impl.Snapshot{{Id: 1, Case: shopCase(1)}, {Id: 2, Case: c}}, Versions: []impl.Version{{Id: 4, Snap: 2, Plan: p}}}}}
		for _, steps := range []int64{0, 1, 7, impl.MaxSteps} {
			for _, seed := range []int64{0, 1, lastSeed} {
				found, _, _ := impl.Searched(c, p, seed, steps)
				want := copyOf(s)
				want.Tenants[0].Next = 6
				want.Tenants[0].Versions = append(want.Tenants[0].Versions, impl.Version{Id: 5, Snap: 2, Plan: found})
				expectObeyed(t, "search", s, searchAsk("ann", 4, seed, steps), obeyAnswer{want, 5, impl.AnDone})
			}
			for _, seed := range noSeeds {
				expectRefused(t, "no seed", s, searchAsk("ann", 4, seed, steps), impl.AnForm)
			}
		}
		for _, steps := range append(slices.Clone(far), -1, impl.MaxSteps+1) {
			expectRefused(t, "steps", s, searchAsk("ann", 4, 1, steps), impl.AnForm)
		}
	}
}

// sweepOf has ann with these snapshots, and versions of an Id and a snapshot.
func sweepOf(published int64, snaps []int64, versions ...[2]int64) impl.Store {
	s := impl.Store{Tenants: []impl.Tenant{tenant("abe", 2), {Name: "ann", Next: 50, Published: published}, tenant("zed", 2)}}
	ann := &s.Tenants[1]
	for _, id := range snaps {
		ann.Snaps = append(ann.Snaps, snapshot(id))
	}
	for _, v := range versions {
		ann.Versions = append(ann.Versions, version(v[0], v[1]))
	}
	return s
}

func TestWhatASweepKeeps(t *testing.T) {
	type v = [2]int64
	ids := func(list ...int64) []int64 { return list }
	for _, w := range []struct {
		what      string
		was, then impl.Store
	}{
		{"nothing", sweepOf(0, nil), sweepOf(0, nil)},
		{"no version", sweepOf(0, ids(1, 2, 3)), sweepOf(0, ids(3))},
		{"one snapshot", sweepOf(0, ids(1)), sweepOf(0, ids(1))},
		{"one version", sweepOf(0, ids(1, 2, 3), v{4, 2}), sweepOf(0, ids(2, 3), v{4, 2})},
		{"one version that is published", sweepOf(4, ids(1, 2, 3), v{4, 2}), sweepOf(4, ids(2, 3), v{4, 2})},
		{"one version of the last snapshot", sweepOf(0, ids(1, 2, 3), v{4, 3}), sweepOf(0, ids(3), v{4, 3})},
		{"none published", sweepOf(0, ids(1, 2, 3), v{4, 1}, v{5, 2}, v{6, 1}), sweepOf(0, ids(1, 3), v{6, 1})},
		{"the first published", sweepOf(4, ids(1, 2, 3, 9), v{4, 1}, v{5, 2}, v{6, 3}), sweepOf(4, ids(1, 3, 9), v{4, 1}, v{6, 3})},
		{"a middle one published", sweepOf(5, ids(1, 2, 3, 9), v{4, 1}, v{5, 2}, v{6, 3}, v{7, 3}), sweepOf(5, ids(2, 3, 9), v{5, 2}, v{7, 3})},
		{"the last published", sweepOf(6, ids(1, 2, 3, 9), v{4, 1}, v{5, 2}, v{6, 3}), sweepOf(6, ids(3, 9), v{6, 3})},
		{"a shared snapshot", sweepOf(4, ids(1, 2, 3), v{4, 2}, v{5, 1}, v{6, 2}), sweepOf(4, ids(2, 3), v{4, 2}, v{6, 2})},
		{"a shared last snapshot", sweepOf(4, ids(1, 2, 3), v{4, 3}, v{5, 1}, v{6, 3}), sweepOf(4, ids(3), v{4, 3}, v{6, 3})},
		{"the last version of the first snapshot", sweepOf(4, ids(1, 2, 3), v{4, 2}, v{5, 3}, v{6, 1}), sweepOf(4, ids(1, 2, 3), v{4, 2}, v{6, 1})},
		{"snapshots behind versions", sweepOf(1, ids(7, 8, 9), v{1, 7}, v{2, 8}), sweepOf(1, ids(7, 8, 9), v{1, 7}, v{2, 8})},
	} {
		expectRightStore(t, w.what, w.was)
		expectObeyed(t, w.what, w.was, sweepAsk("ann"), obeyAnswer{S: w.then})
		expectObeyed(t, w.what+", swept again", w.then, sweepAsk("ann"), obeyAnswer{S: w.then})
	}
	full := fullStore()
	for i, w := range full.Tenants {
		got := obeyed(full, sweepAsk(w.Name))
		if got.Code != impl.AnDone || got.Id != 0 || got.S.Tenants[i].Next != 17 || len(got.S.Tenants[i].Versions) != []int{1, 2, 2, 1, 2}[i] {
			t.Errorf("%s: %v", w.Name, got)
		}
	}
}

func indexOfTenant(s impl.Store, name string) int {
	return slices.IndexFunc(s.Tenants, func(w impl.Tenant) bool { return w.Name == name })
}

// wantForm holds a request against one that has just what its Kind names.
func wantForm(q impl.Request) bool {
	bare := impl.Request{Kind: q.Kind, Tenant: q.Tenant}
	if !isName.MatchString(q.Tenant) || q.Kind < impl.RqSnap || q.Kind > impl.RqSweep {
		return false
	}
	if q.Kind == impl.RqSnap {
		bare.Case = q.Case
		return same(q, bare) && impl.CaseOk(q.Case)
	}
	if q.Kind != impl.RqSweep {
		bare.Id = q.Id
		if q.Id < 1 || q.Id > impl.MaxId {
			return false
		}
	}
	if q.Kind == impl.RqPlan {
		bare.Plan = q.Plan
	}
	if q.Kind == impl.RqSearch {
		bare.Seed, bare.Steps = q.Seed, q.Steps
	}
	return same(q, bare) && impl.PlanText(q.Plan) != "" && q.Seed >= 0 && q.Seed <= lastSeed && q.Steps >= 0 && q.Steps <= impl.MaxSteps
}

// wantObeyed goes through the document's words for a right store.
func wantObeyed(s impl.Store, q impl.Request) obeyAnswer {
	if !wantForm(q) {
		return obeyAnswer{s, 0, impl.AnForm}
	}
	next := copyOf(s)
	if indexOfTenant(s, q.Tenant) < 0 {
		if q.Kind != impl.RqSnap {
			return obeyAnswer{s, 0, impl.AnTenant}
		}
		if len(s.Tenants) == impl.MaxTenants {
			return obeyAnswer{s, 0, impl.AnFull}
		}
		next.Tenants = append(next.Tenants, impl.Tenant{Name: q.Tenant, Next: 1})
		slices.SortFunc(next.Tenants, func(a, b impl.Tenant) int { return strings.Compare(a.Name, b.Name) })
	}
	w := &next.Tenants[indexOfTenant(next, q.Tenant)]
	made, code := wantDone(w, q)
	if code != impl.AnDone {
		return obeyAnswer{s, 0, code}
	}
	if !made {
		return obeyAnswer{next, 0, impl.AnDone}
	}
	w.Next++
	return obeyAnswer{next, w.Next - 1, impl.AnDone}
}

// wantDone is whether something was made, and the code.
func wantDone(w *impl.Tenant, q impl.Request) (bool, int64) {
	snap := slices.IndexFunc(w.Snaps, func(n impl.Snapshot) bool { return n.Id == q.Id })
	from := slices.IndexFunc(w.Versions, func(v impl.Version) bool { return v.Id == q.Id })
	switch {
	case q.Kind == impl.RqPlan && snap < 0:
		return false, impl.AnCase
	case q.Kind == impl.RqPlan && impl.PlanCode(w.Snaps[snap].Case, q.Plan) != impl.PnOk:
		return false, impl.AnPlan
	case (q.Kind == impl.RqSearch || q.Kind == impl.RqPublish) && from < 0:
		return false, impl.AnVersion
	case q.Kind < impl.RqPublish && w.Next == impl.MaxId:
		return false, impl.AnFull
	case q.Kind == impl.RqSnap && len(w.Snaps) == impl.MaxKept:
		return false, impl.AnFull
	case (q.Kind == impl.RqPlan || q.Kind == impl.RqSearch) && len(w.Versions) == impl.MaxKept:
		return false, impl.AnFull
	}
	switch q.Kind {
	case impl.RqSnap:
		w.Snaps = append(w.Snaps, impl.Snapshot{Id: w.Next, Case: q.Case})
	case impl.RqPlan:
		w.Versions = append(w.Versions, impl.Version{Id: w.Next, Snap: q.Id, Plan: q.Plan})
	case impl.RqSearch:
		at := slices.IndexFunc(w.Snaps, func(n impl.Snapshot) bool { return n.Id == w.Versions[from].Snap })
		p, _, _ := impl.Searched(w.Snaps[at].Case, w.Versions[from].Plan, q.Seed, q.Steps)
		w.Versions = append(w.Versions, impl.Version{Id: w.Next, Snap: w.Snaps[at].Id, Plan: p})
	case impl.RqPublish:
		w.Published = q.Id
	case impl.RqSweep:
		wantSwept(w)
	}
	return q.Kind < impl.RqPublish, impl.AnDone
}

// wantSwept takes out what is not kept, one by one.
func wantSwept(w *impl.Tenant) {
	last := func() int64 { return w.Versions[len(w.Versions)-1].Id }
	w.Versions = slices.DeleteFunc(w.Versions, func(v impl.Version) bool { return v.Id != w.Published && v.Id != last() })
	kept := map[int64]int{}
	for _, v := range w.Versions {
		kept[v.Snap]++
	}
	if len(w.Snaps) > 0 {
		kept[w.Snaps[len(w.Snaps)-1].Id]++
	}
	w.Snaps = slices.DeleteFunc(w.Snaps, func(n impl.Snapshot) bool { return kept[n.Id] == 0 })
}

var names = []string{"a", "ann", "bob", "eve", "zed", "zedd", "abcdefghijkl"}

// anyAsk asks a tenant that is there for something of it, most of the time.
func anyAsk(d *dice, s impl.Store) impl.Request {
	q := impl.Request{Kind: d.roll(1, 5), Tenant: names[d.roll(0, int64(len(names))-1)]}
	var w impl.Tenant
	if at := indexOfTenant(s, q.Tenant); at >= 0 {
		w = s.Tenants[at]
	}
	switch q.Kind {
	case impl.RqSnap:
		q.Case = easyCase(d)
	case impl.RqPlan:
		q.Id = d.roll(1, 20)
		if len(w.Snaps) > 0 && d.roll(0, 9) > 0 {
			n := w.Snaps[d.roll(0, int64(len(w.Snaps))-1)]
			q.Id, q.Plan = n.Id, holding(d, n.Case)
		}
		if d.roll(0, 7) == 0 {
			q.Plan = randomPlan(d)
		}
	default:
		if q.Kind == impl.RqSweep && d.roll(0, 2) > 0 {
			q.Kind = impl.RqPublish
		}
		if q.Kind == impl.RqSearch {
			q.Seed, q.Steps = anySeed(d), d.roll(0, 3)
		}
		if q.Kind != impl.RqSweep {
			q.Id = d.roll(1, 20)
			if len(w.Versions) > 0 && d.roll(0, 9) > 0 {
				q.Id = w.Versions[d.roll(0, int64(len(w.Versions))-1)].Id
			}
		}
	}
	return misformed(d, q)
}

// misformed breaks a request's form now and then.
func misformed(d *dice, q impl.Request) impl.Request {
	switch d.roll(0, 60) {
	case 0:
		q.Kind = d.roll(-1, 7)
	case 1:
		q.Tenant = strings.ToUpper(q.Tenant)
	case 2:
		q.Id = d.roll(-1, 1)
	case 3:
		q.Seed = edge(d, -1, lastSeed+1)
	case 4:
		q.Steps = edge(d, -1, impl.MaxSteps+1)
	case 5:
		q.Case.Fine++
	case 6:
		q.Plan.Left = append(q.Plan.Left, d.roll(0, 3))
	}
	return q
}

// without is the store with nothing but the tenant of that name.
func without(s impl.Store, name string) impl.Store {
	if at := indexOfTenant(s, name); at >= 0 {
		return impl.Store{Tenants: s.Tenants[at : at+1]}
	}
	return impl.Store{}
}

// checkOthers asks that nothing of others changes, that the same is done
// without them, and that what was kept stays as it is but for a sweep.
func checkOthers(t *testing.T, s impl.Store, q impl.Request, got obeyAnswer) {
	t.Helper()
	for _, w := range s.Tenants {
		if at := indexOfTenant(got.S, w.Name); w.Name != q.Tenant && (at < 0 || !same(got.S.Tenants[at], w)) {
			t.Fatalf("%s changes %s of %s: %s", told(q), told(w), told(s), told(got))
		}
	}
	alone := obeyed(without(s, q.Tenant), q)
	crowded := got.Code == impl.AnFull && indexOfTenant(s, q.Tenant) < 0
	if !crowded && !same(alone, obeyAnswer{without(got.S, q.Tenant), got.Id, got.Code}) {
		t.Fatalf("%s of %s: %s, but alone %s", told(q), told(s), told(got), told(alone))
	}
	at := indexOfTenant(s, q.Tenant)
	if at < 0 || q.Kind == impl.RqSweep {
		return
	}
	was, now := s.Tenants[at], got.S.Tenants[indexOfTenant(got.S, q.Tenant)]
	if !same(now.Snaps[:len(was.Snaps)], was.Snaps) || !same(now.Versions[:len(was.Versions)], was.Versions) {
		t.Fatalf("%s of %s: %s", told(q), told(s), told(got))
	}
}

func TestRequestsInARow(t *testing.T) {
	d := &dice{112}
	count := map[[2]int64]int{}
	for range 60 {
		var s impl.Store
		for range 120 {
			q := anyAsk(d, s)
			if d.roll(0, 200) == 0 && len(s.Tenants) > 0 {
				w := &s.Tenants[d.roll(0, int64(len(s.Tenants))-1)]
				w.Next = max(w.Next, impl.MaxId-2)
			}
			want := wantObeyed(s, q)
			got := obeyed(s, q)
			if !same(got, want) {
				t.Fatalf("%s of %s: %s, not %s", told(q), told(s), told(got), told(want))
			}
			if got.Code != impl.AnDone && !same(got, obeyAnswer{s, 0, got.Code}) {
				t.Fatalf("%s is refused by %s: %s", told(q), told(s), told(got))
			}
			if text := impl.RequestText(q); (got.Code == impl.AnForm) != (text == "") {
				t.Fatalf("%v: %q", q, text)
			} else if text != "" {
				expectRequestComesBack(t, q)
			}
			checkOthers(t, s, q, got)
			count[[2]int64{q.Kind, got.Code}]++
			s = got.S
		}
		expectRightStore(t, "at the end", s)
	}
	for _, w := range [][2]int64{{1, 0}, {1, 2}, {1, 7}, {2, 0}, {2, 2}, {2, 3}, {2, 4}, {2, 5}, {2, 7}, {3, 0}, {3, 2}, {3, 3}, {3, 6}, {3, 7}, {4, 0}, {4, 2}, {4, 3}, {4, 6}, {5, 0}, {5, 2}, {5, 3}} {
		if count[w] < 5 {
			t.Errorf("Kind %d with the code %d only %d times", w[0], w[1], count[w])
		}
	}
}

// storeFault breaks one number of a store by chance, or leaves it right.
func storeFault(d *dice, s impl.Store) impl.Store {
	s = copyOf(s)
	w := &s.Tenants[d.roll(0, int64(len(s.Tenants))-1)]
	n := d.roll(-1, 20)
	switch d.roll(0, 4) {
	case 0:
		w.Next = n
	case 1:
		w.Published = n
	case 2:
		w.Snaps[d.roll(0, int64(len(w.Snaps))-1)].Id = n
	case 3:
		w.Versions[d.roll(0, int64(len(w.Versions))-1)].Id = n
	case 4:
		w.Versions[d.roll(0, int64(len(w.Versions))-1)].Snap = n
	}
	return s
}

func wantStoreOk(s impl.Store) bool {
	for _, w := range s.Tenants {
		snaps, versions := map[int64]impl.Case{}, map[int64]bool{}
		ids, more := []int64{0}, []int64{0}
		for _, n := range w.Snaps {
			snaps[n.Id] = n.Case
			ids = append(ids, n.Id)
		}
		for _, v := range w.Versions {
			c, ok := snaps[v.Snap]
			if !ok || impl.PlanCode(c, v.Plan) != impl.PnOk {
				return false
			}
			versions[v.Id] = true
			more = append(more, v.Id)
		}
		for _, list := range [][]int64{ids, more} {
			if !slices.IsSorted(list) || len(slices.Compact(slices.Clone(list))) != len(list) || list[len(list)-1] >= w.Next {
				return false
			}
		}
		if w.Published != 0 && !versions[w.Published] {
			return false
		}
	}
	return true
}

func TestStoresWithOneNumberChanged(t *testing.T) {
	d := &dice{113}
	right := 0
	for range 3000 {
		s := storeFault(d, fullStore())
		if wantStoreOk(s) {
			right++
			expectRightStore(t, "changed", s)
		} else if impl.StoreOk(s) || impl.StoreText(s) != "" {
			t.Fatalf("right: %s", told(s))
		}
	}
	if right < 200 || right > 2800 {
		t.Errorf("%d right", right)
	}
}

func TestTenantsLeaveTheirArguments(t *testing.T) {
	d := &dice{114}
	type tenantAnswer struct {
		W  impl.Tenant
		Ok bool
	}
	for i := range 300 {
		s := withRoom([]impl.Store{someStore(), fullStore(), textStore()}[i%3])
		name := s.Tenants[d.roll(0, int64(len(s.Tenants))-1)].Name
		q := anyAsk(d, s)
		if d.roll(0, 3) > 0 {
			q.Tenant = name
		}
		q = withRoom(q)
		was, asked := frozen(s), frozen(q)
		text, line := impl.StoreText(s), impl.RequestText(q)
		alike(t, "StoreOk", func() any { return impl.StoreOk(s) })
		alike(t, "TenantOf", func() any { w, ok := impl.TenantOf(s, name); return tenantAnswer{w, ok} })
		alike(t, "Obeyed", func() any { return obeyed(s, q) })
		alike(t, "PublishedOf", func() any { p, cost, ok := impl.PublishedOf(s, name); return []any{p, cost, ok} })
		alike(t, "RequestText", func() any { return impl.RequestText(q) })
		alike(t, "ReadRequest", func() any { q, ok := impl.ReadRequest(line); return []any{q, ok} })
		alike(t, "StoreText", func() any { return impl.StoreText(s) })
		alike(t, "ReadStore", func() any { s, ok := impl.ReadStore(text); return []any{s, ok} })
		expectApart(t, "TenantOf", first(impl.TenantOf(s, name)), s)
		expectApart(t, "Obeyed", obeyed(s, q), s, q)
		p, _, _ := impl.PublishedOf(s, name)
		expectApart(t, "PublishedOf", p, s)
		expectApart(t, "ReadRequest", first(impl.ReadRequest(line)), q)
		expectApart(t, "ReadStore", first(impl.ReadStore(text)), s)
		if !same(frozen(s), was) || !same(frozen(q), asked) {
			t.Fatal("an argument was written into")
		}
	}
}
