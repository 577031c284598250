package tests

import (
	"regexp"
	"slices"
	"strconv"
	"strings"
	"testing"

	"loop.example/g00265/impl"
)

// shopCase has orders 1 and 2 and the vehicle 7; its Fine tells it from others.
func shopCase(fine int64) impl.Case {
	return impl.Case{
		Times:    impl.Matrix{N: 3, Times: []int64{0, 5, 9, 5, 0, 4, 9, 4, 0}},
		Orders:   []impl.Order{{Id: 1, Place: 1, Load: 2, To: 90, Serve: 1}, {Id: 2, Place: 2, Load: 2, To: 90, Serve: 1}},
		Vehicles: []impl.Vehicle{{Id: 7, Room: 4, To: 99}},
		Fine:     fine,
	}
}

// shopPlans hold for each shopCase.
func shopPlans() []impl.Plan {
	return []impl.Plan{
		{Left: []int64{1, 2}},
		{Routes: []impl.Route{route(7, 1, 2)}},
		{Routes: []impl.Route{route(7, 2, 1)}},
		{Routes: []impl.Route{route(7, 2)}, Left: []int64{1}},
	}
}

func snapshot(id int64) impl.Snapshot { return impl.Snapshot{Id: id, Case: shopCase(id)} }

func version(id, snap int64) impl.Version {
	return impl.Version{Id: id, Snap: snap, Plan: shopPlans()[id%4]}
}

// tenant has snapshots 1, 3 .. and versions 2, 4 .., each of the snapshot ahead
// of it, up to count of both.
func tenant(name string, count int64) impl.Tenant {
	t := impl.Tenant{Name: name, Next: 2*count + 1}
	for i := range count {
		t.Snaps = append(t.Snaps, snapshot(2*i+1))
		t.Versions = append(t.Versions, version(2*i+2, 2*i+1))
	}
	return t
}

// fullStore has as many of everything as a store may have.
func fullStore() impl.Store {
	var s impl.Store
	for i, name := range []string{"a", "ab", "b", "zzzzzzzzzzzy", "zzzzzzzzzzzz"} {
		t := tenant(name, impl.MaxKept)
		t.Published = []int64{0, 2, 8, 16, 4}[i]
		s.Tenants = append(s.Tenants, t)
	}
	return s
}

// someStore has the tenants ann, with room, bob, who has nothing, and eve.
func someStore() impl.Store {
	ann, eve := tenant("ann", 3), tenant("eve", 1)
	ann.Published = 4
	return impl.Store{Tenants: []impl.Tenant{ann, {Name: "bob", Next: 1}, eve}}
}

type obeyAnswer struct {
	S        impl.Store
	Id, Code int64
}

func obeyed(s impl.Store, q impl.Request) obeyAnswer {
	next, id, code := impl.Obeyed(s, q)
	return obeyAnswer{next, id, code}
}

func expectObeyed(t *testing.T, what string, s impl.Store, q impl.Request, want obeyAnswer) {
	t.Helper()
	if got := obeyed(s, q); !same(got, want) {
		t.Errorf("%.60q: %s of %s: %s, not %s", what, told(q), told(s), told(got), told(want))
	}
}

// expectRefused asks for the store as it is.
func expectRefused(t *testing.T, what string, s impl.Store, q impl.Request, code int64) {
	t.Helper()
	expectObeyed(t, what, s, q, obeyAnswer{S: s, Code: code})
}

func snapAsk(name string, c impl.Case) impl.Request {
	return impl.Request{Kind: impl.RqSnap, Tenant: name, Case: c}
}

func planAsk(name string, id int64, p impl.Plan) impl.Request {
	return impl.Request{Kind: impl.RqPlan, Tenant: name, Id: id, Plan: p}
}

func searchAsk(name string, id, seed, steps int64) impl.Request {
	return impl.Request{Kind: impl.RqSearch, Tenant: name, Id: id, Seed: seed, Steps: steps}
}

func publishAsk(name string, id int64) impl.Request {
	return impl.Request{Kind: impl.RqPublish, Tenant: name, Id: id}
}

func sweepAsk(name string) impl.Request {
	return impl.Request{Kind: impl.RqSweep, Tenant: name}
}

// asks are one of each Kind, all of which ann obeys.
func asks() []impl.Request {
	return []impl.Request{
		snapAsk("ann", shopCase(9)), planAsk("ann", 3, shopPlans()[1]), searchAsk("ann", 2, 5, 2), publishAsk("ann", 6), sweepAsk("ann"),
	}
}

func expectRightStore(t *testing.T, what string, s impl.Store) {
	t.Helper()
	if !impl.StoreOk(s) {
		t.Errorf("%.60q: not right: %s", what, told(s))
		return
	}
	text := impl.StoreText(s)
	if back, ok := impl.ReadStore(text); text == "" || !ok || !same(back, s) {
		t.Errorf("%.60q: %s came back from %.1500q as %s", what, told(s), text, told(back))
	}
	for _, w := range s.Tenants {
		if got, ok := impl.TenantOf(s, w.Name); !ok || !same(got, w) {
			t.Errorf("%.60q: %s is %v", what, w.Name, got)
		}
		p, cost, ok := impl.PublishedOf(s, w.Name)
		plan, price, there := wantPublished(w)
		if ok != there || cost != price || !samePlan(p, plan) {
			t.Errorf("%.60q: %s published %v for %d", what, w.Name, p, cost)
		}
	}
}

// wantPublished is what is published, which must hold for its snapshot.
func wantPublished(w impl.Tenant) (impl.Plan, int64, bool) {
	for _, v := range w.Versions {
		for _, n := range w.Snaps {
			if v.Id == w.Published && v.Snap == n.Id && impl.PlanCode(n.Case, v.Plan) == impl.PnOk {
				return v.Plan, impl.PlanCost(n.Case, v.Plan), true
			}
		}
	}
	return impl.Plan{}, 0, false
}

func expectWrongStore(t *testing.T, what string, s impl.Store) {
	t.Helper()
	if impl.StoreOk(s) || impl.StoreText(s) != "" {
		t.Errorf("%.60q: right: %.2000q", what, impl.StoreText(s))
	}
	for _, name := range []string{"", "a", "ab", "b", "ann", "bob", "zzzzzzzzzzzz"} {
		if got, ok := impl.TenantOf(s, name); ok || !same(got, impl.Tenant{}) {
			t.Errorf("%.60q: %s is %v", what, name, got)
		}
		if p, cost, ok := impl.PublishedOf(s, name); ok || cost != 0 || !samePlan(p, impl.Plan{}) {
			t.Errorf("%.60q: %s published %v for %d", what, name, p, cost)
		}
	}
	for _, q := range append(asks(), impl.Request{}, sweepAsk("a"), snapAsk("Ann", impl.Case{})) {
		if got := obeyed(s, q); !same(got, obeyAnswer{Code: impl.AnWrong}) {
			t.Errorf("%.60q: %v: %v", what, q, got)
		}
	}
}

func TestHowManyTenants(t *testing.T) {
	full := fullStore()
	for n := range impl.MaxTenants + 1 {
		expectRightStore(t, "fewer", impl.Store{Tenants: full.Tenants[:n]})
	}
	expectRightStore(t, "none", impl.Store{})
	expectRightStore(t, "none", impl.Store{Tenants: []impl.Tenant{}})
	expectWrongStore(t, "6", impl.Store{Tenants: append(fullStore().Tenants[1:], impl.Tenant{Name: "zzzzzzzzzzzzz", Next: 1}, impl.Tenant{Name: "zzzzzzzzzzzzzz", Next: 1})})
	six := impl.Store{}
	for _, name := range []string{"a", "b", "c", "d", "e", "f"} {
		six.Tenants = append(six.Tenants, impl.Tenant{Name: name, Next: 1})
	}
	expectWrongStore(t, "6", six)
	expectRightStore(t, "5", impl.Store{Tenants: six.Tenants[1:]})
	expectWrongStore(t, "100000", impl.Store{Tenants: make([]impl.Tenant, 100000)})
	expectWrongStore(t, "a zero tenant", impl.Store{Tenants: make([]impl.Tenant, 1)})
}

var isName = regexp.MustCompile(`\A[a-z]{1,12}\z`)

// oddNames are names and others, with each byte there is.
func oddNames() []string {
	list := []string{"", "a", "z", "ab", "abcdefghijkl", "abcdefghijklm", "zzzzzzzzzzzz", "zzzzzzzzzzzzz", "anné", "a b", " a", "a ", "a\n", "Ann", "ann1", strings.Repeat("a", 100000)}
	for b := range 256 {
		sign := string([]byte{byte(b)})
		list = append(list, sign, "x"+sign, "xy"+sign+"z")
	}
	return list
}

func TestNames(t *testing.T) {
	for _, name := range oddNames() {
		s := impl.Store{Tenants: []impl.Tenant{tenant(name, 1)}}
		if isName.MatchString(name) {
			expectRightStore(t, name, s)
			expectObeyed(t, name, impl.Store{}, snapAsk(name, shopCase(1)), obeyAnswer{impl.Store{Tenants: []impl.Tenant{{Name: name, Next: 2, Snaps: []impl.Snapshot{snapshot(1)}}}}, 1, impl.AnDone})
			expectRequestComesBack(t, sweepAsk(name))
		} else {
			expectWrongStore(t, name, s)
			for _, q := range asks() {
				q.Tenant = name
				expectNotOfItsForm(t, name, q)
			}
		}
		if _, ok := impl.TenantOf(someStore(), name); ok {
			t.Errorf("%q is there", name)
		}
	}
	for i := range impl.MaxTenants - 1 {
		s := fullStore()
		s.Tenants[i].Name = s.Tenants[i+1].Name
		expectWrongStore(t, "a name twice", s)
		s = fullStore()
		s.Tenants[i], s.Tenants[i+1] = s.Tenants[i+1], s.Tenants[i]
		expectWrongStore(t, "names that fall", s)
	}
}

func TestNextIds(t *testing.T) {
	for _, w := range []struct {
		next int64
		ok   bool
	}{{-1, false}, {0, false}, {1, true}, {2, true}, {impl.MaxId - 1, true}, {impl.MaxId, true}, {impl.MaxId + 1, false}} {
		s := impl.Store{Tenants: []impl.Tenant{{Name: "ann", Next: w.next}}}
		if w.ok {
			expectRightStore(t, "Next", s)
		} else {
			expectWrongStore(t, "Next", s)
		}
	}
	for _, next := range append(slices.Clone(far), 0, 1, 2, 15, 16) {
		s := fullStore()
		s.Tenants[4].Next = next
		expectWrongStore(t, "Next that is not above all Ids", s)
	}
	for _, next := range []int64{17, 18, impl.MaxId} {
		s := fullStore()
		s.Tenants[4].Next = next
		expectRightStore(t, "Next above all Ids", s)
	}
}

// changedTenant is a full store with its third tenant changed.
func changedTenant(change func(w *impl.Tenant)) impl.Store {
	s := fullStore()
	change(&s.Tenants[2])
	return s
}

func TestIdsOfWhatIsKept(t *testing.T) {
	for i := range impl.MaxKept {
		for _, id := range append(slices.Clone(far), -1, 0, impl.MaxId, impl.MaxId+1) {
			expectWrongStore(t, "a snapshot", changedTenant(func(w *impl.Tenant) { w.Snaps[i].Id, w.Versions[i].Snap = id, id }))
			expectWrongStore(t, "a version", changedTenant(func(w *impl.Tenant) { w.Versions[i].Id, w.Published = id, 0 }))
		}
	}
	for i := range impl.MaxKept - 1 {
		expectWrongStore(t, "snapshots alike", changedTenant(func(w *impl.Tenant) { w.Snaps[i].Id, w.Versions[i].Snap = w.Snaps[i+1].Id, w.Snaps[i+1].Id }))
		expectWrongStore(t, "snapshots that fall", changedTenant(func(w *impl.Tenant) { w.Snaps[i], w.Snaps[i+1] = w.Snaps[i+1], w.Snaps[i] }))
		expectWrongStore(t, "versions alike", changedTenant(func(w *impl.Tenant) { w.Versions[i].Id, w.Published = w.Versions[i+1].Id, 0 }))
		expectWrongStore(t, "versions that fall", changedTenant(func(w *impl.Tenant) { w.Versions[i], w.Versions[i+1] = w.Versions[i+1], w.Versions[i] }))
	}
	expectRightStore(t, "first and last Ids", changedTenant(func(w *impl.Tenant) {
		w.Next = 100
		w.Snaps[7].Id, w.Versions[7].Snap = 99, 99
		w.Versions[0].Id = 1
		w.Versions[7].Id = 99
	}))
	for _, last := range []int64{100, 101} {
		expectWrongStore(t, "a snapshot of Next", changedTenant(func(w *impl.Tenant) { w.Next, w.Snaps[7].Id, w.Versions[7].Snap = 100, last, last }))
		expectWrongStore(t, "a version of Next", changedTenant(func(w *impl.Tenant) { w.Next, w.Versions[7].Id = 100, last }))
	}
	expectRightStore(t, "the greatest Ids", changedTenant(func(w *impl.Tenant) {
		w.Next = impl.MaxId
		w.Snaps[7].Id, w.Versions[7].Snap = impl.MaxId-1, impl.MaxId-1
		w.Versions[7].Id = impl.MaxId - 1
	}))
}

func TestHowMuchIsKept(t *testing.T) {
	for count := range int64(impl.MaxKept + 1) {
		expectRightStore(t, "both", impl.Store{Tenants: []impl.Tenant{tenant("ann", count)}})
		w := tenant("ann", count)
		w.Versions = nil
		expectRightStore(t, "snapshots alone", impl.Store{Tenants: []impl.Tenant{w}})
	}
	for _, more := range []int{1, 2, 100000} {
		expectWrongStore(t, "more snapshots", changedTenant(func(w *impl.Tenant) {
			w.Next = impl.MaxId
			for i := range more {
				w.Snaps = append(w.Snaps, snapshot(int64(17+i)))
			}
		}))
		expectWrongStore(t, "more versions", changedTenant(func(w *impl.Tenant) {
			w.Next = impl.MaxId
			for i := range more {
				w.Versions = append(w.Versions, version(int64(17+i), 1))
			}
		}))
	}
	expectWrongStore(t, "versions without snapshots", changedTenant(func(w *impl.Tenant) { w.Snaps = nil }))
	expectRightStore(t, "all of one snapshot", changedTenant(func(w *impl.Tenant) {
		w.Snaps = w.Snaps[:1]
		for i := range w.Versions {
			w.Versions[i].Snap = 1
		}
	}))
}

func TestSnapshotsOfVersions(t *testing.T) {
	for i := range impl.MaxKept {
		for _, snap := range append(slices.Clone(far), -1, 0, 2, 8, 17, 18) {
			expectWrongStore(t, "no such snapshot", changedTenant(func(w *impl.Tenant) { w.Versions[i].Snap = snap }))
		}
		for snap := int64(1); snap < 16; snap += 2 {
			expectRightStore(t, "another snapshot", changedTenant(func(w *impl.Tenant) { w.Versions[i].Snap = snap }))
		}
		expectWrongStore(t, "a wrong case", changedTenant(func(w *impl.Tenant) { w.Snaps[i].Case.Fine = -1 }))
		expectWrongStore(t, "a wrong case of no version", changedTenant(func(w *impl.Tenant) {
			w.Versions, w.Published = nil, 0
			w.Snaps[i].Case.Vehicles[0].Home = 3
		}))
		expectWrongStore(t, "no case", changedTenant(func(w *impl.Tenant) { w.Snaps[i].Case = impl.Case{} }))
		for _, left := range [][]int64{nil, {1}, {2, 1}, {1, 2, 3}, {1, 2, 2}, {1, 1 << 40}} {
			expectWrongStore(t, "does not hold", changedTenant(func(w *impl.Tenant) { w.Versions[i].Plan = impl.Plan{Left: left} }))
		}
		expectWrongStore(t, "does not hold for that case", changedTenant(func(w *impl.Tenant) { w.Snaps[i].Case.Orders[1].Id = 3 }))
	}
	cases, plans := brokenPlans()
	for i, c := range cases {
		s := impl.Store{Tenants: []impl.Tenant{{Name: "ann", Next: 3, Snaps: []impl.Snapshot{{Id: 1, Case: c}}, Versions: []impl.Version{{Id: 2, Snap: 1, Plan: plans[i]}}}}}
		expectWrongStore(t, "a plan that does not hold", s)
	}
	s := impl.Store{Tenants: []impl.Tenant{{Name: "ann", Next: 3, Snaps: []impl.Snapshot{{Id: 1, Case: lineCase()}}, Versions: []impl.Version{{Id: 2, Snap: 1, Plan: linePlan()}}}}}
	expectRightStore(t, "a plan that holds", s)
}

func TestWhatIsPublished(t *testing.T) {
	for _, id := range []int64{0, 2, 4, 6, 8, 10, 12, 14, 16} {
		expectRightStore(t, "Published", changedTenant(func(w *impl.Tenant) { w.Published = id }))
	}
	for _, id := range append(slices.Clone(far), -2, -1, 1, 3, 15, 17, 18, impl.MaxId) {
		expectWrongStore(t, "Published", changedTenant(func(w *impl.Tenant) { w.Published = id }))
	}
	expectWrongStore(t, "Published without versions", changedTenant(func(w *impl.Tenant) { w.Versions = nil }))
	for _, name := range []string{"", "a", "aa", "c", "zzzzzzzzzzzzz", "B"} {
		if p, cost, ok := impl.PublishedOf(fullStore(), name); ok || cost != 0 || !samePlan(p, impl.Plan{}) {
			t.Errorf("%s published %v for %d", name, p, cost)
		}
	}
	if p, cost, ok := impl.PublishedOf(someStore(), "ann"); !ok || cost != 2*3 || !samePlan(p, shopPlans()[0]) {
		t.Errorf("%v for %d", p, cost)
	}
	if p, cost, ok := impl.PublishedOf(fullStore(), "ab"); !ok || cost != 18 || !samePlan(p, shopPlans()[2]) {
		t.Errorf("%v for %d", p, cost)
	}
}

func TestTenantsThatAreNone(t *testing.T) {
	for _, name := range []string{"", "aa", "c", "ac", "abc", "zzzzzzzzzzz", "zzzzzzzzzzzzz", "A", "a ", "\x00"} {
		if got, ok := impl.TenantOf(fullStore(), name); ok || !same(got, impl.Tenant{}) {
			t.Errorf("%q: %v", name, got)
		}
	}
	if got, ok := impl.TenantOf(impl.Store{}, "ann"); ok || !same(got, impl.Tenant{}) {
		t.Errorf("%v", got)
	}
}

const shopText = "case 3 1\ntimes 0 5 9\ntimes 5 0 4\ntimes 9 4 0\norder 1 1 2 0 90 1\norder 2 2 2 0 90 1\nvehicle 7 0 4 0 99\n"

// storeText has what stands behind what: a tenant with all, one with nothing,
// one with a snapshot alone.
const storeText = "store 3\ntenant ann 9 5\nsnap 1\ncase 1 0\ntimes 0\nsnap 4\n" + shopText +
	"version 5 4\nroute 7 2\nleft 1\nversion 8 1\nleft\ntenant bob 1 0\ntenant eve 2 0\nsnap 1\ncase 1 7\ntimes 0\n"

func textStore() impl.Store {
	empty := impl.Case{Times: evenMatrix(1, 0)}
	fined := impl.Case{Times: evenMatrix(1, 0), Fine: 7}
	ann := impl.Tenant{Name: "ann", Next: 9, Published: 5, Snaps: []impl.Snapshot{{Id: 1, Case: empty}, {Id: 4, Case: shopCase(1)}}}
	ann.Versions = []impl.Version{{Id: 5, Snap: 4, Plan: shopPlans()[3]}, {Id: 8, Snap: 1}}
	eve := impl.Tenant{Name: "eve", Next: 2, Snaps: []impl.Snapshot{{Id: 1, Case: fined}}}
	return impl.Store{Tenants: []impl.Tenant{ann, {Name: "bob", Next: 1}, eve}}
}

func TestStoreTextWordForWord(t *testing.T) {
	if got := impl.StoreText(textStore()); got != storeText {
		t.Errorf("%q", got)
	}
	expectRightStore(t, "text", textStore())
	if got := impl.StoreText(impl.Store{}); got != "store 0\n" {
		t.Errorf("%q", got)
	}
}

func expectNoStore(t *testing.T, text string) {
	t.Helper()
	if s, ok := impl.ReadStore(text); ok || !same(s, impl.Store{}) {
		t.Errorf("read %.300q: %v %v", text, s, ok)
	}
}

func TestWrongStoreTexts(t *testing.T) {
	for _, s := range []string{
		"", "\n", " ", "store", "store\n", "store \n", "store 0", "store  0\n", "store 0 \n", " store 0\n", "store 00\n", "store -0\n", "store +0\n", "store 0 0\n",
		"store 0\n\n", "store 0\nx", "store 0\nstore 0\n", "Store 0\n", "store 1\n", "store -1\n", "store 6\n", "store 4294967296\n", "store 18446744073709551616\n", "store 0\r\n",
		"store 0\ntenant ann 1 0\n", "store 1\ntenant ann 1 0", "store 1\ntenant ann 1\n", "store 1\ntenant ann 1 0 0\n", "store 1\ntenant Ann 1 0\n", "store 1\ntenant  1 0\n",
		"store 1\ntenant ann 0 0\n", "store 1\ntenant ann 1000000001 0\n", "store 1\ntenant ann 5 1\n", "store 1\ntenant ann 1 -0\n", "store 1\ntenant a nn 1 0\n", "store 1\ntenant 1 0\n",
		"store 1\ntenant abcdefghijklm 1 0\n", "store 2\ntenant ann 1 0\n", "store 2\ntenant bob 1 0\ntenant ann 1 0\n", "store 2\ntenant ann 1 0\ntenant ann 1 0\n",
		"store 1\ntenant ann 1 0\ntenant bob 1 0\n", "store 1\ntenant ann\n1 0\n", "store 1\ntenant ann1 0\n", "store 1\nann 1 0\n",
		"store 6\n" + strings.Repeat("tenant ann 1 0\n", 6), "store 1\ntenant ann 2 0\nsnap 1\n", "store 1\ntenant ann 2 0\nsnap 2\ncase 1 0\ntimes 0\n",
		"store 1\ntenant " + strings.Repeat("a", 400000) + " 1 0\n", "store 1\ntenant ann " + strings.Repeat("9", 400000) + " 0\n",
	} {
		expectNoStore(t, s)
	}
	for _, w := range [][2]string{
		{"tenant ann 9 5", "tenant ann 8 5"}, {"tenant ann 9 5", "tenant ann 9 4"}, {"store 3", "store 2"}, {"store 3", "store 4"}, {"snap 4", "snap 1"}, {"version 5 4", "version 5 1"},
		{"version 5 4", "version 5 5"}, {"version 5 4", "version 8 4"}, {"version 8 1", "version 0 1"}, {"version 8 1", "version 9 1"}, {"tenant bob", "tenant eve"}, {"bob", "aaa"},
		{"snap 1\n", "snap 1 1\n"}, {"version 8 1\n", "version 8\n"}, {"version 8 1\nleft\n", "version 8 1\n"}, {"snap 1\ncase 1 0\ntimes 0\n", "snap 1\n"}, {"left 1", "left 1 2"},
	} {
		expectNoStore(t, strings.Replace(storeText, w[0], w[1], 1))
	}
	for i := range len(storeText) {
		// A tenant may have nothing, so there the text may end.
		if !strings.HasSuffix(storeText[:i], "tenant eve 2 0\n") {
			expectNoStore(t, storeText[:i])
		}
	}
	for _, behind := range []string{" ", "\n", "x", "\x00", "tenant zed 1 0\n", "snap 1\n", "left\n", storeText} {
		expectNoStore(t, storeText+behind)
	}
}

func TestStoreLinesInAnotherOrderAreNotRead(t *testing.T) {
	lines := strings.SplitAfter(storeText, "\n")
	lines = lines[:len(lines)-1]
	for i := range lines {
		expectNoStore(t, strings.Join(slices.Insert(slices.Clone(lines), i, "\n"), ""))
		for j := range i {
			swapped := slices.Clone(lines)
			swapped[i], swapped[j] = swapped[j], swapped[i]
			s := strings.Join(swapped, "")
			if got, ok := impl.ReadStore(s); ok && impl.StoreText(got) != s {
				t.Errorf("read %q as %v", s, got)
			}
		}
	}
	snaps, versions := strings.Index(storeText, "snap 1"), strings.Index(storeText, "version 5")
	end := strings.Index(storeText, "tenant bob")
	expectNoStore(t, storeText[:snaps]+storeText[versions:end]+storeText[snaps:versions]+storeText[end:])
}

// Whatever is read must be the very text of what was read: here at each text
// that is one byte away from a right one.
func TestOnlyCanonicalStoreTextsAreRead(t *testing.T) {
	read := 0
	for _, s := range oneByteAway(storeText) {
		got, ok := impl.ReadStore(s)
		if ok {
			read++
		}
		if ok && (!impl.StoreOk(got) || impl.StoreText(got) != s) || !ok && !same(got, impl.Store{}) {
			t.Fatalf("%q: %v %v", s, got, ok)
		}
	}
	if read < 100 {
		t.Errorf("only %d of them were read", read)
	}
}

// greatestStore has the longest text of all.
func greatestStore() impl.Store {
	c := impl.Case{Times: evenMatrix(impl.MaxPlaces, impl.MaxTime), Fine: impl.MaxWhen}
	var p impl.Plan
	for i := range int64(impl.MaxOrders) {
		id := impl.MaxId - impl.MaxOrders + 1 + i
		c.Orders = append(c.Orders, impl.Order{Id: id, Place: 15, Load: impl.MaxLoad, From: impl.MaxWhen, To: impl.MaxWhen, Serve: impl.MaxTime})
		p.Left = append(p.Left, id)
	}
	for i := range int64(impl.MaxVehicles) {
		c.Vehicles = append(c.Vehicles, impl.Vehicle{Id: impl.MaxId - impl.MaxVehicles + 1 + i, Home: 15, Room: impl.MaxLoad, From: impl.MaxWhen, To: impl.MaxWhen})
	}
	var s impl.Store
	for i := range impl.MaxTenants {
		w := impl.Tenant{Name: strings.Repeat("z", 11) + string(rune('v'+i)), Next: impl.MaxId, Published: impl.MaxId - 1}
		for k := range int64(impl.MaxKept) {
			id := impl.MaxId - impl.MaxKept + k
			w.Snaps = append(w.Snaps, impl.Snapshot{Id: id, Case: c})
			w.Versions = append(w.Versions, impl.Version{Id: id, Snap: id, Plan: p})
		}
		s.Tenants = append(s.Tenants, w)
	}
	return s
}

func TestTheLongestTexts(t *testing.T) {
	s := greatestStore()
	expectRightStore(t, "the greatest one", s)
	text := impl.StoreText(s)
	for _, length := range []int{500000, 500001, 1000000} {
		expectNoStore(t, text+strings.Repeat("\n", length-len(text)))
		expectNoStore(t, text+strings.Repeat("tenant ann 1 0\n", length)[:length-len(text)])
		expectNoStore(t, "store 0\n"+strings.Repeat("x", length-8))
		expectNoStore(t, strings.Repeat("store 0\n", length)[:length])
		expectNoStore(t, strings.Replace(text, "order 9", "order "+strings.Repeat("0", length-len(text))+"9", 1))
		name := "sweep " + strings.Repeat("a", length) + "\n"
		if q, ok := impl.ReadRequest(name); ok || !same(q, impl.Request{}) {
			t.Errorf("%v", q)
		}
	}
}

func expectRequestComesBack(t *testing.T, q impl.Request) {
	t.Helper()
	text := impl.RequestText(q)
	if back, ok := impl.ReadRequest(text); text == "" || !ok || !same(back, q) {
		t.Errorf("%v came back from %q as %v", q, text, back)
	}
}

// expectNotOfItsForm asks for AnForm, ahead of all that a store could say.
func expectNotOfItsForm(t *testing.T, what string, q impl.Request) {
	t.Helper()
	if got := impl.RequestText(q); got != "" {
		t.Errorf("%.60q: %v: %q", what, q, got)
	}
	for _, s := range []impl.Store{{}, someStore(), fullStore()} {
		expectRefused(t, what, s, q, impl.AnForm)
	}
}

func TestRequestsComeBack(t *testing.T) {
	texts := []string{"snap ann\n" + strings.Replace(shopText, "case 3 1", "case 3 9", 1), "plan ann 3\nroute 7 1 2\nleft\n", "search ann 2 5 2\n", "publish ann 6\n", "sweep ann\n"}
	for i, q := range asks() {
		if got := impl.RequestText(q); got != texts[i] {
			t.Errorf("%q", got)
		}
		expectRequestComesBack(t, q)
	}
	d := &dice{111}
	for range 300 {
		expectRequestComesBack(t, snapAsk("a", randomCase(d)))
		expectRequestComesBack(t, planAsk("abcdefghijkl", edge(d, 1, impl.MaxId), randomPlan(d)))
		expectRequestComesBack(t, searchAsk("zed", edge(d, 1, impl.MaxId), anySeed(d), edge(d, 0, impl.MaxSteps)))
		expectRequestComesBack(t, publishAsk("zed", edge(d, 1, impl.MaxId)))
	}
	expectRequestComesBack(t, planAsk("ann", 1, impl.Plan{}))
	expectRequestComesBack(t, planAsk("ann", 1, fullPlan()))
	expectRequestComesBack(t, snapAsk("ann", fullCase()))
}

// Each field of a request: where a Kind names it both ends are right and one
// more is not; where it does not, nothing but zero is.
func TestFormsOfRequests(t *testing.T) {
	for _, f := range []struct {
		name      string
		field     func(q *impl.Request) *int64
		named     string
		low, high int64
	}{
		{"Id", func(q *impl.Request) *int64 { return &q.Id }, "-yyy-", 1, impl.MaxId},
		{"Seed", func(q *impl.Request) *int64 { return &q.Seed }, "--y--", 0, lastSeed},
		{"Steps", func(q *impl.Request) *int64 { return &q.Steps }, "--y--", 0, impl.MaxSteps},
	} {
		for i, q := range asks() {
			low, high := int64(0), int64(0)
			if f.named[i] == 'y' {
				low, high = f.low, f.high
			}
			for _, n := range []int64{low, high} {
				*f.field(&q) = n
				expectRequestComesBack(t, q)
			}
			for _, n := range append(slices.Clone(far), low-1, high+1) {
				if n < low || n > high {
					*f.field(&q) = n
					expectNotOfItsForm(t, f.name+" "+strconv.FormatInt(n, 10), q)
				}
			}
		}
	}
	for _, kind := range append(slices.Clone(far), -1, 0, 6, 7) {
		for _, q := range append(asks(), sweepAsk("zed")) {
			q.Kind = kind
			expectNotOfItsForm(t, "Kind", q)
		}
	}
	expectNotOfItsForm(t, "nothing", impl.Request{})
}

func TestCasesAndPlansOfRequests(t *testing.T) {
	for i, q := range asks() {
		for k, c := range []impl.Case{
			shopCase(1), {Times: evenMatrix(1, 0)}, {Times: impl.Matrix{N: 1}}, {Times: impl.Matrix{Times: []int64{0}}}, {Orders: make([]impl.Order, 1)},
			{Vehicles: make([]impl.Vehicle, 1)}, {Fine: 1}, {Fine: -1},
		} {
			other := q
			other.Case = c
			if i == 0 && k < 2 {
				expectRequestComesBack(t, other)
			} else {
				expectNotOfItsForm(t, "Case", other)
			}
		}
		for _, p := range []impl.Plan{{Left: []int64{1}}, {Routes: []impl.Route{route(7, 1)}}, {Left: []int64{impl.MaxId}}} {
			other := q
			other.Plan = p
			if i == 1 {
				expectRequestComesBack(t, other)
			} else {
				expectNotOfItsForm(t, "Plan", other)
			}
		}
		for _, p := range []impl.Plan{{Left: []int64{0}}, {Left: []int64{impl.MaxId + 1}}, {Routes: make([]impl.Route, 1)}, {Left: make([]int64, 100000)}, {Routes: make([]impl.Route, 6)}} {
			other := q
			other.Plan = p
			expectNotOfItsForm(t, "Plan", other)
		}
		other := q
		other.Plan, other.Case = copyOf(q.Plan), copyOf(q.Case)
		switch i {
		case 0:
			other.Plan = impl.Plan{Routes: []impl.Route{}, Left: []int64{}}
		default:
			other.Case = impl.Case{Orders: []impl.Order{}, Vehicles: []impl.Vehicle{}, Times: impl.Matrix{Times: []int64{}}}
		}
		expectRequestComesBack(t, other)
	}
	for _, m := range wrongMatrices() {
		expectNotOfItsForm(t, "wrong matrix", snapAsk("ann", impl.Case{Times: m}))
	}
	expectNotOfItsForm(t, "no case", snapAsk("ann", impl.Case{}))
	long := fullPlan()
	long.Left = append(long.Left, 1)
	expectNotOfItsForm(t, "a plan that cannot be written", planAsk("ann", 1, long))
}

func expectNoRequest(t *testing.T, text string) {
	t.Helper()
	if q, ok := impl.ReadRequest(text); ok || !same(q, impl.Request{}) {
		t.Errorf("read %.300q: %v %v", text, q, ok)
	}
}

func TestWrongRequestTexts(t *testing.T) {
	for _, s := range []string{
		"", "\n", " ", "x\n", "ann\n", "sweep", "sweep\n", "sweep \n", "sweep ann", "sweep  ann\n", " sweep ann\n", "sweep ann \n", "sweep ann 1\n", "sweep Ann\n", "Sweep ann\n",
		"sweep abcdefghijklm\n", "sweep ann\n\n", "sweep ann\nleft\n", "sweep ann\nsweep ann\n", "sweeps ann\n", "sweep\tann\n", "sweep ann\r\n",
		"publish ann\n", "publish ann 0\n", "publish ann 01\n", "publish ann -1\n", "publish ann +1\n", "publish ann 1000000001\n", "publish ann 1 \n", "publish ann  1\n", "publish 1\n",
		"publish ann 1 1\n", "publish ann 18446744073709551617\n", "publish ann 1\nleft\n", "publish ann1\n", "publish ann 1", "publish ann x\n",
		"search ann 2 5\n", "search ann 2 5 2 1\n", "search ann 0 5 2\n", "search ann 2 5 61\n", "search ann 2 2147483648 2\n", "search ann 2 -1 2\n", "search ann 2 5 -1\n",
		"search ann 2 05 2\n", "search ann 2 5 2", "search ann 2 5 2\nleft\n", "search ann\n", "search 2 5 2\n",
		"plan ann 1\n", "plan ann 1", "plan ann\nleft\n", "plan ann 0\nleft\n", "plan ann 1\nleft", "plan ann 1\nleft 0\n", "plan ann 1\nleft\n\n", "plan ann 1\nleft\nleft\n", "plan ann 1 left\n",
		"plan ann 1 1\nleft\n", "plan\nleft\n", "left\n", "snap ann\n", "snap ann", "snap\n" + shopText, "snap ann 1\n" + shopText, shopText, "snap ann\n\n" + shopText, "snap ann\nleft\n",
		"snap ann\n" + shopText + "left\n", "snap ann\n" + shopText + "\n", "plan ann 1\n" + shopText, "sweep ann\n" + shopText, "snap ann\n" + strings.Replace(shopText, "case 3", "case 4", 1),
	} {
		expectNoRequest(t, s)
	}
	for i, q := range asks() {
		text := impl.RequestText(q)
		for k := range len(text) {
			// A case without its vehicles or orders is a case.
			if i == 0 && text[max(k-1, 0)] == '\n' && strings.Count(text[:k], "\n") > 4 {
				continue
			}
			expectNoRequest(t, text[:k])
		}
		for _, behind := range []string{" ", "\n", "x", "\x00", text} {
			expectNoRequest(t, text+behind)
		}
		for k := range len(text) {
			if text[k] == ' ' {
				for _, ahead := range []string{"0", "+", "-", " ", "\t", "\n"} {
					expectNoRequest(t, text[:k+1]+ahead+text[k+1:])
				}
			}
		}
	}
}

func TestOnlyCanonicalRequestTextsAreRead(t *testing.T) {
	for _, q := range append(asks(), searchAsk("z", 1000000000, lastSeed, 60)) {
		read := 0
		for _, s := range oneByteAway(impl.RequestText(q)) {
			got, ok := impl.ReadRequest(s)
			if ok {
				read++
			}
			if ok && impl.RequestText(got) != s || !ok && !same(got, impl.Request{}) {
				t.Fatalf("%q: %v %v", s, got, ok)
			}
		}
		if read < 5 {
			t.Errorf("only %d of %q were read", read, impl.RequestText(q))
		}
	}
}
