package tests

import (
	"math/bits"
	"slices"
	"strconv"
	"strings"
	"testing"

	"loop.example/g00265/impl"
)

type actAnswer struct {
	D    impl.Disk
	Code int64
}

func acted(d impl.Disk, a impl.Act) actAnswer {
	next, code := impl.JournalDo(d, a)
	return actAnswer{next, code}
}

func expectActed(t *testing.T, what string, d impl.Disk, a impl.Act, want actAnswer) {
	t.Helper()
	if got := acted(d, a); !same(got, want) {
		t.Errorf("%s: %s on %s: %s, not %s", what, told(a), told(d), told(got), told(want))
	}
}

// wantSeen is JournalView by the document's words, and whether the log is good.
func wantSeen(d impl.Disk) (viewAnswer, bool) {
	f := folderOf(d.Live)
	seen := viewAnswer{}
	if base, ok := f["base"]; ok {
		list, end := framesOf(base)
		if len(list) != 1 || end != int64(len(base)) {
			return viewAnswer{Code: impl.StBad}, false
		}
		number, text, ok := splitNumber(list[0])
		s, read := impl.ReadStore(text)
		if !ok || !read {
			return viewAnswer{Code: impl.StBad}, false
		}
		seen.S, seen.Number = s, number
	}
	list, end := framesOf(f["log"])
	for _, data := range list {
		number, text, ok := splitNumber(data)
		q, read := impl.ReadRequest(text)
		if !ok || !read || number > seen.Number+1 {
			return seen, false
		}
		if number == seen.Number+1 {
			seen.S, _, _ = impl.Obeyed(seen.S, q)
			seen.Number = number
		}
	}
	return seen, end == int64(len(f["log"]))
}

func splitNumber(s string) (int64, string, bool) {
	word, text, ok := strings.Cut(s, "\n")
	n, err := strconv.ParseInt(word, 10, 64)
	return n, text, ok && err == nil && strconv.FormatInt(n, 10) == word && n >= 0 && n <= 1000000000
}

// machine makes steps one by one, as long as it has power for them.
type machine struct {
	d     impl.Disk
	power int64
	code  int64
}

func (m *machine) step(made func() (impl.Disk, int64)) {
	if m.code != impl.StOk {
		return
	}
	if m.power == 0 {
		m.code = impl.StPower
		return
	}
	m.power--
	next, code := made()
	if code != impl.DkOk {
		m.code = impl.StFull
		return
	}
	m.d = next
}

func (m *machine) do(op impl.DOp) {
	m.step(func() (impl.Disk, int64) { return impl.Do(m.d, op) })
}

func (m *machine) sync() {
	m.step(func() (impl.Disk, int64) { return impl.Sync(m.d), impl.DkOk })
}

func (m *machine) gone(name string) {
	if _, ok := impl.ReadFile(m.d, name); ok {
		m.do(removeOp(name))
		m.sync()
	}
}

func (m *machine) save() {
	seen, _ := wantSeen(m.d)
	m.sync()
	m.gone("base.new")
	m.do(appendOp("base.new", baseFrame(seen.Number, seen.S)))
	m.do(renameOp("base.new", "base"))
	m.sync()
	m.gone("log")
}

// wantActed goes through the document's words for a right disk.
func wantActed(d impl.Disk, a impl.Act) actAnswer {
	if a.Kind < 1 || a.Kind > 4 {
		return actAnswer{d, impl.StForm}
	}
	if a.Kind == impl.AcCrash {
		left, ok := impl.Crash(d, a.Keep, a.Torn)
		if !ok {
			return actAnswer{d, impl.StForm}
		}
		d, a.Kind = left, impl.AcOpen
	}
	seen, good := wantSeen(d)
	if seen.Code != impl.StOk {
		return actAnswer{d, impl.StBad}
	}
	m := machine{d: d, power: a.Power}
	switch {
	case a.Kind == impl.AcLog && (impl.RequestText(a.Ask) == "" || seen.Number == impl.MaxId):
		m.code = impl.StForm
	case a.Kind != impl.AcOpen && !good:
		m.code = impl.StTorn
	case a.Kind == impl.AcLog:
		m.do(appendOp("log", logFrame(seen.Number+1, a.Ask)))
		if a.Sync {
			m.sync()
		}
	case a.Kind == impl.AcSave || !good:
		m.save()
	}
	if m.code != impl.StOk && m.code != impl.StPower {
		m.d = d
	}
	return actAnswer{m.d, m.code}
}

func logAct(q impl.Request, sync bool) impl.Act {
	return impl.Act{Kind: impl.AcLog, Ask: q, Sync: sync, Power: -1}
}

func saveAct(power int64) impl.Act { return impl.Act{Kind: impl.AcSave, Power: power} }

func openAct(power int64) impl.Act { return impl.Act{Kind: impl.AcOpen, Power: power} }

func crashAct(power int64, torn int64, keep ...int64) impl.Act {
	return impl.Act{Kind: impl.AcCrash, Power: power, Keep: keep, Torn: torn}
}

func TestKindsOfActs(t *testing.T) {
	d := doneAll(t, still("base", baseFrame(1, storesOf(impl.Store{}, story()[:1])[1])), appendOp("log", logFrame(2, story()[1])))
	for _, kind := range append(slices.Clone(far), -1, 0, 5, 6) {
		for _, power := range []int64{-1, 0, 1} {
			expectActed(t, "no Kind", d, impl.Act{Kind: kind, Ask: story()[0], Sync: true, Power: power}, actAnswer{d, impl.StForm})
		}
		expectActed(t, "no Kind", impl.Disk{}, impl.Act{Kind: kind}, actAnswer{impl.Disk{}, impl.StForm})
	}
	for kind := int64(1); kind <= 4; kind++ {
		a := impl.Act{Kind: kind, Ask: story()[2], Sync: true, Power: -1, Keep: []int64{0}, Torn: 1000}
		if got := acted(d, a); got.Code != impl.StOk || !same(got, wantActed(d, a)) {
			t.Errorf("Kind %d: %s", kind, told(got))
		}
	}
	others := impl.Act{Kind: impl.AcSave, Ask: impl.Request{Kind: 77}, Sync: true, Power: -1, Keep: []int64{9, -9}, Torn: -5}
	expectActed(t, "fields that it does not ask for", d, others, acted(d, saveAct(-1)))
	others.Kind = impl.AcOpen
	expectActed(t, "fields that it does not ask for", d, others, actAnswer{d, impl.StOk})
	others.Kind, others.Ask = impl.AcLog, story()[2]
	expectActed(t, "fields that it does not ask for", d, others, acted(d, logAct(story()[2], true)))
}

func TestLogging(t *testing.T) {
	asked := story()
	stores := storesOf(impl.Store{}, asked)
	var soft, hard impl.Disk
	for i, q := range asked {
		one := appendOp("log", logFrame(int64(i)+1, q))
		want := doneAll(t, soft, one)
		expectActed(t, "logged", soft, logAct(q, false), actAnswer{want, impl.StOk})
		soft = want
		expectView(t, "logged", soft, viewAnswer{stores[i+1], int64(i) + 1, impl.StOk})
		want = impl.Sync(doneAll(t, hard, one))
		expectActed(t, "logged and synced", hard, logAct(q, true), actAnswer{want, impl.StOk})
		for power, code := range []int64{impl.StPower, impl.StPower, impl.StOk, impl.StOk, impl.StOk} {
			left := []impl.Disk{hard, doneAll(t, hard, one), want, want, want}[power]
			a := logAct(q, true)
			a.Power = int64(power)
			expectActed(t, "logged and synced with power", hard, a, actAnswer{left, code})
		}
		for power, code := range []int64{impl.StPower, impl.StOk, impl.StOk} {
			left := []impl.Disk{hard, doneAll(t, hard, one), doneAll(t, hard, one)}[power]
			a := logAct(q, false)
			a.Power = int64(power)
			expectActed(t, "logged with power", hard, a, actAnswer{left, code})
		}
		for _, power := range far {
			a := logAct(q, true)
			a.Power = power
			expectActed(t, "far power", hard, a, actAnswer{want, impl.StOk})
		}
		hard = want
	}
	if len(soft.Ops) != len(asked) || len(hard.Ops) != 0 {
		t.Errorf("%d and %d ops", len(soft.Ops), len(hard.Ops))
	}
}

func TestWhatIsNotLogged(t *testing.T) {
	d := doneAll(t, still("a", "1"), appendOp("log", logFrame(1, story()[0])))
	torn := doneAll(t, d, appendOp("log", "?"))
	for _, q := range []impl.Request{{}, {Kind: 6, Tenant: "ann"}, sweepAsk("Ann"), snapAsk("ann", impl.Case{}), publishAsk("ann", 0), searchAsk("ann", 1, -1, 0), planAsk("ann", 1, impl.Plan{Left: []int64{0}})} {
		for _, power := range []int64{-1, 0, 1} {
			a := impl.Act{Kind: impl.AcLog, Ask: q, Power: power}
			expectActed(t, "cannot be written", d, a, actAnswer{d, impl.StForm})
			expectActed(t, "cannot be written, torn", torn, a, actAnswer{torn, impl.StForm})
		}
	}
	expectActed(t, "torn", torn, logAct(story()[1], true), actAnswer{torn, impl.StTorn})
	expectActed(t, "torn without power", torn, impl.Act{Kind: impl.AcLog, Ask: story()[1]}, actAnswer{torn, impl.StTorn})
	full := still("base", baseFrame(impl.MaxId, someStore()))
	expectActed(t, "MaxId", full, logAct(asks()[0], false), actAnswer{full, impl.StForm})
	full = doneAll(t, full, appendOp("log", "?"))
	expectActed(t, "MaxId and torn", full, logAct(asks()[0], false), actAnswer{full, impl.StForm})
	almost := still("base", baseFrame(impl.MaxId-1, someStore()))
	want := doneAll(t, almost, appendOp("log", logFrame(impl.MaxId, asks()[0])))
	expectActed(t, "the last number", almost, logAct(asks()[0], false), actAnswer{want, impl.StOk})
	expectActed(t, "behind the last number", want, logAct(asks()[1], false), actAnswer{want, impl.StForm})
	saved := acted(want, saveAct(-1))
	expectView(t, "the last number saved", saved.D, viewAnswer{storesOf(someStore(), asks()[:1])[1], impl.MaxId, impl.StOk})
}

func TestRoomForActs(t *testing.T) {
	q := story()[0]
	most := stillFiles(manyFiles(impl.MaxFiles))
	expectActed(t, "no room for a log", most, logAct(q, true), actAnswer{most, impl.StFull})
	expectActed(t, "no power ahead of no room", most, impl.Act{Kind: impl.AcLog, Ask: q}, actAnswer{most, impl.StPower})
	almost := stillFiles(manyFiles(impl.MaxFiles - 1))
	logged := acted(almost, logAct(q, false))
	if logged.Code != impl.StOk {
		t.Errorf("%s", told(logged))
	}
	for power, want := range []actAnswer{{logged.D, impl.StPower}, {impl.Sync(logged.D), impl.StPower}, {logged.D, impl.StFull}, {logged.D, impl.StFull}} {
		expectActed(t, "no room for a draft", logged.D, saveAct(int64(power)), want)
	}
	expectActed(t, "no room for a draft", logged.D, saveAct(-1), actAnswer{logged.D, impl.StFull})
	ops := opsAnd(impl.MaxOps, files("a", ""))
	expectActed(t, "full of ops", ops, logAct(q, true), actAnswer{ops, impl.StFull})
	expectActed(t, "a save syncs first", ops, saveAct(-1), actAnswer{still("a", "", "base", frame("0\nstore 0\n")), impl.StOk})
	ops = opsAnd(impl.MaxOps-1, files("a", ""))
	if got := acted(ops, logAct(q, false)); got.Code != impl.StOk || len(got.D.Ops) != impl.MaxOps {
		t.Errorf("%s", told(got))
	}
	one := logFrame(1, q)
	for _, w := range []struct {
		free int
		code int64
	}{{len(one) - 1, impl.StFull}, {len(one), impl.StOk}} {
		d := still("a", bytesOf(impl.MaxBytes-w.free))
		want := actAnswer{d, w.code}
		if w.code == impl.StOk {
			want.D = doneAll(t, d, appendOp("log", one))
		}
		expectActed(t, "bytes for a log", d, logAct(q, false), want)
	}
	base := baseFrame(1, storesOf(impl.Store{}, story()[:1])[1])
	for _, w := range []struct {
		free int
		code int64
	}{{len(base) - 1, impl.StFull}, {len(base), impl.StOk}} {
		d := doneAll(t, still("a", bytesOf(impl.MaxBytes-len(one)-w.free)), appendOp("log", one))
		want := actAnswer{d, w.code}
		if w.code == impl.StOk {
			want.D = still("a", d.Live[0].Data, "base", base)
		}
		expectActed(t, "bytes for a draft", d, saveAct(-1), want)
		torn := doneAll(t, still("a", bytesOf(impl.MaxBytes-len(one)-w.free-1)), appendOp("log", one), appendOp("log", "?"))
		if got := acted(torn, openAct(-1)); got.Code != w.code || w.code == impl.StFull && !same(got.D, torn) {
			t.Errorf("%d: %s", w.free, told(got))
		}
		left, _ := impl.Crash(torn, []int64{0, 1}, 1)
		if got := acted(torn, crashAct(-1, 1, 0, 1)); got.Code != w.code || w.code == impl.StFull && !same(got.D, left) {
			t.Errorf("%d: %s", w.free, told(got))
		}
	}
}

// savings are disks with and without base, base.new and log, that is good or
// not; number is how many requests of the story each has.
func savings(t *testing.T) []impl.Disk {
	stores := storesOf(impl.Store{}, story())
	var list []impl.Disk
	for bits := range 16 {
		var safe []impl.File
		from := int64(0)
		if bits&1 > 0 {
			from = 2
			safe = append(safe, impl.File{Name: "base", Data: baseFrame(2, stores[2])})
		}
		if bits&2 > 0 {
			safe = append(safe, impl.File{Name: "base.new", Data: baseFrame(1, stores[1])[:40]})
		}
		d := stillFiles(safe)
		if bits&4 > 0 {
			d = doneAll(t, d, appendOp("log", logOf(from+1, story()[from:from+1]...)))
			d = doneAll(t, impl.Sync(d), appendOp("log", logOf(from+2, story()[from+1:from+3]...)))
		}
		if bits&8 > 0 {
			d = doneAll(t, d, appendOp("log", logFrame(9, story()[8])))
		}
		list = append(list, d)
	}
	return list
}

// stepsOfSave counts the steps that the document tells.
func stepsOfSave(d impl.Disk) int64 {
	f := folderOf(d.Live)
	count := int64(4)
	for _, name := range []string{"base.new", "log"} {
		if _, ok := f[name]; ok {
			count += 2
		}
	}
	return count
}

func TestSavesStepByStep(t *testing.T) {
	for i, d := range savings(t) {
		seen, good := wantSeen(d)
		steps := stepsOfSave(d)
		a := impl.Act{Kind: impl.AcSave}
		if !good {
			expectActed(t, "not good", d, saveAct(-1), actAnswer{d, impl.StTorn})
			expectActed(t, "not good", d, saveAct(0), actAnswer{d, impl.StTorn})
			a.Kind = impl.AcOpen
		} else {
			expectActed(t, "good", d, openAct(-1), actAnswer{d, impl.StOk})
			expectActed(t, "good", d, openAct(0), actAnswer{d, impl.StOk})
		}
		if good != (i < 8) {
			t.Errorf("disk %d: good is %v", i, good)
		}
		end := still("base", baseFrame(seen.Number, seen.S))
		for power := int64(-1); power <= steps+2; power++ {
			a.Power = power
			got := acted(d, a)
			if !same(got, wantActed(d, a)) || !impl.DiskOk(got.D) {
				t.Errorf("disk %d with power %d: %s, not %s", i, power, told(got), told(wantActed(d, a)))
			}
			whole := power < 0 || power >= steps
			if whole != (got.Code == impl.StOk) || !whole && got.Code != impl.StPower || whole && !same(got.D, end) {
				t.Errorf("disk %d with power %d of %d: %d %s", i, power, steps, got.Code, told(got.D))
			}
			expectView(t, "on the way", got.D, seen)
			if power >= 1 || power < 0 {
				expectSaved(t, got.D, seen)
			}
		}
		for _, power := range far {
			a.Power = power
			expectActed(t, "far power", d, a, actAnswer{end, impl.StOk})
		}
	}
}

// expectSaved asks that whatever is kept behind a loss of power, the same store
// is there, and can be opened.
func expectSaved(t *testing.T, d impl.Disk, seen viewAnswer) {
	t.Helper()
	most := int64(0)
	for _, op := range d.Ops {
		most = max(most, int64(len(op.Data)))
	}
	for bits := range 1 << len(d.Ops) {
		keep := kept64(bits, len(d.Ops))
		for torn := int64(0); torn <= most+1; torn += 1 + torn/9 {
			left, ok := impl.Crash(d, keep, torn)
			if got := view(left); !ok || !same(got, seen) {
				t.Errorf("keep %v torn %d: %s, not %s", keep, torn, told(got), told(seen))
			}
			opened := acted(d, crashAct(-1, torn, keep...))
			if got := view(opened.D); opened.Code != impl.StOk || !same(got, seen) {
				t.Errorf("opened, keep %v torn %d: %d: %s, not %s", keep, torn, opened.Code, told(got), told(seen))
			}
		}
	}
}

// What is left when power is lost ahead of each step of the longest save.
func TestFilesOnTheWayOfASave(t *testing.T) {
	stores := storesOf(impl.Store{}, story())
	old, made, log := baseFrame(1, stores[1]), baseFrame(2, stores[2]), logFrame(2, story()[1])
	safe := files("base", old, "base.new", "left")
	d := doneAll(t, stillFiles(safe), appendOp("log", log))
	logged, bare := files("base", old, "base.new", "left", "log", log), files("base", old, "log", log)
	named, end := files("base", made, "log", log), files("base", made)
	draft := []impl.DOp{appendOp("base.new", made), renameOp("base.new", "base")}
	for power, want := range []impl.Disk{
		d,
		stillFiles(logged),
		{Live: bare, Safe: logged, Ops: []impl.DOp{removeOp("base.new")}},
		stillFiles(bare),
		{Live: files("base", old, "base.new", made, "log", log), Safe: bare, Ops: draft[:1]},
		{Live: named, Safe: bare, Ops: draft},
		stillFiles(named),
		{Live: end, Safe: named, Ops: []impl.DOp{removeOp("log")}},
	} {
		expectActed(t, "save", d, saveAct(int64(power)), actAnswer{want, impl.StPower})
	}
	expectActed(t, "save", d, saveAct(8), actAnswer{stillFiles(end), impl.StOk})
	expectActed(t, "save", impl.Disk{}, saveAct(4), actAnswer{still("base", frame("0\nstore 0\n")), impl.StOk})
	expectActed(t, "save", impl.Disk{}, saveAct(3), actAnswer{impl.Disk{Live: files("base", frame("0\nstore 0\n")), Ops: []impl.DOp{appendOp("base.new", frame("0\nstore 0\n")), renameOp("base.new", "base")}}, impl.StPower})
}

func TestCrashes(t *testing.T) {
	stores := storesOf(impl.Store{}, story())
	d := impl.Disk{}
	for i, q := range story()[:4] {
		d = acted(d, logAct(q, i == 0)).D
	}
	one := logOf(1, story()[0])
	expectActed(t, "none kept", d, crashAct(-1, 0), actAnswer{still("log", one), impl.StOk})
	expectActed(t, "all kept", d, crashAct(-1, 9999, 0, 1, 2), actAnswer{still("log", logOf(1, story()[:4]...)), impl.StOk})
	expectActed(t, "the first two kept", d, crashAct(0, 9999, 0, 1), actAnswer{still("log", logOf(1, story()[:3]...)), impl.StOk})
	saved := func(n int64) impl.Disk { return still("base", baseFrame(n, stores[n])) }
	expectActed(t, "a gap", d, crashAct(-1, 9999, 1), actAnswer{saved(1), impl.StOk})
	expectActed(t, "a gap behind one", d, crashAct(-1, 9999, 0, 2), actAnswer{saved(2), impl.StOk})
	for torn := int64(1); torn < int64(len(d.Ops[1].Data)); torn++ {
		expectActed(t, "torn", d, crashAct(-1, torn, 0, 1), actAnswer{saved(2), impl.StOk})
	}
	expectActed(t, "torn off", d, crashAct(-1, 0, 0, 1), actAnswer{still("log", logOf(1, story()[:2]...)), impl.StOk})
	for power, want := range []impl.Disk{still("log", one+d.Ops[1].Data), still("log", one+d.Ops[1].Data)} {
		expectActed(t, "without power", d, crashAct(int64(power), 9999, 1), actAnswer{want, impl.StPower})
	}
	for power := range int64(9) {
		a := crashAct(power, 9999, 1)
		if got := acted(d, a); !same(got, wantActed(d, a)) || (got.Code == impl.StOk) != (power >= 6) {
			t.Errorf("power %d: %s", power, told(got))
		}
	}
	for _, keep := range [][]int64{{-1}, {3}, {1, 0}, {2, 2}, {1 << 62}} {
		expectActed(t, "a wrong keep", d, crashAct(-1, 5, keep...), actAnswer{d, impl.StForm})
		expectActed(t, "a wrong keep without power", d, crashAct(0, 5, keep...), actAnswer{d, impl.StForm})
	}
	expectActed(t, "torn below 0", d, crashAct(-1, -1, 0), actAnswer{d, impl.StForm})
	broken := doneAll(t, still("base", "?", "log", one), removeOp("base"))
	expectActed(t, "broken behind it", broken, crashAct(-1, 0), actAnswer{still("base", "?", "log", one), impl.StBad})
	expectActed(t, "broken behind it, without power", broken, crashAct(0, 0), actAnswer{still("base", "?", "log", one), impl.StBad})
	expectActed(t, "not broken behind it", broken, crashAct(-1, 0, 0), actAnswer{still("log", one), impl.StOk})
	mended := doneAll(t, still("log", one), appendOp("base", "?"))
	expectActed(t, "broken ahead of it", mended, crashAct(-1, 0), actAnswer{still("log", one), impl.StOk})
	expectActed(t, "broken ahead of it and behind it", mended, crashAct(-1, 0, 0), actAnswer{still("base", "", "log", one), impl.StBad})
	half := bytesOf(impl.MaxBytes/2 + 1)
	full := doneAll(t, still("a", half), removeOp("a"), appendOp("b", half))
	expectActed(t, "no room behind it", full, crashAct(-1, impl.MaxBytes, 1), actAnswer{full, impl.StForm})
}

func TestPlays(t *testing.T) {
	d := impl.Disk{}
	acts := []impl.Act{logAct(story()[0], true), {}, logAct(story()[1], false), {Kind: impl.AcLog}, crashAct(-1, 5, 0), saveAct(2), crashAct(-1, 0), saveAct(-1), {Kind: 5}, openAct(0)}
	want := []int64{impl.StOk, impl.StForm, impl.StOk, impl.StForm, impl.StOk, impl.StPower, impl.StOk, impl.StOk, impl.StForm, impl.StOk}
	left, codes := impl.JournalPlay(d, acts)
	if !slices.Equal(codes, want) || !same(left, still("base", baseFrame(1, storesOf(impl.Store{}, story()[:1])[1]))) {
		t.Errorf("%v %s", codes, told(left))
	}
	for i := range len(acts) + 1 {
		half, some := impl.JournalPlay(d, acts[:i])
		end, more := impl.JournalPlay(half, acts[i:])
		if !same(end, left) || !slices.Equal(append(some, more...), want) {
			t.Errorf("in two pieces at %d: %v %v %s", i, some, more, told(end))
		}
	}
	with := doneAll(t, still("a", "1"), appendOp("b", "2"))
	if left, codes := impl.JournalPlay(with, nil); !same(left, with) || len(codes) != 0 {
		t.Errorf("no act: %s %v", told(left), codes)
	}
	for _, a := range acts {
		one := acted(with, a)
		if left, codes := impl.JournalPlay(with, []impl.Act{a}); !same(left, one.D) || !slices.Equal(codes, []int64{one.Code}) {
			t.Errorf("one act: %s: %s %v", told(a), told(left), codes)
		}
	}
	broken := still("base", "?")
	if left, codes := impl.JournalPlay(broken, acts); !same(left, broken) || !slices.Equal(codes, []int64{2, 3, 2, 2, 3, 2, 2, 2, 3, 2}) {
		t.Errorf("broken: %s %v", told(left), codes)
	}
	list := make([]impl.Act, 5000)
	if _, codes := impl.JournalPlay(with, list); len(codes) != len(list) || slices.Max(codes) != impl.StForm || slices.Min(codes) != impl.StForm {
		t.Errorf("%d codes", len(codes))
	}
}

// chronicle is what must be found on a disk behind each act: the stores that
// the logged requests made, from none to all, and how many cannot be lost.
type chronicle struct {
	stores []impl.Store
	safe   int
}

func (c *chronicle) last() viewAnswer {
	return viewAnswer{c.stores[len(c.stores)-1], int64(len(c.stores)) - 1, impl.StOk}
}

// crashed asks for a beginning with all that cannot be lost.
func (c *chronicle) crashed(t *testing.T, got viewAnswer) {
	t.Helper()
	n := int(got.Number)
	if got.Code != impl.StOk || n < c.safe || n >= len(c.stores) || !same(got.S, c.stores[n]) {
		t.Fatalf("%d of %d requests, %d safe: %s", n, len(c.stores)-1, c.safe, told(got))
	}
}

// note writes down what an act did.
func (c *chronicle) note(t *testing.T, was impl.Disk, a impl.Act, got actAnswer) {
	t.Helper()
	_, good := wantSeen(was)
	done := got.Code == impl.StOk || got.Code == impl.StPower
	switch {
	case a.Kind == impl.AcLog && done && a.Power != 0:
		next, _, _ := impl.Obeyed(c.stores[len(c.stores)-1], a.Ask)
		c.stores = append(c.stores, next)
		if a.Sync && a.Power != 1 {
			c.safe = len(c.stores) - 1
		}
	case (a.Kind == impl.AcSave || a.Kind == impl.AcOpen && !good) && done && a.Power != 0:
		// The first step of a save is a Sync.
		c.safe = len(c.stores) - 1
	case a.Kind == impl.AcCrash && got.Code != impl.StForm:
		seen := view(got.D)
		c.crashed(t, seen)
		c.stores = c.stores[:seen.Number+1]
		c.safe = int(seen.Number)
	}
}

// anyAct is one of any Kind; power is lost often, and a log that is not good is
// opened often.
func anyAct(d *dice, disk impl.Disk, s impl.Store) impl.Act {
	a := impl.Act{Kind: []int64{1, 1, 1, 1, 2, 3, 4}[d.roll(0, 6)], Power: -1}
	if _, good := wantSeen(disk); !good && d.roll(0, 2) == 0 {
		a.Kind = impl.AcOpen
	}
	if d.roll(0, 2) == 0 || a.Kind >= impl.AcOpen && d.roll(0, 2) > 0 {
		a.Power = d.roll(0, 9)
	}
	switch a.Kind {
	case impl.AcLog:
		a.Sync = d.roll(0, 3) == 0
		a.Ask = smallAsk(d, s)
	case impl.AcCrash:
		a.Keep = anyKeep(d, len(disk.Ops))
		a.Torn = []int64{d.roll(0, 40), d.roll(0, 400), 9999, d.roll(-1, 0)}[d.roll(0, 3)]
	}
	if d.roll(0, 60) == 0 {
		a.Kind = d.roll(0, 5)
	}
	return a
}

// smallAsk is anyAsk of small cases, that are searched for a short while.
func smallAsk(d *dice, s impl.Store) impl.Request {
	q := anyAsk(d, s)
	if q.Kind == impl.RqSnap && d.roll(0, 3) > 0 {
		q.Case = shopCase(d.roll(0, 99))
	}
	return q
}

func TestActsInARow(t *testing.T) {
	d := &dice{132}
	count := map[[2]int64]int{}
	lost, kept := 0, 0
	for range 100 {
		var disk impl.Disk
		c := &chronicle{stores: []impl.Store{{}}}
		var acts []impl.Act
		var codes []int64
		for range 60 {
			a := anyAct(d, disk, c.last().S)
			got, want := acted(disk, a), wantActed(disk, a)
			if !same(got, want) || !impl.DiskOk(got.D) {
				t.Fatalf("%s on %s: %s, not %s", told(a), told(disk), told(got), told(want))
			}
			before := len(c.stores)
			c.note(t, disk, a, got)
			if a.Kind == impl.AcCrash && len(c.stores) < before {
				lost++
			} else if a.Kind == impl.AcCrash {
				kept++
			}
			if seen := view(got.D); !same(seen, c.last()) {
				t.Fatalf("%s on %s: %s, not %s", told(a), told(disk), told(seen), told(c.last()))
			}
			for range 4 {
				left, ok := impl.Crash(got.D, kept64(int(d.roll(0, 1<<min(len(got.D.Ops), 30)-1)), len(got.D.Ops)), edge(d, 0, 300))
				if !ok {
					t.Fatalf("%s cannot crash", told(got.D))
				}
				c.crashed(t, view(left))
			}
			count[[2]int64{a.Kind, got.Code}]++
			acts, codes, disk = append(acts, a), append(codes, got.Code), got.D
		}
		at := d.roll(0, int64(len(acts)))
		half, some := impl.JournalPlay(impl.Disk{}, acts[:at])
		end, more := impl.JournalPlay(half, acts[at:])
		if all, told := impl.JournalPlay(impl.Disk{}, acts); !same(all, disk) || !same(end, disk) || !slices.Equal(told, codes) || !slices.Equal(append(some, more...), codes) {
			t.Fatalf("plays: %v, %v and %v, not %v", told, some, more, codes)
		}
	}
	for _, w := range [][2]int64{{1, 0}, {1, 3}, {1, 5}, {1, 6}, {2, 0}, {2, 5}, {2, 6}, {3, 0}, {3, 5}, {4, 0}, {4, 3}, {4, 5}} {
		if count[w] < 5 {
			t.Errorf("Kind %d with the code %d only %d times", w[0], w[1], count[w])
		}
	}
	if lost < 20 || kept < 20 {
		t.Errorf("%d crashes lost something, %d nothing", lost, kept)
	}
}

// Power is lost ahead of each step of each act, and of each step of the opening
// behind it, whatever is kept each time.
func TestPowerIsLostAheadOfEachStep(t *testing.T) {
	acts := []impl.Act{logAct(story()[0], true), logAct(story()[1], false), logAct(story()[2], false), saveAct(-1), logAct(story()[3], false), logAct(story()[4], true), logAct(story()[6], false), saveAct(-1)}
	var disk impl.Disk
	c := &chronicle{stores: []impl.Store{{}}}
	for _, a := range acts {
		for power := range int64(9) {
			short := a
			short.Power = power
			here := chronicle{slices.Clone(c.stores), c.safe}
			got := acted(disk, short)
			here.note(t, disk, short, got)
			loseTwice(t, &here, got.D)
		}
		got := acted(disk, a)
		c.note(t, disk, a, got)
		disk = got.D
	}
	if len(c.stores) != 7 || c.safe != 6 || len(disk.Live) != 1 {
		t.Errorf("%d stores, %d safe, %s", len(c.stores), c.safe, told(disk))
	}
}

func loseTwice(t *testing.T, c *chronicle, d impl.Disk) {
	t.Helper()
	for set := range 1 << len(d.Ops) {
		torns := []int64{0, 1, 12, 40, 9999}
		if bits.OnesCount(uint(set)) == 0 {
			torns = torns[:1]
		}
		for _, torn := range torns {
			for power := int64(-1); power < 8; power++ {
				here := chronicle{slices.Clone(c.stores), c.safe}
				a := crashAct(power, torn, kept64(set, len(d.Ops))...)
				got := acted(d, a)
				here.note(t, d, a, got)
				for again := range 1 << len(got.D.Ops) {
					left, ok := impl.Crash(got.D, kept64(again, len(got.D.Ops)), torn)
					if !ok {
						t.Fatalf("%s cannot crash", told(got.D))
					}
					here.crashed(t, view(left))
				}
				if got.Code == impl.StOk {
					break
				}
			}
		}
	}
}

func TestJournalsLeaveTheirArguments(t *testing.T) {
	d := &dice{133}
	for range 60 {
		var disk impl.Disk
		var acts []impl.Act
		for range d.roll(0, 12) {
			s, _, _ := impl.JournalView(disk)
			acts = append(acts, anyAct(d, disk, s))
			disk = acted(disk, acts[len(acts)-1]).D
		}
		s, _, _ := impl.JournalView(disk)
		a := withRoom(anyAct(d, disk, s))
		disk, acts = withRoom(disk), withRoom(acts)
		log, _ := impl.ReadFile(disk, "log")
		was, asked, list := frozen(disk), frozen(a), frozen(acts)
		for name, call := range map[string]func() any{
			"FrameOf":     func() any { return impl.FrameOf(log) },
			"TakeFrames":  func() any { l, _ := impl.TakeFrames(log); return l },
			"JournalView": func() any { return view(disk) },
			"JournalDo":   func() any { return acted(disk, a) },
			"JournalPlay": func() any {
				left, codes := impl.JournalPlay(disk, acts)
				return struct {
					D     impl.Disk
					Codes []int64
				}{left, codes}
			},
		} {
			alike(t, name, call)
			expectApart(t, name, call(), disk, a, acts)
		}
		if !same(frozen(disk), was) || !same(frozen(a), asked) || !same(frozen(acts), list) {
			t.Fatal("an argument was written into")
		}
	}
}
