package tests

import (
	"slices"
	"sort"
	"strings"
	"testing"

	"loop.example/g00265/impl"
)

func appendOp(name, data string) impl.DOp {
	return impl.DOp{Kind: impl.DkAppend, Name: name, Data: data}
}

func renameOp(name, to string) impl.DOp {
	return impl.DOp{Kind: impl.DkRename, Name: name, To: to}
}

func removeOp(name string) impl.DOp { return impl.DOp{Kind: impl.DkRemove, Name: name} }

// files has names and their Data in turn.
func files(list ...string) []impl.File {
	var made []impl.File
	for i := 0; i < len(list); i += 2 {
		made = append(made, impl.File{Name: list[i], Data: list[i+1]})
	}
	return made
}

// still is a disk on which nothing was done since it was synced.
func still(list ...string) impl.Disk { return stillFiles(files(list...)) }

func stillFiles(list []impl.File) impl.Disk {
	return impl.Disk{Live: slices.Clone(list), Safe: slices.Clone(list)}
}

// manyFiles has so many empty files, n000, n001 ..
func manyFiles(count int) []impl.File {
	var list []impl.File
	for i := range count {
		list = append(list, impl.File{Name: "n" + string([]byte{byte('0' + i/100), byte('0' + i/10%10), byte('0' + i%10)})})
	}
	return list
}

func bytesOf(count int) string { return strings.Repeat("x", count) }

// doneAll does ops that must not be refused.
func doneAll(t *testing.T, d impl.Disk, ops ...impl.DOp) impl.Disk {
	t.Helper()
	for i, op := range ops {
		next, code := impl.Do(d, op)
		if code != impl.DkOk {
			t.Fatalf("op %d: %s: %d", i, told(op), code)
		}
		d = next
	}
	return d
}

// folder is what the document says of files, with a map.
type folder map[string]string

func folderOf(list []impl.File) folder {
	f := folder{}
	for _, one := range list {
		f[one.Name] = one.Data
	}
	return f
}

func (f folder) files() []impl.File {
	var list []impl.File
	for name, data := range f {
		list = append(list, impl.File{Name: name, Data: data})
	}
	sort.Slice(list, func(i, j int) bool { return list[i].Name < list[j].Name })
	return list
}

func (f folder) fits() bool {
	total := 0
	for _, data := range f {
		total += len(data)
	}
	return len(f) <= 60 && total <= 200000
}

func (f folder) finds(op impl.DOp) bool {
	_, ok := f[op.Name]
	return ok || op.Kind == 1
}

func (f folder) do(op impl.DOp) {
	data := f[op.Name]
	switch op.Kind {
	case 1:
		f[op.Name] = data + op.Data
	case 2:
		delete(f, op.Name)
		f[op.To] = data
	case 3:
		delete(f, op.Name)
	}
}

func wantOpForm(op impl.DOp) bool {
	name, to := len(op.Name) >= 1 && len(op.Name) <= 100, len(op.To) >= 1 && len(op.To) <= 100
	switch op.Kind {
	case 1:
		return name && op.To == ""
	case 2:
		return name && to && op.Data == ""
	case 3:
		return name && op.To == "" && op.Data == ""
	}
	return false
}

func wantFilesOk(list []impl.File) bool {
	total := 0
	for i, f := range list {
		total += len(f.Data)
		if len(f.Name) < 1 || len(f.Name) > 100 || i > 0 && list[i-1].Name >= f.Name {
			return false
		}
	}
	return len(list) <= 60 && total <= 200000
}

func wantDiskOk(d impl.Disk) bool {
	if !wantFilesOk(d.Live) || !wantFilesOk(d.Safe) || len(d.Ops) > 200 {
		return false
	}
	f := folderOf(d.Safe)
	for _, op := range d.Ops {
		if !wantOpForm(op) || !f.finds(op) {
			return false
		}
		f.do(op)
		if !f.fits() {
			return false
		}
	}
	return slices.Equal(f.files(), d.Live)
}

type diskAnswer struct {
	D    impl.Disk
	Code int64
}

func did(d impl.Disk, op impl.DOp) diskAnswer {
	next, code := impl.Do(d, op)
	return diskAnswer{next, code}
}

// wantDid goes through the document's words for a right disk.
func wantDid(d impl.Disk, op impl.DOp) diskAnswer {
	f := folderOf(d.Live)
	if !wantOpForm(op) {
		return diskAnswer{d, impl.DkForm}
	}
	if !f.finds(op) {
		return diskAnswer{d, impl.DkNone}
	}
	f.do(op)
	if len(d.Ops) == 200 || !f.fits() {
		return diskAnswer{d, impl.DkFull}
	}
	return diskAnswer{impl.Disk{Live: f.files(), Safe: d.Safe, Ops: append(slices.Clone(d.Ops), op)}, impl.DkOk}
}

type crashAnswer struct {
	D  impl.Disk
	Ok bool
}

func crash(d impl.Disk, keep []int64, torn int64) crashAnswer {
	next, ok := impl.Crash(d, keep, torn)
	return crashAnswer{next, ok}
}

// wantCrash asks of each op whether keep has it.
func wantCrash(d impl.Disk, keep []int64, torn int64) crashAnswer {
	for i, n := range keep {
		if n < 0 || n >= int64(len(d.Ops)) || i > 0 && keep[i-1] >= n {
			return crashAnswer{}
		}
	}
	f := folderOf(d.Safe)
	for i, op := range d.Ops {
		if !slices.Contains(keep, int64(i)) {
			continue
		}
		if op.Kind == 1 && keep[len(keep)-1] == int64(i) && int64(len(op.Data)) > torn && torn >= 0 {
			op.Data = op.Data[:torn]
		}
		if f.finds(op) {
			f.do(op)
		}
	}
	if torn < 0 || !f.fits() {
		return crashAnswer{}
	}
	return crashAnswer{impl.Disk{Live: f.files(), Safe: f.files()}, true}
}

// wantReplaced makes the Do one behind the other.
func wantReplaced(d impl.Disk, name, data string) diskAnswer {
	ops := []impl.DOp{appendOp(name+".new", data), renameOp(name+".new", name)}
	if _, ok := folderOf(d.Live)[name+".new"]; ok {
		ops = append([]impl.DOp{removeOp(name + ".new")}, ops...)
	}
	next := d
	for _, op := range ops {
		got := wantDid(next, op)
		if got.Code != impl.DkOk {
			return diskAnswer{d, got.Code}
		}
		next = got.D
	}
	return diskAnswer{next, impl.DkOk}
}

func replaced(d impl.Disk, name, data string) diskAnswer {
	next, code := impl.Replace(d, name, data)
	return diskAnswer{next, code}
}

func expectDid(t *testing.T, what string, d impl.Disk, op impl.DOp, want diskAnswer) {
	t.Helper()
	if got := did(d, op); !same(got, want) {
		t.Errorf("%s: %s on %s: %s, not %s", what, told(op), told(d), told(got), told(want))
	}
}

// expectNotDone asks for the disk as it is.
func expectNotDone(t *testing.T, what string, d impl.Disk, op impl.DOp, code int64) {
	t.Helper()
	expectDid(t, what, d, op, diskAnswer{d, code})
}

func expectCrash(t *testing.T, what string, d impl.Disk, keep []int64, torn int64, want ...string) {
	t.Helper()
	if got := crash(d, keep, torn); !same(got, crashAnswer{still(want...), true}) {
		t.Errorf("%s: keep %v torn %d: %s, not %q", what, keep, torn, told(got), want)
	}
}

func expectNoCrash(t *testing.T, what string, d impl.Disk, keep []int64, torn int64) {
	t.Helper()
	if got := crash(d, keep, torn); !same(got, crashAnswer{}) {
		t.Errorf("%s: keep %.200s torn %d: %s", what, told(keep), torn, told(got))
	}
}

func expectReplaced(t *testing.T, what string, d impl.Disk, name, data string, want diskAnswer) {
	t.Helper()
	if got := replaced(d, name, data); !same(got, want) {
		t.Errorf("%s: %s, not %s", what, told(got), told(want))
	}
}

func expectRightDisk(t *testing.T, what string, d impl.Disk) {
	t.Helper()
	if !impl.DiskOk(d) {
		t.Errorf("%s: not right: %s", what, told(d))
		return
	}
	if got := impl.Sync(d); !same(got, stillFiles(d.Live)) {
		t.Errorf("%s: synced: %s", what, told(got))
	}
	if got := crash(d, places(len(d.Ops)), impl.MaxBytes); !same(got, crashAnswer{stillFiles(d.Live), true}) {
		t.Errorf("%s: all kept: %s", what, told(got))
	}
	if got := crash(d, nil, 0); !same(got, crashAnswer{stillFiles(d.Safe), true}) {
		t.Errorf("%s: none kept: %s", what, told(got))
	}
	there := folderOf(d.Live)
	for _, f := range append(slices.Clone(d.Live), d.Safe...) {
		data, found := there[f.Name]
		if got, ok := impl.ReadFile(d, f.Name); ok != found || got != data {
			t.Errorf("%s: file %.30q: %.30q %v", what, f.Name, got, ok)
		}
		if got, ok := impl.ReadFile(d, f.Name+"?"); ok || got != "" {
			t.Errorf("%s: no file %.30q: %.30q", what, f.Name, got)
		}
	}
	if got, ok := impl.ReadFile(d, ""); ok || got != "" {
		t.Errorf("%s: file of no name: %.30q", what, got)
	}
}

func expectWrongDisk(t *testing.T, what string, d impl.Disk) {
	t.Helper()
	if impl.DiskOk(d) {
		t.Errorf("%s: right: %s", what, told(d))
	}
	for _, op := range []impl.DOp{appendOp("a", "x"), renameOp("a", "b"), removeOp("a"), {}, {Kind: 9}, renameOp("none", "x")} {
		expectDid(t, what, d, op, diskAnswer{Code: impl.DkDisk})
	}
	if got := impl.Sync(d); !same(got, impl.Disk{}) {
		t.Errorf("%s: synced: %s", what, told(got))
	}
	for _, keep := range [][]int64{nil, {0}, {-1}, {1, 0}} {
		for _, torn := range []int64{-1, 0, 1000} {
			expectNoCrash(t, what, d, keep, torn)
		}
	}
	for _, f := range append(slices.Clone(d.Live[:min(len(d.Live), 3)]), files("a", "", "", "")...) {
		if got, ok := impl.ReadFile(d, f.Name); ok || got != "" {
			t.Errorf("%s: file %.30q: %.30q", what, f.Name, got)
		}
		expectReplaced(t, what, d, f.Name, "new", diskAnswer{Code: impl.DkDisk})
	}
	expectWrongJournal(t, what, d)
}

func TestHowManyFiles(t *testing.T) {
	expectRightDisk(t, "none", impl.Disk{})
	expectRightDisk(t, "none", impl.Disk{Live: []impl.File{}, Safe: []impl.File{}, Ops: []impl.DOp{}})
	for _, count := range []int{1, 2, impl.MaxFiles - 1, impl.MaxFiles} {
		expectRightDisk(t, "some", stillFiles(manyFiles(count)))
	}
	for _, count := range []int{impl.MaxFiles + 1, impl.MaxFiles + 2, 900} {
		expectWrongDisk(t, "more", stillFiles(manyFiles(count)))
	}
	most := manyFiles(impl.MaxFiles)
	expectRightDisk(t, "one more than synced", impl.Disk{Live: most, Safe: most[:59], Ops: []impl.DOp{appendOp("n059", "")}})
	expectRightDisk(t, "one less than synced", impl.Disk{Live: most[:59], Safe: most, Ops: []impl.DOp{removeOp("n059")}})
	more := manyFiles(impl.MaxFiles + 1)
	expectWrongDisk(t, "too many seen", impl.Disk{Live: more, Safe: most, Ops: []impl.DOp{appendOp("n060", "")}})
	expectWrongDisk(t, "too many synced", impl.Disk{Live: most, Safe: more, Ops: []impl.DOp{removeOp("n060")}})
}

func TestNamesOfFiles(t *testing.T) {
	long := strings.Repeat("n", 100)
	for _, name := range []string{"a", "\x00", "\xff", " ", "\n", long, "a/b", long[1:] + "\xff"} {
		expectRightDisk(t, "a name", still(name, "data"))
		expectRightDisk(t, "a new name", impl.Disk{Live: files(name, "x"), Ops: []impl.DOp{appendOp(name, "x")}})
	}
	for _, name := range []string{"", long + "n", strings.Repeat("n", 5000)} {
		expectWrongDisk(t, "no name", still(name, "data"))
		expectWrongDisk(t, "no name", still(name, ""))
		expectWrongDisk(t, "no new name", impl.Disk{Live: files(name, "x"), Ops: []impl.DOp{appendOp(name, "x")}})
		expectWrongDisk(t, "no name for a while", impl.Disk{Ops: []impl.DOp{appendOp(name, "x"), removeOp(name)}})
	}
	expectRightDisk(t, "a beginning comes first", still("a", "1", "a\x00", "2", "aa", "3", "b", "4"))
	expectRightDisk(t, "bytes are compared", still("Z", "", "a", "", "z", "", "\x7f", "", "\x80", "", "\xff", ""))
	for _, list := range [][]impl.File{
		files("a", "", "a", ""), files("a", "1", "a", "2"), files("b", "", "a", ""), files("aa", "", "a", ""),
		files("a", "", "c", "", "b", ""), files("\xff", "", "a", ""), files("a", "", "b", "", "b", ""),
	} {
		expectWrongDisk(t, "names that do not rise", stillFiles(list))
	}
	expectWrongDisk(t, "seen names that do not rise", impl.Disk{Live: files("b", "", "a", ""), Safe: files("a", "", "b", "")})
	expectWrongDisk(t, "synced names that do not rise", impl.Disk{Live: files("a", "", "b", ""), Safe: files("b", "", "a", "")})
}

func TestHowManyBytes(t *testing.T) {
	for _, size := range []int{0, 1, impl.MaxBytes - 1, impl.MaxBytes} {
		expectRightDisk(t, "one file", still("a", bytesOf(size)))
		expectRightDisk(t, "two files", still("a", bytesOf(size/2), "b", bytesOf(size-size/2)))
	}
	for _, size := range []int{impl.MaxBytes + 1, 2 * impl.MaxBytes, 40 * impl.MaxBytes} {
		expectWrongDisk(t, "one file", still("a", bytesOf(size)))
		expectWrongDisk(t, "two files", still("a", bytesOf(size/2), "b", bytesOf(size-size/2)))
	}
	full := bytesOf(impl.MaxBytes)
	expectRightDisk(t, "grown", impl.Disk{Live: files("a", full), Safe: files("a", full[1:]), Ops: []impl.DOp{appendOp("a", "x")}})
	expectWrongDisk(t, "grown too much", impl.Disk{Live: files("a", full+"x"), Safe: files("a", full), Ops: []impl.DOp{appendOp("a", "x")}})
	expectWrongDisk(t, "too much that went", impl.Disk{Safe: files("a", full+"x"), Ops: []impl.DOp{removeOp("a")}})
}

// opsOf are so many ops that leave an empty disk, or a file a with one byte.
func opsOf(count int) impl.Disk {
	d := impl.Disk{}
	for i := range count {
		if i%2 == 0 {
			d.Ops = append(d.Ops, appendOp("a", "x"))
		} else {
			d.Ops = append(d.Ops, removeOp("a"))
		}
	}
	if count%2 == 1 {
		d.Live = files("a", "x")
	}
	return d
}

func TestHowManyOps(t *testing.T) {
	for _, count := range []int{0, 1, 2, impl.MaxOps - 1, impl.MaxOps} {
		expectRightDisk(t, "ops", opsOf(count))
	}
	for _, count := range []int{impl.MaxOps + 1, impl.MaxOps + 2, 5000} {
		expectWrongDisk(t, "more ops", opsOf(count))
	}
	last := opsOf(impl.MaxOps - 1)
	if got := did(last, removeOp("a")); !same(got, diskAnswer{opsOf(impl.MaxOps), impl.DkOk}) {
		t.Errorf("%s", told(got))
	}
	full := opsOf(impl.MaxOps)
	expectNotDone(t, "full of ops", full, appendOp("a", ""), impl.DkFull)
	expectNotDone(t, "full of ops, no file", full, removeOp("a"), impl.DkNone)
	expectNotDone(t, "full of ops, no file", full, renameOp("a", "b"), impl.DkNone)
	expectNotDone(t, "full of ops, no form", full, impl.DOp{}, impl.DkForm)
	full.Ops[impl.MaxOps-1] = appendOp("b", "")
	full.Live = files("a", "x", "b", "")
	expectNotDone(t, "full of ops", full, removeOp("a"), impl.DkFull)
	expectNotDone(t, "full of ops", full, renameOp("a", "b"), impl.DkFull)
	expectDid(t, "synced", impl.Sync(full), renameOp("a", "b"), diskAnswer{impl.Disk{Live: files("b", "x"), Safe: full.Live, Ops: []impl.DOp{renameOp("a", "b")}}, impl.DkOk})
}

func TestOpsMakeWhatIsSeen(t *testing.T) {
	safe := files("a", "1", "b", "2")
	ops := []impl.DOp{appendOp("a", "x"), renameOp("a", "c"), removeOp("b")}
	expectRightDisk(t, "made", impl.Disk{Live: files("c", "1x"), Safe: safe, Ops: ops})
	for what, live := range map[string][]impl.File{
		"nothing": nil, "other Data": files("c", "1"), "another Name": files("d", "1x"), "one more": files("b", "2", "c", "1x"), "what was synced": safe,
	} {
		expectWrongDisk(t, what, impl.Disk{Live: live, Safe: safe, Ops: ops})
	}
	for i := range ops {
		expectWrongDisk(t, "an op is missing", impl.Disk{Live: files("c", "1x"), Safe: safe, Ops: slices.Delete(slices.Clone(ops), i, i+1)})
	}
	expectWrongDisk(t, "not made", impl.Disk{Live: files("a", "")})
	expectWrongDisk(t, "lost", impl.Disk{Safe: files("a", "")})
	expectRightDisk(t, "an empty file", impl.Disk{Live: files("a", ""), Ops: []impl.DOp{appendOp("a", "")}})
	for what, missing := range map[string]impl.DOp{"renamed": renameOp("none", "x"), "to itself": renameOp("none", "none"), "removed": removeOp("none")} {
		expectWrongDisk(t, "no file is "+what, impl.Disk{Live: safe, Safe: safe, Ops: []impl.DOp{missing}})
	}
	expectWrongDisk(t, "renamed twice", impl.Disk{Live: files("b", "2", "c", "1"), Safe: safe, Ops: []impl.DOp{renameOp("a", "c"), renameOp("a", "c")}})
	expectWrongDisk(t, "removed twice", impl.Disk{Live: files("b", "2"), Safe: safe, Ops: []impl.DOp{removeOp("a"), removeOp("a")}})
	for _, op := range noForms() {
		expectWrongDisk(t, "no form", impl.Disk{Live: safe, Safe: safe, Ops: []impl.DOp{op}})
	}
}

func TestOpsLeaveRoomOnTheWay(t *testing.T) {
	most := manyFiles(impl.MaxFiles)
	expectWrongDisk(t, "a file more for a while", impl.Disk{Live: most, Safe: most, Ops: []impl.DOp{appendOp("z", ""), removeOp("z")}})
	expectRightDisk(t, "a file less for a while", impl.Disk{Live: most, Safe: most, Ops: []impl.DOp{removeOp("n000"), appendOp("n000", "")}})
	full := files("a", bytesOf(impl.MaxBytes-1), "b", "y")
	expectWrongDisk(t, "a byte more for a while", impl.Disk{Live: full[:1], Safe: full, Ops: []impl.DOp{appendOp("b", "x"), removeOp("b")}})
	expectRightDisk(t, "a byte less for a while", impl.Disk{Live: full, Safe: full, Ops: []impl.DOp{removeOp("b"), appendOp("b", "y")}})
	expectRightDisk(t, "one over another", impl.Disk{Live: files("b", full[0].Data), Safe: full, Ops: []impl.DOp{renameOp("a", "b")}})
	expectRightDisk(t, "no more bytes", impl.Disk{Live: files("a", full[0].Data, "b", "y", "c", ""), Safe: full, Ops: []impl.DOp{appendOp("c", ""), appendOp("a", "")}})
}

// noForms are ops that are not of their form; most would find the files a and b.
func noForms() []impl.DOp {
	long, longer := strings.Repeat("n", 100), strings.Repeat("n", 101)
	list := []impl.DOp{
		{}, {Name: "a"}, {Kind: 4, Name: "a"}, {Kind: -1, Name: "a"}, {Kind: 4, Name: "a", To: "b"}, {Name: "a", Data: "x"},
		appendOp("", "x"), appendOp("", ""), appendOp(longer, "x"), removeOp(""), removeOp(longer),
		renameOp("", "b"), renameOp(longer, "b"), renameOp("a", ""), renameOp("a", longer), renameOp("", ""), renameOp(long, ""),
		{Kind: impl.DkAppend, Name: "a", To: "b", Data: "x"}, {Kind: impl.DkAppend, Name: "a", To: "a"}, {Kind: impl.DkAppend, Name: "a", To: longer},
		{Kind: impl.DkRemove, Name: "a", To: "a"}, {Kind: impl.DkRemove, Name: "a", Data: "x"}, {Kind: impl.DkRename, Name: "a", To: "c", Data: "x"},
	}
	for _, kind := range far {
		list = append(list, impl.DOp{Kind: kind, Name: "a"}, impl.DOp{Kind: kind, Name: "a", To: "b"})
	}
	return list
}

func TestFormsOfOps(t *testing.T) {
	d := doneAll(t, still("a", "1", "b", "2"), appendOp("c", "3"))
	for _, op := range noForms() {
		expectNotDone(t, "no form", d, op, impl.DkForm)
		expectNotDone(t, "no form, no file", impl.Disk{}, op, impl.DkForm)
	}
	long := strings.Repeat("n", 100)
	for _, op := range []impl.DOp{appendOp("z", "x"), appendOp(long, ""), renameOp("a", long), renameOp("a", "z"), removeOp("a")} {
		if got := did(d, op); got.Code != impl.DkOk || !same(got, wantDid(d, op)) || !impl.DiskOk(got.D) {
			t.Errorf("%s: %s", told(op), told(got))
		}
	}
}

func TestWhatOpsDo(t *testing.T) {
	safe := files("a", "1", "b", "2", "d", "4")
	for _, w := range []struct {
		what string
		op   impl.DOp
		live []impl.File
	}{
		{"behind a file", appendOp("a", "xy"), files("a", "1xy", "b", "2", "d", "4")},
		{"behind the last file", appendOp("d", "xy"), files("a", "1", "b", "2", "d", "4xy")},
		{"nothing behind a file", appendOp("b", ""), safe},
		{"a new file", appendOp("c", "xy"), files("a", "1", "b", "2", "c", "xy", "d", "4")},
		{"a new first file", appendOp("A", "xy"), files("A", "xy", "a", "1", "b", "2", "d", "4")},
		{"a new last file", appendOp("e", "xy"), files("a", "1", "b", "2", "d", "4", "e", "xy")},
		{"a new empty file", appendOp("aa", ""), files("a", "1", "aa", "", "b", "2", "d", "4")},
		{"a new name", renameOp("a", "c"), files("b", "2", "c", "1", "d", "4")},
		{"a new name ahead", renameOp("d", "Z"), files("Z", "4", "a", "1", "b", "2")},
		{"a name that is there", renameOp("a", "d"), files("b", "2", "d", "1")},
		{"a name that is there ahead", renameOp("d", "a"), files("a", "4", "b", "2")},
		{"its own name", renameOp("b", "b"), safe},
		{"gone", removeOp("b"), files("a", "1", "d", "4")},
		{"the first one gone", removeOp("a"), files("b", "2", "d", "4")},
		{"the last one gone", removeOp("d"), files("a", "1", "b", "2")},
	} {
		want := impl.Disk{Live: w.live, Safe: safe, Ops: []impl.DOp{w.op}}
		expectDid(t, w.what, stillFiles(safe), w.op, diskAnswer{want, impl.DkOk})
		expectRightDisk(t, w.what, want)
	}
	for _, op := range []impl.DOp{removeOp("c"), removeOp("aa"), removeOp("e"), removeOp("A"), renameOp("c", "a"), renameOp("c", "c"), renameOp("e", "z"), renameOp("", "z")} {
		code := int64(impl.DkNone)
		if op.Name == "" {
			code = impl.DkForm
		}
		expectNotDone(t, "no file", stillFiles(safe), op, code)
		expectNotDone(t, "no file at all", impl.Disk{}, op, code)
	}
	gone := doneAll(t, stillFiles(safe), removeOp("a"))
	expectNotDone(t, "synced but not seen", gone, removeOp("a"), impl.DkNone)
	expectDid(t, "made again", gone, appendOp("a", "x"), diskAnswer{impl.Disk{Live: files("a", "x", "b", "2", "d", "4"), Safe: safe, Ops: []impl.DOp{removeOp("a"), appendOp("a", "x")}}, impl.DkOk})
}

func TestRoomForOps(t *testing.T) {
	most := stillFiles(manyFiles(impl.MaxFiles))
	expectNotDone(t, "a file more", most, appendOp("z", ""), impl.DkFull)
	expectNotDone(t, "a file more", most, appendOp("z", "x"), impl.DkFull)
	for _, op := range []impl.DOp{appendOp("n000", "x"), renameOp("n000", "z"), renameOp("n000", "n001"), removeOp("n059")} {
		if got := did(most, op); got.Code != impl.DkOk || !same(got, wantDid(most, op)) {
			t.Errorf("%s: %s", told(op), told(got))
		}
	}
	almost := stillFiles(manyFiles(impl.MaxFiles - 1))
	if got := did(almost, appendOp("z", "")); got.Code != impl.DkOk || len(got.D.Live) != impl.MaxFiles {
		t.Errorf("%s", told(got))
	}
	full := still("a", bytesOf(impl.MaxBytes-2), "b", "y")
	expectNotDone(t, "2 bytes more", full, appendOp("a", "xx"), impl.DkFull)
	expectNotDone(t, "2 bytes more", full, appendOp("c", "xx"), impl.DkFull)
	expectNotDone(t, "far more", full, appendOp("c", bytesOf(20*impl.MaxBytes)), impl.DkFull)
	for _, name := range []string{"a", "b", "c"} {
		got := did(full, appendOp(name, "x"))
		if got.Code != impl.DkOk || !same(got, wantDid(full, appendOp(name, "x"))) || !impl.DiskOk(got.D) {
			t.Errorf("%s: %s", name, told(got))
		}
		expectNotDone(t, "a byte more", got.D, appendOp("c", "x"), impl.DkFull)
		expectDid(t, "no byte more", got.D, appendOp("c", ""), wantDid(got.D, appendOp("c", "")))
	}
	expectNotDone(t, "no form ahead of no room", most, impl.DOp{Kind: impl.DkAppend, Name: "z", To: "y"}, impl.DkForm)
	expectNotDone(t, "no file ahead of no room", most, renameOp("z", "y"), impl.DkNone)
	expectNotDone(t, "no form ahead of no file", most, impl.DOp{Kind: impl.DkRemove, Name: "z", To: "y"}, impl.DkForm)
}

// lossy has ops of each Kind, of which some find no file without others.
func lossy(t *testing.T) impl.Disk {
	return doneAll(t, still("a", "1", "b", "2"), appendOp("a", "xyz"), appendOp("c", "uvw"), renameOp("c", "b"), removeOp("b"), appendOp("d", "rst"))
}

func TestWhatACrashLeaves(t *testing.T) {
	d := lossy(t)
	expectRightDisk(t, "lossy", d)
	for _, w := range []struct {
		keep []int64
		torn int64
		left []string
	}{
		{nil, 0, []string{"a", "1", "b", "2"}},
		{nil, 1000, []string{"a", "1", "b", "2"}},
		{[]int64{}, 1 << 62, []string{"a", "1", "b", "2"}},
		{[]int64{0}, 0, []string{"a", "1", "b", "2"}},
		{[]int64{0}, 1, []string{"a", "1x", "b", "2"}},
		{[]int64{0}, 2, []string{"a", "1xy", "b", "2"}},
		{[]int64{0}, 3, []string{"a", "1xyz", "b", "2"}},
		{[]int64{0}, 4, []string{"a", "1xyz", "b", "2"}},
		{[]int64{0}, 1<<63 - 1, []string{"a", "1xyz", "b", "2"}},
		{[]int64{1}, 0, []string{"a", "1", "b", "2", "c", ""}},
		{[]int64{1}, 1, []string{"a", "1", "b", "2", "c", "u"}},
		{[]int64{2}, 0, []string{"a", "1", "b", "2"}},
		{[]int64{3}, 0, []string{"a", "1"}},
		{[]int64{4}, 2, []string{"a", "1", "b", "2", "d", "rs"}},
		{[]int64{0, 1}, 1, []string{"a", "1xyz", "b", "2", "c", "u"}},
		{[]int64{0, 2}, 1, []string{"a", "1xyz", "b", "2"}},
		{[]int64{1, 2}, 0, []string{"a", "1", "b", "uvw"}},
		{[]int64{1, 3}, 0, []string{"a", "1", "c", "uvw"}},
		{[]int64{2, 3}, 0, []string{"a", "1"}},
		{[]int64{1, 2, 3}, 0, []string{"a", "1"}},
		{[]int64{0, 1, 2, 3, 4}, 0, []string{"a", "1xyz", "d", ""}},
		{[]int64{0, 1, 2, 3, 4}, 3, []string{"a", "1xyz", "d", "rst"}},
	} {
		expectCrash(t, "lossy", d, w.keep, w.torn, w.left...)
	}
	for _, keep := range [][]int64{{-1}, {5}, {6}, {0, 0}, {4, 4}, {1, 0}, {0, 2, 1}, {0, 1, 1}, {-1, 0}, {3, 4, 5}, {0, 1, 2, 3, 4, 4}} {
		expectNoCrash(t, "lossy", d, keep, 3)
	}
	for _, n := range far {
		expectNoCrash(t, "far", d, []int64{n}, 3)
		expectNoCrash(t, "far", d, []int64{0, n}, 3)
	}
	for _, torn := range append([]int64{-1, -2}, far[:3]...) {
		for _, keep := range [][]int64{nil, {0}, {3}, {0, 1, 2, 3, 4}} {
			expectNoCrash(t, "torn below 0", d, keep, torn)
		}
	}
	expectNoCrash(t, "a long list", d, make([]int64, 100000), 3)
	expectNoCrash(t, "no ops", still("a", "1"), []int64{0}, 3)
	expectCrash(t, "no ops", still("a", "1"), nil, 0, "a", "1")
	expectCrash(t, "no disk", impl.Disk{}, nil, 0)
}

func TestAfterACrashFilesThatAreNotFound(t *testing.T) {
	d := doneAll(t, still("a", "1"), removeOp("a"), appendOp("a", "2"), renameOp("a", "b"), renameOp("b", "a"), renameOp("a", "a"), removeOp("a"))
	for bits := range 1 << len(d.Ops) {
		keep := kept64(bits, len(d.Ops))
		if got, want := crash(d, keep, 9), wantCrash(d, keep, 9); !same(got, want) || !got.Ok {
			t.Errorf("%v: %s, not %s", keep, told(got), told(want))
		}
	}
	expectCrash(t, "both removed", d, []int64{0, 5}, 0)
	expectCrash(t, "nothing to rename", d, []int64{0, 2, 3, 4}, 0)
	expectCrash(t, "the old one renamed", d, []int64{2}, 0, "b", "1")
	expectCrash(t, "old and new together", d, []int64{1}, 9, "a", "12")
	expectCrash(t, "itself", d, []int64{4}, 0, "a", "1")
}

// kept64 are the places below count whose bits are set.
func kept64(bits, count int) []int64 {
	var list []int64
	for i := range count {
		if bits>>i%2 == 1 {
			list = append(list, int64(i))
		}
	}
	return list
}

// Only what is left at the end must fit.
func TestRoomAfterACrash(t *testing.T) {
	most := manyFiles(impl.MaxFiles)
	d := doneAll(t, stillFiles(most), removeOp("n000"), appendOp("z", "x"), renameOp("z", "n001"))
	expectNoCrash(t, "a file more", d, []int64{1}, 9)
	expectNoCrash(t, "a file more, torn", d, []int64{1}, 0)
	if got := crash(d, []int64{1, 2}, 9); !got.Ok || len(got.D.Live) != impl.MaxFiles || got.D.Live[1].Data != "x" {
		t.Errorf("a file more on the way: %s", told(got))
	}
	if got := crash(d, []int64{0, 1}, 9); !got.Ok || len(got.D.Live) != impl.MaxFiles {
		t.Errorf("as many files: %s", told(got))
	}
	half := bytesOf(impl.MaxBytes/2 + 1)
	d = doneAll(t, still("a", half), removeOp("a"), appendOp("a", half), removeOp("a"), appendOp("b", half[2:]))
	expectNoCrash(t, "too many bytes", d, []int64{1}, impl.MaxBytes)
	expectNoCrash(t, "1 byte too many", d, []int64{1}, impl.MaxBytes/2)
	expectCrash(t, "torn so that it fits", d, []int64{1}, impl.MaxBytes/2-1, "a", bytesOf(impl.MaxBytes))
	expectCrash(t, "too many bytes on the way", d, []int64{1, 2}, 0)
	expectCrash(t, "as many as there may be", d, []int64{3}, impl.MaxBytes, "a", half, "b", half[2:])
	for range 60 {
		d.Ops = append(d.Ops, removeOp("b"), appendOp("b", half[2:]))
	}
	var appends []int64
	for i, op := range d.Ops {
		if op.Kind == impl.DkAppend {
			appends = append(appends, int64(i))
		}
	}
	expectNoCrash(t, "far too many bytes", d, appends, 0)
	if got := crash(d, places(len(d.Ops)), 5); !got.Ok || got.D.Live[0].Data != "xxxxx" {
		t.Errorf("%s", told(got))
	}
}

func TestReplacedFiles(t *testing.T) {
	draft := []impl.DOp{appendOp("a.new", "new"), renameOp("a.new", "a")}
	safe := files("a", "old", "b", "2")
	expectReplaced(t, "a file", stillFiles(safe), "a", "new", diskAnswer{impl.Disk{Live: files("a", "new", "b", "2"), Safe: safe, Ops: draft}, impl.DkOk})
	expectReplaced(t, "no file", impl.Disk{}, "a", "new", diskAnswer{impl.Disk{Live: files("a", "new"), Ops: draft}, impl.DkOk})
	safe = files("a", "old", "a.new", "left")
	expectReplaced(t, "a draft", stillFiles(safe), "a", "new", diskAnswer{impl.Disk{Live: files("a", "new"), Safe: safe, Ops: append([]impl.DOp{removeOp("a.new")}, draft...)}, impl.DkOk})
	d := doneAll(t, still("a", "old"), appendOp("a.new", "left"))
	expectReplaced(t, "a draft that is not synced", d, "a", "new", diskAnswer{impl.Disk{Live: files("a", "new"), Safe: d.Safe, Ops: append(slices.Clone(d.Ops), append([]impl.DOp{removeOp("a.new")}, draft...)...)}, impl.DkOk})
	expectReplaced(t, "by nothing", still("a", "old"), "a", "", diskAnswer{impl.Disk{Live: files("a", ""), Safe: files("a", "old"), Ops: []impl.DOp{appendOp("a.new", ""), renameOp("a.new", "a")}}, impl.DkOk})
	long := strings.Repeat("n", 96)
	expectReplaced(t, "a name of 96", impl.Disk{}, long, "x", wantReplaced(impl.Disk{}, long, "x"))
	if _, code := impl.Replace(impl.Disk{}, long, "x"); code != impl.DkOk {
		t.Errorf("a name of 96: %d", code)
	}
	for _, name := range []string{long + "n", strings.Repeat("n", 100), strings.Repeat("n", 101), strings.Repeat("n", 99999)} {
		expectReplaced(t, "a long name", d, name, "x", diskAnswer{d, impl.DkForm})
	}
	named := still(long+"n", "old")
	expectReplaced(t, "a file of a long name", named, long+"n", "x", diskAnswer{named, impl.DkForm})
	with := still(".new", "left")
	expectReplaced(t, "no name", with, "", "x", diskAnswer{with, impl.DkForm})
	expectReplaced(t, "no name", impl.Disk{}, "", "x", diskAnswer{impl.Disk{}, impl.DkForm})
	expectReplaced(t, "a draft of a draft", with, ".new", "x", diskAnswer{impl.Disk{Live: files(".new", "x"), Safe: with.Safe, Ops: []impl.DOp{appendOp(".new.new", "x"), renameOp(".new.new", ".new")}}, impl.DkOk})
}

// opsAnd has so many ops, with these files behind them.
func opsAnd(count int, safe []impl.File) impl.Disk {
	d := stillFiles(safe)
	for range count {
		d.Ops = append(d.Ops, appendOp(safe[0].Name, ""))
	}
	return d
}

func TestWhatIsNotReplaced(t *testing.T) {
	for _, w := range []struct {
		ops  int
		with bool
		code int64
	}{
		{198, false, impl.DkOk}, {199, false, impl.DkFull}, {200, false, impl.DkFull},
		{197, true, impl.DkOk}, {198, true, impl.DkFull}, {199, true, impl.DkFull}, {200, true, impl.DkFull},
	} {
		safe := files("a", "old")
		if w.with {
			safe = files("a", "old", "a.new", "left")
		}
		d := opsAnd(w.ops, safe)
		want := diskAnswer{d, w.code}
		if w.code == impl.DkOk {
			want = wantReplaced(d, "a", "new")
		}
		expectReplaced(t, "full of ops", d, "a", "new", want)
	}
	d := opsAnd(199, files("a", "old"))
	expectReplaced(t, "no form ahead of no room", d, "", "x", diskAnswer{d, impl.DkForm})
	d = opsAnd(200, files("a", "old"))
	expectReplaced(t, "no room ahead of no form", d, "", "x", diskAnswer{d, impl.DkFull})
	most := stillFiles(manyFiles(impl.MaxFiles))
	expectReplaced(t, "no room for a draft", most, "n000", "x", diskAnswer{most, impl.DkFull})
	full := still("a", bytesOf(impl.MaxBytes-3), "b", "")
	expectReplaced(t, "a byte too many", full, "a", "abcd", diskAnswer{full, impl.DkFull})
	expectReplaced(t, "as many as there may be", full, "a", "abc", wantReplaced(full, "a", "abc"))
	if got := replaced(full, "a", "abc"); got.Code != impl.DkOk || len(got.D.Live[0].Data) != 3 {
		t.Errorf("%s", told(got))
	}
	crowded := still("a.new", bytesOf(impl.MaxBytes))
	expectReplaced(t, "in the room of the draft", crowded, "a", bytesOf(9), wantReplaced(crowded, "a", bytesOf(9)))
	expectReplaced(t, "the draft stays when it is refused", crowded, "a", bytesOf(impl.MaxBytes+1), diskAnswer{crowded, impl.DkFull})
}

// A file that is replaced is the old one or the new one, whatever is kept.
func TestReplacedFilesAreOldOrNew(t *testing.T) {
	for what, d := range map[string]impl.Disk{
		"a file": still("a", "old", "b", "2"), "no file": still("b", "2"), "an empty disk": {}, "an empty file": still("a", ""),
	} {
		was, had := impl.ReadFile(d, "a")
		next, _ := impl.Replace(d, "a", "new one")
		seen := map[string]bool{}
		for bits := range 1 << len(next.Ops) {
			for torn := range int64(9) {
				left, ok := impl.Crash(next, kept64(bits, len(next.Ops)), torn)
				data, has := impl.ReadFile(left, "a")
				if !ok || (data != was || has != had) && data != "new one" {
					t.Errorf("%s: %b torn %d: %s", what, bits, torn, told(left))
				}
				if other, _ := impl.ReadFile(d, "b"); first(impl.ReadFile(left, "b")) != other {
					t.Errorf("%s: %b: b is not as it was: %s", what, bits, told(left))
				}
				seen[data] = true
			}
		}
		if !seen[was] || !seen["new one"] || len(seen) != 2 {
			t.Errorf("%s: %v", what, seen)
		}
	}
}

// anyOp is one of few names, most of the time of its form.
func anyOp(d *dice) impl.DOp {
	pool := []string{"a", "a.new", "b", "base", "base.new", "log"}
	name := func() string {
		if d.roll(0, 40) == 0 {
			return []string{"", strings.Repeat("n", 100), strings.Repeat("n", 101)}[d.roll(0, 2)]
		}
		return pool[d.roll(0, int64(len(pool))-1)]
	}
	op := impl.DOp{Kind: d.roll(1, 3), Name: name()}
	if op.Kind == impl.DkRename {
		op.To = name()
	}
	if op.Kind == impl.DkAppend {
		size := int([]int64{0, 1, d.roll(0, 20), d.roll(0, 90000)}[d.roll(0, 3)])
		op.Data = strings.Repeat("abcdefg", size/7+2)[d.roll(0, 6):][:size]
	}
	switch d.roll(0, 60) {
	case 0:
		op.Kind = d.roll(-1, 5)
	case 1:
		op.To = name()
	case 2:
		op.Data = "x"
	}
	return op
}

// anyDisk is a disk on which things were done.
func anyDisk(d *dice) impl.Disk {
	var disk impl.Disk
	if d.roll(0, 3) == 0 {
		disk = stillFiles(manyFiles(int(d.roll(50, 60))))
	}
	for range d.roll(0, 30) {
		disk, _ = impl.Do(disk, anyOp(d))
		if d.roll(0, 9) == 0 {
			disk = impl.Sync(disk)
		}
	}
	return disk
}

func anyKeep(d *dice, count int) []int64 {
	keep := kept64(int(d.roll(0, 1<<min(count, 30)-1)), count)
	if d.roll(0, 9) == 0 {
		keep = append(keep, d.roll(-1, int64(count)))
	}
	return keep
}

func TestDisksByChance(t *testing.T) {
	d := &dice{120}
	count, crashes, refused := map[int64]int{}, 0, 0
	for range 80 {
		disk := anyDisk(d)
		for range 20 {
			op := anyOp(d)
			got, want := did(disk, op), wantDid(disk, op)
			if !same(got, want) || !wantDiskOk(got.D) {
				t.Fatalf("%s on %s: %s, not %s", told(op), told(disk), told(got), told(want))
			}
			count[got.Code]++
			disk = got.D
			expectRightDisk(t, "by chance", disk)
			keep, torn := anyKeep(d, len(disk.Ops)), edge(d, -1, 20)
			left, wantLeft := crash(disk, keep, torn), wantCrash(disk, keep, torn)
			if !same(left, wantLeft) || !impl.DiskOk(left.D) {
				t.Fatalf("keep %v torn %d of %s: %s, not %s", keep, torn, told(disk), told(left), told(wantLeft))
			}
			crashes++
			if !left.Ok {
				refused++
			}
			name, data := []string{"a", "b", "base", "log", "", "n000"}[d.roll(0, 5)], bytesOf(int(edge(d, 0, 100000)))
			if got, want := replaced(disk, name, data), wantReplaced(disk, name, data); !same(got, want) {
				t.Fatalf("%s replaced on %s: %s, not %s", name, told(disk), told(got), told(want))
			}
		}
	}
	for _, code := range []int64{impl.DkOk, impl.DkForm, impl.DkNone, impl.DkFull} {
		if count[code] < 10 {
			t.Errorf("code %d only %d times", code, count[code])
		}
	}
	if refused < crashes/50 || refused > crashes*9/10 {
		t.Errorf("%d of %d crashes refused", refused, crashes)
	}
}

// diskFault changes one thing of a disk.
func diskFault(d *dice, disk impl.Disk) impl.Disk {
	disk = copyOf(disk)
	list := []*[]impl.File{&disk.Live, &disk.Safe}[d.roll(0, 1)]
	at := func(n int) int64 { return d.roll(0, int64(n)-1) }
	switch d.roll(0, 6) {
	case 0:
		*list = slices.Insert(*list, int(d.roll(0, int64(len(*list)))), impl.File{Name: "c"})
	case 1:
		if len(*list) > 0 {
			n := int(at(len(*list)))
			*list = slices.Delete(*list, n, n+1)
		}
	case 2:
		if len(*list) > 0 {
			(*list)[at(len(*list))].Data += "x"
		}
	case 3:
		if len(*list) > 0 {
			(*list)[at(len(*list))].Name += "x"
		}
	case 4:
		if len(disk.Ops) > 0 {
			disk.Ops[at(len(disk.Ops))] = anyOp(d)
		}
	case 5:
		if len(disk.Ops) > 0 {
			n := int(at(len(disk.Ops)))
			disk.Ops = slices.Delete(disk.Ops, n, n+1)
		}
	case 6:
		disk.Ops = slices.Insert(disk.Ops, int(d.roll(0, int64(len(disk.Ops)))), anyOp(d))
	}
	return disk
}

func TestDisksWithOneThingChanged(t *testing.T) {
	d := &dice{121}
	right := 0
	for range 1500 {
		disk := diskFault(d, anyDisk(d))
		if wantDiskOk(disk) {
			right++
			expectRightDisk(t, "changed", disk)
		} else {
			expectWrongDisk(t, "changed", disk)
		}
	}
	if right < 50 || right > 1400 {
		t.Errorf("%d right", right)
	}
}

func TestDisksLeaveTheirArguments(t *testing.T) {
	d := &dice{122}
	for range 200 {
		disk, op := withRoom(anyDisk(d)), anyOp(d)
		keep := withRoom(anyKeep(d, len(disk.Ops)))
		was, kept := frozen(disk), frozen(keep)
		for name, call := range map[string]func() any{
			"DiskOk":   func() any { return impl.DiskOk(disk) },
			"Do":       func() any { return did(disk, op) },
			"Sync":     func() any { return impl.Sync(disk) },
			"Crash":    func() any { return crash(disk, keep, 3) },
			"ReadFile": func() any { data, ok := impl.ReadFile(disk, "a"); return []any{data, ok} },
			"Replace":  func() any { return replaced(disk, "a", "new") },
		} {
			alike(t, name, call)
			expectApart(t, name, call(), disk, keep)
		}
		if !same(frozen(disk), was) || !same(frozen(keep), kept) {
			t.Fatal("an argument was written into")
		}
	}
}
