package tests

import (
	"encoding/binary"
	"hash/crc32"
	"slices"
	"strconv"
	"strings"
	"testing"

	"loop.example/g00265/impl"
)

// frame is one as zip would sum it.
func frame(data string) string {
	head := binary.BigEndian.AppendUint32(nil, uint32(len(data)))
	return string(binary.BigEndian.AppendUint32(head, crc32.ChecksumIEEE([]byte(data)))) + data
}

// framesOf counts how much of s the frames of whatever is in it make.
func framesOf(s string) ([]string, int64) {
	var list []string
	end := 0
	for end+8 <= len(s) {
		size := int(binary.BigEndian.Uint32([]byte(s[end:])))
		if size > 1000000 || end+8+size > len(s) || frame(s[end+8:end+8+size]) != s[end:end+8+size] {
			break
		}
		list = append(list, s[end+8:end+8+size])
		end += 8 + size
	}
	return list, int64(end)
}

func expectFrames(t *testing.T, what, s string, end int, want ...string) {
	t.Helper()
	if list, got := impl.TakeFrames(s); got != int64(end) || !slices.Equal(list, want) {
		t.Errorf("%s: %.200q %d, not %.200q %d", what, list, got, want, end)
	}
}

func TestFrames(t *testing.T) {
	for data, want := range map[string]string{
		"":          "\x00\x00\x00\x00\x00\x00\x00\x00",
		"123456789": "\x00\x00\x00\x09\xcb\xf4\x39\x26123456789",
		"a":         "\x00\x00\x00\x01\xe8\xb7\xbe\x43a",
		"\x00":      "\x00\x00\x00\x01\xd2\x02\xef\x8d\x00",
		"\xff":      "\x00\x00\x00\x01\xff\x00\x00\x00\xff",
	} {
		if got := impl.FrameOf(data); got != want {
			t.Errorf("%q: %q, not %q", data, got, want)
		}
		expectFrames(t, "one", want, len(want), data)
	}
	d := &dice{130}
	row, all := "", []string{}
	for i := range 600 {
		data := make([]byte, edge(d, 0, 700))
		for i := range data {
			data[i] = byte(d.roll(0, 255))
		}
		if i < 256 {
			data = []byte{byte(i)}
		}
		one := impl.FrameOf(string(data))
		if one != frame(string(data)) {
			t.Fatalf("%q: %q", data, one)
		}
		row, all = row+one, append(all, string(data))
	}
	expectFrames(t, "a row", row, len(row), all...)
	expectFrames(t, "none", "", 0)
}

func TestHowLongAFrameMayBe(t *testing.T) {
	for _, size := range []int{65535, 65536, 999999, 1000000} {
		data := strings.Repeat("ab", size/2+1)[:size]
		if got := impl.FrameOf(data); got != frame(data) {
			t.Errorf("%d: %.20q", size, got)
		}
		expectFrames(t, "long", frame(data)+frame("x"), size+8+9, data, "x")
	}
	for _, size := range []int{1000001, 1000002, 20000000} {
		data := bytesOf(size)
		if got := impl.FrameOf(data); got != "" {
			t.Errorf("%d: %d bytes", size, len(got))
		}
		expectFrames(t, "too long", frame("x")+frame(data), 9, "x")
	}
	for _, head := range []string{"\x7f\xff\xff\xff", "\x80\x00\x00\x00", "\xff\xff\xff\xff", "\x00\x0f\x42\x41"} {
		expectFrames(t, "a far length", head+"\x00\x00\x00\x00"+bytesOf(50), 0)
	}
}

func TestFramesThatAreNone(t *testing.T) {
	row := frame("one") + frame("") + frame("three")
	ends := []int{11, 19, 32}
	want := []string{"one", "", "three"}
	for cut := range len(row) + 1 {
		whole := 0
		for whole < 3 && ends[whole] <= cut {
			whole++
		}
		expectFrames(t, "cut", row[:cut], append([]int{0}, ends...)[whole], want[:whole]...)
	}
	for at := range len(row) {
		for bit := range 8 {
			bytes := []byte(row)
			bytes[at] ^= 1 << bit
			whole := 0
			for ends[whole] <= at {
				whole++
			}
			expectFrames(t, "a wrong bit", string(bytes), append([]int{0}, ends...)[whole], want[:whole]...)
		}
	}
	for _, more := range []string{"?", "\x00", "\x00\x00\x00\x00\x00\x00\x00", "\x00\x00\x00\x00\x00\x00\x00\x01", "\n", frame("four")[1:], frame("four")[:11]} {
		expectFrames(t, "bytes behind", row+more, len(row), want...)
	}
	for _, more := range []string{"?", "\x00", "\x00\x00\x00\x00\x00\x00\x00\x01", "\n", frame("four")[1:], frame("four")[:11]} {
		expectFrames(t, "bytes ahead", more+row, 0)
	}
	bytes := []byte(frame("turned"))
	for i := range 4 {
		bytes[4+i] = frame("turned")[7-i]
	}
	expectFrames(t, "a sum with its lowest byte first", string(bytes), 0)
}

func TestFramesByChance(t *testing.T) {
	d := &dice{131}
	for range 3000 {
		s := ""
		for range d.roll(0, 6) {
			s += frame(bytesOf(int(d.roll(0, 9))))
		}
		bytes := []byte(s)
		for range d.roll(0, 2) {
			if len(bytes) > 0 {
				bytes[d.roll(0, int64(len(bytes))-1)] = byte(d.roll(0, 9))
			}
		}
		s = string(bytes[:d.roll(0, int64(len(bytes)))])
		want, end := framesOf(s)
		expectFrames(t, "by chance", s, int(end), want...)
	}
}

func baseFrame(number int64, s impl.Store) string {
	return frame(strconv.FormatInt(number, 10) + "\n" + impl.StoreText(s))
}

func logFrame(number int64, q impl.Request) string {
	return frame(strconv.FormatInt(number, 10) + "\n" + impl.RequestText(q))
}

type viewAnswer struct {
	S            impl.Store
	Number, Code int64
}

func view(d impl.Disk) viewAnswer {
	s, number, code := impl.JournalView(d)
	return viewAnswer{s, number, code}
}

func expectView(t *testing.T, what string, d impl.Disk, want viewAnswer) {
	t.Helper()
	if got := view(d); !same(got, want) {
		t.Errorf("%s: %s, not %s", what, told(got), told(want))
	}
}

// story are requests of which all but the marked ones are obeyed.
func story() []impl.Request {
	return []impl.Request{
		snapAsk("ann", shopCase(50)),
		planAsk("ann", 1, shopPlans()[0]),
		publishAsk("ann", 9), // refused
		searchAsk("ann", 2, 5, 2),
		snapAsk("bob", shopCase(7)),
		planAsk("zed", 1, shopPlans()[0]), // refused
		publishAsk("ann", 3),
		planAsk("ann", 1, shopPlans()[2]),
		sweepAsk("ann"),
	}
}

// storesOf are the stores that the first requests make, from none to all of them.
func storesOf(s impl.Store, list []impl.Request) []impl.Store {
	stores := []impl.Store{s}
	for _, q := range list {
		s, _, _ = impl.Obeyed(s, q)
		stores = append(stores, s)
	}
	return stores
}

func TestStoryIsAsItIsTold(t *testing.T) {
	s := impl.Store{}
	var codes []int64
	for _, q := range story() {
		next, _, code := impl.Obeyed(s, q)
		s, codes = next, append(codes, code)
	}
	if !slices.Equal(codes, []int64{0, 0, impl.AnVersion, 0, 0, impl.AnTenant, 0, 0, 0}) {
		t.Errorf("%v", codes)
	}
}

func logOf(from int64, list ...impl.Request) string {
	s := ""
	for i, q := range list {
		s += logFrame(from+int64(i), q)
	}
	return s
}

func TestWhatALogMakes(t *testing.T) {
	asked := story()
	stores := storesOf(impl.Store{}, asked)
	expectView(t, "no file", impl.Disk{}, viewAnswer{})
	expectView(t, "other files", still("a", "?", "base.new", "?", "log2", "?"), viewAnswer{})
	expectView(t, "an empty log", still("log", ""), viewAnswer{})
	for n := range len(asked) + 1 {
		want := viewAnswer{stores[n], int64(n), impl.StOk}
		log := logOf(1, asked[:n]...)
		expectView(t, "a log", still("log", log), want)
		expectView(t, "a base", still("base", baseFrame(int64(n), stores[n])), want)
		expectView(t, "a base and a log that it made", still("base", baseFrame(int64(n), stores[n]), "log", log), want)
		for from := range n + 1 {
			base := baseFrame(int64(from), stores[from])
			expectView(t, "a base and a log", still("base", base, "log", logOf(int64(from)+1, asked[from:n]...)), want)
			expectView(t, "a base and the whole log", still("base", base, "log", log), want)
			expectView(t, "some of it twice", still("base", base, "log", log+logOf(int64(from)+1, asked[from:n]...)), want)
		}
	}
	d := doneAll(t, still("log", logOf(1, asked[:2]...)), appendOp("log", logFrame(3, asked[2])), appendOp("log", logFrame(4, asked[3])))
	expectView(t, "what is seen", d, viewAnswer{stores[4], 4, impl.StOk})
	other := storesOf(someStore(), asks())
	for n, s := range other {
		log := logOf(impl.MaxId-2, asks()[:min(n, 3)]...)
		expectView(t, "the greatest numbers", still("base", baseFrame(impl.MaxId-3, someStore()), "log", log), viewAnswer{other[min(n, 3)], impl.MaxId - 3 + int64(min(n, 3)), impl.StOk})
		expectView(t, "MaxId", still("base", baseFrame(impl.MaxId, s)), viewAnswer{s, impl.MaxId, impl.StOk})
	}
}

// noLogged are data of frames that are none of a log whose next number is 3.
func noLogged() map[string]string {
	text := impl.RequestText(story()[2])
	list := map[string]string{
		"no number": text, "no byte 10": "3" + text, "a blank": "3 " + text, "an empty number": "\n" + text, "nothing": "", "a number alone": "3", "no request": "3\n",
		"a nought ahead": "03\n" + text, "a plus": "+3\n" + text, "a minus": "-3\n" + text, "minus nought": "-0\n" + text, "two noughts": "00\n" + text, "a nought ahead of an old one": "02\n" + text,
		"a later number": "4\n" + text, "a far later number": "1000000000\n" + text, "a number past MaxId": "1000000001\n" + text,
		"a number that would wrap": "18446744073709551619\n" + text, "another number that would wrap": "4294967299\n" + text, "a long number": strings.Repeat("3", 5000) + "\n" + text,
		"two lines ends": "3\n\n" + text, "a cut request": "3\n" + text[:len(text)-1], "more behind it": "3\n" + text + "\n", "two requests": "3\n" + text + text,
		"a store": "3\n" + impl.StoreText(impl.Store{}), "an unknown word": "3\npublished ann 9\n", "a frame": frame("3\n" + text), "blanks": "3 \n" + text, "blanks ahead": " 3\n" + text, "hexadecimal": "0x3\n" + text,
		"an old one with no request": "1\n?", "an old one with a cut request": "2\n" + text[:len(text)-1],
	}
	return list
}

func TestLogsThatAreNotGood(t *testing.T) {
	asked := story()
	stores := storesOf(impl.Store{}, asked)
	log := logOf(1, asked[:2]...)
	want := viewAnswer{stores[2], 2, impl.StOk}
	rest := logOf(3, asked[2:]...)
	for what, data := range noLogged() {
		for _, behind := range []string{"", rest, "?"} {
			expectLog(t, what, still("log", log+frame(data)+behind), want, false)
			expectLog(t, what, still("base", baseFrame(2, stores[2]), "log", frame(data)+behind), want, false)
			expectLog(t, what, still("base", baseFrame(2, stores[2]), "log", log+frame(data)+behind), want, false)
		}
	}
	for cut := 1; cut < len(rest); cut++ {
		whole := 0
		for whole < 7 && len(logOf(3, asked[2:3+whole]...)) <= cut {
			whole++
		}
		good := len(logOf(3, asked[2:2+whole]...)) == cut
		if good || cut%7 == 0 || cut < 60 {
			expectLog(t, "cut", still("log", log+rest[:cut]), viewAnswer{stores[2+whole], 2 + int64(whole), impl.StOk}, good)
		}
	}
	for _, behind := range []string{"?", "\x00", bytesOf(7), frame("x")[:8]} {
		expectLog(t, "bytes behind", still("log", log+behind), want, false)
		expectLog(t, "bytes alone", still("log", behind), viewAnswer{}, false)
	}
	for _, old := range []string{logOf(0, asked[0]), logOf(1, asked[3]), logOf(2, asked[7]), logOf(0, asked...)[:0]} {
		expectLog(t, "passed over", still("log", log+old), want, true)
		expectLog(t, "passed over, then one", still("log", log+old+logOf(3, asked[2])), viewAnswer{stores[3], 3, impl.StOk}, true)
	}
	expectLog(t, "number 0 alone", still("log", logOf(0, asked[0])), viewAnswer{}, true)
	expectLog(t, "number 2 first", still("log", logOf(2, asked[0])), viewAnswer{}, false)
	last := baseFrame(impl.MaxId, stores[2])
	expectLog(t, "behind MaxId", still("base", last, "log", logOf(impl.MaxId, asked[2])), viewAnswer{stores[2], impl.MaxId, impl.StOk}, true)
	expectLog(t, "behind MaxId", still("base", last, "log", logOf(impl.MaxId+1, asked[2])), viewAnswer{stores[2], impl.MaxId, impl.StOk}, false)
}

// expectLog asks for what is seen, and whether a save is refused.
func expectLog(t *testing.T, what string, d impl.Disk, want viewAnswer, good bool) {
	t.Helper()
	expectView(t, what, d, want)
	code := int64(impl.StTorn)
	if good {
		code = impl.StOk
	}
	saved := acted(d, impl.Act{Kind: impl.AcSave, Power: -1})
	if saved.Code != code || !good && !same(saved.D, d) {
		t.Errorf("%s: saved with %d: %s", what, saved.Code, told(saved.D))
	}
	opened := acted(d, impl.Act{Kind: impl.AcOpen, Power: -1})
	if opened.Code != impl.StOk || good && !same(opened.D, d) {
		t.Errorf("%s: opened with %d: %s", what, opened.Code, told(opened.D))
	}
	if !good && !same(opened.D, still("base", baseFrame(want.Number, want.S))) {
		t.Errorf("%s: opened: %s", what, told(opened.D))
	}
}

// noBases are what a file base must not be.
func noBases() map[string]string {
	s := storesOf(impl.Store{}, story())[4]
	text := impl.StoreText(s)
	right := frame("4\n" + text)
	list := map[string]string{
		"nothing": "", "a byte": "?", "no frame": "4\n" + text, "two frames": right + right, "an empty frame ahead": frame("") + right, "an empty frame behind": right + frame(""),
		"a byte behind": right + "?", "a nought behind": right + "\x00", "a line's end behind": right + "\n", "an empty frame": frame(""),
		"a nought ahead": frame("04\n" + text), "a plus": frame("+4\n" + text), "below 0": frame("-1\n" + text), "minus nought": frame("-0\n" + text), "no number": frame(text), "an empty number": frame("\n" + text),
		"past MaxId": frame("1000000001\n" + text), "would wrap": frame("18446744073709551620\n" + text), "a blank": frame("4 \n" + text), "no byte 10": frame("4" + text),
		"no store": frame("4\n"), "a number alone": frame("4"), "a request": frame("4\n" + impl.RequestText(story()[0])), "a cut store": frame("4\n" + text[:len(text)-1]), "more behind the store": frame("4\n" + text + "\n"),
		"two stores": frame("4\n" + text + text), "a store that is not right": frame("4\n" + strings.Replace(text, "tenant ann", "tenant Ann", 1)), "a log": logOf(1, story()[0]),
	}
	for cut := range len(right) {
		list["cut at "+strconv.Itoa(cut)] = right[:cut]
	}
	for at := range 8 {
		bytes := []byte(right)
		bytes[at]++
		list["a wrong head at "+strconv.Itoa(at)] = string(bytes)
	}
	return list
}

func TestDisksThatAreBroken(t *testing.T) {
	for what, base := range noBases() {
		for _, d := range []impl.Disk{still("base", base), still("a", "x", "base", base, "base.new", baseFrame(0, impl.Store{}), "log", logOf(1, story()...))} {
			expectView(t, what, d, viewAnswer{Code: impl.StBad})
			for _, kind := range []int64{impl.AcLog, impl.AcSave, impl.AcOpen} {
				for _, power := range []int64{-1, 0, 9} {
					expectActed(t, what, d, impl.Act{Kind: kind, Ask: story()[0], Power: power}, actAnswer{d, impl.StBad})
				}
			}
			expectActed(t, what, d, impl.Act{Kind: impl.AcLog, Power: -1}, actAnswer{d, impl.StBad})
			expectActed(t, what, d, impl.Act{Kind: impl.AcCrash}, actAnswer{d, impl.StBad})
			expectActed(t, what, d, impl.Act{Kind: impl.AcCrash, Torn: -1}, actAnswer{d, impl.StForm})
			expectActed(t, what, d, impl.Act{Kind: 5, Power: -1}, actAnswer{d, impl.StForm})
		}
	}
	empty := frame("0\nstore 0\n")
	expectView(t, "an empty store", still("base", empty), viewAnswer{})
	expectView(t, "an empty store of others", still("base", frame("77\nstore 0\n")), viewAnswer{Number: 77})
	d := doneAll(t, still("base", "?"), renameOp("base", "a"))
	expectView(t, "broken but not seen", d, viewAnswer{})
	d = doneAll(t, still("base", empty), appendOp("base", "?"))
	expectView(t, "not broken but not seen", d, viewAnswer{Code: impl.StBad})
}

// expectWrongJournal asks what is told of a disk that is not right.
func expectWrongJournal(t *testing.T, what string, d impl.Disk) {
	t.Helper()
	expectView(t, what, d, viewAnswer{Code: impl.StDisk})
	for _, kind := range []int64{0, 1, 2, 3, 4, 5} {
		expectActed(t, what, d, impl.Act{Kind: kind, Ask: story()[0], Power: -1}, actAnswer{Code: impl.StDisk})
	}
	for _, list := range [][]impl.Act{nil, {{}}, {{Kind: impl.AcOpen, Power: -1}, {Kind: impl.AcCrash}}} {
		if left, codes := impl.JournalPlay(d, list); !same(left, impl.Disk{}) || len(codes) != 0 {
			t.Errorf("%s: %s %v", what, told(left), codes)
		}
	}
}
