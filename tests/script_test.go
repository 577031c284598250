package tests

import (
	"strconv"
	"strings"
	"testing"

	"loop.example/g00265/impl"
)

// lineFor is the line that logs a request.
func lineFor(word string, q impl.Request) string {
	return word + " " + strings.ReplaceAll(strings.TrimSuffix(impl.RequestText(q), "\n"), "\n", ";")
}

func askFor(q impl.Request) string { return lineFor("ask", q) }

func syncFor(q impl.Request) string { return lineFor("sync", q) }

// script ends each of these lines; a "|" parts some that are told as one.
func script(lines ...string) string {
	text := ""
	for _, line := range lines {
		text += strings.ReplaceAll(line, "|", "\n") + "\n"
	}
	return text
}

// expectSaid asks for what is said behind the lines ahead of it, whatever
// those say: want has "|" between its lines.
func expectSaid(t *testing.T, ahead, lines, want string) {
	t.Helper()
	before, said := "", ""
	if ahead != "" {
		before = impl.RunScript(script(ahead))
	}
	if lines != "" {
		ahead = strings.TrimPrefix(ahead+"|"+lines, "|")
	}
	if want != "" {
		said = script(want)
	}
	if got := impl.RunScript(script(ahead)); got != before+said {
		t.Errorf("%.200q behind %.200q: %q, not %q behind %q", lines, ahead, strings.TrimPrefix(got, before), said, before)
	}
}

// annAndBob has ann with versions of which one is published, and bob with a
// snapshot alone: six requests, the first two of them synced.
func annAndBob() string {
	return strings.Join([]string{
		syncFor(snapAsk("ann", shopCase(50))),
		syncFor(snapAsk("bob", shopCase(7))),
		askFor(planAsk("ann", 1, shopPlans()[0])),
		askFor(planAsk("ann", 1, shopPlans()[1])),
		askFor(planAsk("ann", 1, shopPlans()[3])),
		askFor(publishAsk("ann", 3)),
	}, "|")
}

func TestScriptWordForWord(t *testing.T) {
	snap := "ask snap ann;case 3 50;times 0 5 9;times 5 0 4;times 9 4 0;order 1 1 2 0 90 1;order 2 2 2 0 90 1;vehicle 7 0 4 0 99"
	if got := askFor(snapAsk("ann", shopCase(50))); got != snap {
		t.Fatalf("%q", got)
	}
	for _, w := range [][2]string{
		{snap, "ok 1"},
		{"s" + strings.Replace(snap, "ask", "ync", 1), "ok 1"},
		{snap + "|ask plan ann 1;left 1 2|sync plan ann 1;route 7 1 2;left|ask search ann 2 5 2|ask publish ann 3|ask sweep ann", "ok 1|ok 2|ok 3|ok 4|ok 0|ok 0"},
		{"ask sweep ann|sync sweep ann", "not 3|not 3"},
		{"save|save 4|save 3|open|open 0", "ok|ok|no 5|ok|ok"},
		{"crash 0 0|crash 3 7", "ok|ok"},
		{"files|save|files|" + snap + "|files|save 2|files", "files|ok|files base|ok 1|files base log|no 5|files base base.new log"},
		{"tenants|" + snap + "|tenants|ask sweep zed|tenants", "tenants 0|ok 1|tenants 1 ann|not 3|tenants 2 ann"},
		{annAndBob() + "|tenants", "ok 1|ok 1|ok 2|ok 3|ok 4|ok 0|tenants 6 ann bob"},
		{annAndBob() + "|show ann|show bob|show eve", "ok 1|ok 1|ok 2|ok 3|ok 4|ok 0|show 2:100 3!18 4:68|show|no tenant"},
		{annAndBob() + "|plan ann|plan bob|plan eve", "ok 1|ok 1|ok 2|ok 3|ok 4|ok 0|plan 18 / route 7 1 2 / left|none|no tenant"},
		{"fly", "what"},
	} {
		expectSaid(t, "", w[0], w[1])
	}
}

func expectAnswer(t *testing.T, what, text, want string) {
	t.Helper()
	if got := impl.RunScript(text); got != want {
		t.Errorf("%s: %.100q: %.200q, not %.200q", what, text, got, want)
	}
}

const tooLong = "too long\n"

func TestHowManyLinesAScriptHas(t *testing.T) {
	expectAnswer(t, "no line", "", "")
	for count := 1; count <= impl.MaxScript; count++ {
		expectAnswer(t, "lines", strings.Repeat("files\n", count), strings.Repeat("files\n", count))
		expectAnswer(t, "what", strings.Repeat("x\n", count), strings.Repeat("what\n", count))
		expectAnswer(t, "lines of no byte", strings.Repeat("\n", count), "")
	}
	for _, line := range []string{"files\n", "x\n", "\n", " \n", "ask sweep ann\n"} {
		expectAnswer(t, "41 lines", strings.Repeat(line, impl.MaxScript+1), tooLong)
		expectAnswer(t, "42 lines", strings.Repeat(line, impl.MaxScript+2), tooLong)
	}
	expectAnswer(t, "39 lines of nothing", strings.Repeat("\n", 39)+"files\n", "files\n")
	expectAnswer(t, "40 lines of nothing", strings.Repeat("\n", 40)+"files\n", tooLong)
	expectAnswer(t, "nothing behind 40 lines", strings.Repeat("files\n", 40)+"\n", tooLong)
	expectAnswer(t, "40 lines, all of them logged", strings.Repeat("ask sweep ann\n", 39)+"tenants\n", strings.Repeat("not 3\n", 39)+"tenants 39\n")
	expectAnswer(t, "very many", strings.Repeat("\n", 5000000), tooLong)
}

func TestHowManyBytesAScriptHas(t *testing.T) {
	blanks := func(count int) string { return strings.Repeat(" ", count) }
	for _, more := range []int{-2, -1, 0, 1, 2, 5000, 5000000} {
		size := impl.MaxLines + more
		wants := func(want string) string {
			if more > 0 {
				return tooLong
			}
			return want
		}
		expectAnswer(t, "blanks ahead", blanks(size-6)+"files\n", wants("files\n"))
		expectAnswer(t, "blanks behind", "files"+blanks(size-6)+"\n", wants("files\n"))
		expectAnswer(t, "blanks alone", blanks(size-1)+"\n", wants(""))
		expectAnswer(t, "one word", bytesOf(size-1)+"\n", wants("what\n"))
		expectAnswer(t, "many words", strings.Repeat("a ", size/2-1)+strings.Repeat("a", size%2+1)+"\n", wants("what\n"))
		expectAnswer(t, "a line of them", "files\n"+blanks(size-13)+"\nfiles\n", wants("files\nfiles\n"))
		expectAnswer(t, "a request behind which nothing is read", "ask sweep ann"+blanks(size-22)+"\ntenants\n", wants("what\ntenants 0\n"))
	}
	full := strings.Repeat(bytesOf(99)+"\n", 40)
	expectAnswer(t, "both limits", full, strings.Repeat("what\n", 40))
	expectAnswer(t, "a byte more", "x"+full, tooLong)
	expectAnswer(t, "a line more", full[1:]+"\n", tooLong)
}

func TestLastLinesThatAreNotEnded(t *testing.T) {
	for _, line := range []string{"tenants", "files", " ", "   ", "x", "\r", "\x00", "ask sweep ann", "save", "\n ", "\nfiles", "files\nfiles", "files\n\r", "files\n\n ", "files;", `files\n`} {
		expectAnswer(t, "not ended", line, tooLong)
	}
	expectAnswer(t, "40 lines, not ended", strings.Repeat("files\n", 39)+"files", tooLong)
	expectAnswer(t, "the first byte behind 40 lines", strings.Repeat("files\n", 40)+"f", tooLong)
	expectAnswer(t, "4000 bytes, not ended", bytesOf(impl.MaxLines), tooLong)
}

func TestLinesThatSayNothing(t *testing.T) {
	for _, count := range []int{0, 1, 2, 3, 100} {
		blank := strings.Repeat(" ", count)
		expectAnswer(t, "alone", blank+"\n", "")
		expectAnswer(t, "between", "files\n"+blank+"\nfiles\n"+blank+"\n", "files\nfiles\n")
		expectAnswer(t, "ahead", blank+"\n"+blank+"\nfiles\n", "files\n")
	}
	for _, line := range []string{"\t", "\r", " \t ", "\x00", "\v", "\f", "\u00a0", "\u2003", "\u0085", ".", ";", "\xff", "\xa0", "\x85", "\u00e9"} {
		expectAnswer(t, "no blank", line+"\n", "what\n")
		expectAnswer(t, "no blank between blanks", " "+line+" \n", "what\n")
	}
}

// parted are all lines whose words are parted by blanks, and what they say
// behind annAndBob.
var parted = [][2]string{
	{"save", "ok"}, {"save 6", "ok"}, {"save 2", "no 5"}, {"open", "ok"}, {"open 0", "ok"}, {"crash 0 0", "ok"}, {"crash 1 -1", "no 3"},
	{"files", "files log"}, {"tenants", "tenants 6 ann bob"}, {"show ann", "show 2:100 3!18 4:68"}, {"show bob", "show"}, {"show eve", "no tenant"},
	{"plan ann", "plan 18 / route 7 1 2 / left"}, {"plan bob", "none"}, {"plan eve", "no tenant"},
	{"save x", "what"}, {"crash 1", "what"}, {"fly", "what"}, {"show", "what"},
}

func TestBlanksBetweenWords(t *testing.T) {
	for _, w := range parted {
		words := strings.Split(w[0], " ")
		for _, ahead := range []string{"", " ", "  ", "       "} {
			for _, between := range []string{" ", "  ", "      "} {
				for _, behind := range []string{"", " ", "  ", "       "} {
					expectSaid(t, annAndBob(), ahead+strings.Join(words, between)+behind, w[1])
				}
			}
		}
		for _, other := range []string{"\t", "\r", "\v", "\f", "\x00", "\u00a0", "\u2003", "\xa0", ";", ",", "_"} {
			expectSaid(t, annAndBob(), other+w[0], "what")
			expectSaid(t, annAndBob(), words[0]+other, "what")
			expectSaid(t, annAndBob(), words[0]+other+strings.Join(words[1:], " "), "what")
		}
	}
}

func TestWordsThatAreLikeOnes(t *testing.T) {
	for _, w := range parted[:15] {
		first, rest, _ := strings.Cut(w[0]+" ", " ")
		for at := range len(first) {
			if at > 0 {
				expectSaid(t, annAndBob(), first[:at]+" "+rest, "what")
				expectSaid(t, annAndBob(), first[:at]+" "+first[at:]+" "+rest, "what")
			}
			expectSaid(t, annAndBob(), first[:at]+first[at+1:]+" "+rest, "what")
			expectSaid(t, annAndBob(), first[:at]+strings.ToUpper(first[at:at+1])+first[at+1:]+" "+rest, "what")
		}
		for _, more := range []string{"s", "d", "0", "1", "-", ".", ":", "!", ";", first, "\x00", "\xff", "\u00e9"} {
			expectSaid(t, annAndBob(), first+more+" "+rest, "what")
			expectSaid(t, annAndBob(), more+first+" "+rest, "what")
		}
	}
	for b := range 256 {
		if sign := string([]byte{byte(b)}); sign != " " && sign != "\n" {
			expectAnswer(t, "a byte", sign+"\n", "what\n")
			expectAnswer(t, "a byte behind files", "files"+sign+"\n", "what\n")
			expectAnswer(t, "a byte ahead of files", sign+"files\n", "what\n")
			expectAnswer(t, "a byte within files", "fi"+sign+"es\n", map[bool]string{true: "files\n", false: "what\n"}[sign == "l"])
		}
	}
}

func TestWordsBehindOnes(t *testing.T) {
	for _, line := range []string{"files", "tenants"} {
		for _, more := range []string{"x", "ann", "0", "files", "tenants", ";", "-", "\t", "\x00"} {
			expectSaid(t, annAndBob(), line+" "+more, "what")
			expectSaid(t, annAndBob(), " "+line+"  "+more+" ", "what")
		}
	}
	for _, word := range []string{"show", "plan"} {
		expectSaid(t, annAndBob(), word, "what")
		expectSaid(t, annAndBob(), word+" ", "what")
		expectSaid(t, annAndBob(), word+" ann bob", "what")
		expectSaid(t, annAndBob(), word+" ann ann", "what")
		expectSaid(t, annAndBob(), word+" ann ;", "what")
		expectSaid(t, annAndBob(), word+" eve eve", "what")
		for _, none := range []string{"a", "an", "anna", "annb", "Ann", "ANN", "ann.", "ann;", "bo", "zzzzzzzzzzzz", "zzzzzzzzzzzzz", "1", "-1", "ann\t", "ann\x00", "\xff"} {
			expectSaid(t, annAndBob(), word+" "+none, "no tenant")
		}
		expectSaid(t, "", word+" ann", "no tenant")
	}
}

func TestWhatStandsBehindOneBlank(t *testing.T) {
	for _, word := range []string{"ask", "sync"} {
		for _, q := range []impl.Request{sweepAsk("ann"), publishAsk("ann", 2), planAsk("ann", 1, shopPlans()[1]), snapAsk("ann", shopCase(7)), searchAsk("ann", 2, 5, 2)} {
			line := lineFor(word, q)
			request := strings.TrimPrefix(line, word+" ")
			number := int64(6)
			logged := func(lines string) {
				t.Helper()
				got := impl.RunScript(script(annAndBob(), lines, "tenants"))
				if !strings.HasSuffix(got, "\ntenants "+strconv.FormatInt(number, 10)+" ann bob\n") || strings.Contains(got, "what") != (number == 6) {
					t.Errorf("%q: %q", lines, got)
				}
			}
			for _, wrong := range []string{" " + line, "  " + line, word + "  " + request, word + "   " + request, word + request, word + "\t" + request, word + ";" + request, line + " ", line + "  ", line + "\t",
				line + ";", word + " ;" + request, line + ";;", strings.ReplaceAll(line, ";", " ;") + " ;", strings.ReplaceAll(line+";", ";", "; "), strings.Replace(line+";", ";", ";;", 1),
				strings.Replace(line, " ann", "  ann", 1), strings.Replace(line, " ann", ";ann", 1), strings.Replace(line, "ann", "", 1), strings.Replace(line, "ann", "ANN", 1), strings.ToUpper(line),
				word + " " + line, word, word + " ", word + "  ", word + " ;", word + ";", line[:len(line)-len(request)+1], strings.ToUpper(word) + " " + request, word + "s " + request, word[1:] + " " + request} {
				logged(wrong)
			}
			number = 7
			logged(line)
		}
	}
}

func TestTheIdOfWhatWasMade(t *testing.T) {
	for _, word := range []string{"ask", "sync"} {
		for _, w := range []struct {
			q    impl.Request
			want string
		}{
			{snapAsk("ann", shopCase(1)), "ok 5"},
			{snapAsk("bob", shopCase(1)), "ok 2"},
			{snapAsk("eve", shopCase(1)), "ok 1"},
			{planAsk("ann", 1, shopPlans()[2]), "ok 5"},
			{planAsk("bob", 1, shopPlans()[2]), "ok 2"},
			{searchAsk("ann", 4, 1, 0), "ok 5"},
			{publishAsk("ann", 4), "ok 0"},
			{sweepAsk("ann"), "ok 0"},
			{sweepAsk("bob"), "ok 0"},
			{sweepAsk("eve"), "not 3"},
			{planAsk("eve", 1, shopPlans()[0]), "not 3"},
			{searchAsk("eve", 1, 1, 1), "not 3"},
			{publishAsk("eve", 1), "not 3"},
			{planAsk("ann", 2, shopPlans()[0]), "not 4"},
			{planAsk("bob", 2, shopPlans()[0]), "not 4"},
			{planAsk("ann", 1, impl.Plan{}), "not 5"},
			{planAsk("ann", 1, impl.Plan{Left: []int64{1}}), "not 5"},
			{searchAsk("ann", 1, 1, 1), "not 6"},
			{publishAsk("ann", 1), "not 6"},
			{publishAsk("bob", 1), "not 6"},
		} {
			expectSaid(t, annAndBob(), lineFor(word, w.q), w.want)
			expectSaid(t, annAndBob(), lineFor(word, w.q)+"|tenants", w.want+"|tenants 7 ann bob"+map[bool]string{true: " eve"}[w.want == "ok 1"])
		}
	}
}

func TestStoresThatAreFull(t *testing.T) {
	tiny := impl.Case{Times: impl.Matrix{N: 1, Times: []int64{0}}}
	for _, word := range []string{"ask", "sync"} {
		var lines, want []string
		for _, name := range []string{"a", "b", "c", "d", "e"} {
			lines, want = append(lines, lineFor(word, snapAsk(name, tiny))), append(want, "ok 1")
		}
		expectSaid(t, strings.Join(lines, "|"), lineFor(word, snapAsk("f", tiny))+"|tenants", "not 7|tenants 6 a b c d e")
		for i := range impl.MaxKept - 1 {
			lines, want = append(lines, lineFor(word, snapAsk("c", tiny))), append(want, "ok "+strconv.Itoa(i+2))
		}
		lines, want = append(lines, lineFor(word, snapAsk("c", tiny))), append(want, "not 7")
		for i := range impl.MaxKept {
			lines, want = append(lines, lineFor(word, planAsk("c", 1, impl.Plan{}))), append(want, "ok "+strconv.Itoa(i+9))
		}
		lines, want = append(lines, lineFor(word, planAsk("c", 1, impl.Plan{})), lineFor(word, searchAsk("c", 9, 0, 0))), append(want, "not 7", "not 7")
		lines, want = append(lines, "tenants", "show c", lineFor(word, sweepAsk("c")), "show c", lineFor(word, searchAsk("c", 16, 0, 0))), append(want, "tenants 23 a b c d e", "show 9:0 10:0 11:0 12:0 13:0 14:0 15:0 16:0", "ok 0", "show 16:0", "ok 17")
		expectSaid(t, "", strings.Join(lines, "|"), strings.Join(want, "|"))
	}
}

// Whether what was asked is there for good.
func TestWhatIsSynced(t *testing.T) {
	first, second := snapAsk("ann", shopCase(50)), snapAsk("bob", shopCase(50))
	for _, w := range [][2]string{
		{askFor(first) + "|" + askFor(second), "tenants 0"},
		{syncFor(first) + "|" + askFor(second), "tenants 1 ann"},
		{askFor(first) + "|" + syncFor(second), "tenants 2 ann bob"},
		{syncFor(first) + "|" + syncFor(second), "tenants 2 ann bob"},
		{askFor(first) + "|" + askFor(second) + "|save", "tenants 2 ann bob"},
		{askFor(first) + "|" + askFor(second) + "|save 1", "tenants 2 ann bob"},
		{askFor(first) + "|" + askFor(second) + "|save 0", "tenants 0"},
		{askFor(first) + "|" + askFor(second) + "|open", "tenants 0"},
		{askFor(first) + "|sync sweep zed|" + askFor(second), "tenants 2 ann"},
		{askFor(first) + "|sync sweep ZED|" + askFor(second), "tenants 0"},
	} {
		expectSaid(t, w[0], "crash 0 0|tenants", "ok|"+w[1])
	}
}

// What is on the disk when power is lost ahead of each step of a save.
func TestSavesWithPower(t *testing.T) {
	steps := func(ahead string, files ...string) {
		t.Helper()
		last := len(files) - 1
		for power, names := range files {
			want := "no 5|files " + names
			if power == last {
				want = "ok|files " + names
			}
			line := "save " + strconv.Itoa(power) + "|files"
			expectSaid(t, ahead, line, want)
			expectSaid(t, ahead, line+"|tenants", want+"|tenants 6 ann bob")
			expectSaid(t, ahead, line+"|open|files", want+"|ok|files "+names)
			if power > 0 {
				expectSaid(t, ahead, line+"|crash 0 0|tenants|save|files", want+"|ok|tenants 6 ann bob|ok|files base")
				expectSaid(t, ahead, line+"|crash 9 9999|tenants|files", want+"|ok|tenants 6 ann bob|files "+names)
			} else {
				expectSaid(t, ahead, line+"|crash 9 9999|tenants|files", want+"|ok|tenants 6 ann bob|files "+names)
			}
		}
		for _, all := range []string{"", " -1", " -2", " " + strconv.Itoa(last+1), " 1000000000", " 9999999999", " -9999999999", " -1000000000"} {
			expectSaid(t, ahead, "save"+all+"|files|tenants", "ok|files "+files[last]+"|tenants 6 ann bob")
		}
	}
	steps(annAndBob(), "log", "log", "base.new log", "base log", "base log", "base", "base")
	steps(annAndBob()+"|save", "base", "base", "base base.new", "base", "base")
	steps(annAndBob()+"|save 2", "base.new log", "base.new log", "log", "log", "base.new log", "base log", "base log", "base", "base")
	steps(annAndBob()+"|save|save 2", "base base.new", "base base.new", "base", "base", "base base.new", "base", "base")
	for power, files := range []string{"files", "files", "files base.new", "files base", "files base", "files base"} {
		expectSaid(t, "", "save "+strconv.Itoa(power)+"|files", map[bool]string{true: "no 5|", false: "ok|"}[power < 4]+files)
	}
}

func TestOpenWithPower(t *testing.T) {
	for _, ahead := range []string{"", annAndBob(), annAndBob() + "|save", annAndBob() + "|save 2", annAndBob() + "|save 3", annAndBob() + "|crash 1 7"} {
		was := impl.RunScript(script(strings.TrimPrefix(ahead+"|files|tenants", "|")))
		for _, power := range []string{"", " 0", " 1", " 2", " 9", " -1", " 9999999999", " -9999999999"} {
			got := impl.RunScript(script(strings.TrimPrefix(ahead+"|open"+power+"|files|tenants", "|")))
			if got = strings.Replace(got, "ok\nfiles", "files", 1); got != was {
				t.Errorf("open%s: %q, not %q", power, got, was)
			}
		}
	}
}

// noNumbers are none in decimal of at most 10 digits.
var noNumbers = strings.Split("x - -- + +1 +0 -0 00 01 007 -01 -00 0000000000 10000000000 12345678901 99999999999 -10000000000 9223372036854775807 9223372036854775808 18446744073709551616 1.0 1. .1 1,0 1_0 1e1 0x1 0b1 1x x1 1- -1- 1-1 --1 - ; 1; ;1 \u0663 \uff11 1\t \t1 1\x00 \x00 \xff one ann", " ")

func TestWordsThatAreNoNumbers(t *testing.T) {
	for _, word := range noNumbers {
		for _, line := range []string{"save " + word, "open " + word, "crash " + word + " 0", "crash 0 " + word, "crash " + word + " " + word, "save " + word + " " + word} {
			expectSaid(t, annAndBob(), line+"|files|tenants", "what|files log|tenants 6 ann bob")
		}
	}
	for _, line := range []string{"save 1 2", "save 0 0", "open 1 2", "open 0 0", "save - 1", "open - 1", "save 1 x", "save 1 ;", "save 1 2 3",
		"crash", "crash 0", "crash 9", "crash -1", "crash 0 0 0", "crash 1 2 3", "crash - 1 2", "crash 1 - 2", "crash 0 0 x", "crash 0 0 -", "crash 0;0"} {
		expectSaid(t, annAndBob(), line+"|files|tenants", "what|files log|tenants 6 ann bob")
	}
}

// Four requests that are not synced stand behind two that are.
func TestCrashesKeepTheFirstOps(t *testing.T) {
	story := []impl.Request{planAsk("ann", 1, shopPlans()[0]), planAsk("ann", 1, shopPlans()[1]), planAsk("ann", 1, shopPlans()[3]), publishAsk("ann", 3)}
	shows := []string{"show", "show 2:100", "show 2:100 3:18", "show 2:100 3:18 4:68", "show 2:100 3!18 4:68"}
	crash := func(k, torn string, kept int, mended bool) {
		t.Helper()
		files := map[bool]string{true: "base", false: "log"}[mended]
		expectSaid(t, annAndBob(), "crash "+k+" "+torn+"|files|tenants|show ann|crash 9 9|tenants", "ok|files "+files+"|tenants "+strconv.Itoa(kept+2)+" ann bob|"+shows[kept]+"|ok|tenants "+strconv.Itoa(kept+2)+" ann bob")
	}
	for _, torn := range []string{"0", "1", "9", "9999999999"} {
		for _, k := range []string{"0", "-1", "-2", "-9999999999"} {
			crash(k, torn, 0, false)
		}
	}
	for k := 1; k <= 4; k++ {
		size := len(logFrame(int64(k+2), story[k-1]))
		for torn := 0; torn <= size+2; torn++ {
			if torn < size {
				crash(strconv.Itoa(k), strconv.Itoa(torn), k-1, torn > 0)
			} else {
				crash(strconv.Itoa(k), strconv.Itoa(torn), k, false)
			}
		}
		crash(strconv.Itoa(k), "1000000000", k, false)
	}
	for _, k := range []string{"5", "6", "200", "201", "1000000000", "9999999999"} {
		crash(k, "9999999999", 4, false)
		crash(k, "7", 3, true)
		crash(k, "0", 3, false)
	}
	for _, k := range []string{"0", "1", "4", "9", "-1"} {
		for _, torn := range []string{"-1", "-2", "-9999999999"} {
			expectSaid(t, annAndBob(), "crash "+k+" "+torn+"|files|tenants|crash 9 9999|tenants", "no 3|files log|tenants 6 ann bob|ok|tenants 6 ann bob")
		}
	}
	for _, k := range []string{"0", "1", "9", "-1"} {
		expectSaid(t, "", "crash "+k+" 5|files|tenants|crash "+k+" -5", "ok|files|tenants 0|no 3")
	}
}

// Of a save of which its DkAppend and its DkRename are not synced.
func TestCrashesBehindASave(t *testing.T) {
	for k, files := range []string{"log", "base.new log", "base log", "base log"} {
		for _, torn := range []string{"0", "1", "50", "9999"} {
			expectSaid(t, annAndBob()+"|save 3", "crash "+strconv.Itoa(k)+" "+torn+"|files|tenants|save|files|tenants", "ok|files "+files+"|tenants 6 ann bob|ok|files base|tenants 6 ann bob")
		}
	}
	// The log goes, and another one begins, neither of them synced.
	ahead := annAndBob() + "|save 5|ask publish ann 2"
	expectSaid(t, ahead, "files|crash 0 0|files|tenants|show ann", "files base log|ok|files base log|tenants 6 ann bob|show 2:100 3!18 4:68")
	expectSaid(t, ahead, "crash 1 0|files|tenants|show ann", "ok|files base|tenants 6 ann bob|show 2:100 3!18 4:68")
	expectSaid(t, ahead, "crash 2 5|files|tenants|show ann", "ok|files base|tenants 6 ann bob|show 2:100 3!18 4:68")
	expectSaid(t, ahead, "crash 2 99|files|tenants|show ann", "ok|files base log|tenants 7 ann bob|show 2!100 3:18 4:68")
}

func TestWhatTenantsShow(t *testing.T) {
	snap := askFor(snapAsk("ann", shopCase(50)))
	for _, w := range [][3]string{
		{"", "show", "none"},
		{"|ask plan ann 1;left 1 2", "show 2:100", "none"},
		{"|ask plan ann 1;left 1 2|ask publish ann 2", "show 2!100", "plan 100 / left 1 2"},
		{"|ask plan ann 1;route 7 2;left 1|ask publish ann 2", "show 2!68", "plan 68 / route 7 2 / left 1"},
		{"|ask plan ann 1;left 1 2|ask publish ann 2|ask plan ann 1;route 7 2 1;left", "show 2!100 3:18", "plan 100 / left 1 2"},
		{"|ask plan ann 1;left 1 2|ask plan ann 1;route 7 2 1;left|ask publish ann 3", "show 2:100 3!18", "plan 18 / route 7 2 1 / left"},
		{"|ask plan ann 1;left 1 2|ask publish ann 2|ask publish ann 9", "show 2!100", "plan 100 / left 1 2"},
		{"|ask plan ann 1;left 1 2|ask publish ann 9", "show 2:100", "none"},
		{"|ask plan ann 1;left 1 2|ask search ann 2 5 2|ask publish ann 3|ask publish ann 2|ask sweep ann", "show 2!100 3:18", "plan 100 / left 1 2"},
		{"|ask plan ann 1;left 1 2|" + askFor(snapAsk("ann", shopCase(3))) + "|ask plan ann 3;left 1 2|ask publish ann 4", "show 2:100 4!6", "plan 6 / left 1 2"},
		{"|ask plan ann 1;left 1 2|ask publish ann 2|" + askFor(snapAsk("bob", shopCase(3))) + "|ask plan bob 1;route 7 1 2;left", "show 2!100", "plan 100 / left 1 2"},
	} {
		expectSaid(t, snap+w[0], "show ann|plan ann|show ann", w[1]+"|"+w[2]+"|"+w[1])
	}
	bare := askFor(snapAsk("ann", impl.Case{Times: impl.Matrix{N: 1, Times: []int64{0}}}))
	expectSaid(t, bare, "ask plan ann 1;left|show ann|plan ann|ask publish ann 2|show ann|plan ann", "ok 2|show 2:0|none|ok 0|show 2!0|plan 0 / left")
	two := shopCase(50)
	two.Vehicles = append(two.Vehicles, impl.Vehicle{Id: 1000000000, Room: 9, To: 99})
	expectSaid(t, askFor(snapAsk("zed", two)), "sync plan zed 1;route 7 2;route 1000000000 1;left|ask publish zed 2|plan zed|show zed", "ok 2|ok 0|plan 28 / route 7 2 / route 1000000000 1 / left|show 2!28")
}

func TestTenantsByTheirNames(t *testing.T) {
	tiny := impl.Case{Times: impl.Matrix{N: 1, Times: []int64{0}}}
	lines, want := []string{"tenants"}, []string{"tenants 0"}
	for i, w := range [][2]string{{"zedd", " zedd"}, {"b", " b zedd"}, {"abcdefghijkl", " abcdefghijkl b zedd"}, {"zed", " abcdefghijkl b zed zedd"}, {"a", " a abcdefghijkl b zed zedd"}, {"c", " a abcdefghijkl b zed zedd"}} {
		said := "ok 1"
		if w[0] == "c" {
			said = "not 7"
		}
		lines, want = append(lines, askFor(snapAsk(w[0], tiny)), "tenants"), append(want, said, "tenants "+strconv.Itoa(i+1)+w[1])
	}
	expectSaid(t, "", strings.Join(lines, "|"), strings.Join(want, "|"))
	expectSaid(t, strings.Join(lines, "|"), "save|tenants|crash 0 0|tenants", "ok|"+want[12]+"|ok|"+want[12])
}
