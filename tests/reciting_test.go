package tests

import (
	"regexp"
	"slices"
	"strconv"
	"strings"
	"testing"

	"loop.example/g00265/impl"
)

const number = `(0|-?[1-9][0-9]{0,9})`

var (
	askForm   = regexp.MustCompile(`(?s)\A(ask|sync) (.*)\z`)
	powerForm = regexp.MustCompile(`\A *(save|open)(?: +` + number + `)? *\z`)
	crashForm = regexp.MustCompile(`\A *crash +` + number + ` +` + number + ` *\z`)
	lookForm  = regexp.MustCompile(`(?s)\A *(files|tenants|show|plan)(?: +([^ ]+))? *\z`)
)

// reciter goes through a script by the document's words, with the functions of
// the chapters ahead of it.
type reciter struct {
	disk  impl.Disk
	codes map[string]int
}

func (r *reciter) act(a impl.Act) string {
	next, code := impl.JournalDo(r.disk, a)
	r.disk = next
	if code != impl.StOk {
		return "no " + strconv.FormatInt(code, 10)
	}
	return "ok"
}

func (r *reciter) ask(word, request string) string {
	q, ok := impl.ReadRequest(strings.ReplaceAll(request, ";", "\n") + "\n")
	if !ok {
		return "what"
	}
	was := view(r.disk)
	if said := r.act(logAct(q, word == "sync")); said != "ok" {
		return said
	}
	got := obeyed(was.S, q)
	if got.Code != impl.AnDone {
		return "not " + strconv.FormatInt(got.Code, 10)
	}
	return "ok " + strconv.FormatInt(got.Id, 10)
}

func (r *reciter) look(word, name string) string {
	if (name == "") != (word == "files" || word == "tenants") {
		return "what"
	}
	said := word
	if word == "files" {
		for _, f := range r.disk.Live {
			said += " " + f.Name
		}
		return said
	}
	seen := view(r.disk)
	if seen.Code != impl.StOk {
		return "no " + strconv.FormatInt(seen.Code, 10)
	}
	if word == "tenants" {
		said += " " + strconv.FormatInt(seen.Number, 10)
		for _, w := range seen.S.Tenants {
			said += " " + w.Name
		}
		return said
	}
	w, ok := impl.TenantOf(seen.S, name)
	if !ok {
		return "no tenant"
	}
	if word == "plan" {
		return wantPlanTold(impl.PublishedOf(seen.S, name))
	}
	for _, v := range w.Versions {
		at := slices.IndexFunc(w.Snaps, func(n impl.Snapshot) bool { return n.Id == v.Snap })
		mark := map[bool]string{true: "!", false: ":"}[v.Id == w.Published]
		said += " " + strconv.FormatInt(v.Id, 10) + mark + strconv.FormatInt(impl.PlanCost(w.Snaps[at].Case, v.Plan), 10)
	}
	return said
}

func wantPlanTold(p impl.Plan, cost int64, ok bool) string {
	if !ok {
		return "none"
	}
	lines := strings.Split(strings.TrimSuffix(impl.PlanText(p), "\n"), "\n")
	return "plan " + strconv.FormatInt(cost, 10) + " / " + strings.Join(lines, " / ")
}

// say is what a line says, which is not one of blanks alone.
func (r *reciter) say(line string) string {
	if w := askForm.FindStringSubmatch(line); w != nil {
		return r.ask(w[1], w[2])
	}
	if w := powerForm.FindStringSubmatch(line); w != nil {
		a := impl.Act{Kind: map[string]int64{"save": impl.AcSave, "open": impl.AcOpen}[w[1]], Power: -1}
		if w[2] != "" {
			a.Power, _ = strconv.ParseInt(w[2], 10, 64)
		}
		return r.act(a)
	}
	if w := crashForm.FindStringSubmatch(line); w != nil {
		count, _ := strconv.ParseInt(w[1], 10, 64)
		torn, _ := strconv.ParseInt(w[2], 10, 64)
		return r.act(crashAct(-1, torn, places(int(max(0, min(count, int64(len(r.disk.Ops))))))...))
	}
	if w := lookForm.FindStringSubmatch(line); w != nil {
		return r.look(w[1], w[2])
	}
	return "what"
}

// line is what a line says, with its end; nothing for one of blanks alone.
func (r *reciter) line(line string) string {
	if strings.Trim(line, " ") == "" {
		return ""
	}
	said := r.say(line)
	kind := said
	if strings.HasPrefix(said, "ok ") {
		kind = map[bool]string{true: "ok 0", false: "ok I"}[said == "ok 0"]
	} else if word, _, more := strings.Cut(said, " "); more && word != "no" && word != "not" {
		kind = word
	}
	r.codes[kind]++
	return said + "\n"
}

// anyNumber is one in decimal, most of the time.
func anyNumber(d *dice, most int64) string {
	if d.roll(0, 30) == 0 {
		return noNumbers[d.roll(0, int64(len(noNumbers))-1)]
	}
	return strconv.FormatInt(edge(d, []int64{0, 0, 0, 0, 0, 0, 0, -1}[d.roll(0, 7)], most), 10)
}

// lookLine is one that asks.
func lookLine(d *dice) string {
	name := append(names, "ANN", "1", "x\x00", "abcdefghijklm")[d.roll(0, int64(len(names))+3)]
	return []string{"files", "tenants", "show " + name, "plan " + name, " show  ann ", "plan ann", "  tenants", "files  ", "show", "plan a b", "files x", "tenants 0"}[d.roll(0, 11)]
}

// annAsk is of ann most of the time, so that she has something to show; with
// many it is a small snapshot of anybody most of the time, so that there is no
// room in the end.
func annAsk(d *dice, s impl.Store, many bool) impl.Request {
	tiny := impl.Case{Times: evenMatrix(1, 0)}
	if many && d.roll(0, 5) > 0 {
		return snapAsk(names[d.roll(0, int64(len(names))-1)], tiny)
	}
	if indexOfTenant(s, "ann") < 0 && d.roll(0, 3) > 0 {
		return snapAsk("ann", shopCase(d.roll(0, 99)))
	}
	q := smallAsk(d, s)
	for q.Tenant != "ann" && d.roll(0, 5) > 0 || impl.RequestText(q) == "" && d.roll(0, 5) > 0 {
		q = smallAsk(d, s)
	}
	return q
}

// anyLine is one of any kind; s is the store that it may ask of.
func anyLine(d *dice, disk impl.Disk, s impl.Store, many bool) string {
	line := ""
	switch d.roll(0, 9) {
	case 0, 1, 2, 3, 4:
		line = lineFor([]string{"ask", "ask", "sync"}[d.roll(0, 2)], annAsk(d, s, many))
	case 5:
		line = []string{"save", "open"}[d.roll(0, 1)] + []string{"", " " + anyNumber(d, 9), " " + anyNumber(d, 9)}[d.roll(0, 2)]
	case 6:
		line = "crash " + anyNumber(d, int64(len(disk.Ops))+1) + " " + anyNumber(d, []int64{9, 60, 900, 9999999999}[d.roll(0, 3)])
	case 7, 8:
		line = lookLine(d)
	default:
		line = []string{"", " ", "fly", "ask", "sync ", "ask sweep", "save x", "crash 1", ";", "\xff"}[d.roll(0, 9)]
	}
	if d.roll(0, 15) == 0 {
		line = mangled(d, line)
	}
	return line
}

// mangled puts a byte in, or takes one out.
func mangled(d *dice, line string) string {
	at := d.roll(0, int64(len(line)))
	if d.roll(0, 1) == 0 && at < int64(len(line)) {
		return line[:at] + line[at+1:]
	}
	return line[:at] + []string{" ", " ", ";", "0", "a", "\t", "-", "\xff"}[d.roll(0, 7)] + line[at:]
}

// anyScript is lines of a script that is not too long, what each of them says,
// and what it is that was said, counted.
func anyScript(d *dice, codes map[string]int) (lines, said []string) {
	r := &reciter{codes: codes}
	size, many := 0, d.roll(0, 4) == 0
	for range edge(d, 0, impl.MaxScript) {
		seen := view(r.disk)
		line := anyLine(d, r.disk, seen.S, many)
		if size += len(line) + 1; size > impl.MaxLines {
			break
		}
		lines, said = append(lines, line), append(said, r.line(line))
	}
	return lines, said
}

func joined(lines []string) string {
	if len(lines) == 0 {
		return ""
	}
	return strings.Join(lines, "\n") + "\n"
}

// What is said is what the document's words say, and stays said when more
// lines stand behind it.
func TestScriptsByChance(t *testing.T) {
	d := &dice{140}
	codes := map[string]int{}
	for range 1500 {
		lines, said := anyScript(d, codes)
		for count := range len(lines) + 1 {
			if count < len(lines)-2 && d.roll(0, 4) > 0 {
				continue
			}
			text, want := joined(lines[:count]), strings.Join(said[:count], "")
			if got := impl.RunScript(text); got != want {
				t.Fatalf("%q: %q, not %q", text, got, want)
			}
		}
	}
	for _, kind := range []string{"ok I", "ok 0", "ok", "not 3", "not 4", "not 5", "not 6", "not 7", "no 3", "no 5", "files", "tenants", "show", "plan", "no tenant", "none", "what"} {
		if codes[kind] < 10 {
			t.Errorf("%q only %d times", kind, codes[kind])
		}
		delete(codes, kind)
	}
	// From an empty disk on, in so few lines and bytes, the log is always good,
	// no disk is broken, and nothing is full of ops or bytes.
	if len(codes) > 0 {
		t.Errorf("never to be said: %v", codes)
	}
}

// Lines that ask, put between others, change nothing of what those say.
func TestLinesThatAskChangeNothing(t *testing.T) {
	d := &dice{141}
	for range 600 {
		lines, said := anyScript(d, map[string]int{})
		lines = lines[:min(len(lines), 30)]
		var more, want []string
		size := len(joined(lines))
		asked := map[int]bool{}
		for i := 0; i <= len(lines); i++ {
			for len(more)+len(lines)-i < impl.MaxScript && d.roll(0, 1) == 0 {
				line := lookLine(d)
				if size += len(line) + 1; size > impl.MaxLines {
					break
				}
				asked[len(want)] = true
				more, want = append(more, line), append(want, "")
			}
			if i < len(lines) {
				more = append(more, lines[i])
				if said[i] != "" {
					want = append(want, said[i])
				}
			}
		}
		got := strings.SplitAfter(impl.RunScript(joined(more)), "\n")
		if len(got) != len(want)+1 || got[len(want)] != "" {
			t.Fatalf("%q: %q", more, got)
		}
		for i, line := range want {
			if !asked[i] && got[i] != line {
				t.Fatalf("%q: %q, not %q", more, got[i], line)
			}
		}
	}
}

// What was said stays said, whatever stands behind it, unless the script is too
// long then.
func TestWhatWasSaidStaysSaid(t *testing.T) {
	d := &dice{142}
	long := 0
	for range 1500 {
		lines, said := anyScript(d, map[string]int{})
		others, _ := anyScript(d, map[string]int{})
		others = append(others, "crash 0 0", "save", "ask sweep ann")
		all := append(slices.Clone(lines), others[d.roll(0, int64(len(others))-1):]...)
		text, before := joined(all), strings.Join(said, "")
		got := impl.RunScript(text)
		if len(all) > impl.MaxScript || len(text) > impl.MaxLines {
			long++
			if got != tooLong {
				t.Fatalf("%q: %q", text, got)
			}
		} else if !strings.HasPrefix(got, before) {
			t.Fatalf("%q: %q, not behind %q", text, got, before)
		}
	}
	if long < 100 || long > 1400 {
		t.Errorf("%d too long", long)
	}
}

// Each beginning of a script, ended or not, and bytes that are no script's.
func TestScriptsThatAreCut(t *testing.T) {
	text := script(annAndBob(), "save 3", " crash 1 9", "show ann", "", "plan ann", "fly", "tenants")
	r := &reciter{codes: map[string]int{}}
	said := ""
	for at := range len(text) + 1 {
		if at > 0 && text[at-1] == '\n' {
			lines := strings.Split(text[:at-1], "\n")
			said += r.line(lines[len(lines)-1])
		}
		want := said
		if at > 0 && text[at-1] != '\n' {
			want = tooLong
		}
		expectAnswer(t, "cut", text[:at], want)
	}
	d := &dice{143}
	for range 3000 {
		bytes := make([]byte, edge(d, 0, 300))
		for i := range bytes {
			bytes[i] = byte(edge(d, 0, 255))
		}
		lines := strings.Split(string(bytes), "\n")
		want := ""
		for _, line := range lines {
			want += (&reciter{codes: map[string]int{}}).line(line)
		}
		if len(lines) > impl.MaxScript {
			want = tooLong
		}
		expectAnswer(t, "any bytes", string(bytes)+"\n", want)
	}
}

// The longest searches, as many as a script has room for.
func TestLongScripts(t *testing.T) {
	c := impl.Case{Times: evenMatrix(2, 7), Fine: 90}
	for i := range int64(impl.MaxOrders) {
		c.Orders = append(c.Orders, impl.Order{Id: i + 1, Place: i % 2, Load: 1, To: 99})
	}
	for i := range int64(impl.MaxVehicles) {
		c.Vehicles = append(c.Vehicles, impl.Vehicle{Id: i + 1, Home: i % 2, Room: 4, To: 99})
	}
	empty, _ := impl.EmptyPlan(c)
	lines := []string{askFor(snapAsk("a", c)), askFor(planAsk("a", 1, empty))}
	for i := range int64(32) {
		if i%6 == 5 {
			lines = append(lines, askFor(sweepAsk("a")))
		}
		lines = append(lines, askFor(searchAsk("a", 2+i, i, impl.MaxSteps)))
	}
	lines = append(lines, "show a")
	if text := joined(lines); len(lines) != impl.MaxScript || len(text) > impl.MaxLines || !strings.Contains(impl.RunScript(text), "ok 34\nshow 3") {
		t.Errorf("%d lines of %d bytes: %q", len(lines), len(text), impl.RunScript(text))
	}
}
