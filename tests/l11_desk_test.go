package tests

import (
	"fmt"
	"maps"
	"math/rand"
	"regexp"
	"slices"
	"strconv"
	"strings"
	"sync"
	"testing"

	"loop.example/g00275/impl"
)

// deskForm is a line's form: NAME is a name, NUM a number of 0 .. MaxNumber.
func deskForm(form string) *regexp.Regexp {
	form = strings.ReplaceAll(form, "NAME", `([a-z0-9]{1,10})`)
	form = strings.ReplaceAll(form, "NUM", `(0|[1-9][0-9]{0,8}|1000000000)`)
	return regexp.MustCompile(`\A` + form + `\z`)
}

func num(digits string) int {
	n, _ := strconv.Atoi(digits)
	return n
}

var opForms = []struct {
	form *regexp.Regexp
	op   func(part []string) impl.Op
}{
	{deskForm(`submit NAME`), func(part []string) impl.Op { return submit(part[1]) }},
	{deskForm(`finish NUM`), func(part []string) impl.Op { return finish(num(part[1])) }},
	{deskForm(`ask NUM NUMxNUM NUM(?: NAME)?`), func(part []string) impl.Op {
		return askFor(num(part[1]), askOn(part[5], 0, num(part[2]), num(part[3]), num(part[4])))
	}},
	{deskForm(`free NUM`), func(part []string) impl.Op { return free(num(part[1])) }},
	{deskForm(`tick`), func([]string) impl.Op { return tick() }},
	{deskForm(`serve NAME`), func(part []string) impl.Op { return serve(part[1]) }},
}

func readOpByRule(s string) (impl.Op, bool) {
	for _, one := range opForms {
		if part := one.form.FindStringSubmatch(s); part != nil {
			return one.op(part), true
		}
	}
	return impl.Op{}, false
}

func sameOp(a impl.Op, b impl.Op) bool {
	return a.Kind == b.Kind && a.Queue == b.Queue && a.App == b.App && a.Ask == b.Ask && a.Cont == b.Cont &&
		a.Node == b.Node && a.Cap == b.Cap && slices.Equal(a.Conts, b.Conts)
}

// checkReadOp holds what is read against the rules, and against the text that it is to have.
func checkReadOp(t *testing.T, s string) (impl.Op, bool) {
	t.Helper()
	got, ok := impl.ReadOp(s)
	if want, wantOk := readOpByRule(s); ok != wantOk || !sameOp(got, want) {
		t.Fatalf("ReadOp(%q): %+v, %v, want %+v, %v", s, got, ok, want, wantOk)
	}
	if ok && impl.OpText(got) != s {
		t.Fatalf("ReadOp(%q): %+v, of which the text is %q", s, got, impl.OpText(got))
	}
	return got, ok
}

// firstTree is what a cluster has ahead of a script.
func firstTree() []impl.Queue {
	return []impl.Queue{queue("root", "", 10000, 10000), queue("a", "root", 5000, 10000), queue("b", "root", 5000, 10000)}
}

// tale is a session as the document tells it, line by line.
type tale struct {
	c       impl.Cluster
	answers []string
}

func newTale() *tale {
	c, _ := clusterNewByRule(firstTree(), nil)
	return &tale{c: c}
}

var ruleWords = []string{"good", "noqueue", "noapp", "nonode", "nocont", "full", "wrong"}

func (s *tale) happens(e impl.Event) string {
	next, code := clusterDoByRule(s.c, e)
	s.c = next
	return ruleWords[code]
}

// orDashes is a list with something between two, or - for none.
func orDashes(between string, list []string) string {
	if len(list) == 0 {
		return "-"
	}
	return strings.Join(list, between)
}

func textsOfIds(ids []int) []string {
	var texts []string
	for _, id := range ids {
		texts = append(texts, strconv.Itoa(id))
	}
	return texts
}

func (s *tale) sync() string {
	ahead := len(s.c.Told)
	s.happens(synced())
	var texts []string
	for _, reply := range s.c.Told[ahead:] {
		text := "app " + strconv.Itoa(reply.App)
		if reply.App == 0 {
			text = "kill"
			for _, id := range reply.Kill {
				text += " " + strconv.Itoa(id)
			}
		}
		texts = append(texts, text)
	}
	return orDashes(";", texts)
}

func (s *tale) agent(name string, mem int, cpu int) string {
	agents := []impl.Agent{}
	for _, a := range s.c.Agents {
		if a.Name < name {
			agents = append(agents, agent(a.Name, a.Cap.Mem, a.Cap.Cpu))
		}
	}
	agents = append(agents, agent(name, mem, cpu))
	for _, a := range s.c.Agents {
		if a.Name >= name {
			agents = append(agents, agent(a.Name, a.Cap.Mem, a.Cap.Cpu))
		}
	}
	c, ok := clusterNewByRule(s.c.Manager.State.Queues, agents)
	if !ok {
		return "what"
	}
	s.c = c
	return "ok"
}

func (s *tale) due(name string) string {
	state := s.c.Manager.State
	if !slices.ContainsFunc(state.Queues, func(one impl.Queue) bool { return one.Name == name }) {
		return "what"
	}
	used, total := usedByRule(state, name), capsByRule(state)
	due, most := partByRule(state.Queues, name, total, dueOf), partByRule(state.Queues, name, total, mostOf)
	return fmt.Sprintf("%dx%d %dx%d %dx%d", used.Mem, used.Cpu, due.Mem, due.Cpu, most.Mem, most.Cpu)
}

var lineForms = []struct {
	form   *regexp.Regexp
	answer func(s *tale, part []string) string
}{
	{deskForm(`agent NAME NUMxNUM`), func(s *tale, part []string) string { return s.agent(part[1], num(part[2]), num(part[3])) }},
	{deskForm(`hear NUM`), func(s *tale, part []string) string { return s.happens(heard(num(part[1]))) }},
	{deskForm(`half NUM`), func(s *tale, part []string) string { return s.happens(half(num(part[1]))) }},
	{deskForm(`lose NUM`), func(s *tale, part []string) string { return s.happens(loss(num(part[1]))) }},
	{deskForm(`crash NUM`), func(s *tale, part []string) string { return s.happens(crash(num(part[1]))) }},
	{deskForm(`sync`), func(s *tale, part []string) string { return s.sync() }},
	{deskForm(`show`), func(s *tale, part []string) string {
		return strings.Join(strings.Split(clusterTextByRule(s.c), "\n"), ";")
	}},
	{deskForm(`order`), func(s *tale, part []string) string { return orDashes(" ", orderByRule(s.c.Manager.State)) }},
	{deskForm(`starving`), func(s *tale, part []string) string { return orDashes(" ", starvingByRule(s.c.Manager.State)) }},
	{deskForm(`due NAME`), func(s *tale, part []string) string { return s.due(part[1]) }},
	{deskForm(`victims NAME`), func(s *tale, part []string) string {
		return orDashes(" ", textsOfIds(victimsByRule(s.c.Manager.State, part[1])))
	}},
}

// answer is of a line that is not queues.
func (s *tale) answer(line string) string {
	if op, ok := readOpByRule(line); ok {
		return s.happens(operation(op))
	}
	for _, one := range lineForms {
		if part := one.form.FindStringSubmatch(line); part != nil {
			return one.answer(s, part)
		}
	}
	return "what"
}

func (s *tale) queues(lines []string) string {
	text := ""
	for _, line := range lines {
		text += line + "\n"
	}
	if wrong := wrongLine(text); wrong > 0 {
		return "line " + strconv.Itoa(wrong)
	}
	var q []impl.Queue
	for _, line := range lines {
		word := lineForm.FindStringSubmatch(line)
		q = append(q, queue(word[1], strings.TrimPrefix(word[2], "-"), num(word[3]), num(word[4])))
	}
	s.c, _ = clusterNewByRule(q, nil)
	return "ok"
}

// read goes on with lines that each have a newline. It answers behind how many of their bytes each answer stands.
func (s *tale) read(text string) []int {
	var places []int
	lines := strings.Split(text, "\n")
	for at := 0; at < len(lines)-1; at++ {
		if lines[at] != "queues" {
			s.answers = append(s.answers, s.answer(lines[at]))
		} else {
			behind := lines[at+1 : len(lines)-1]
			n := slices.Index(behind, "--")
			if n < 0 {
				n = len(behind)
			}
			s.answers = append(s.answers, s.queues(behind[:n]))
			at = min(at+n+1, len(lines)-2)
		}
		places = append(places, len(strings.Join(lines[:at+1], "\n"))+1)
	}
	return places
}

func isScript(text string) bool {
	return len(text) <= 10000 && strings.Count(text, "\n") <= 150 && (text == "" || text[len(text)-1] == '\n')
}

func (s *tale) told() string {
	text := ""
	for _, one := range s.answers {
		text += one + "\n"
	}
	return text
}

func deskByRule(text string) string {
	if !isScript(text) {
		return "long\n"
	}
	s := newTale()
	s.read(text)
	return s.told()
}

func checkDesk(t *testing.T, what string, text string) string {
	t.Helper()
	got := impl.Desk(text)
	if want := deskByRule(text); got != want {
		t.Fatalf("%s: Desk(%q):\n%q, want\n%q", what, text, got, want)
	}
	return got
}

// checkBeginnings is promise 11 of a script: cut off behind a newline, its answer is what the whole one's begins with.
// Where it is cut off within its queues, that goes for the answers ahead of these.
func checkBeginnings(t *testing.T, what string, text string) {
	t.Helper()
	whole := impl.Desk(text)
	answers := strings.SplitAfter(whole, "\n")
	places := newTale().read(text)
	if len(answers)-1 != len(places) {
		t.Fatalf("%s: Desk(%q): %q: %d answers, want %d", what, text, whole, len(answers)-1, len(places))
	}
	for cut := range len(text) + 1 {
		if cut > 0 && text[cut-1] != '\n' {
			continue
		}
		n, within := slices.BinarySearch(places, cut)
		if within {
			n++
		}
		begins := strings.Join(answers[:n], "")
		got := impl.Desk(text[:cut])
		switch isWhole := within || cut == 0; {
		case isWhole && got != begins:
			t.Fatalf("%s: Desk(%q): %q, of which that of %q begins with %q", what, text[:cut], got, text, begins)
		case !isWhole && (!strings.HasPrefix(got, begins) || strings.Count(got, "\n") != n+1):
			t.Fatalf("%s: Desk(%q), cut within queues: %q, want %q and one more", what, text[:cut], got, begins)
		}
	}
}

// checkSession is of what is said and answered by turns, each without its last newline.
func checkSession(t *testing.T, what string, turns ...string) {
	t.Helper()
	script, want := "", ""
	for i := 0; i < len(turns); i += 2 {
		script += turns[i] + "\n"
		want += turns[i+1] + "\n"
	}
	if got := checkDesk(t, what, script); got != want {
		said, told := strings.Split(got, "\n"), strings.Split(want, "\n")
		for i := range told {
			if i >= len(said) || said[i] != told[i] {
				t.Fatalf("%s: Desk(%q): answer %d: %q, want %q", what, script, i+1, said[min(i, len(said)-1)], told[i])
			}
		}
		t.Fatalf("%s: Desk(%q): %q, want %q", what, script, got, want)
	}
	checkBeginnings(t, what, script)
}

func TestMaxScript(t *testing.T) {
	if impl.MaxScript != 10000 {
		t.Error(impl.MaxScript)
	}
}

// rightOps have what an operation's text tells, at its edges.
func rightOps() []impl.Op {
	ops := []impl.Op{tick()}
	for _, name := range []string{"a", "0", "root", "abcdefghi9", "submit", "tick", "1x1", "01", "000"} {
		ops = append(ops, submit(name), serve(name), askFor(5, askOn(name, 0, 1, 2, 3)))
	}
	for _, n := range []int{0, 1, 9, 10, 1001, 100001, most - 1, most} {
		ops = append(ops, finish(n), free(n), askFor(n, ask(1, 1, 1)), askFor(1001, ask(n, 0, 1)), askFor(1001, ask(0, n, 1)), askFor(1001, ask(1, 1, n)), askFor(n, askOn("m", 0, n, n, n)))
	}
	return ops
}

func TestReadOp(t *testing.T) {
	for _, op := range rightOps() {
		if got, ok := checkReadOp(t, impl.OpText(op)); !ok || !sameOp(got, op) {
			t.Errorf("ReadOp(%q): %+v, %v", impl.OpText(op), got, ok)
		}
	}
	for text, want := range map[string]impl.Op{
		"submit a":          submit("a"),
		"finish 1001":       finish(1001),
		"finish 0":          finish(0),
		"finish 1000000000": finish(1000000000),
		"ask 1001 4x1 3":    askFor(1001, ask(4, 1, 3)),
		"ask 1001 4x1 3 m1": askFor(1001, askOn("m1", 0, 4, 1, 3)),
		"ask 0 0x0 0":       askFor(0, ask(0, 0, 0)),
		"ask 1 1000000000x1000000000 1000000000 0": askFor(1, askOn("0", 0, most, most, most)),
		"free 100001": free(100001),
		"tick":        tick(),
		"serve b":     serve("b"),
	} {
		if got, ok := checkReadOp(t, text); !ok || !sameOp(got, want) {
			t.Errorf("ReadOp(%q): %+v, %v", text, got, ok)
		}
	}
}

// What an operation has that its text does not tell does not come back; what has no right text is none.
func TestReadOpOfTheTextOfEachKind(t *testing.T) {
	s := taken()
	for _, kind := range kinds {
		op := wholeOp(s, kind)
		got, ok := checkReadOp(t, impl.OpText(op))
		if ok == (kind == impl.OpJoin || kind == impl.OpBeat) || ok && got.Kind != kind {
			t.Errorf("%+v: %+v, %v", op, got, ok)
		}
	}
	for _, op := range []impl.Op{
		join("m1", 1, 1), join("m1", 0, 0), join("m1", 9, 9, cont(100001, 1001, "m1", 1, 1)), join("", -1, 1), beat("m1"), beat(""), beat("tick"),
		submit(""), serve(""), submit("a b"), submit("A"), submit(" "), submit("a\n"), serve("abcdefghijk"), serve("-"),
		finish(-1), finish(most + 1), free(-1), free(most + 1), askFor(-1, ask(1, 1, 1)), askFor(most+1, ask(1, 1, 1)),
		askFor(1, ask(-1, 1, 1)), askFor(1, ask(1, -1, 1)), askFor(1, ask(most+1, 1, 1)), askFor(1, ask(1, most+1, 1)), askFor(1, ask(1, 1, -1)), askFor(1, ask(1, 1, most+1)),
		askFor(1, askOn("M", 0, 1, 1, 1)), askFor(1, askOn("a b", 0, 1, 1, 1)), askFor(1, askOn(" ", 0, 1, 1, 1)), askFor(1, askOn("abcdefghijk", 0, 1, 1, 1)),
		{Kind: -1}, {Kind: 8},
	} {
		if got, ok := checkReadOp(t, impl.OpText(op)); ok {
			t.Errorf("%+v: %+v", op, got)
		}
	}
}

// wrongOps are texts of no operation.
var wrongOps = []string{
	"", " ", "  ", "\n", "-", "--", "what", "x",
	// A word too few or too many, and blanks where none are wanted.
	"submit", "submit ", "submit  a", " submit a", "submit a ", "submit a b", "submit  ", "submita",
	"finish", "finish ", "finish  1", " finish 1", "finish 1 ", "finish 1 1", "finish1",
	"ask", "ask ", "ask 1", "ask 1 1x1", "ask 1 1x1 ", "ask 1 1x1 1 ", "ask 1 1x1 1  ", "ask 1 1x1 1  m1", "ask  1 1x1 1", "ask 1  1x1 1", "ask 1 1x1  1", " ask 1 1x1 1", "ask 1 1x1 1 m1 ", "ask 1 1x1 1 m1 m2", " 1 1x1 1", "ask 1x1 1",
	"free", "free ", "free  1", " free 1", "free 1 ", "free 1 2",
	"tick ", " tick", "tick 1", "tick tick", "tick a",
	"serve", "serve ", "serve  a", " serve a", "serve a ", "serve a b",
	// What is no blank.
	"submit\ta", "submit\na", "submit\x00a", "tick\n", "tick\x00", "tick\r", "finish\u00a01", "submit a\n", "free 1\n", "ask 1 1x1 1\n", "ask 1 1x1 1 m1\n",
	// Names.
	"submit A", "submit abcdefghijk", "submit -", "submit a-b", "submit é", "submit \xff", "serve A", "serve abcdefghijk", "serve root.a",
	"ask 1 1x1 1 M", "ask 1 1x1 1 -", "ask 1 1x1 1 abcdefghijk",
	// Numbers and amounts.
	"finish 01", "finish 00", "finish -1", "finish +1", "finish 1000000001", "finish 10000000000", "finish 18446744073709551617", "finish a", "finish 1a", "finish 0x1", "finish 1e3", "finish 1.", "finish -0",
	"free 01", "free 00", "free -1", "free +1", "free 1000000001", "free x",
	"ask 01 1x1 1", "ask -1 1x1 1", "ask 1000000001 1x1 1", "ask a 1x1 1", "ask 1 01x1 1", "ask 1 1x01 1", "ask 1 -1x1 1", "ask 1 1x-1 1", "ask 1 1000000001x1 1", "ask 1 1x1000000001 1", "ask 1 1 1", "ask 1 x 1", "ask 1 1x 1", "ask 1 x1 1", "ask 1 1x1x1 1", "ask 1 1X1 1", "ask 1 1 x1 1", "ask 1 11 1",
	"ask 1 1x1 01", "ask 1 1x1 -1", "ask 1 1x1 1000000001", "ask 1 1x1 a", "ask 1 1x1 1x1", "ask 1 1x1 m1",
	// Words that are none, or others'.
	"Submit a", "SUBMIT a", "TICK", "Tick", "submits a", "submi a", "asks 1 1x1 1", "Ask 1 1x1 1", "done 1", "app 1 a", "epoch",
	"beat m1", "beat", "beat ", "join m1 1x1", "join m1 1x1 1:1:1x1", "join m1", "join m1 1x1 1", "join 1 1x1 1 m1",
	"hear 0", "half 0", "lose 0", "crash 0", "sync", "show", "order", "starving", "due a", "victims a", "agent m1 1x1", "queues",
	"finish a", "free a", "submit 1 2 3", "serve 1 1x1 1",
}

func TestReadOpOfWhatIsNone(t *testing.T) {
	for _, text := range wrongOps {
		if op, ok := checkReadOp(t, text); ok || !sameOp(op, impl.Op{}) {
			t.Errorf("ReadOp(%q): %+v, %v", text, op, ok)
		}
	}
	for _, name := range wrongNames {
		for _, text := range []string{"submit " + name, "serve " + name, "ask 1 1x1 1 " + name} {
			if op, ok := checkReadOp(t, text); ok {
				t.Errorf("ReadOp(%q): %+v", text, op)
			}
		}
	}
	for _, n := range wrongNumbers {
		for _, text := range []string{"finish %d", "free %d", "ask %d 1x1 1", "ask 1 %dx1 1", "ask 1 1x%d 1", "ask 1 1x1 %d"} {
			if op, ok := checkReadOp(t, fmt.Sprintf(text, n)); ok {
				t.Errorf("ReadOp(%q): %+v", fmt.Sprintf(text, n), op)
			}
		}
	}
}

func TestReadOpByTheRules(t *testing.T) {
	r := rand.New(rand.NewSource(80))
	right, wrong := 0, 0
	for range 30000 {
		text := impl.OpText(*one(r, rightOps()))
		for range r.Intn(3) {
			if text != "" {
				text = changed(r, text)
			}
		}
		if _, ok := checkReadOp(t, text); ok {
			right++
		} else {
			wrong++
		}
		checkReadOp(t, anyText(r, 30))
	}
	if right < 10000 || wrong < 5000 {
		t.Errorf("%d right, %d wrong", right, wrong)
	}
}

func TestDeskOfNothing(t *testing.T) {
	if got := checkDesk(t, "nothing", ""); got != "" {
		t.Errorf("%q", got)
	}
	checkSession(t, "an empty line", "", "what")
	checkSession(t, "empty lines", "", "what", "", "what", "", "what")
}

func TestDeskOfNoScript(t *testing.T) {
	long := strings.Repeat("x", 10000)
	for _, text := range []string{
		"show", "x", " ", "\r", "\x00", "show\nshow", "show\n ", "\nx", "queues\nroot - 10000 10000\n--", "queues", "--",
		long, long + "x", long + "\n", long + long, "\n" + long, strings.Repeat("\n", 151), strings.Repeat("\n", 10000), strings.Repeat("\n", 10001),
		strings.Repeat("show\n", 151), "queues\n" + strings.Repeat("--\n", 150), strings.Repeat("show\n", 150) + "show", strings.Repeat("\n", 150) + " ",
	} {
		if got := checkDesk(t, "no script", text); got != "long\n" {
			t.Errorf("Desk(%q): %q", text, got)
		}
	}
}

func TestDeskAtMaxScript(t *testing.T) {
	line := strings.Repeat("x", 9999) + "\n"
	if got := checkDesk(t, "one line", line); got != "what\n" {
		t.Errorf("%q", got)
	}
	if got := checkDesk(t, "one line and a byte", "x"+line); got != "long\n" {
		t.Errorf("%q", got)
	}
	if got := checkDesk(t, "one line and a newline", line+"\n"); got != "long\n" {
		t.Errorf("%q", got)
	}
	// 100 lines of 100 bytes: each is a blank too many but for the first.
	text := strings.Repeat("tick"+strings.Repeat(" ", 95)+"\n", 99) + "submit a\n" + strings.Repeat("y", 90) + "\n"
	if got := checkDesk(t, "many lines", text); len(text) != 10000 || got != strings.Repeat("what\n", 99)+"good\nwhat\n" {
		t.Errorf("%d: %q", len(text), got)
	}
	if got := checkDesk(t, "many lines and a byte", "y"+text); got != "long\n" {
		t.Errorf("%q", got)
	}
}

func TestDeskAtMostLines(t *testing.T) {
	for _, n := range []int{1, 149, 150} {
		if got := checkDesk(t, "lines", strings.Repeat("tick\n", n)); got != strings.Repeat("good\n", n) {
			t.Errorf("%d: %q", n, got)
		}
		if got := checkDesk(t, "empty lines", strings.Repeat("\n", n)); got != strings.Repeat("what\n", n) {
			t.Errorf("%d: %q", n, got)
		}
	}
	if got := checkDesk(t, "one more", strings.Repeat("tick\n", 151)); got != "long\n" {
		t.Errorf("%q", got)
	}
	// The lines of queues count too, though one answer is theirs.
	block := "queues\nroot - 10000 10000\n--\n"
	if got := checkDesk(t, "queues", strings.Repeat(block, 50)); got != strings.Repeat("ok\n", 50) {
		t.Errorf("%q", got)
	}
	if got := checkDesk(t, "queues and one more", strings.Repeat(block, 50)+"show\n"); got != "long\n" {
		t.Errorf("%q", got)
	}
	if got := checkDesk(t, "all of them queues", "queues\nroot - 10000 10000\n"+strings.Repeat("x\n", 148)); got != "line 2\n" {
		t.Errorf("%q", got)
	}
}

func TestDeskBeginsWithItsQueues(t *testing.T) {
	checkSession(t, "the first queues",
		"show", "epoch 1 clock 0 apps 0 conts 0;",
		"order", "a b", "starving", "-",
		"due root", "0x0 0x0 0x0", "due a", "0x0 0x0 0x0", "due b", "0x0 0x0 0x0", "due c", "what",
		"agent m1 100x11", "ok", "due root", "0x0 0x0 0x0", "hear 0", "good",
		"due root", "0x0 100x11 100x11", "due a", "0x0 50x5 100x11", "due b", "0x0 50x5 100x11",
		"submit root", "noqueue", "submit a", "good", "submit b", "good", "submit c", "noqueue",
	)
}

const twoQueues = "queues\nr - 10000 10000\nx r 2500 5000\ny r 100 200\n--"

func TestDeskQueues(t *testing.T) {
	checkSession(t, "queues",
		twoQueues, "ok", "order", "x y", "submit a", "noqueue", "submit x", "good",
		"agent m1 1000x100", "ok", "hear 0", "good", "due x", "0x0 250x25 500x50", "due y", "0x0 10x1 20x2", "due r", "0x0 1000x100 1000x100", "due root", "what",
	)
	checkSession(t, "one queue", "queues\nroot - 10000 10000\n--", "ok", "submit root", "good", "order", "root", "submit a", "noqueue")
	checkSession(t, "-- at once", "queues\n--", "line 1", "order", "a b")
	checkSession(t, "-- at once, twice", "queues\n--", "line 1", "--", "what", "order", "a b")
	checkSession(t, "without queues", "--", "what", "root - 10000 10000", "what", "-- ", "what", "---", "what", "-", "what")
	checkSession(t, "at the end", "submit a", "good", twoQueues, "ok")
	checkSession(t, "twice", twoQueues, "ok", "queues\nroot - 10000 10000\nz root 1 1\n--", "ok", "order", "z", "submit x", "noqueue")
	checkSession(t, "with more words", "queues ", "what", " queues", "what", "queues a", "what", "queues root", "what", "Queues", "what", "queue", "what", "root - 10000 10000", "what", "--", "what")
	checkSession(t, "words of a script for names",
		"queues\nqueues - 10000 10000\nshow queues 1 1\n--", "ok", "order", "show", "show", "epoch 1 clock 0 apps 0 conts 0;", "submit show", "good", "due queues", "0x0 0x0 0x0")
}

func TestDeskQueuesWithoutAnEnd(t *testing.T) {
	checkSession(t, "nothing behind", "queues", "line 1")
	checkSession(t, "nothing behind, ahead something", "show", "epoch 1 clock 0 apps 0 conts 0;", "queues", "line 1")
	checkSession(t, "queues behind", "queues\nroot - 10000 10000\na root 1 1", "ok")
	checkSession(t, "all that stand behind", "queues\nroot - 10000 10000\nshow", "line 2")
	checkSession(t, "all that stand behind, right ones too", "queues\nx\nroot - 10000 10000\nshow\nsubmit a\nqueues", "line 1")
	checkSession(t, "an empty line", "queues\n", "line 1")
	checkSession(t, "an empty line behind", "queues\nroot - 10000 10000\n\n", "line 2")
	checkSession(t, "no end of its own", "queues\nroot - 10000 10000\n-- \n---\n --", "line 2")
	checkSession(t, "queues behind queues", "queues\nroot - 10000 10000\nqueues\nroot - 10000 10000\n--", "line 2", "order", "a b")
	checkSession(t, "an end ahead alone", "--", "what", "queues\nroot - 10000 10000", "ok")
}

func TestDeskQueuesThatAreNone(t *testing.T) {
	checkSession(t, "the first line", "queues\nroot - 1 1\n--", "line 1", "show", "epoch 1 clock 0 apps 0 conts 0;")
	checkSession(t, "the second line", "queues\nroot - 10000 10000\na root 2 1\nb root 1 1\n--", "line 2", "order", "a b")
	checkSession(t, "the line of the queues, not of the script", "tick", "good", "tick", "good", "queues\nroot - 10000 10000\na root 1 1\na root 1 1\n--", "line 3")
	for _, c := range wrongTexts {
		if !strings.HasSuffix(c.text, "\n") && c.text != "" {
			// Of a script each line has its end.
			continue
		}
		checkSession(t, "no queues", "queues\n"+c.text+"--", "line "+strconv.Itoa(c.line), "order", "a b")
	}
	many := "queues\n" + linesOf(chain(impl.MaxQueues))
	checkSession(t, "MaxQueues", many+"--", "ok")
	checkSession(t, "one more", many+"x "+numbered(0)+" 0 0\n--", "line 21", "order", "a b")
	// What was there stays there.
	checkSession(t, "all stays",
		"agent m1 10x10", "ok", "submit a", "good", "ask 1001 1x1 2", "good", "hear 0", "good", "hear 0", "good", "tick", "good", "submit b", "good",
		"queues\nx\nroot - 10000 10000\n--", "line 1", "queues\n--", "line 1",
		"show", "m1 100001:1001 100002:1001;epoch 1 clock 1 apps 2 conts 2;", "sync", "app 1001;app 1002")
}

// A new cluster has nothing of the old one.
func TestDeskQueuesInTheMidst(t *testing.T) {
	checkSession(t, "in the midst",
		"agent m1 10x10", "ok", "submit a", "good", "ask 1001 1x1 2", "good", "hear 0", "good", "hear 0", "good", "tick", "good", "sync", "app 1001", "submit b", "good", "crash 0", "good",
		"show", "m1 100001:1001 100002:1001;epoch 2 clock 0 apps 1 conts 0;",
		twoQueues, "ok", "show", "epoch 1 clock 0 apps 0 conts 0;", "hear 0", "nonode", "sync", "-", "finish 1001", "noapp", "free 100001", "nocont", "submit x", "good", "sync", "app 1001",
		"agent m2 1x1", "ok", "show", "m2;epoch 1 clock 0 apps 0 conts 0;",
	)
}

func TestDeskAgent(t *testing.T) {
	none := "epoch 1 clock 0 apps 0 conts 0;"
	checkSession(t, "ahead, between and behind",
		"agent m5 1x1", "ok", "show", "m5;"+none, "agent m1 2x2", "ok", "show", "m1;m5;"+none, "agent m9 3x3", "ok", "show", "m1;m5;m9;"+none,
		"agent m3 4x4", "ok", "agent m7 5x5", "ok", "agent m", "what", "agent m 6x6", "ok", "agent 9 0x0", "ok", "agent 10 0x0", "ok", "agent m10 7x7", "ok",
		"show", "10;9;m;m1;m10;m3;m5;m7;m9;"+none,
		"hear 0", "good", "hear 1", "good", "hear 2", "good", "due root", "0x0 6x6 6x6", "hear 3", "good", "hear 4", "good", "due root", "0x0 15x15 15x15", "hear 8", "good", "hear 9", "nonode", "due root", "0x0 18x18 18x18",
	)
	checkSession(t, "one that is there already",
		"agent m1 10x10", "ok", "submit a", "good", "agent m1 10x10", "what", "agent m1 5x5", "what", "show", "m1;epoch 1 clock 0 apps 1 conts 0;",
		"agent m2 1x1", "ok", "submit a", "good", "agent m2 2x2", "what", "agent m1 1x1", "what", "show", "m1;m2;epoch 1 clock 0 apps 1 conts 0;", "hear 0", "good", "due root", "0x0 10x10 10x10",
	)
	checkSession(t, "those that are none",
		"agent M 1x1", "what", "agent abcdefghijk 1x1", "what", "agent abcdefghij 1x1", "ok", "agent  1x1", "what", "agent m 1", "what", "agent m 1x", "what", "agent m x1", "what", "agent m x", "what",
		"agent m 01x1", "what", "agent m 1x01", "what", "agent m -1x1", "what", "agent m 1x-1", "what", "agent m 1000000001x1", "what", "agent m 1x1000000001", "what", "agent m 1x1x1", "what", "agent m 1 1", "what",
		"agent", "what", "agent ", "what", "agent m", "what", "agent 1x1", "what", "agent m  1x1", "what", "agent m 1x1 ", "what", " agent m 1x1", "what", "agent m 1x1 m", "what", "Agent m 1x1", "what",
		"agent m-1 1x1", "what", "agent - 1x1", "what", "agent é 1x1", "what",
		"show", "abcdefghij;"+none, "agent m 1000000000x1000000000", "ok", "agent n 0x0", "ok", "agent agent 1x1", "ok", "show", "abcdefghij;agent;m;n;"+none,
	)
	checkSession(t, "of other queues", twoQueues, "ok", "agent m1 100x100", "ok", "order", "x y", "submit x", "good", "submit a", "noqueue", "agent m2 1x1", "ok", "order", "x y")
}

func TestDeskOfTooManyAgents(t *testing.T) {
	var turns []string
	names := ""
	for i := range impl.MaxMachines {
		turns = append(turns, "agent "+nodeName(i)+" 5x5", "ok")
		names += nodeName(i) + ";"
	}
	turns = append(turns, "submit a", "good", "tick", "good")
	for _, name := range []string{"a", "m1005", "z"} {
		turns = append(turns, "agent "+name+" 1x1", "what")
	}
	turns = append(turns, "show", names+"epoch 1 clock 1 apps 1 conts 0;", "hear 19", "good", "hear 20", "nonode")
	checkSession(t, "one too many", turns...)
}

// One more begins all anew, with the agents that are there, of which none runs anything.
func TestDeskOfAnAgentAheadOfWhichContainersRun(t *testing.T) {
	checkSession(t, "containers run",
		"agent m1 10x10", "ok", "submit a", "good", "ask 1001 1x1 3", "good", "hear 0", "good", "hear 0", "good", "tick", "good", "sync", "app 1001", "submit b", "good", "crash 100", "good", "hear 0", "good",
		"show", "m1 100001:1001 100002:1001 100003:1001;epoch 2 clock 0 apps 2 conts 3;",
		"agent m1 10x10", "what", "agent m2 x", "what",
		"show", "m1 100001:1001 100002:1001 100003:1001;epoch 2 clock 0 apps 2 conts 3;",
		"agent m0 5x5", "ok", "show", "m0;m1;epoch 1 clock 0 apps 0 conts 0;", "due root", "0x0 0x0 0x0", "sync", "-", "finish 1001", "noapp",
		"hear 1", "good", "due root", "0x0 10x10 10x10", "hear 0", "good", "due root", "0x0 15x15 15x15",
		"submit b", "good", "ask 1001 1x1 1", "good", "hear 0", "good", "show", "m0 100001:1001;m1;epoch 1 clock 0 apps 1 conts 1;", "sync", "app 1001",
	)
}

func TestDeskOperations(t *testing.T) {
	checkSession(t, "each code's word",
		"submit a", "good", "submit root", "noqueue", "submit z", "noqueue", "submit A", "what",
		"finish 1002", "noapp", "finish 0", "noapp", "finish 1000000000", "noapp", "finish 1000000001", "what",
		"ask 1001 1x1 1", "good", "ask 1001 1x1 1000 m1", "good", "ask 1002 1x1 1", "noapp", "ask 0 1x1 1", "noapp",
		"ask 1001 0x0 1", "wrong", "ask 1001 1x1 0", "wrong", "ask 1001 1x1 1001", "wrong", "ask 1001 1x1 1000000000", "wrong", "ask 1002 0x0 0", "noapp", "ask 1001 1x1 1 M", "what", "ask 1001 1 1", "what",
		"free 100001", "nocont", "free 0", "nocont", "free 01", "what", "agent m1 9x9", "ok",
		"submit a", "good", "ask 1001 1x1 2", "good", "hear 0", "good", "hear 0", "good", "free 100001", "good", "free 100001", "nocont", "free 100002", "good",
		"tick", "good", "serve a", "good", "serve b", "good", "serve root", "noqueue", "serve z", "noqueue", "serve -", "what",
		"finish 1001", "good", "finish 1001", "noapp", "ask 1001 1x1 1", "noapp",
		"join m1 1x1", "what", "beat m1", "what", "join m1 1x1 1:1:1x1", "what",
	)
	var apps []string
	for range impl.MaxApps {
		apps = append(apps, "submit a", "good")
	}
	checkSession(t, "MaxApps", append(apps, "submit b", "full", "submit z", "noqueue", "finish 1040", "good", "submit b", "good", "submit a", "full", "ask 1041 1x1 1", "good")...)
	asks := []string{"submit a", "good"}
	for range impl.MaxAsks {
		asks = append(asks, "ask 1001 1x1 1", "good")
	}
	checkSession(t, "MaxAsks", append(asks, "ask 1001 1x1 1", "full", "ask 1001 0x0 1", "wrong", "ask 1002 1x1 1", "noapp")...)
}

// Lines of which no OPERATION is, though they look like one.
func TestDeskOfNoOperations(t *testing.T) {
	for _, text := range wrongOps {
		if strings.Contains(text, "\n") || deskForm(`queues|agent NAME NUMxNUM|(hear|half|lose|crash) NUM|sync|show|order|starving|(due|victims) NAME`).MatchString(text) {
			continue
		}
		checkSession(t, "none", "submit a", "good", text, "what", "show", "epoch 1 clock 0 apps 1 conts 0;")
	}
}

func TestDeskHear(t *testing.T) {
	checkSession(t, "hear, half and lose",
		"hear 0", "nonode", "half 0", "nonode", "lose 0", "nonode",
		"agent m1 3x3", "ok", "agent m2 9x9", "ok",
		"submit a", "good", "ask 1001 1x1 6", "good",
		"hear 0", "good", "show", "m1;m2;epoch 1 clock 0 apps 1 conts 0;",
		"half 0", "good", "show", "m1;m2;epoch 1 clock 0 apps 1 conts 3;",
		"hear 0", "good", "show", "m1 100001:1001 100002:1001 100003:1001;m2;epoch 1 clock 0 apps 1 conts 3;",
		"half 1", "good", "due root", "3x3 12x12 12x12", "half 1", "good", "show", "m1 100001:1001 100002:1001 100003:1001;m2;epoch 1 clock 0 apps 1 conts 6;",
		"lose 0", "good", "show", "m1;m2;epoch 1 clock 0 apps 1 conts 6;", "hear 1", "good", "hear 0", "good",
		"show", "m1 100001:1001 100002:1001 100003:1001;m2 100004:1001 100005:1001 100006:1001;epoch 1 clock 0 apps 1 conts 6;",
		"hear 2", "nonode", "half 2", "nonode", "lose 2", "nonode", "hear 1000000000", "nonode", "half 1000000000", "nonode", "lose 1000000000", "nonode",
		"lose 1", "good", "show", "m1 100001:1001 100002:1001 100003:1001;m2;epoch 1 clock 0 apps 1 conts 6;",
	)
	for _, word := range []string{"hear", "half", "lose", "crash"} {
		turns := []string{"agent m1 3x3", "ok", word, "what"}
		for _, wrong := range []string{"", " 0", "0 ", "00", "01", "-1", "-0", "+0", "1000000001", "18446744073709551616", "a", "0x0", "m1", "0 0", "0.", "\x00", "\xff", "٠"} {
			turns = append(turns, word+" "+wrong, "what")
		}
		turns = append(turns, " "+word+" 0", "what", word+"0", "what", strings.ToUpper(word)+" 0", "what")
		checkSession(t, word, append(turns, "show", "m1;epoch 1 clock 0 apps 0 conts 0;", word+" 0", "good")...)
	}
	// All Caps together would be no amount: that one can't join.
	checkSession(t, "full", "agent m1 1000000000x1", "ok", "agent m2 1x1", "ok", "hear 0", "good", "hear 1", "full", "half 1", "full", "lose 1", "good", "due root", "0x0 1000000000x1 1000000000x1")
}

func TestDeskCrash(t *testing.T) {
	submits := []string{"submit a", "good", "sync", "app 1001", "submit b", "good", "submit a", "good", "tick", "good"}
	one := len(logOf(recApp(1002, "b")))
	for keep, apps := range map[int]int{0: 1, 1: 1, one - 1: 1, one: 2, one + 1: 2, 2*one - 1: 2, 2 * one: 3, 2*one + 1: 3, 500: 3, most: 3} {
		checkSession(t, "crash", append(submits, "crash "+strconv.Itoa(keep), "good", "show", fmt.Sprintf("epoch 2 clock 0 apps %d conts 0;", apps), "sync", "-", "submit a", "good", "sync", "app 2001")...)
	}
	checkSession(t, "crash upon crash",
		"crash 0", "good", "crash 0", "good", "crash 1000000000", "good", "show", "epoch 4 clock 0 apps 0 conts 0;", "submit a", "good", "sync", "app 4001")
	checkSession(t, "what runs goes on",
		"agent m1 9x9", "ok", "submit a", "good", "sync", "app 1001", "ask 1001 1x1 2", "good", "hear 0", "good", "hear 0", "good", "crash 0", "good",
		"show", "m1 100001:1001 100002:1001;epoch 2 clock 0 apps 1 conts 0;", "hear 0", "good", "show", "m1 100001:1001 100002:1001;epoch 2 clock 0 apps 1 conts 2;",
		"finish 1001", "good", "sync", "kill 100001 100002", "hear 0", "good", "show", "m1;epoch 2 clock 0 apps 0 conts 0;")
}

func TestDeskSync(t *testing.T) {
	checkSession(t, "nothing waits", "sync", "-", "sync", "-", "tick", "good", "sync", "-", "submit z", "noqueue", "sync", "-")
	checkSession(t, "an application told", "submit a", "good", "sync", "app 1001", "sync", "-", "submit b", "good", "sync", "app 1002", "sync", "-")
	checkSession(t, "a finish that kills nothing", "submit a", "good", "sync", "app 1001", "finish 1001", "good", "sync", "kill", "sync", "-")
	checkSession(t, "a finish that kills one",
		"agent m1 9x9", "ok", "submit a", "good", "ask 1001 1x1 1", "good", "hear 0", "good", "hear 0", "good", "sync", "app 1001", "finish 1001", "good", "sync", "kill 100001", "sync", "-")
	checkSession(t, "several replies",
		"agent m1 9x9", "ok", "submit a", "good", "submit b", "good", "submit a", "good", "ask 1002 1x1 3", "good", "ask 1001 2x2 1", "good", "hear 0", "good", "hear 0", "good", "hear 0", "good",
		"finish 1002", "good", "finish 1003", "good", "submit b", "good", "finish 1001", "good",
		"sync", "app 1001;app 1002;app 1003;kill 100002 100003 100004;kill;app 1004;kill 100001", "sync", "-")
	checkSession(t, "kills of nothing alone", "submit a", "good", "submit a", "good", "sync", "app 1001;app 1002", "finish 1001", "good", "finish 1002", "good", "sync", "kill;kill")
	checkSession(t, "lost ahead of it", "submit a", "good", "crash 0", "good", "sync", "-", "submit a", "good", "sync", "app 2001")
	checkSession(t, "with more words", "submit a", "good", "sync ", "what", "sync 0", "what", " sync", "what", "Sync", "what", "sync", "app 1001")
}

func TestDeskShows(t *testing.T) {
	checkSession(t, "none", "show", "epoch 1 clock 0 apps 0 conts 0;", "order", "a b", "starving", "-", "victims a", "-", "victims b", "-", "due a", "0x0 0x0 0x0")
	checkSession(t, "order and starving of many",
		"queues\nr - 10000 10000\nd r 1000 10000\nc r 2000 10000\ne r 7000 10000\na e 5000 5000\nb e 5000 5000\n--", "ok", "agent m1 100x100", "ok", "hear 0", "good",
		"order", "a b c d", "starving", "-",
		"submit d", "good", "ask 1001 10x10 1", "good", "starving", "d", "hear 0", "good", "order", "a b c d", "starving", "-",
		"ask 1001 1x1 1", "good", "starving", "-", "hear 0", "good", "submit c", "good", "ask 1002 2x2 1", "good", "submit b", "good", "ask 1003 100x1 1", "good", "submit a", "good", "ask 1004 1x1 1 m9", "good",
		"starving", "a b c", "hear 0", "good", "show", "m1 100001:1001 100002:1001 100003:1002;epoch 1 clock 0 apps 4 conts 3;", "order", "a b c d", "starving", "a b",
		"due d", "11x11 10x10 100x100", "due c", "2x2 20x20 100x100", "due e", "0x0 70x70 100x100", "due a", "0x0 35x35 50x50", "due r", "13x13 100x100 100x100", "due z", "what", "due -", "what",
	)
	for _, word := range []string{"show", "order", "starving", "sync", "tick", "queues"} {
		checkSession(t, word, word+" ", "what", " "+word, "what", word+" a", "what", word+" 0", "what", word+word, "what", strings.ToUpper(word), "what", "show", "epoch 1 clock 0 apps 0 conts 0;")
	}
	for _, word := range []string{"due", "victims"} {
		checkSession(t, word, word, "what", word+" ", "what", word+"  a", "what", word+" a ", "what", " "+word+" a", "what", word+" a b", "what", word+" A", "what", word+" abcdefghijk", "what", word+" -", "what", word+" a\r", "what", word+" \x00", "what")
	}
}

func TestDeskVictims(t *testing.T) {
	checkSession(t, "of none and of many",
		"agent m1 10x10", "ok", "agent m2 10x10", "ok", "submit a", "good", "ask 1001 2x2 10", "good", "hear 0", "good", "hear 1", "good", "hear 0", "good", "hear 1", "good", "hear 0", "good", "hear 1", "good",
		"due a", "20x20 10x10 20x20", "victims b", "-", "victims a", "-", "starving", "-", "serve b", "good",
		"submit b", "good", "ask 1002 3x3 2", "good", "starving", "b", "victims b", "100010 100009 100008", "victims a", "-", "victims root", "-", "victims z", "-", "victims B", "what",
		"serve a", "good", "show", "m1 100001:1001 100002:1001 100003:1001 100007:1001 100008:1001;m2 100004:1001 100005:1001 100006:1001 100009:1001 100010:1001;epoch 1 clock 0 apps 2 conts 10;",
		"serve b", "good", "victims b", "100007 100006", "show", "m1 100001:1001 100002:1001 100003:1001 100007:1001 100008:1001;m2 100004:1001 100005:1001 100006:1001 100009:1001 100010:1001;epoch 1 clock 0 apps 2 conts 7;",
		"hear 1", "good", "due b", "3x3 10x10 20x20", "victims b", "100007 100006", "show", "m1 100001:1001 100002:1001 100003:1001 100007:1001 100008:1001;m2 100004:1001 100005:1001 100006:1001 100011:1002;epoch 1 clock 0 apps 2 conts 8;",
	)
}

// someAsk is of the last application, and now and then for more than there may be, so that its asks pile up.
func (s *tale) someAsk(r *rand.Rand) string {
	id := s.c.Manager.State.Next - 1
	res := *one(r, []string{"1x1", "2x1", "0x3", "900x900", "900x900", "0x0"})
	return "ask " + strconv.Itoa(id) + " " + res + " " + strconv.Itoa(*one(r, []int{1, 2, 3, 3, 0, 1000, 1001})) + *one(r, []string{"", "", " " + nodeName(r.Intn(4))}) + "\n"
}

// someLines is what comes next in a session: most of it is of what is there.
func (s *tale) someLines(r *rand.Rand) string {
	state := s.c.Manager.State
	at := strconv.Itoa(r.Intn(len(s.c.Agents) + 1))
	if len(s.c.Agents) > 0 && r.Intn(20) > 0 {
		at = strconv.Itoa(r.Intn(len(s.c.Agents)))
	}
	switch n := r.Intn(80); {
	case n < 26:
		return textByRule(someOperation(r, state)) + "\n"
	case n < 46:
		return "hear " + at + "\n"
	case n < 49:
		return "half " + at + "\n"
	case n < 50:
		return "lose " + at + "\n"
	case n < 54:
		return "sync\n"
	case n < 55:
		return "crash " + strconv.Itoa(*one(r, []int{0, 0, r.Intn(60), most})) + "\n"
	case n < 59:
		return *one(r, []string{"show", "order", "starving"}) + "\n"
	case n < 65:
		return *one(r, []string{"due ", "victims "}) + someName(r, leavesOf(state.Queues)) + "\n"
	case n < 66 && (len(s.c.Agents) < 1 || r.Intn(6) == 0):
		return "agent " + nodeName(r.Intn(9)) + " " + *one(r, []string{"20x20", "5x40", "1000000000x9"}) + "\n"
	case n < 67 && r.Intn(6) == 0:
		return "queues\n" + linesOf(flatTree(r)) + "--\n"
	case n < 68 && r.Intn(3) == 0:
		return "queues\n" + changed(r, linesOf(flatTree(r))) + "\n--\n"
	case n < 70:
		return textByRule(someOp(r, state)) + "\n"
	case n < 71:
		return *one(r, []string{"", "--", "queues ", "what", "x", "root - 10000 10000"}) + "\n"
	case n < 72:
		return changed(r, textByRule(someOperation(r, state))) + "\n"
	}
	return s.someAsk(r)
}

// someScript has at most so many lines. Now and then its last queues have no end.
func someScript(r *rand.Rand, lines int) string {
	s, text := newTale(), ""
	if r.Intn(2) == 0 {
		text = "queues\n" + linesOf(flatTree(r)) + "--\n"
	}
	for i := range 1 + r.Intn(3) {
		text += "agent " + nodeName(3-i) + " " + strconv.Itoa(10+r.Intn(30)) + "x" + strconv.Itoa(10+r.Intn(30)) + "\n"
	}
	s.read(text)
	for range lines {
		more := s.someLines(r)
		if strings.Count(text+more, "\n") > lines {
			break
		}
		s.read(more)
		text += more
	}
	if r.Intn(6) == 0 {
		text += "queues\n" + linesOf(flatTree(r))
	}
	return text
}

// wordsIn counts what answers begin with; a list of Ids is victims, one of several containers that run is shown.
func wordsIn(answers string, has map[string]int) {
	for _, answer := range strings.Split(answers, "\n") {
		word, _, _ := strings.Cut(answer, " ")
		has[word]++
		for what, form := range answerForms {
			if form.MatchString(answer) {
				has[what]++
			}
		}
	}
}

var answerForms = map[string]*regexp.Regexp{
	"several replies": regexp.MustCompile(`\A(app|kill).*;(app|kill)`),
	"kill of nothing": regexp.MustCompile(`(\A|;)kill(;|\z)`),
	"kill of several": regexp.MustCompile(`(\A|;)kill \d+ \d+`),
	"victims":         regexp.MustCompile(`\A\d{6} \d{6}`),
	"containers":      regexp.MustCompile(`:\d+ \d+:\d+.* conts [1-9]`),
	"used":            regexp.MustCompile(`\A[1-9]\d*x[1-9]\d* \d+x\d+ \d+x\d+\z`),
	"many in order":   regexp.MustCompile(`\Aq\d( q\d){2}`),
}

func TestDeskByTheRules(t *testing.T) {
	r := rand.New(rand.NewSource(81))
	has := map[string]int{}
	for range 250 {
		wordsIn(checkDesk(t, "some", someScript(r, 140)), has)
	}
	for _, word := range slices.Concat(ruleWords, []string{"ok", "what", "line", "app", "kill", "-"}, slices.Collect(maps.Keys(answerForms))) {
		if has[word] < 20 {
			t.Errorf("%s: %d", word, has[word])
		}
	}
}

// Promise 11.
func TestWhatIsToldBeginsWithWhatIsToldOfTheBeginning(t *testing.T) {
	r := rand.New(rand.NewSource(82))
	answered := 0
	for range 60 {
		text := someScript(r, 60)
		answered += strings.Count(impl.Desk(text), "\n")
		checkBeginnings(t, "some", text)
		// What comes behind is of no matter to what stands ahead, but for queues that have no end.
		more := someScript(r, 60)
		if ahead, all := impl.Desk(text+"--\n"), impl.Desk(text+"--\n"+more); !strings.HasPrefix(all, ahead) {
			t.Fatalf("Desk(%q): %q, and with %q: %q", text+"--\n", ahead, more, all)
		}
	}
	if answered < 2000 {
		t.Errorf("%d answers", answered)
	}
	for what, text := range map[string]string{
		"nothing":           "",
		"150 lines":         strings.Repeat("tick\n", 148) + "show\nsync\n",
		"queues at the end": "submit a\nsync\nqueues\nroot - 10000 10000\na root 1 1\n--\n",
		"queues, no end":    "submit a\nsync\nqueues\nroot - 10000 10000\na root 1 1\n",
		"queues, no queues": "submit a\nqueues\nx\nshow\n--\nsync\n",
		"queues, nothing":   "submit a\nsync\nqueues\n",
		"only queues":       "queues\nroot - 10000 10000\n--\nqueues\n--\nqueues\n\n--\n",
	} {
		checkBeginnings(t, what, text)
	}
}

// A session at all limits: as many agents, applications and containers as 150 lines have room for.
func TestDeskAtAllLimits(t *testing.T) {
	text := ""
	for i := range impl.MaxMachines {
		text += "agent " + nodeName(i) + " 10x10\n"
	}
	for i := range 20 {
		text += "submit " + []string{"a", "b"}[i%2] + "\nask " + strconv.Itoa(1001+i) + " 1x1 1000\n"
	}
	for i := range 4 * impl.MaxMachines {
		text += "hear " + strconv.Itoa(i%impl.MaxMachines) + "\n"
	}
	text += "show\nsync\nvictims a\ndue a\ndue b\norder\nstarving\ncrash 0\n"
	got := checkDesk(t, "all limits", text)
	if !strings.Contains(got, ";epoch 1 clock 0 apps 20 conts 150;\n") || strings.Count(text, "\n") != 148 {
		t.Errorf("%d lines: %q", strings.Count(text, "\n"), got)
	}
}

func TestDeskAnswersAtAnyBytes(t *testing.T) {
	r := rand.New(rand.NewSource(83))
	words := []string{"queues", "--", "agent", "submit", "finish", "ask", "free", "tick", "serve", "hear", "half", "lose", "crash", "sync", "show", "order", "starving", "due", "victims", "join", "beat",
		"a", "b", "root", "m1", "m2", "0", "1", "1001", "100001", "1x1", "10x10", "-", "10000", "01", "1000000000", "1000000001", "", "A", "\x00", "\xff"}
	for range 3000 {
		checkDesk(t, "any bytes", anyText(r, 200))
		checkDesk(t, "any bytes, and an end", anyText(r, 200)+"\n")
		// Words of a script in any order come nearer to what is right.
		text := ""
		for range r.Intn(60) {
			text += *one(r, words) + *one(r, []string{" ", " ", "\n"})
		}
		checkDesk(t, "any words", text)
		checkDesk(t, "any words, and an end", text+"\n")
	}
	for range 300 {
		text := someScript(r, 40)
		if text == "" {
			continue
		}
		checkDesk(t, "changed", changed(r, text))
		checkDesk(t, "cut", text[:r.Intn(len(text))])
	}
	for _, c := range []string{"\x00", "\n", " ", "-", "--\n", "queues\n", "queues\n--\n", "show\n", "\xff", "tick\n"} {
		for _, n := range []int{1, 49, 150, 151, 5000, 10000, 10001, 1 << 20} {
			checkDesk(t, "long", strings.Repeat(c, n))
			checkReadOp(t, strings.Repeat(c, n))
		}
	}
}

// What is handed back has memory of its own, though its names were read out of what was handed in.
func TestDeskHandsBackNewTexts(t *testing.T) {
	for _, text := range []string{"", "\n", "show\n", "agent m1 1x1\nshow\n", "queues\nroot - 10000 10000\n--\norder\n", "submit a\norder\nsync\n", "-", "x"} {
		text = strings.Clone(text)
		if got := impl.Desk(text); inside(got, text) || inside(text, got) {
			t.Errorf("Desk(%q) has the memory of what was handed in", text)
		}
	}
	for _, text := range []string{"submit queue", "serve queue", "ask 1 1x1 1 node"} {
		text = strings.Clone(text)
		if op, ok := impl.ReadOp(text); !ok || inside(op.Queue, text) || inside(op.Ask.Node, text) {
			t.Errorf("ReadOp(%q): %+v, %v has the memory of what was handed in", text, op, ok)
		}
	}
}

func TestDesksKeepNothing(t *testing.T) {
	r := rand.New(rand.NewSource(84))
	for range 60 {
		text, other := someScript(r, 60), someScript(r, 60)
		kept := strings.Clone(text)
		first := impl.Desk(text)
		impl.Desk(other)
		impl.ReadOp(other)
		if again := impl.Desk(text); again != first || text != kept {
			t.Fatalf("Desk(%q): %q, and then %q", kept, first, again)
		}
	}
}

func TestDesksAreAskedByManyAtOnce(t *testing.T) {
	r := rand.New(rand.NewSource(85))
	for range 10 {
		text := someScript(r, 60)
		want := deskByRule(text)
		var all sync.WaitGroup
		for range 8 {
			all.Go(func() {
				if got := impl.Desk(text); got != want {
					t.Errorf("Desk(%q): %q, want %q", text, got, want)
				}
			})
		}
		all.Wait()
	}
}
