package tests

import (
	"math"
	"math/rand"
	"regexp"
	"slices"
	"strconv"
	"strings"
	"testing"

	"loop.example/g00275/impl"
)

const top = 10000

var wrongPoints = []int{-1, -top, top + 1, 2 * top, most, most + 1, 1 << 32, 1<<32 + 5, math.MinInt, math.MinInt + 1, math.MaxInt - 1, math.MaxInt}

func queue(name string, parent string, due int, most int) impl.Queue {
	return impl.Queue{Name: name, Parent: parent, Due: due, Most: most}
}

// sampleTree is three deep; shares of its shares do not come out even.
func sampleTree() []impl.Queue {
	return []impl.Queue{
		queue("root", "", top, top), queue("a", "root", 3333, 6667), queue("b", "root", 6667, 9999),
		queue("b1", "b", 3333, 3334), queue("b2", "b", 1, top), queue("b11", "b1", 9999, 9999), queue("c", "root", 0, 0),
	}
}

func numbered(i int) string {
	return "q" + strconv.Itoa(i)
}

// chain is n queues of which each is the next one's parent.
func chain(n int) []impl.Queue {
	q := []impl.Queue{queue("q0", "", top, top)}
	for i := 1; i < n; i++ {
		q = append(q, queue(numbered(i), numbered(i-1), top-i, top))
	}
	return q
}

// fan is n queues of which the first is the parent of all others.
func fan(n int, due int) []impl.Queue {
	q := []impl.Queue{queue("q0", "", top, top)}
	for i := 1; i < n; i++ {
		q = append(q, queue(numbered(i), "q0", due, top))
	}
	return q
}

// with is the sample tree, with other queues behind it.
func with(more ...impl.Queue) []impl.Queue {
	return append(sampleTree(), more...)
}

// under is a first queue, and others behind it.
func under(more ...impl.Queue) []impl.Queue {
	return append([]impl.Queue{queue("r", "", top, top)}, more...)
}

func rightTrees() map[string][]impl.Queue {
	return map[string][]impl.Queue{
		"the first one alone":                  under(),
		"the sample":                           sampleTree(),
		"a name of 1 and one of 10 bytes":      {queue("0", "", top, top), queue("abcdefghi9", "0", 1, 1)},
		"all letters and digits in names":      {queue("abcdefghij", "", top, top), queue("klmnopqrst", "abcdefghij", 0, 0), queue("uvwxyz0123", "abcdefghij", 0, 0), queue("456789", "uvwxyz0123", 0, 0)},
		"MaxQueues beside each other":          fan(impl.MaxQueues, 526),
		"MaxQueues below each other":           chain(impl.MaxQueues),
		"Due and Most 0":                       under(queue("a", "r", 0, 0)),
		"Due and Most 1":                       under(queue("a", "r", 1, 1)),
		"Due and Most 10000":                   under(queue("a", "r", top, top)),
		"Due and Most 9999":                    under(queue("a", "r", top-1, top-1)),
		"Due 0 and Most 10000":                 under(queue("a", "r", 0, top)),
		"Due one below Most":                   under(queue("a", "r", 4999, 5000)),
		"kids due all":                         under(queue("a", "r", 6000, top), queue("b", "r", 4000, top)),
		"three kids due all":                   under(queue("a", "r", 3333, 3333), queue("b", "r", 3333, 3333), queue("c", "r", 3334, 3334)),
		"a kid due all beside one due none":    under(queue("a", "r", 0, 1), queue("b", "r", top, top), queue("c", "r", 0, top)),
		"kids due all, of two parents":         under(queue("a", "r", top, top), queue("b", "a", 5000, top), queue("c", "a", 5000, top), queue("d", "b", 1, top), queue("e", "b", 9999, top)),
		"kids whose Most is together more":     under(queue("a", "r", 1, top), queue("b", "r", 1, top), queue("c", "r", 1, top)),
		"kids of one that is due nothing":      under(queue("a", "r", 0, 0), queue("b", "a", top, top)),
		"kids not beside each other":           under(queue("a", "r", 1, 1), queue("a1", "a", 1, 1), queue("b", "r", 1, 1), queue("a2", "a", 1, 1), queue("b1", "b", 1, 1)),
		"names that begin alike":               under(queue("r1", "r", 1, 1), queue("r11", "r1", 1, 1), queue("r111", "r", 1, 1)),
		"names descending":                     {queue("z", "", top, top), queue("y", "z", 1, 1), queue("x", "y", 1, 1), queue("a", "z", 1, 1)},
		"a name that is a number":              {queue("10000", "", top, top), queue("0", "10000", 0, 0), queue("00", "0", 0, 0)},
		"a parent that is itself a late queue": under(queue("a", "r", 1, 1), queue("b", "a", 1, 1), queue("c", "b", 1, 1), queue("d", "c", 1, 1)),
	}
}

func wrongTrees() map[string][]impl.Queue {
	out := map[string][]impl.Queue{
		"no queue":                       {},
		"one more than MaxQueues":        chain(impl.MaxQueues + 1),
		"one more, beside each other":    fan(impl.MaxQueues+1, 0),
		"many more":                      fan(1000, 0),
		"an empty name":                  {queue("", "", top, top)},
		"an empty name behind":           under(queue("", "r", 1, 1)),
		"a name of 11 bytes":             {queue("abcdefghijk", "", top, top)},
		"a name of 11 bytes behind":      under(queue("abcdefghijk", "r", 1, 1)),
		"two names alike":                under(queue("a", "r", 1, 1), queue("a", "r", 1, 1)),
		"two names alike, below another": under(queue("a", "r", 1, 1), queue("b", "r", 1, 1), queue("a", "b", 1, 1)),
		"the first name again":           under(queue("r", "r", 1, 1)),
		"a first one with a parent":      {queue("a", "r", top, top)},
		"a first one that is its own":    {queue("r", "r", top, top)},
		"a first one below the second":   {queue("a", "r", top, top), queue("r", "", top, top)},
		"a first one told by -":          {queue("r", "-", top, top)},
		"another one without a parent":   under(queue("a", "", 1, 1)),
		"another one like the first":     under(queue("a", "", top, top)),
		"a parent told by -":             under(queue("a", "-", 1, 1)),
		"a parent that is not there":     under(queue("a", "b", 1, 1)),
		"a parent that comes behind":     under(queue("a", "b", 1, 1), queue("b", "r", 1, 1)),
		"two that are each other's":      under(queue("a", "b", 1, 1), queue("b", "a", 1, 1)),
		"one that is its own parent":     under(queue("a", "a", 1, 1)),
		"a parent in great letters":      under(queue("a", "R", 1, 1)),
		"a parent that begins alike":     under(queue("a", "r ", 1, 1)),
		"Due above Most":                 under(queue("a", "r", 5001, 5000)),
		"Due 1 above Most 0":             under(queue("a", "r", 1, 0)),
		"Due 10000 above Most 9999":      under(queue("a", "r", top, top-1)),
		"a first one due less":           {queue("r", "", top-1, top)},
		"a first one of a lesser Most":   {queue("r", "", top-1, top-1)},
		"a first one of Due above Most":  {queue("r", "", top, top-1)},
		"a first one of nothing":         {queue("r", "", 0, 0)},
		"a first one of more":            {queue("r", "", top+1, top+1)},
		"kids due one more":              under(queue("a", "r", 6000, top), queue("b", "r", 4001, top)),
		"three kids due one more":        under(queue("a", "r", 3334, top), queue("b", "r", 3333, top), queue("c", "r", 3334, top)),
		"a kid beside one due all":       under(queue("a", "r", top, top), queue("b", "r", 1, 1)),
		"kids of the second due more":    under(queue("a", "r", 1, 1), queue("b", "a", 5000, top), queue("c", "a", 5001, top)),
		"kids of the last due more":      under(queue("a", "r", top, top), queue("b", "a", top, top), queue("c", "b", 9999, top), queue("d", "b", 2, top)),
		"the sample, one due too much":   with(queue("d", "root", 1, 1)),
		"a wrong one in the midst":       under(queue("a", "r", 1, 0), queue("b", "r", 1, 1)),
	}
	for _, n := range wrongPoints {
		at := strconv.Itoa(n)
		out["Due "+at] = under(queue("a", "r", n, top))
		out["Most "+at] = under(queue("a", "r", 0, n))
		out["both "+at] = under(queue("a", "r", n, n))
		out["the first one's Due "+at] = []impl.Queue{queue("r", "", n, top)}
		out["the first one's Most "+at] = []impl.Queue{queue("r", "", top, n)}
		out["the first one's both "+at] = []impl.Queue{queue("r", "", n, n)}
		// Together these would be in bounds again, or wrap round to it.
		out["kids that even out "+at] = under(queue("a", "r", n, n), queue("b", "r", -n, top), queue("c", "r", n, n))
	}
	for _, name := range []string{"A", "aZ", "-", "a-b", "a b", " a", "a ", "a\n", "\n", "a.b", "a_b", "é", "a\x00", "\xff", "`", "{", "/", ":", strings.Repeat("a", 300)} {
		out["name "+strconv.Quote(name)] = []impl.Queue{queue(name, "", top, top)}
		out["name behind "+strconv.Quote(name)] = under(queue(name, "r", 1, 1))
	}
	return out
}

var nameForm = regexp.MustCompile(`\A[a-z0-9]{1,10}\z`)

// isTree says the document's sentence in its own order, by no function of the program.
func isTree(q []impl.Queue) bool {
	if len(q) < 1 || len(q) > 20 {
		return false
	}
	due := map[string]int{}
	for i, one := range q {
		if !nameForm.MatchString(one.Name) {
			return false
		}
		if one.Due < 0 || one.Due > 10000 || one.Most < 0 || one.Most > 10000 || one.Due > one.Most {
			return false
		}
		if i == 0 && (one.Parent != "" || one.Due != 10000 || one.Most != 10000) {
			return false
		}
		if _, there := due[one.Name]; there {
			return false
		}
		if _, there := due[one.Parent]; i > 0 && !there {
			return false
		}
		due[one.Name] = 0
		if i > 0 {
			due[one.Parent] += one.Due
		}
	}
	for _, points := range due {
		if points > 10000 {
			return false
		}
	}
	return true
}

func randomTree(r *rand.Rand) []impl.Queue {
	q := []impl.Queue{queue("q0", "", top, top)}
	left := []int{top}
	for i := 1; i < 1+r.Intn(impl.MaxQueues); i++ {
		parent := r.Intn(len(q))
		due := r.Intn(left[parent] + 1)
		if r.Intn(4) == 0 {
			due = left[parent]
		}
		left[parent] -= due
		q = append(q, queue(numbered(i), q[parent].Name, due, due+r.Intn(top-due+1)))
		left = append(left, top)
	}
	return q
}

// spoilt is a tree with one thing changed, which may be no tree then.
func spoilt(r *rand.Rand, q []impl.Queue) []impl.Queue {
	q = slices.Clone(q)
	i := r.Intn(len(q))
	switch r.Intn(9) {
	case 0:
		q[i].Name = q[r.Intn(len(q))].Name
	case 1:
		q[i].Parent = q[r.Intn(len(q))].Name
	case 2:
		q[i].Parent = []string{"", "-", "Q", "q"}[r.Intn(4)]
	case 3:
		q[i].Due += r.Intn(3) - 1
	case 4:
		q[i].Most += r.Intn(3) - 1
	case 5:
		q[i].Due = r.Intn(top + 2)
	case 6:
		q[i].Most = q[i].Due
	case 7:
		j := r.Intn(len(q))
		q[i], q[j] = q[j], q[i]
	case 8:
		q[i].Name = []string{"", "abcdefghijk", "abcdefghij", "Q", "-", "z"}[r.Intn(6)]
	}
	return q
}

func TestTreesOfQueues(t *testing.T) {
	for what, q := range rightTrees() {
		if !isTree(q) || !impl.QueuesOk(q) {
			t.Errorf("%s is a tree of queues", what)
		}
	}
	for what, q := range wrongTrees() {
		if isTree(q) || impl.QueuesOk(q) {
			t.Errorf("%s is no tree of queues", what)
		}
	}
	if impl.QueuesOk(nil) {
		t.Error("nil is no tree of queues")
	}
	r := rand.New(rand.NewSource(11))
	right := 0
	for range 20000 {
		q := randomTree(r)
		if !impl.QueuesOk(q) {
			t.Fatalf("%v is a tree of queues", q)
		}
		q = spoilt(r, q)
		if got := impl.QueuesOk(q); got != isTree(q) {
			t.Fatalf("QueuesOk(%v): %v", q, got)
		} else if got {
			right++
		}
	}
	if right < 1000 || right > 19000 {
		t.Errorf("%d of the spoilt trees are trees", right)
	}
}

func TestEveryBeginningOfATreeIsOne(t *testing.T) {
	for what, q := range rightTrees() {
		for n := range q {
			if got := impl.QueuesOk(q[:n]); got != (n > 0) {
				t.Errorf("the first %d of %s: %v", n, what, got)
			}
		}
	}
}

func checkQueuesComeBack(t *testing.T, q []impl.Queue) {
	t.Helper()
	text := impl.QueuesText(q)
	got, line := impl.ReadQueues(text)
	if line != 0 || !slices.Equal(got, q) {
		t.Fatalf("%v as %q: %v, %d", q, text, got, line)
	}
	if strings.Count(text, "\n") != len(q) {
		t.Fatalf("%v has the text %q", q, text)
	}
}

func TestQueuesComeBackFromTheirText(t *testing.T) {
	for _, q := range rightTrees() {
		checkQueuesComeBack(t, q)
	}
	r := rand.New(rand.NewSource(12))
	for range 3000 {
		checkQueuesComeBack(t, randomTree(r))
	}
}

func TestQueuesText(t *testing.T) {
	want := "root - 10000 10000\na root 3333 6667\nb root 6667 9999\nb1 b 3333 3334\nb2 b 1 10000\nb11 b1 9999 9999\nc root 0 0\n"
	if got := impl.QueuesText(sampleTree()); got != want {
		t.Errorf("QueuesText of the sample: %q", got)
	}
	for what, q := range wrongTrees() {
		if got := impl.QueuesText(q); got != "" {
			t.Errorf("QueuesText of %s: %q", what, got)
		}
	}
}

const firstLine = "r - 10000 10000\n"

// wrongTexts: each with the number of the line that counts.
var wrongTexts = []struct {
	text string
	line int
}{
	{"", 1}, {"\n", 1}, {"\n\n", 1}, {" ", 1}, {"-", 1}, {"\n" + firstLine, 1},
	// A line without an end.
	{"r - 10000 10000", 1},
	{firstLine + "a r 1 1", 2},
	{firstLine + "a", 2},
	{firstLine + " ", 2},
	{firstLine + "a r 1 1\nb r 1 1", 3},
	{firstLine + "a r 1 1\nb", 3},
	{firstLine + "a r 1 1\n\x00", 3},
	{firstLine + "a r 1 1\n\r", 3},
	// An empty line.
	{firstLine + "\n", 2},
	{firstLine + "\na r 1 1\n", 2},
	{firstLine + "a r 1 1\n\n", 3},
	{firstLine + "a r 1 1\n\n\n", 3},
	// A word too few or too many.
	{"r\n", 1}, {"r -\n", 1}, {"r - 10000\n", 1}, {"r - 10000 10000 10000\n", 1}, {"r - 10000 10000 x\n", 1}, {"r 10000 10000\n", 1},
	{firstLine + "a r 1\n", 2}, {firstLine + "a 1 1\n", 2}, {firstLine + "r 1 1\n", 2}, {firstLine + "a r 1 1 1\n", 2}, {firstLine + "a\n", 2}, {firstLine + "a r\n", 2},
	// Blanks: two together, one at an end, and what is no blank.
	{"r  10000 10000\n", 1}, {"r  - 10000 10000\n", 1}, {"r -  10000 10000\n", 1}, {"r - 10000  10000\n", 1}, {"r -10000 10000\n", 1},
	{" r - 10000 10000\n", 1}, {"r - 10000 10000 \n", 1}, {" - 10000 10000\n", 1}, {"r - 10000 \n", 1}, {"r -  10000\n", 1}, {"   \n", 1},
	{firstLine + "a  r 1 1\n", 2}, {firstLine + "a r  1 1\n", 2}, {firstLine + "a r 1  1\n", 2}, {firstLine + " a r 1 1\n", 2}, {firstLine + "a r 1 1 \n", 2}, {firstLine + "a  1 1\n", 2},
	{"r\t-\t10000\t10000\n", 1}, {"r\v- 10000 10000\n", 1}, {"r - 10000 10000\r\n", 1}, {"r - 10000\u00a010000\n", 1}, {"r -\x0010000 10000\n", 1},
	{firstLine + "a r 1 1\r\n", 2}, {firstLine + "a\tr 1 1\n", 2}, {"\ufeff" + firstLine, 1},
	// Numbers.
	{"r - 010000 10000\n", 1}, {"r - 10000 010000\n", 1}, {"r - +10000 10000\n", 1}, {"r - 10000 1e4\n", 1}, {"r - 10_000 10000\n", 1}, {"r - 10000.0 10000\n", 1},
	{"r - 9999 10000\n", 1}, {"r - 10000 9999\n", 1}, {"r - 9999 9999\n", 1}, {"r - 10001 10001\n", 1}, {"r - 0 0\n", 1}, {"r - - -\n", 1}, {"r - -1 -1\n", 1},
	{firstLine + "a r 01 1\n", 2}, {firstLine + "a r 1 01\n", 2}, {firstLine + "a r 00 1\n", 2}, {firstLine + "a r 0 00\n", 2},
	{firstLine + "a r -1 1\n", 2}, {firstLine + "a r 0 -1\n", 2}, {firstLine + "a r -1 -1\n", 2}, {firstLine + "a r -0 0\n", 2}, {firstLine + "a r +1 1\n", 2},
	{firstLine + "a r x 1\n", 2}, {firstLine + "a r 1 x\n", 2}, {firstLine + "a r x x\n", 2}, {firstLine + "a r 0x1 1\n", 2}, {firstLine + "a r 1 1x1\n", 2},
	{firstLine + "a r 2 1\n", 2}, {firstLine + "a r 10001 10001\n", 2}, {firstLine + "a r 1 10001\n", 2}, {firstLine + "a r 0 1000000001\n", 2},
	{firstLine + "a r 18446744073709551617 18446744073709551617\n", 2}, {firstLine + "a r 4294967297 4294967297\n", 2},
	// Names and parents.
	{"R - 10000 10000\n", 1}, {"- - 10000 10000\n", 1}, {"abcdefghijk - 10000 10000\n", 1}, {"r r 10000 10000\n", 1}, {"r a 10000 10000\n", 1}, {"r -- 10000 10000\n", 1}, {"r root 10000 10000\nroot - 10000 10000\n", 1},
	{firstLine + "a - 1 1\n", 2}, {firstLine + "a - 10000 10000\n", 2}, {firstLine + "a -- 1 1\n", 2}, {firstLine + "a R 1 1\n", 2}, {firstLine + "a b 1 1\n", 2}, {firstLine + "a a 1 1\n", 2}, {firstLine + "a b 1 1\nb r 1 1\n", 2},
	{firstLine + "r r 1 1\n", 2}, {firstLine + firstLine, 2}, {firstLine + "A r 1 1\n", 2}, {firstLine + "- r 1 1\n", 2}, {firstLine + "abcdefghijk r 1 1\n", 2}, {firstLine + "a r 1 1\na r 1 1\n", 3}, {firstLine + "a abcdefghijk 1 1\n", 2},
	{firstLine + "a r 1 1\nb - 1 1\n", 3},
	// What kids are due together.
	{firstLine + "a r 6000 6000\nb r 4001 5000\n", 3}, {firstLine + "a r 10000 10000\nb r 1 1\n", 3}, {firstLine + "a r 10000 10000\nb r 0 1\nc r 1 1\n", 4},
	{firstLine + "a r 1 1\nb a 5000 5000\nc r 9999 9999\nd a 5001 5001\ne r 1 1\n", 5},
	{firstLine + "a r 1 1\nb a 5000 5000\nc r 9999 9999\nd a 5000 5000\ne r 1 1\n", 6},
	// Two wrong lines: the first counts.
	{"x\n" + firstLine + "y\n", 1}, {firstLine + "a r 2 1\nb r 2 1\n", 2}, {firstLine + "a r 1 1\nb q 1 1\n\nx", 3}, {firstLine + "a r 2 1\nb r 1 1", 2}, {"x\ny", 1},
}

func TestReadQueuesTellsTheLine(t *testing.T) {
	for _, c := range wrongTexts {
		if q, line := impl.ReadQueues(c.text); line != c.line || len(q) != 0 {
			t.Errorf("ReadQueues(%q): %v, %d, want %d", c.text, q, line, c.line)
		}
	}
	if q, line := impl.ReadQueues(firstLine); line != 0 || !slices.Equal(q, under()) {
		t.Errorf("ReadQueues(%q): %v, %d", firstLine, q, line)
	}
}

func linesOf(q []impl.Queue) string {
	out := ""
	for _, one := range q {
		out += strings.Join([]string{one.Name, orDash(one.Parent), strconv.Itoa(one.Due), strconv.Itoa(one.Most)}, " ") + "\n"
	}
	return out
}

func orDash(parent string) string {
	if parent == "" {
		return "-"
	}
	return parent
}

func TestReadQueuesAtMaxQueues(t *testing.T) {
	for _, full := range [][]impl.Queue{chain(impl.MaxQueues), fan(impl.MaxQueues, 1)} {
		text := linesOf(full)
		if q, line := impl.ReadQueues(text); line != 0 || !slices.Equal(q, full) {
			t.Errorf("MaxQueues lines: %v, %d", q, line)
		}
		for _, more := range []string{"x q0 0 0\n", "x q0 0 0", "x", "\n", " ", "x\n", strings.Repeat("x q0 0 0\n", 1000)} {
			if q, line := impl.ReadQueues(text + more); line != impl.MaxQueues+1 || len(q) != 0 {
				t.Errorf("MaxQueues lines and %q: %v, %d", more, q, line)
			}
		}
	}
}

var lineForm = regexp.MustCompile(`\A([a-z0-9]{1,10}) (-|[a-z0-9]{1,10}) (0|[1-9][0-9]{0,8}) (0|[1-9][0-9]{0,8})\z`)

// wrongLine is the first line with which a text is none, by going through all its beginnings.
func wrongLine(text string) int {
	lines := strings.SplitAfter(text, "\n")
	if lines[len(lines)-1] == "" && len(lines) > 1 {
		lines = lines[:len(lines)-1]
	}
	var q []impl.Queue
	for i, line := range lines {
		word := lineForm.FindStringSubmatch(strings.TrimSuffix(line, "\n"))
		if word == nil || !strings.HasSuffix(line, "\n") {
			return i + 1
		}
		due, _ := strconv.Atoi(word[3])
		most, _ := strconv.Atoi(word[4])
		q = append(q, queue(word[1], strings.TrimPrefix(word[2], "-"), due, most))
		if !isTree(q) {
			return i + 1
		}
	}
	return 0
}

// changed is a text with one byte put in, taken out or made another, or cut.
func changed(r *rand.Rand, text string) string {
	const signs = "\n\n  --019aqr"
	i := r.Intn(len(text))
	sign := string(signs[r.Intn(len(signs))])
	switch r.Intn(5) {
	case 0:
		return text[:i] + sign + text[i:]
	case 1:
		return text[:i] + text[i+1:]
	case 2:
		return text[:i] + sign + text[i+1:]
	case 3:
		return text[:i]
	}
	return text + sign
}

func TestReadQueuesOfChangedTexts(t *testing.T) {
	r := rand.New(rand.NewSource(13))
	right := 0
	for range 20000 {
		q := randomTree(r)
		if r.Intn(2) == 0 {
			q = spoilt(r, q)
		}
		text := linesOf(q)
		for range r.Intn(3) {
			if text != "" {
				text = changed(r, text)
			}
		}
		got, line := impl.ReadQueues(text)
		if want := wrongLine(text); line != want {
			t.Fatalf("ReadQueues(%q): %d, want %d", text, line, want)
		}
		if line > 0 && len(got) > 0 || line == 0 && impl.QueuesText(got) != text {
			t.Fatalf("ReadQueues(%q): %v", text, got)
		}
		if line == 0 {
			right++
		}
	}
	if right < 1000 {
		t.Errorf("%d of the changed texts are right", right)
	}
}

func TestReadQueuesEndsAtLongTexts(t *testing.T) {
	const long = 1 << 20
	for _, c := range []struct {
		text string
		line int
	}{
		{strings.Repeat("\n", long), 1}, {strings.Repeat(" ", long), 1}, {strings.Repeat("a", long), 1}, {strings.Repeat("9", long) + "\n", 1},
		{firstLine + strings.Repeat("\n", long), 2}, {firstLine + "a r 1 " + strings.Repeat("0", long) + "\n", 2}, {strings.Repeat(firstLine, long/16), 2},
	} {
		if q, line := impl.ReadQueues(c.text); line != c.line || len(q) != 0 {
			t.Errorf("%d bytes that begin with %q: %d, want %d", len(c.text), c.text[:20], line, c.line)
		}
	}
}

func TestLeaf(t *testing.T) {
	q := sampleTree()
	for name, want := range map[string]bool{
		"root": false, "a": true, "b": false, "b1": false, "b2": true, "b11": true, "c": true,
		"": false, "-": false, "z": false, "A": false, "b12": false, "a ": false, "a\x00": false, "roo": false, "roots": false,
	} {
		if got := impl.Leaf(q, name); got != want {
			t.Errorf("Leaf(%q): %v", name, got)
		}
	}
	if !impl.Leaf(under(), "r") {
		t.Error("the first one alone is nobody's parent")
	}
	for i := range impl.MaxQueues {
		if got := impl.Leaf(chain(impl.MaxQueues), numbered(i)); got != (i == impl.MaxQueues-1) {
			t.Errorf("Leaf of %d in a chain: %v", i, got)
		}
		if got := impl.Leaf(fan(impl.MaxQueues, 1), numbered(i)); got != (i > 0) {
			t.Errorf("Leaf of %d in a fan: %v", i, got)
		}
	}
}

func TestPath(t *testing.T) {
	q := sampleTree()
	for name, want := range map[string][]string{
		"root": {"root"}, "a": {"a", "root"}, "b": {"b", "root"}, "b1": {"b1", "b", "root"}, "b2": {"b2", "b", "root"}, "b11": {"b11", "b1", "b", "root"}, "c": {"c", "root"},
		"": nil, "-": nil, "z": nil, "B": nil, "b ": nil, "b111": nil,
	} {
		if got := impl.Path(q, name); !slices.Equal(got, want) {
			t.Errorf("Path(%q): %q, want %q", name, got, want)
		}
	}
	deep := impl.Path(chain(impl.MaxQueues), numbered(impl.MaxQueues-1))
	if len(deep) != impl.MaxQueues {
		t.Fatalf("the deepest one's: %q", deep)
	}
	for i, name := range deep {
		if name != numbered(impl.MaxQueues-1-i) {
			t.Errorf("the deepest one's: %q at %d", name, i)
		}
	}
}

func TestDueOfAndMostOf(t *testing.T) {
	q := sampleTree()
	for _, c := range []struct {
		name             string
		total, due, most impl.Res
	}{
		{"root", res(101, 10), res(101, 10), res(101, 10)},
		{"root", res(0, 0), res(0, 0), res(0, 0)},
		{"root", res(most, most), res(most, most), res(most, most)},
		{"a", res(101, 10), res(33, 3), res(67, 6)},
		{"b", res(101, 10), res(67, 6), res(100, 9)},
		{"b1", res(101, 10), res(22, 1), res(33, 3)},
		{"b11", res(101, 10), res(21, 0), res(32, 2)},
		{"b2", res(101, 10), res(0, 0), res(100, 9)},
		{"c", res(101, 10), res(0, 0), res(0, 0)},
		{"b2", res(15000, 14999), res(1, 0), res(14998, 14997)},
		{"a", res(most, most-1), res(333300000, 333299999), res(666700000, 666699999)},
		{"b1", res(most, 0), res(222211110, 0), res(333366660, 0)},
		{"b11", res(0, most), res(0, 222188888), res(0, 333333323)},
		{"b11", res(1, 1), res(0, 0), res(0, 0)},
		// All steps at once would make 2 due of 10, and 1 at most of 3: each step is rounded down.
		{"b1", res(10, 3), res(1, 0), res(3, 0)},
		{"z", res(101, 10), res(0, 0), res(0, 0)},
		{"", res(101, 10), res(0, 0), res(0, 0)},
		{"-", res(101, 10), res(0, 0), res(0, 0)},
	} {
		if got := impl.DueOf(q, c.name, c.total); got != c.due {
			t.Errorf("DueOf(%q, %v): %v, want %v", c.name, c.total, got, c.due)
		}
		if got := impl.MostOf(q, c.name, c.total); got != c.most {
			t.Errorf("MostOf(%q, %v): %v, want %v", c.name, c.total, got, c.most)
		}
	}
	for _, total := range wrongAmounts() {
		for _, name := range []string{"root", "a", "b11", "c", "z", ""} {
			if due, most := impl.DueOf(q, name, total), impl.MostOf(q, name, total); due != (impl.Res{}) || most != (impl.Res{}) {
				t.Errorf("of %v %q has %v and at most %v", total, name, due, most)
			}
		}
	}
}

// partByRule works out a part by the document's sentence, from the parent's part on.
func partByRule(q []impl.Queue, name string, total impl.Res, points func(impl.Queue) int) impl.Res {
	for _, one := range q {
		if one.Name != name {
			continue
		}
		if one.Parent == "" {
			return total
		}
		of := partByRule(q, one.Parent, total, points)
		return res(of.Mem*points(one)/10000, of.Cpu*points(one)/10000)
	}
	return impl.Res{}
}

func pathByRule(q []impl.Queue, name string) []string {
	for _, one := range q {
		if one.Name == name {
			return append([]string{name}, pathByRule(q, one.Parent)...)
		}
	}
	return nil
}

func dueOf(one impl.Queue) int  { return one.Due }
func mostOf(one impl.Queue) int { return one.Most }

func checkPlaceInTree(t *testing.T, q []impl.Queue, name string, total impl.Res) {
	t.Helper()
	path := pathByRule(q, name)
	if got := impl.Path(q, name); !slices.Equal(got, path) {
		t.Fatalf("Path(%v, %q): %q, want %q", q, name, got, path)
	}
	kid := slices.ContainsFunc(q, func(one impl.Queue) bool { return one.Parent == name })
	if got := impl.Leaf(q, name); got != (len(path) > 0 && !kid) {
		t.Fatalf("Leaf(%v, %q): %v", q, name, got)
	}
	due, most := impl.DueOf(q, name, total), impl.MostOf(q, name, total)
	if want := partByRule(q, name, total, dueOf); due != want {
		t.Fatalf("DueOf(%v, %q, %v): %v, want %v", q, name, total, due, want)
	}
	if want := partByRule(q, name, total, mostOf); most != want {
		t.Fatalf("MostOf(%v, %q, %v): %v, want %v", q, name, total, most, want)
	}
	if !impl.Within(due, most) || !impl.Within(most, total) {
		t.Fatalf("%q of %v has %v and at most %v of %v", name, q, due, most, total)
	}
}

func checkKidsAreDueNoMore(t *testing.T, q []impl.Queue, total impl.Res) {
	t.Helper()
	for _, parent := range q {
		together := impl.Res{}
		for _, one := range q {
			if one.Parent != parent.Name {
				continue
			}
			var ok bool
			together, ok = impl.Add(together, impl.DueOf(q, one.Name, total))
			if !ok {
				t.Fatalf("the kids of %q in %v are due no amount of %v", parent.Name, q, total)
			}
		}
		if due := impl.DueOf(q, parent.Name, total); !impl.Within(together, due) {
			t.Fatalf("the kids of %q in %v are due %v together, it %v of %v", parent.Name, q, together, due, total)
		}
	}
}

func TestKidsAreDueNoMoreThanTheirParent(t *testing.T) {
	check := func(q []impl.Queue, total impl.Res) {
		t.Helper()
		checkKidsAreDueNoMore(t, q, total)
		for _, one := range q {
			checkPlaceInTree(t, q, one.Name, total)
		}
		for _, name := range []string{"", "-", "none"} {
			checkPlaceInTree(t, q, name, total)
		}
	}
	for _, q := range rightTrees() {
		for _, total := range amountsBesideEdges() {
			check(q, total)
		}
	}
	r := rand.New(rand.NewSource(14))
	for range 1000 {
		check(randomTree(r), randomAmount(r))
	}
}

// Kids that are due all are due all of what comes out even.
func TestKidsThatAreDueAll(t *testing.T) {
	q := under(queue("a", "r", 6000, 6000), queue("b", "r", 4000, top), queue("b1", "b", 5000, 5000), queue("b2", "b", 5000, top))
	total := res(1000, 500)
	for name, want := range map[string]impl.Res{"a": res(600, 300), "b": res(400, 200), "b1": res(200, 100), "b2": res(200, 100)} {
		if got := impl.DueOf(q, name, total); got != want {
			t.Errorf("DueOf(%q): %v, want %v", name, got, want)
		}
	}
	checkKidsAreDueNoMore(t, q, total)
}

// At a list that is no tree of queues every function has its fixed answer, for names that stand in it too.
func TestNoTreesAreRefused(t *testing.T) {
	for what, q := range wrongTrees() {
		names := []string{"", "-", "a", "r", "q0", "root"}
		for _, one := range q {
			names = append(names, one.Name, one.Parent)
		}
		for _, name := range names {
			if impl.Leaf(q, name) {
				t.Errorf("%s: Leaf(%q)", what, name)
			}
			if got := impl.Path(q, name); len(got) != 0 {
				t.Errorf("%s: Path(%q): %q", what, name, got)
			}
			if got := impl.DueOf(q, name, res(1000, 1000)); got != (impl.Res{}) {
				t.Errorf("%s: DueOf(%q): %v", what, name, got)
			}
			if got := impl.MostOf(q, name, res(1000, 1000)); got != (impl.Res{}) {
				t.Errorf("%s: MostOf(%q): %v", what, name, got)
			}
		}
	}
}

func callAllOfQueues(q []impl.Queue, name string, total impl.Res) {
	impl.QueuesOk(q)
	impl.QueuesText(q)
	impl.Leaf(q, name)
	path := impl.Path(q, name)
	impl.DueOf(q, name, total)
	impl.MostOf(q, name, total)
	// What is answered is the caller's own: to write into it is to change no argument.
	for i := range path {
		path[i] = "written"
	}
}

func TestQueuesAreWrittenIntoByNone(t *testing.T) {
	trees := wrongTrees()
	for what, q := range rightTrees() {
		trees[what] = q
	}
	for what, q := range trees {
		room := append(slices.Clone(q), queue("spare", "room", 7, 8), queue("behind", "it", -1, 9))
		before := slices.Clone(room)
		handed := room[:len(q)]
		for _, name := range []string{"r", "q0", "a", "b11", "spare", "", "none"} {
			callAllOfQueues(handed, name, res(1000, 77))
		}
		if !slices.Equal(room, before) {
			t.Errorf("%s: written into: %v", what, room)
		}
	}
}

func TestQueuesReadAreNewEachTime(t *testing.T) {
	text := linesOf(sampleTree())
	first, _ := impl.ReadQueues(text)
	for i := range first {
		first[i] = queue("x", "y", 0, 0)
	}
	if second, line := impl.ReadQueues(text); line != 0 || !slices.Equal(second, sampleTree()) {
		t.Errorf("read again: %v, %d", second, line)
	}
}

func TestQueuesAnswerAtAnyArguments(t *testing.T) {
	r := rand.New(rand.NewSource(15))
	names := []string{"", "-", "a", "b", "q0", "q1", "abcdefghij", "abcdefghijk", "A", "\xff", "a b"}
	numbers := append([]int{0, 1, 5000, top - 1, top}, wrongPoints...)
	for range 20000 {
		q := make([]impl.Queue, r.Intn(5))
		for i := range q {
			q[i] = queue(names[r.Intn(len(names))], names[r.Intn(len(names))], numbers[r.Intn(len(numbers))], numbers[r.Intn(len(numbers))])
		}
		if len(q) > 0 && r.Intn(2) == 0 {
			q[0] = queue("a", "", top, top)
		}
		if got := impl.QueuesOk(q); got != isTree(q) {
			t.Fatalf("QueuesOk(%v): %v", q, got)
		}
		callAllOfQueues(q, names[r.Intn(len(names))], res(numbers[r.Intn(len(numbers))], numbers[r.Intn(len(numbers))]))
		bytes := make([]byte, r.Intn(40))
		for i := range bytes {
			bytes[i] = "r -10\n"[r.Intn(6)]
		}
		if q, line := impl.ReadQueues(string(bytes)); line != wrongLine(string(bytes)) || line > 0 && len(q) > 0 {
			t.Fatalf("ReadQueues(%q): %v, %d", bytes, q, line)
		}
	}
}
