package tests

import (
	"math"
	"math/rand"
	"reflect"
	"slices"
	"strconv"
	"strings"
	"testing"

	"loop.example/g00275/impl"
)

// sharing is a state of three leaves: x and y are due as much, z is due nothing.
// Its machine m1 can 100x100 and m2 60x40; both are empty, and nobody asks.
func sharing() impl.State {
	return impl.State{
		Queues: []impl.Queue{queue("root", "", top, top), queue("y", "root", 4000, 8000), queue("x", "root", 4000, 5000), queue("z", "root", 0, top)},
		Clock:  3, Epoch: 1, Next: 1006, Serial: 1,
		Apps:     []impl.App{app(1001, "x"), app(1002, "y"), app(1003, "x"), app(1004, "z"), app(1005, "y")},
		Machines: []impl.Machine{machine("m1", 100, 100, 0), machine("m2", 60, 40, 3)},
	}
}

func changedSharing(change func(s *impl.State)) impl.State {
	s := sharing()
	change(&s)
	return s
}

func askOn(node string, missed int, mem int, cpu int, count int) impl.Ask {
	return impl.Ask{Res: res(mem, cpu), Count: count, Node: node, Missed: missed}
}

func sameState(a impl.State, b impl.State) bool {
	return slices.Equal(a.Queues, b.Queues) && a.Clock == b.Clock && a.Epoch == b.Epoch && a.Next == b.Next && a.Serial == b.Serial &&
		slices.EqualFunc(a.Apps, b.Apps, sameApp) && slices.Equal(a.Machines, b.Machines) && slices.Equal(a.Conts, b.Conts)
}

func dueByRule(s impl.State, queue string) impl.Res {
	return partByRule(s.Queues, queue, capsByRule(s), dueOf)
}

func orderByRule(s impl.State) []string {
	if !isTree(s.Queues) {
		return nil
	}
	names := leavesOf(s.Queues)
	slices.SortFunc(names, func(a string, b string) int {
		if by := order(wholeRatio(usedByRule(s, a), dueByRule(s, a)), wholeRatio(usedByRule(s, b), dueByRule(s, b))); by != 0 {
			return by
		}
		return strings.Compare(a, b)
	})
	return names
}

func suitsByRule(a impl.Ask, node string) bool {
	return a.Node == "" || a.Node == node || a.Missed >= 3
}

func couldHave(s impl.State, queue string, a impl.Ask, node string) bool {
	free := freeOnByRule(s, node)
	return suitsByRule(a, node) && a.Res.Mem <= free.Mem && a.Res.Cpu <= free.Cpu && roomByRule(s, queue, a.Res)
}

// nextByRule is the container, and the places of its application and its ask.
func nextByRule(s impl.State, node string) (impl.Cont, int, int, bool) {
	id := s.Epoch*100000 + s.Serial%100000
	there := slices.ContainsFunc(s.Machines, func(m impl.Machine) bool { return m.Name == node })
	taken := slices.ContainsFunc(s.Conts, func(c impl.Cont) bool { return c.Id == id })
	if !isState(s) || !there || taken || id > 1000000000 || len(s.Conts) >= 150 {
		return impl.Cont{}, 0, 0, false
	}
	for _, queue := range orderByRule(s) {
		for i, a := range s.Apps {
			for k, one := range a.Asks {
				if a.Queue == queue && couldHave(s, queue, one, node) {
					return impl.Cont{Id: id, App: a.Id, Node: node, Res: one.Res}, i, k, true
				}
			}
		}
	}
	return impl.Cont{}, 0, 0, false
}

func grantByRule(s impl.State, node string) (impl.State, impl.Cont, bool) {
	s = deepCopy(s)
	c, i, k, ok := nextByRule(s, node)
	if !ok {
		return s, c, false
	}
	s.Apps[i].Asks[k].Count--
	s.Apps[i].Asks = slices.DeleteFunc(s.Apps[i].Asks, func(a impl.Ask) bool { return a.Count == 0 })
	s.Serial++
	if s.Serial >= 100000 {
		s.Serial = 1
	}
	s.Conts = append(s.Conts, c)
	slices.SortFunc(s.Conts, func(a impl.Cont, b impl.Cont) int { return a.Id - b.Id })
	return s, c, true
}

func grantsByRule(s impl.State, node string, most int) (impl.State, []impl.Cont) {
	s = deepCopy(s)
	there := slices.ContainsFunc(s.Machines, func(m impl.Machine) bool { return m.Name == node })
	if !isState(s) || !there || most < 0 || most > 50 {
		return s, nil
	}
	var all []impl.Cont
	for next, c, ok := grantByRule(s, node); ok && len(all) < most; next, c, ok = grantByRule(s, node) {
		s, all = next, append(all, c)
	}
	for _, a := range s.Apps {
		for k, one := range a.Asks {
			if !suitsByRule(one, node) {
				a.Asks[k].Missed++
			}
		}
	}
	return s, all
}

func starvingByRule(s impl.State) []string {
	if !isTree(s.Queues) {
		return nil
	}
	var out []string
	for _, name := range leavesOf(s.Queues) {
		used, due := usedByRule(s, name), dueByRule(s, name)
		less := used.Mem < due.Mem && used.Cpu <= due.Cpu || used.Cpu < due.Cpu && used.Mem <= due.Mem
		if pendingByRule(s, name) && less {
			out = append(out, name)
		}
	}
	slices.Sort(out)
	return out
}

func checkOrder(t *testing.T, what string, s impl.State) {
	t.Helper()
	if got, want := impl.QueueOrder(s), orderByRule(s); !slices.Equal(got, want) {
		t.Fatalf("%s: QueueOrder(%+v): %v, want %v", what, s, got, want)
	}
	if got, want := impl.Starving(s), starvingByRule(s); !slices.Equal(got, want) {
		t.Fatalf("%s: Starving(%+v): %v, want %v", what, s, got, want)
	}
}

func checkGrant(t *testing.T, what string, s impl.State, node string) {
	t.Helper()
	want, wantCont, wantOk := grantByRule(s, node)
	if c, ok := impl.NextGrant(s, node); c != wantCont || ok != wantOk {
		t.Fatalf("%s: NextGrant(%+v, %q): %+v, %v, want %+v, %v", what, s, node, c, ok, wantCont, wantOk)
	}
	got, c, ok := impl.Grant(s, node)
	if !sameState(got, want) || c != wantCont || ok != wantOk {
		t.Fatalf("%s: Grant(%+v, %q): %+v, %+v, %v, want %+v, %+v, %v", what, s, node, got, c, ok, want, wantCont, wantOk)
	}
}

func checkGrants(t *testing.T, what string, s impl.State, node string, most int) {
	t.Helper()
	want, wantConts := grantsByRule(s, node, most)
	got, conts := impl.Grants(s, node, most)
	if !sameState(got, want) || !slices.Equal(conts, wantConts) {
		t.Fatalf("%s: Grants(%+v, %q, %d): %+v, %+v, want %+v, %+v", what, s, node, most, got, conts, want, wantConts)
	}
}

// busyAsk is small, and for a machine that is there as often as for none in particular.
func busyAsk(r *rand.Rand) impl.Ask {
	a := askOn("", r.Intn(6), r.Intn(9), r.Intn(9), 1+r.Intn(3))
	if a.Res == (impl.Res{}) {
		a.Res.Mem = 1
	}
	if r.Intn(2) == 0 {
		a.Node = nodeName(r.Intn(4))
	}
	return a
}

// busyState is a right state of small amounts, in which much is asked for, much is alike, and Ids are near each other.
func busyState(r *rand.Rand) impl.State {
	s := impl.State{Queues: randomTree(r), Clock: 5, Epoch: 1 + r.Intn(2), Next: 1, Serial: *one(r, []int{1, 2, 3, 99997, 99998, 99999, 100000, 100001, 300001})}
	leaves := leavesOf(s.Queues)
	for range r.Intn(9) {
		a := app(s.Next, *one(r, leaves))
		for range r.Intn(5) {
			a.Asks = append(a.Asks, busyAsk(r))
		}
		s.Apps = append(s.Apps, a)
		s.Next++
	}
	for i := range r.Intn(4) {
		s.Machines = append(s.Machines, machine(nodeName(i), r.Intn(60), r.Intn(60), r.Intn(6)))
	}
	id := s.Epoch*100000 - 1
	if r.Intn(3) == 0 {
		id = 1
	}
	for len(s.Apps) > 0 && len(s.Machines) > 0 && r.Intn(5) > 0 {
		id += 1 + r.Intn(3)
		c := cont(id, one(r, s.Apps).Id, one(r, s.Machines).Name, 1+r.Intn(9), r.Intn(9))
		if free := freeOnByRule(s, c.Node); c.Res.Mem <= free.Mem && c.Res.Cpu <= free.Cpu {
			s.Conts = append(s.Conts, c)
		}
	}
	return s
}

func TestGivingByTheRules(t *testing.T) {
	for _, states := range []map[string]impl.State{rightStates(), wrongStates()} {
		for what, s := range states {
			if len(s.Conts) > 1000 {
				continue
			}
			checkOrder(t, what, s)
			for _, node := range []string{"m", "m1", "m4", "m100", "", "none", "root"} {
				checkGrant(t, what, s, node)
				checkGrants(t, what, s, node, 3)
			}
		}
	}
	r := rand.New(rand.NewSource(20))
	given := 0
	for range 6000 {
		s := busyState(r)
		node := nodeName(r.Intn(4))
		checkOrder(t, "", s)
		checkGrant(t, "", s, node)
		checkGrants(t, "", s, node, r.Intn(10)-1)
		if _, ok := impl.NextGrant(s, node); ok {
			given++
		}
		s = spoiltState(r, s)
		checkOrder(t, "spoilt", s)
		checkGrant(t, "spoilt", s, node)
		checkGrants(t, "spoilt", s, node, r.Intn(5))
	}
	if given < 1000 {
		t.Errorf("only %d of the states give something", given)
	}
}

func checkNobodyAheadCouldHaveOne(t *testing.T, s impl.State, node string, c impl.Cont) {
	t.Helper()
	given, _ := impl.AppOf(s, c.App)
	for _, queue := range impl.QueueOrder(s) {
		if queue == given.Queue {
			return
		}
		for _, a := range s.Apps {
			for _, one := range a.Asks {
				if a.Queue == queue && impl.Suits(one, node) && impl.Within(one.Res, impl.FreeOn(s, node)) && impl.Room(s, queue, one.Res) {
					t.Fatalf("%q is ahead of %q and could have %+v, in %+v", queue, given.Queue, one, s)
				}
			}
		}
	}
	t.Fatalf("%q is none of the queues of %+v", given.Queue, s)
}

func checkNobodyHasMoreThanMost(t *testing.T, s impl.State, c impl.Cont) {
	t.Helper()
	given, _ := impl.AppOf(s, c.App)
	for _, queue := range impl.Path(s.Queues, given.Queue) {
		if !impl.Within(impl.UsedBy(s, queue), impl.MostOf(s.Queues, queue, impl.Total(s))) {
			t.Fatalf("%q has %v behind %+v, in %+v", queue, impl.UsedBy(s, queue), c, s)
		}
	}
}

// Promise 5, of every container that is given, one behind another.
func TestGivenToTheFirstThatCouldHaveOne(t *testing.T) {
	r := rand.New(rand.NewSource(21))
	given := 0
	for range 2000 {
		s := busyState(r)
		for range 12 {
			node := nodeName(r.Intn(3))
			next, c, ok := impl.Grant(s, node)
			if !ok {
				s, _ = impl.Grants(s, node, 0)
				continue
			}
			given++
			checkNobodyAheadCouldHaveOne(t, s, node, c)
			checkNobodyHasMoreThanMost(t, next, c)
			if !isState(next) || !impl.StateOk(next) || len(next.Conts) != len(s.Conts)+1 || !slices.Contains(next.Conts, c) {
				t.Fatalf("not right behind %+v: %+v", c, next)
			}
			s = next
		}
	}
	if given < 2000 {
		t.Errorf("only %d containers were given", given)
	}
}

func TestQueueOrder(t *testing.T) {
	leaf := func(name string) []impl.Queue { return under(queue(name, "r", 1, 1)) }
	for _, c := range []struct {
		what string
		s    impl.State
		want []string
	}{
		{"the first queue alone", bareState(), []string{"r"}},
		{"one leaf", changedOne(func(s *impl.State) { s.Queues = leaf("a") }), []string{"a"}},
		{"all alike, and nothing due to one", sharing(), []string{"x", "y", "z"}},
		{"one has more", changedSharing(func(s *impl.State) { s.Conts = []impl.Cont{cont(1, 1001, "m1", 1, 0)} }), []string{"y", "z", "x"}},
		{"more in Cpu than the other one in Mem", changedSharing(func(s *impl.State) {
			s.Conts = []impl.Cont{cont(1, 1001, "m1", 10, 0), cont(2, 1002, "m1", 0, 9)}
		}), []string{"z", "x", "y"}},
		{"one to which nothing is due has something", changedSharing(func(s *impl.State) {
			s.Conts = []impl.Cont{cont(1, 1001, "m1", 90, 90), cont(2, 1004, "m2", 1, 0)}
		}), []string{"y", "x", "z"}},
		{"alike by what both have", changedSharing(func(s *impl.State) {
			s.Conts = []impl.Cont{cont(1, 1001, "m1", 32, 7), cont(2, 1002, "m1", 4, 28)}
		}), []string{"z", "x", "y"}},
		{"without machines, all alike", changedSharing(func(s *impl.State) { s.Machines = nil }), []string{"x", "y", "z"}},
		{"without machines, containers count", changedSharing(func(s *impl.State) { s.Machines, s.Conts = nil, []impl.Cont{cont(1, 1001, "m1", 1, 0)} }), []string{"y", "z", "x"}},
		{"of what is over nothing the lesser Name", changedSharing(func(s *impl.State) {
			s.Machines, s.Conts = nil, []impl.Cont{cont(1, 1002, "m1", 1, 0), cont(2, 1001, "m1", 5, 5)}
		}), []string{"z", "x", "y"}},
		{"the sample", sampleState(), []string{"c", "b11", "a", "b2"}},
	} {
		if got := impl.QueueOrder(c.s); !slices.Equal(got, c.want) {
			t.Errorf("%s: %v, want %v", c.what, got, c.want)
		}
	}
	for what, q := range wrongTrees() {
		s := sharing()
		s.Queues = q
		if got := impl.QueueOrder(s); len(got) != 0 {
			t.Errorf("%s: %v", what, got)
		}
	}
}

// Leaves that are alike come by Name, in whatever order they stand among the queues.
func TestQueuesThatAreAlike(t *testing.T) {
	r := rand.New(rand.NewSource(22))
	for range 200 {
		q := under()
		names := []string{"a", "a0", "aa", "b", "ba", "c", "d1", "d10", "d2", "e", "f", "0", "9", "10"}
		for _, i := range r.Perm(len(names)) {
			q = append(q, queue(names[i], "r", 500, 500))
		}
		slices.Sort(names)
		s := impl.State{Queues: q, Epoch: 1, Next: 1, Serial: 1, Machines: []impl.Machine{machine("m", 1000, 1000, 0)}}
		if got := impl.QueueOrder(s); !slices.Equal(got, names) {
			t.Fatalf("%v: %v", q, got)
		}
		for i, name := range names {
			s.Apps = append(s.Apps, app(i+1, name, ask(1, 1, 1)))
		}
		s.Next = len(names) + 1
		if _, given := impl.Grants(s, "m", 50); len(given) != len(names) || !slices.IsSortedFunc(given, func(a impl.Cont, b impl.Cont) int { return a.App - b.App }) {
			t.Fatalf("%v: given %+v", q, given)
		}
	}
}

func TestSuits(t *testing.T) {
	for _, c := range []struct {
		asked  string
		missed int
		node   string
		want   bool
	}{
		{"", 0, "m1", true}, {"", 0, "", true}, {"", impl.Patience, "m1", true}, {"", -1, "m1", true}, {"", math.MinInt, "zz", true},
		{"m1", 0, "m1", true}, {"m1", 1000, "m1", true}, {"m1", -1, "m1", true}, {"m1", math.MinInt, "m1", true},
		{"m2", 0, "m1", false}, {"m2", 1, "m1", false}, {"m2", impl.Patience - 1, "m1", false}, {"m2", impl.Patience, "m1", true}, {"m2", impl.Patience + 1, "m1", true},
		{"m2", 1000, "m1", true}, {"m2", 1001, "m1", true}, {"m2", math.MaxInt, "m1", true}, {"m2", -1, "m1", false}, {"m2", math.MinInt, "m1", false},
		{"m2", 0, "", false}, {"m2", 3, "", true}, {"m", 0, "m1", false}, {"m11", 0, "m1", false}, {"M1", 0, "m1", false}, {"no name", 0, "no name", true}, {"\xff", 2, "\xfe", false},
	} {
		// Whether an ask is right else is not asked for.
		for _, r := range []impl.Res{res(1, 1), res(0, 0), res(-1, most+1)} {
			for _, count := range []int{0, 1, -1, math.MaxInt} {
				if got := impl.Suits(impl.Ask{Res: r, Count: count, Node: c.asked, Missed: c.missed}, c.node); got != c.want {
					t.Errorf("Suits(%q missed %d, %q): %v", c.asked, c.missed, c.node, got)
				}
			}
		}
	}
	if impl.Patience != 3 {
		t.Errorf("Patience is %d", impl.Patience)
	}
}

func TestNextGrant(t *testing.T) {
	none := impl.Cont{}
	for _, c := range []struct {
		what   string
		change func(s *impl.State)
		node   string
		want   impl.Cont
	}{
		{"nobody asks", func(s *impl.State) {}, "m1", none},
		{"one ask", func(s *impl.State) { s.Apps[1].Asks = []impl.Ask{ask(3, 4, 5)} }, "m1", cont(100001, 1002, "m1", 3, 4)},
		{"one ask, on another", func(s *impl.State) { s.Apps[1].Asks = []impl.Ask{ask(3, 4, 5)} }, "m2", cont(100001, 1002, "m2", 3, 4)},
		{"no such machine", func(s *impl.State) { s.Apps[1].Asks = []impl.Ask{ask(3, 4, 5)} }, "m3", none},
		{"the machine that is asked for is not there", func(s *impl.State) { s.Apps[1].Asks = []impl.Ask{askOn("m3", 9, 3, 4, 5)} }, "m3", none},
		{"an empty machine", func(s *impl.State) { s.Apps[1].Asks = []impl.Ask{ask(3, 4, 5)} }, "", none},
		{"none suits", func(s *impl.State) { s.Apps[0].Asks = []impl.Ask{askOn("m2", 2, 1, 1, 1), askOn("m3", 0, 1, 1, 1)} }, "m1", none},
		{"one that was passed over", func(s *impl.State) { s.Apps[0].Asks = []impl.Ask{askOn("m2", 2, 1, 1, 1), askOn("m3", 3, 2, 1, 1)} }, "m1", cont(100001, 1001, "m1", 2, 1)},
		{"none is within what is free", func(s *impl.State) { s.Apps[1].Asks = []impl.Ask{ask(61, 1, 1), ask(1, 41, 1)} }, "m2", none},
		{"one is all that is free", func(s *impl.State) { s.Apps[1].Asks = []impl.Ask{ask(61, 1, 1), ask(60, 40, 1)} }, "m2", cont(100001, 1002, "m2", 60, 40)},
		{"one is all that is left", func(s *impl.State) {
			s.Conts = []impl.Cont{cont(7, 1001, "m2", 10, 40)}
			s.Apps[1].Asks = []impl.Ask{ask(51, 0, 1), ask(1, 1, 1), ask(50, 0, 1)}
		}, "m2", cont(100001, 1002, "m2", 50, 0)},
		{"none has room", func(s *impl.State) { s.Apps[0].Asks = []impl.Ask{ask(81, 1, 1), ask(1, 71, 1)} }, "m1", none},
		{"one has just room", func(s *impl.State) { s.Apps[0].Asks = []impl.Ask{ask(81, 1, 1), ask(80, 70, 1)} }, "m1", cont(100001, 1001, "m1", 80, 70)},
		{"room beside what is had elsewhere", func(s *impl.State) {
			s.Conts = []impl.Cont{cont(7, 1003, "m2", 60, 40)}
			s.Apps[0].Asks = []impl.Ask{ask(21, 1, 1), ask(1, 31, 1), ask(20, 30, 1)}
		}, "m1", cont(100001, 1001, "m1", 20, 30)},
		{"one that has more than its most has no room", func(s *impl.State) {
			s.Conts = []impl.Cont{cont(7, 1003, "m1", 81, 0)}
			s.Apps[0].Asks = []impl.Ask{ask(0, 1, 1)}
		}, "m2", none},
		{"the first queue has no ask", func(s *impl.State) { s.Apps[3].Asks = []impl.Ask{ask(1, 1, 1)} }, "m1", cont(100001, 1004, "m1", 1, 1)},
		{"both ask, and the one with less of its due is first", func(s *impl.State) {
			s.Conts = []impl.Cont{cont(7, 1001, "m1", 1, 0)}
			s.Apps[0].Asks, s.Apps[4].Asks = []impl.Ask{ask(1, 1, 1)}, []impl.Ask{ask(2, 2, 1)}
		}, "m1", cont(100001, 1005, "m1", 2, 2)},
		{"alike, the lesser Name is first", func(s *impl.State) {
			s.Apps[1].Asks, s.Apps[2].Asks = []impl.Ask{ask(1, 1, 1)}, []impl.Ask{ask(2, 2, 1)}
		}, "m1", cont(100001, 1003, "m1", 2, 2)},
		{"the first queue can't have one, the next one can", func(s *impl.State) {
			s.Apps[0].Asks, s.Apps[1].Asks = []impl.Ask{ask(81, 1, 1)}, []impl.Ask{ask(82, 1, 1)}
		}, "m1", cont(100001, 1002, "m1", 82, 1)},
		{"the first application is passed over", func(s *impl.State) {
			s.Apps[0].Asks, s.Apps[2].Asks = []impl.Ask{ask(90, 1, 1), askOn("m2", 0, 1, 1, 1)}, []impl.Ask{ask(4, 1, 1)}
		}, "m1", cont(100001, 1003, "m1", 4, 1)},
		{"the first application is taken", func(s *impl.State) {
			s.Apps[0].Asks, s.Apps[2].Asks = []impl.Ask{ask(5, 1, 1)}, []impl.Ask{ask(4, 1, 1)}
		}, "m1", cont(100001, 1001, "m1", 5, 1)},
		{"the first ask is passed over", func(s *impl.State) {
			s.Apps[0].Asks = []impl.Ask{ask(99, 1, 1), askOn("m2", 2, 1, 1, 1), ask(6, 1, 1), ask(7, 1, 1)}
		}, "m1", cont(100001, 1001, "m1", 6, 1)},
	} {
		s := changedSharing(c.change)
		if !isState(s) {
			t.Fatalf("%s: %+v is not right", c.what, s)
		}
		if got, ok := impl.NextGrant(s, c.node); got != c.want || ok != (c.want != none) {
			t.Errorf("%s: %+v, %v, want %+v", c.what, got, ok, c.want)
		}
	}
}

// Room is asked for on all of the path, where a queue above has less left than the leaf.
func TestNextGrantAsksForRoomAbove(t *testing.T) {
	s := impl.State{
		Queues: under(queue("p", "r", 5000, 5000), queue("p1", "p", 5000, top), queue("p2", "p", 5000, top)), Epoch: 1, Next: 3, Serial: 1,
		Apps:     []impl.App{app(1, "p1"), app(2, "p2", ask(21, 0, 1))},
		Machines: []impl.Machine{machine("m", 100, 100, 0)},
		Conts:    []impl.Cont{cont(1, 1, "m", 30, 0)},
	}
	if c, ok := impl.NextGrant(s, "m"); ok {
		t.Errorf("given beyond the most of a parent: %+v", c)
	}
	s.Apps[1].Asks[0].Res = res(20, 50)
	if c, ok := impl.NextGrant(s, "m"); !ok || c != cont(100001, 2, "m", 20, 50) {
		t.Errorf("not given at the most of a parent: %+v, %v", c, ok)
	}
	s.Apps[1].Asks[0].Res = res(20, 51)
	if c, ok := impl.NextGrant(s, "m"); ok {
		t.Errorf("given beyond the most of a parent in Cpu: %+v", c)
	}
}

// asking is a right state in which x is given 1x1 on m1, if there is a number for it.
func asking(count int) impl.State {
	return changedSharing(func(s *impl.State) { s.Apps[0].Asks = []impl.Ask{ask(1, 1, count)} })
}

func TestIds(t *testing.T) {
	for _, c := range []struct{ epoch, serial, want int }{
		{1, 1, 100001}, {1, 2, 100002}, {1, 99998, 199998}, {1, 99999, 199999}, {1, 100000, 100000}, {1, 100001, 100001}, {1, 199999, 199999},
		{1, 200000, 100000}, {1, most - 1, 199999}, {1, most, 100000}, {2, 7, 200007}, {9999, 99999, most - 1}, {10000, 100000, most}, {10000, most, most},
		{10000, 1, 0}, {10000, 100001, 0}, {10000, 99999, 0}, {10001, 100000, 0}, {10001, 1, 0}, {900000, 1, 0}, {most, 1, 0}, {most, most, 0},
	} {
		s := asking(1)
		s.Epoch, s.Serial = c.epoch, c.serial
		got, ok := impl.NextGrant(s, "m1")
		if ok != (c.want != 0) || got.Id != c.want || !ok && got != (impl.Cont{}) {
			t.Errorf("Epoch %d and Serial %d: %+v, %v", c.epoch, c.serial, got, ok)
		}
		next, _, _ := impl.Grant(s, "m1")
		if !impl.StateOk(next) || !ok && !sameState(next, s) {
			t.Errorf("behind Epoch %d and Serial %d: %+v", c.epoch, c.serial, next)
		}
	}
}

func TestAnIdThatIsThere(t *testing.T) {
	for _, place := range []int{0, 1, 2, 3, 4} {
		s := asking(1)
		s.Serial = 50
		for i := range 5 {
			s.Conts = append(s.Conts, cont(100050+i-place, 1002, "m2", 1, 1))
		}
		if c, ok := impl.NextGrant(s, "m1"); ok || c != (impl.Cont{}) {
			t.Errorf("an Id that is at place %d: %+v, %v", place, c, ok)
		}
		if got, c, ok := impl.Grant(s, "m1"); ok || c != (impl.Cont{}) || !sameState(got, s) {
			t.Errorf("granted an Id that is at place %d: %+v, %+v, %v", place, got, c, ok)
		}
	}
	// Beside those that are there.
	s := asking(1)
	s.Serial, s.Conts = 50, []impl.Cont{cont(100049, 1002, "m2", 1, 1), cont(100051, 1002, "m2", 1, 1)}
	if c, ok := impl.NextGrant(s, "m1"); !ok || c.Id != 100050 {
		t.Errorf("beside those that are there: %+v, %v", c, ok)
	}
}

func TestMaxConts(t *testing.T) {
	for _, n := range []int{impl.MaxConts - 2, impl.MaxConts - 1, impl.MaxConts} {
		s := many(1, 1, n, 0)
		s.Apps[0].Asks = []impl.Ask{ask(1, 1, 9)}
		s.Machines[0].Cap = res(1000, 1000)
		c, ok := impl.NextGrant(s, nodeName(0))
		if ok != (n < impl.MaxConts) || !ok && c != (impl.Cont{}) {
			t.Errorf("%d containers: %+v, %v", n, c, ok)
		}
		next, given := impl.Grants(s, nodeName(0), 50)
		if len(given) != impl.MaxConts-n || len(next.Conts) != impl.MaxConts || !impl.StateOk(next) {
			t.Errorf("%d containers: %d more, %d then", n, len(given), len(next.Conts))
		}
	}
}

func TestGrantTakesOneOfTheAsk(t *testing.T) {
	for count, left := range map[int][]impl.Ask{1: {}, 2: {ask(1, 1, 1)}, 3: {ask(1, 1, 2)}, 1000: {ask(1, 1, 999)}} {
		s := asking(count)
		got, c, ok := impl.Grant(s, "m1")
		if !ok || c != cont(100001, 1001, "m1", 1, 1) {
			t.Errorf("Count %d: %+v, %v", count, c, ok)
		}
		want := sharing()
		want.Apps[0].Asks, want.Serial, want.Conts = left, 2, []impl.Cont{c}
		if !sameState(got, want) {
			t.Errorf("Count %d: %+v, want %+v", count, got, want)
		}
	}
}

// Of asks that want just as much, the first one that suits is served, and all others stand as they did.
func TestGrantTakesTheAskThatSuits(t *testing.T) {
	for count, want := range map[int][]impl.Ask{
		1: {askOn("m2", 0, 1, 1, 1), ask(1, 1, 1), askOn("m1", 2, 1, 1, 1)},
		2: {askOn("m2", 0, 1, 1, 1), askOn("m1", 1, 1, 1, 1), ask(1, 1, 1), askOn("m1", 2, 1, 1, 1)},
	} {
		s := sharing()
		s.Apps[0].Asks = []impl.Ask{askOn("m2", 0, 1, 1, 1), askOn("m1", 1, 1, 1, count), ask(1, 1, 1), askOn("m1", 2, 1, 1, 1)}
		got, _, ok := impl.Grant(s, "m1")
		if !ok || !slices.Equal(got.Apps[0].Asks, want) {
			t.Errorf("Count %d: %+v, %v", count, got.Apps[0].Asks, ok)
		}
	}
}

func TestSerialBehindGrant(t *testing.T) {
	for serial, want := range map[int]int{1: 2, 2: 3, 99997: 99998, 99998: 99999, 99999: 1, 100000: 1, 100001: 1, 200000: 1, most - 1: 1, most: 1} {
		s := asking(1)
		s.Serial = serial
		got, _, ok := impl.Grant(s, "m1")
		if !ok || got.Serial != want || !impl.StateOk(got) {
			t.Errorf("Serial %d: %d, %v", serial, got.Serial, ok)
		}
	}
	// Round about, the container goes ahead of those of greater Ids.
	s := asking(3)
	s.Serial = 99998
	got, given := impl.Grants(s, "m1", 50)
	var ids, kept []int
	for _, c := range given {
		ids = append(ids, c.Id)
	}
	for _, c := range got.Conts {
		kept = append(kept, c.Id)
	}
	if !slices.Equal(ids, []int{199998, 199999, 100001}) || !slices.Equal(kept, []int{100001, 199998, 199999}) || got.Serial != 2 || !impl.StateOk(got) {
		t.Errorf("round about: %v, %v, %d", ids, kept, got.Serial)
	}
}

func TestContainersStayAscending(t *testing.T) {
	for _, id := range []int{1, 99999, 100001, 100049, 100051, 199999, 200000, most} {
		s := asking(1)
		s.Serial, s.Conts = 50, []impl.Cont{cont(id, 1002, "m2", 1, 1)}
		got, c, ok := impl.Grant(s, "m1")
		if !ok || c.Id != 100050 || len(got.Conts) != 2 || !impl.StateOk(got) {
			t.Errorf("beside %d: %+v, %v", id, got.Conts, ok)
		}
	}
}

func TestGrantsAtMost(t *testing.T) {
	for _, c := range []struct{ asked, most, want int }{
		{60, 0, 0}, {60, 1, 1}, {60, 2, 2}, {60, 49, 49}, {60, 50, 50}, {50, 50, 50}, {49, 50, 49}, {3, 50, 3}, {3, 3, 3}, {3, 2, 2}, {1, 1, 1}, {1, 50, 1},
		{60, 51, -1}, {60, -1, -1}, {3, 52, -1}, {3, math.MinInt, -1}, {3, math.MaxInt, -1}, {3, most, -1}, {3, -most, -1}, {3, 1<<32 + 1, -1},
	} {
		s := asking(c.asked)
		s.Apps[1].Asks = []impl.Ask{askOn("m2", 0, 1, 1, 1)}
		got, given := impl.Grants(s, "m1", c.most)
		if c.want < 0 {
			if len(given) != 0 || !sameState(got, s) {
				t.Errorf("Grants of %d: %+v, %+v", c.most, got, given)
			}
			continue
		}
		if len(given) != c.want || len(got.Conts) != c.want || got.Apps[1].Asks[0].Missed != 1 || got.Serial != 1+c.want || !impl.StateOk(got) {
			t.Errorf("Grants of %d where %d are asked for: %d, %+v", c.most, c.asked, len(given), got)
		}
		for i, one := range given {
			if one != cont(100001+i, 1001, "m1", 1, 1) {
				t.Errorf("Grants of %d: %+v at %d", c.most, one, i)
			}
		}
	}
}

// The order is reckoned anew behind each container, so that what is due goes round.
func TestGrantsGoRound(t *testing.T) {
	s := sharing()
	s.Apps[0].Asks, s.Apps[1].Asks = []impl.Ask{ask(4, 1, 9)}, []impl.Ask{ask(2, 1, 9)}
	_, given := impl.Grants(s, "m1", 6)
	var apps []int
	for _, c := range given {
		apps = append(apps, c.App)
	}
	if !slices.Equal(apps, []int{1001, 1002, 1002, 1001, 1002, 1002}) {
		t.Errorf("given to %v", apps)
	}
}

func TestMissed(t *testing.T) {
	for _, c := range []struct {
		asked        string
		missed, want int
	}{
		{"m2", 0, 1}, {"m2", 1, 2}, {"m2", impl.Patience - 1, impl.Patience}, {"m2", impl.Patience, impl.Patience}, {"m2", impl.Patience + 1, impl.Patience + 1},
		{"m2", 998, 998}, {"m2", 999, 999}, {"m2", 1000, 1000}, {"none", 0, 1}, {"none", 1000, 1000},
		{"m1", 0, 0}, {"m1", 2, 2}, {"m1", 1000, 1000}, {"", 0, 0}, {"", 2, 2}, {"", 999, 999}, {"", 1000, 1000},
	} {
		s := sharing()
		// No machine can so much, so it stays.
		s.Apps[0].Asks = []impl.Ask{askOn(c.asked, c.missed, 500, 1, 1)}
		for most := range 3 {
			got, given := impl.Grants(s, "m1", most)
			want := deepCopy(s)
			want.Apps[0].Asks[0].Missed = c.want
			if len(given) != 0 || !sameState(got, want) {
				t.Errorf("an ask for %q, missed %d: %+v, %+v", c.asked, c.missed, got.Apps[0].Asks, given)
			}
		}
	}
}

// An ask that is passed over gets older by one each time, whatever is given beside it, and goes anywhere at last.
func TestPatienceEnds(t *testing.T) {
	s := sharing()
	s.Apps[0].Asks = []impl.Ask{askOn("m2", 0, 1, 1, 2)}
	s.Apps[4].Asks = []impl.Ask{ask(1, 1, 9), askOn("none", 0, 1, 1, 1)}
	for turn := range impl.Patience {
		next, given := impl.Grants(s, "m1", 1)
		if len(given) != 1 || given[0].App != 1005 || next.Apps[0].Asks[0].Missed != turn+1 || next.Apps[4].Asks[1].Missed != turn+1 || next.Apps[4].Asks[0].Missed != 0 {
			t.Fatalf("turn %d: %+v, %+v", turn, given, next.Apps)
		}
		s = next
	}
	next, given := impl.Grants(s, "m1", 1)
	if len(given) != 1 || given[0].App != 1001 || given[0].Node != "m1" || next.Apps[0].Asks[0] != askOn("m2", impl.Patience, 1, 1, 1) {
		t.Errorf("at last: %+v, %+v", given, next.Apps)
	}
}

func TestStarving(t *testing.T) {
	// The total is 160x140, so x and y are due 64x56 each.
	for _, c := range []struct {
		has  impl.Res
		want bool
	}{
		{res(0, 0), true}, {res(63, 55), true}, {res(63, 56), true}, {res(64, 55), true}, {res(64, 56), false}, {res(65, 55), false}, {res(63, 57), false},
		{res(65, 56), false}, {res(64, 57), false}, {res(65, 57), false}, {res(0, 57), false}, {res(65, 0), false}, {res(0, 56), true}, {res(64, 0), true}, {res(100, 100), false},
	} {
		s := sharing()
		if c.has != (impl.Res{}) {
			s.Conts = []impl.Cont{cont(1, 1003, "m1", c.has.Mem, c.has.Cpu)}
		}
		if got := impl.Starving(s); len(got) != 0 {
			t.Errorf("nobody asks, with %v: %v", c.has, got)
		}
		s.Apps[0].Asks, s.Apps[3].Asks = []impl.Ask{ask(1, 0, 1)}, []impl.Ask{ask(1, 0, 1)}
		if got := slices.Contains(impl.Starving(s), "x"); got != c.want || !impl.StateOk(s) {
			t.Errorf("with %v: %v", c.has, got)
		}
		if slices.Contains(impl.Starving(s), "z") {
			t.Errorf("one to which nothing is due starves")
		}
	}
	s := sharing()
	s.Apps[4].Asks, s.Apps[2].Asks, s.Apps[3].Asks = []impl.Ask{ask(1, 0, 1)}, []impl.Ask{ask(999, 0, 1)}, []impl.Ask{ask(1, 0, 1)}
	if got := impl.Starving(s); !slices.Equal(got, []string{"x", "y"}) {
		t.Errorf("ascending: %v", got)
	}
	// Both have as much and less: they stand by Name, not by what they have.
	s.Conts = []impl.Cont{cont(1, 1001, "m1", 50, 50)}
	if got := impl.Starving(s); !slices.Equal(got, []string{"x", "y"}) {
		t.Errorf("by Name: %v", got)
	}
	for what, q := range wrongTrees() {
		s.Queues = q
		if got := impl.Starving(s); len(got) != 0 {
			t.Errorf("%s: %v", what, got)
		}
	}
}

func TestNothingIsGivenInWrongStates(t *testing.T) {
	for what, s := range wrongStates() {
		for _, node := range append([]string{"m", "m1", "m4", nodeName(0), ""}, nodesOf(s)...) {
			if c, ok := impl.NextGrant(s, node); ok || c != (impl.Cont{}) {
				t.Errorf("%s: NextGrant on %q: %+v, %v", what, node, c, ok)
			}
			if got, c, ok := impl.Grant(s, node); ok || c != (impl.Cont{}) || !sameState(got, s) {
				t.Errorf("%s: Grant on %q: %+v, %v", what, node, c, ok)
			}
			if got, given := impl.Grants(s, node, 1); len(given) != 0 || !sameState(got, s) {
				t.Errorf("%s: Grants on %q: %+v", what, node, given)
			}
		}
	}
}

func nodesOf(s impl.State) []string {
	var out []string
	for _, m := range s.Machines[:min(len(s.Machines), 25)] {
		out = append(out, m.Name)
	}
	return out
}

// What would be given in a right state is not given once anything at all of it is wrong.
func TestOneWrongThingIsEnough(t *testing.T) {
	wrong := map[string]func(s *impl.State){
		"no queues":        func(s *impl.State) { s.Queues = nil },
		"a wrong queue":    func(s *impl.State) { s.Queues[3].Due = -1 },
		"Clock":            func(s *impl.State) { s.Clock = -1 },
		"Next":             func(s *impl.State) { s.Next = 1005 },
		"another's queue":  func(s *impl.State) { s.Apps[4].Queue = "root" },
		"another's ask":    func(s *impl.State) { s.Apps[4].Asks = []impl.Ask{ask(1, 1, 0)} },
		"its own ask":      func(s *impl.State) { s.Apps[0].Asks[0].Missed = 1001 },
		"another machine":  func(s *impl.State) { s.Machines[1].Seen = 4 },
		"a container":      func(s *impl.State) { s.Conts[0].App = 9 },
		"two machines":     func(s *impl.State) { s.Machines[1].Name = "m1" },
		"two applications": func(s *impl.State) { s.Apps[1].Id = 1001 },
		"all Caps":         func(s *impl.State) { s.Machines[1].Cap.Mem = most },
	}
	for _, n := range []int{0, -1, most + 1, math.MinInt, math.MaxInt} {
		at := strconv.Itoa(n)
		wrong["Epoch "+at] = func(s *impl.State) { s.Epoch = n }
		wrong["Serial "+at] = func(s *impl.State) { s.Serial = n }
		wrong["Next "+at] = func(s *impl.State) { s.Next = n }
	}
	right := func() impl.State {
		s := asking(2)
		s.Conts = []impl.Cont{cont(5, 1002, "m2", 1, 1)}
		s.Apps[1].Asks = []impl.Ask{askOn("m2", 0, 1, 1, 1)}
		return s
	}
	if _, _, ok := impl.Grant(right(), "m1"); !ok {
		t.Fatal("nothing is given in the right state")
	}
	for what, change := range wrong {
		s := right()
		change(&s)
		_, ok := impl.NextGrant(s, "m1")
		got, c, granted := impl.Grant(s, "m1")
		if ok || granted || c != (impl.Cont{}) || !sameState(got, s) {
			t.Errorf("%s: %v, %+v, %+v", what, ok, c, got)
		}
		if got, given := impl.Grants(s, "m1", 2); len(given) != 0 || !sameState(got, s) {
			t.Errorf("%s: Grants: %+v, %+v", what, given, got)
		}
	}
}

func TestMachinesThatAreNotThere(t *testing.T) {
	s := asking(2)
	s.Apps[1].Asks = []impl.Ask{askOn("m2", 0, 1, 1, 1)}
	for _, node := range append([]string{"", "m", "m3", "m11", "root", "x", "1001"}, wrongNames...) {
		c, ok := impl.NextGrant(s, node)
		got, d, granted := impl.Grant(s, node)
		all, given := impl.Grants(s, node, 3)
		if ok || granted || c != (impl.Cont{}) || d != (impl.Cont{}) || len(given) != 0 || !sameState(got, s) || !sameState(all, s) {
			t.Errorf("on %q: %v, %v, %+v", node, ok, granted, given)
		}
	}
	s.Machines = nil
	if all, given := impl.Grants(s, "m1", 3); len(given) != 0 || !sameState(all, s) {
		t.Errorf("without machines: %+v", given)
	}
}

// overwrite writes into all that a state's lists have, and behind them.
func overwrite(s impl.State) {
	for i := range s.Apps {
		for k := range s.Apps[i].Asks {
			s.Apps[i].Asks[k] = askOn("written", -1, -1, -1, -1)
		}
		_ = append(s.Apps[i].Asks, askOn("behind", -1, -1, -1, -1))
		s.Apps[i] = app(-1, "written")
	}
	for i := range s.Queues {
		s.Queues[i] = queue("written", "", -1, -1)
	}
	for i := range s.Machines {
		s.Machines[i] = machine("written", -1, -1, -1)
	}
	overwriteConts(s.Conts)
	_ = append(s.Apps, app(-1, "behind"))
	_ = append(s.Queues, queue("behind", "", -1, -1))
	_ = append(s.Machines, machine("behind", -1, -1, -1))
}

func overwriteConts(conts []impl.Cont) {
	for i := range conts {
		conts[i] = cont(-1, -1, "written", -1, -1)
	}
	_ = append(conts, cont(-1, -1, "behind", -1, -1))
}

func overwriteNames(names []string) {
	for i := range names {
		names[i] = "written"
	}
	_ = append(names, "behind")
}

func callAllOfGiving(s impl.State, node string, most int) {
	overwriteNames(impl.QueueOrder(s))
	overwriteNames(impl.Starving(s))
	impl.NextGrant(s, node)
	one, _, _ := impl.Grant(s, node)
	overwrite(one)
	all, given := impl.Grants(s, node, most)
	overwrite(all)
	overwriteConts(given)
}

func TestGivingWritesIntoNothing(t *testing.T) {
	r := rand.New(rand.NewSource(23))
	var states []impl.State
	for _, named := range []map[string]impl.State{rightStates(), wrongStates()} {
		for _, s := range named {
			states = append(states, s)
		}
	}
	for range 500 {
		states = append(states, busyState(r), spoiltState(r, busyState(r)))
	}
	for _, s := range states {
		handed := withRoom(s)
		before := behind(handed)
		for _, node := range []string{"m", "m1", "m100", "m101", "spare", ""} {
			for _, most := range []int{-1, 0, 2, 50, 51} {
				callAllOfGiving(handed, node, most)
			}
		}
		if !reflect.DeepEqual(behind(handed), before) {
			t.Fatalf("written into: %+v", s)
		}
	}
}

func TestGivingHandsBackNewMemory(t *testing.T) {
	r := rand.New(rand.NewSource(24))
	for range 1000 {
		s := busyState(r)
		if r.Intn(3) == 0 {
			s = spoiltState(r, s)
		}
		node, most := nodeName(r.Intn(3)), r.Intn(6)-1
		wantOne, _, _ := grantByRule(s, node)
		wantAll, wantGiven := grantsByRule(s, node, most)
		order, starving := orderByRule(s), starvingByRule(s)
		handed := withRoom(s)
		one, _, _ := impl.Grant(handed, node)
		all, given := impl.Grants(handed, node, most)
		names, hungry := impl.QueueOrder(handed), impl.Starving(handed)
		overwrite(handed)
		if !sameState(one, wantOne) || !sameState(all, wantAll) || !slices.Equal(given, wantGiven) || !slices.Equal(names, order) || !slices.Equal(hungry, starving) {
			t.Fatalf("what was answered is what was handed in: %+v", s)
		}
		// The state and the list beside it are two.
		overwriteConts(given)
		if !sameState(all, wantAll) {
			t.Fatalf("the list that is answered is the state's: %+v", all)
		}
		_, given = impl.Grants(s, node, most)
		overwrite(all)
		if !slices.Equal(given, wantGiven) {
			t.Fatalf("the state that is answered has the list's: %+v", given)
		}
	}
}

func TestGivingKeepsNothing(t *testing.T) {
	r := rand.New(rand.NewSource(25))
	for range 300 {
		s, other := busyState(r), busyState(r)
		first, given := impl.Grants(s, "m100", 9)
		names := impl.QueueOrder(s)
		impl.Grants(other, "m100", 9)
		impl.QueueOrder(other)
		again, givenAgain := impl.Grants(s, "m100", 9)
		if !sameState(first, again) || !slices.Equal(given, givenAgain) || !slices.Equal(names, impl.QueueOrder(s)) {
			t.Fatalf("another answer at the second time: %+v", s)
		}
	}
}

// A leaf that has room, below one that has none, is gone through up to its last ask, as often as may be.
func TestGrantsEndsAtTheGreatestStates(t *testing.T) {
	s := impl.State{Queues: append(chain(impl.MaxQueues-1), queue("x", "q1", 1, top)), Epoch: 1, Next: most, Serial: 1}
	s.Queues[1].Due, s.Queues[1].Most = 100, 100
	s.Machines = []impl.Machine{machine("m", 1000, 1000, 0), machine("n", 100000, 100000, 0)}
	s.Apps = []impl.App{app(1, "x")}
	for i := 2; i <= impl.MaxApps; i++ {
		s.Apps = append(s.Apps, app(i, "q18"))
		for range impl.MaxAsks {
			s.Apps[i-1].Asks = append(s.Apps[i-1].Asks, ask(500, 500, 1))
		}
	}
	s.Apps[impl.MaxApps-1].Asks[impl.MaxAsks-1] = ask(1, 1, 1000)
	for i := range 100 {
		s.Conts = append(s.Conts, cont(i+1, 1, "n", 6, 6))
	}
	if got, given := impl.Grants(s, "m", 50); len(given) != 50 || given[49] != cont(100050, impl.MaxApps, "m", 1, 1) || !isState(got) {
		t.Errorf("%d given: %+v", len(given), given)
	}
}

func TestGivingAnswersAtAnyArguments(t *testing.T) {
	r := rand.New(rand.NewSource(26))
	numbers := append([]int{0, 1, 2, 3, 50, 1000, most - 1, most}, wrongNumbers...)
	names := append([]string{"", "r", "a", "m"}, wrongNames...)
	number := func() int { return *one(r, numbers) }
	name := func() string { return *one(r, names) }
	amount := func() impl.Res { return res(number(), number()) }
	for range 10000 {
		s := impl.State{Clock: number(), Epoch: number(), Next: number(), Serial: number()}
		if r.Intn(3) > 0 {
			s.Queues = under(queue("a", "r", 5000, 5000), queue("b", "r", 5000, 6000))
		}
		for range r.Intn(3) {
			s.Apps = append(s.Apps, impl.App{Id: number(), Queue: name(), Asks: []impl.Ask{{Res: amount(), Count: number(), Node: name(), Missed: number()}}})
			s.Machines = append(s.Machines, impl.Machine{Name: name(), Cap: amount(), Seen: number()})
			s.Conts = append(s.Conts, impl.Cont{Id: number(), App: number(), Node: name(), Res: amount()})
		}
		checkOrder(t, "any", s)
		checkGrant(t, "any", s, name())
		checkGrants(t, "any", s, name(), number())
		a, node := impl.Ask{Res: amount(), Count: number(), Node: name(), Missed: number()}, name()
		if got := impl.Suits(a, node); got != suitsByRule(a, node) {
			t.Fatalf("Suits(%+v, %q): %v", a, node, got)
		}
	}
}
