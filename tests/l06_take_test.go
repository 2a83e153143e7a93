package tests

import (
	"math"
	"math/rand"
	"reflect"
	"slices"
	"strconv"
	"testing"

	"loop.example/g00275/impl"
)

// taken is a state of four leaves: a, b and c are due 40x40 each, d nothing. All machines together can 160x160.
// b has 70x20 in three containers, c 50x10 in two, d nothing, and a, which asks for 9 of 10x5, has 10x10.
func taken() impl.State {
	return impl.State{
		Queues: under(queue("a", "r", 2500, top), queue("b", "r", 2500, top), queue("c", "r", 2500, top), queue("d", "r", 0, top)),
		Clock:  4, Epoch: 1, Next: 1006, Serial: 20,
		Apps:     []impl.App{app(1001, "a", ask(10, 5, 9)), app(1002, "b"), app(1003, "c"), app(1004, "b", ask(1, 1, 1)), app(1005, "d")},
		Machines: []impl.Machine{machine("m1", 100, 100, 1), machine("m2", 60, 60, 2), machine("m3", 0, 0, 3)},
		Conts: []impl.Cont{
			cont(100001, 1002, "m1", 30, 10), cont(100002, 1003, "m1", 25, 5), cont(100003, 1001, "m1", 10, 10),
			cont(100004, 1004, "m2", 20, 5), cont(100005, 1003, "m2", 25, 5), cont(100006, 1002, "m1", 20, 5),
		},
	}
}

func changedTaken(change func(s *impl.State)) impl.State {
	s := taken()
	change(&s)
	return s
}

func overByRule(s impl.State, queue string) bool {
	if !isTree(s.Queues) || !slices.Contains(leavesOf(s.Queues), queue) {
		return false
	}
	used, due := usedByRule(s, queue), dueByRule(s, queue)
	return used.Mem > due.Mem || used.Cpu > due.Cpu
}

// wantedByRule: no list of the tests is so long that the sum wraps round.
func wantedByRule(s impl.State, queue string) impl.Res {
	sum := impl.Res{}
	for _, a := range s.Apps {
		for _, one := range a.Asks {
			if a.Queue == queue && isAsk(one) {
				sum = res(sum.Mem+one.Res.Mem*one.Count, sum.Cpu+one.Res.Cpu*one.Count)
			}
		}
	}
	return sum
}

func lackByRule(s impl.State, queue string) impl.Res {
	if !isTree(s.Queues) || !slices.Contains(leavesOf(s.Queues), queue) {
		return impl.Res{}
	}
	used, due, wanted := usedByRule(s, queue), dueByRule(s, queue), wantedByRule(s, queue)
	return res(min(max(due.Mem-used.Mem, 0), wanted.Mem), min(max(due.Cpu-used.Cpu, 0), wanted.Cpu))
}

func queueOfCont(s impl.State, c impl.Cont) string {
	i := slices.IndexFunc(s.Apps, func(a impl.App) bool { return a.Id == c.App })
	return s.Apps[i].Queue
}

func withoutByRule(s impl.State, goes func(impl.Cont) bool) (impl.State, []impl.Cont) {
	s = deepCopy(s)
	var stay, gone []impl.Cont
	for _, c := range s.Conts {
		if goes(c) {
			gone = append(gone, c)
		} else {
			stay = append(stay, c)
		}
	}
	s.Conts = stay
	return s, gone
}

func lastOver(s impl.State) string {
	last := ""
	for _, name := range orderByRule(s) {
		if overByRule(s, name) {
			last = name
		}
	}
	return last
}

func victimsByRule(s impl.State, queue string) []int {
	if !isState(s) || !slices.Contains(starvingByRule(s), queue) {
		return nil
	}
	lack, back := lackByRule(s, queue), impl.Res{}
	var ids []int
	for back.Mem < lack.Mem || back.Cpu < lack.Cpu {
		from := lastOver(s)
		if from == "" {
			break
		}
		greatest := impl.Cont{}
		for _, c := range s.Conts {
			if queueOfCont(s, c) == from && c.Id > greatest.Id {
				greatest = c
			}
		}
		ids = append(ids, greatest.Id)
		back = res(back.Mem+greatest.Res.Mem, back.Cpu+greatest.Res.Cpu)
		s, _ = withoutByRule(s, func(c impl.Cont) bool { return c.Id == greatest.Id })
	}
	return ids
}

func takeBackByRule(s impl.State, ids []int) (impl.State, []impl.Cont) {
	if !isState(s) {
		return s, nil
	}
	return withoutByRule(s, func(c impl.Cont) bool { return slices.Contains(ids, c.Id) })
}

func dropByRule(s impl.State, id int) (impl.State, []impl.Cont) {
	if !isState(s) {
		return s, nil
	}
	s, gone := withoutByRule(s, func(c impl.Cont) bool { return c.App == id })
	s.Apps = slices.DeleteFunc(s.Apps, func(a impl.App) bool { return a.Id == id })
	return s, gone
}

func loseByRule(s impl.State, node string) (impl.State, []impl.Cont) {
	if !isState(s) {
		return s, nil
	}
	s, gone := withoutByRule(s, func(c impl.Cont) bool { return c.Node == node })
	s.Machines = slices.DeleteFunc(s.Machines, func(m impl.Machine) bool { return m.Name == node })
	return s, gone
}

func checkVictims(t *testing.T, what string, s impl.State, queue string) {
	t.Helper()
	if got, want := impl.Over(s, queue), overByRule(s, queue); got != want {
		t.Fatalf("%s: Over(%+v, %q): %v", what, s, queue, got)
	}
	if got, want := impl.Lack(s, queue), lackByRule(s, queue); got != want {
		t.Fatalf("%s: Lack(%+v, %q): %v, want %v", what, s, queue, got, want)
	}
	if got, want := impl.Victims(s, queue), victimsByRule(s, queue); !slices.Equal(got, want) {
		t.Fatalf("%s: Victims(%+v, %q): %v, want %v", what, s, queue, got, want)
	}
}

func checkLeft(t *testing.T, what string, s impl.State, got impl.State, gone []impl.Cont, want impl.State, wantGone []impl.Cont) {
	t.Helper()
	if !sameState(got, want) || !slices.Equal(gone, wantGone) {
		t.Fatalf("%s of %+v: %+v, %+v, want %+v, %+v", what, s, got, gone, want, wantGone)
	}
	if impl.StateOk(s) && !impl.StateOk(got) {
		t.Fatalf("%s: not right any more: %+v", what, got)
	}
}

func checkTaking(t *testing.T, what string, s impl.State, ids []int, id int, node string) {
	t.Helper()
	got, gone := impl.TakeBack(s, ids)
	want, wantGone := takeBackByRule(s, ids)
	checkLeft(t, what+": TakeBack", s, got, gone, want, wantGone)
	got, gone = impl.Drop(s, id)
	want, wantGone = dropByRule(s, id)
	checkLeft(t, what+": Drop", s, got, gone, want, wantGone)
	got, gone = impl.Lose(s, node)
	want, wantGone = loseByRule(s, node)
	checkLeft(t, what+": Lose", s, got, gone, want, wantGone)
}

// flatTree has leaves that are due something, most of them as much as others, some below one that is no leaf.
func flatTree(r *rand.Rand) []impl.Queue {
	q := under(queue("q1", "r", *one(r, []int{1000, 2500}), top))
	for i := range 1 + r.Intn(5) {
		parent := *one(r, []string{"r", "r", "q1"})
		q = append(q, queue(numbered(i+2), parent, *one(r, []int{0, 500, 1500, 1500, 1500}), top))
	}
	return q
}

// crowdedState is a right state of small amounts, in which some queues have much and others, or they too, ask for much.
func crowdedState(r *rand.Rand) impl.State {
	s := impl.State{Queues: flatTree(r), Clock: 5, Epoch: 1, Next: 1, Serial: 1 + r.Intn(9)}
	for range 2 + r.Intn(6) {
		a := app(s.Next, *one(r, leavesOf(s.Queues)))
		for range r.Intn(4) {
			a.Asks = append(a.Asks, busyAsk(r))
		}
		s.Apps = append(s.Apps, a)
		s.Next++
	}
	for i := range 1 + r.Intn(3) {
		s.Machines = append(s.Machines, machine(nodeName(i), 20+r.Intn(80), 20+r.Intn(80), r.Intn(6)))
	}
	id := 0
	for len(s.Apps) > 0 && len(s.Machines) > 0 && r.Intn(30) > 0 {
		// Those that come first have most.
		a := s.Apps[min(r.Intn(len(s.Apps)), r.Intn(len(s.Apps)))]
		id += 1 + r.Intn(3)
		c := cont(id, a.Id, one(r, s.Machines).Name, r.Intn(9), 1+r.Intn(9))
		if free := freeOnByRule(s, c.Node); c.Res.Mem <= free.Mem && c.Res.Cpu <= free.Cpu {
			s.Conts = append(s.Conts, c)
		}
	}
	return s
}

func someIds(r *rand.Rand, s impl.State) []int {
	var ids []int
	for range r.Intn(6) {
		if len(s.Conts) > 0 && r.Intn(3) > 0 {
			ids = append(ids, one(r, s.Conts).Id)
		} else {
			ids = append(ids, *one(r, append([]int{0, 1, 2, 3, 100001, most}, wrongNumbers...)))
		}
	}
	return ids
}

func someApp(r *rand.Rand, s impl.State) int {
	if len(s.Apps) > 0 && r.Intn(4) > 0 {
		return one(r, s.Apps).Id
	}
	return *one(r, append([]int{0, 1, 2, 1001, most}, wrongNumbers...))
}

func TestTakingBackByTheRules(t *testing.T) {
	r := rand.New(rand.NewSource(30))
	for _, states := range []map[string]impl.State{rightStates(), wrongStates()} {
		for what, s := range states {
			if len(s.Conts) > 1000 {
				continue
			}
			for _, name := range append(namesIn(s), "", "none", "abcdefghijk") {
				checkVictims(t, what, s, name)
				checkTaking(t, what, s, someIds(r, s), someApp(r, s), name)
			}
		}
	}
	victims := [4]int{}
	for range 3000 {
		s := crowdedState(r)
		for _, q := range s.Queues {
			checkVictims(t, "", s, q.Name)
			victims[min(len(impl.Victims(s, q.Name)), 3)]++
		}
		checkTaking(t, "", s, someIds(r, s), someApp(r, s), nodeName(r.Intn(4)))
		s = spoiltState(r, s)
		for _, name := range append([]string{"", "q0", "q1", "zz"}, leavesOf(s.Queues)...) {
			checkVictims(t, "spoilt", s, name)
		}
		checkTaking(t, "spoilt", s, someIds(r, s), someApp(r, s), nodeName(r.Intn(4)))
	}
	for n, times := range victims {
		if times < 100 {
			t.Errorf("%d queues with %d victims", times, n)
		}
	}
}

// Promise 6: each that is taken is of one that has too much then; at the end it is enough, or nobody has too much.
func TestWhatIsTakenIsOfThoseThatHaveTooMuch(t *testing.T) {
	r := rand.New(rand.NewSource(31))
	enough, atEnd := 0, 0
	for range 4000 {
		s := crowdedState(r)
		for _, name := range impl.Starving(s) {
			left, back := s, impl.Res{}
			lack := impl.Lack(s, name)
			for _, id := range impl.Victims(s, name) {
				if impl.Within(lack, back) {
					t.Fatalf("%d is taken for %q, which has enough by then: %+v", id, name, s)
				}
				next, gone := impl.TakeBack(left, []int{id})
				if len(gone) != 1 || gone[0].Id != id || !impl.Over(left, queueOfCont(s, gone[0])) {
					t.Fatalf("%d is taken for %q, of one that has not too much: %+v", id, name, s)
				}
				left, back = next, res(back.Mem+gone[0].Res.Mem, back.Cpu+gone[0].Res.Cpu)
			}
			if impl.Within(lack, back) {
				enough++
			} else if slices.ContainsFunc(leavesOf(left.Queues), func(leaf string) bool { return impl.Over(left, leaf) }) {
				t.Fatalf("not enough for %q, where somebody has too much still: %+v", name, left)
			} else {
				atEnd++
			}
			if !impl.StateOk(left) || impl.UsedBy(left, name) != impl.UsedBy(s, name) {
				t.Fatalf("not right behind it, or %q has less itself: %+v", name, left)
			}
		}
	}
	if enough < 500 || atEnd < 300 {
		t.Errorf("enough for %d queues, not enough for %d", enough, atEnd)
	}
}

func TestOver(t *testing.T) {
	for _, c := range []struct {
		has  impl.Res
		want bool
	}{
		{res(0, 0), false}, {res(40, 40), false}, {res(39, 40), false}, {res(40, 39), false}, {res(41, 40), true}, {res(40, 41), true}, {res(41, 41), true},
		{res(39, 41), true}, {res(41, 39), true}, {res(0, 41), true}, {res(41, 0), true}, {res(39, 39), false}, {res(40, 0), false}, {res(0, 40), false}, {res(100, 100), true},
	} {
		s := changedTaken(func(s *impl.State) { s.Conts = nil })
		if c.has != (impl.Res{}) {
			s.Conts = []impl.Cont{cont(1, 1003, "m1", c.has.Mem, c.has.Cpu)}
		}
		if got := impl.Over(s, "c"); got != c.want || !impl.StateOk(s) {
			t.Errorf("with %v: %v", c.has, got)
		}
		if impl.Over(s, "a") || impl.Over(s, "b") {
			t.Errorf("another one is over at %v", c.has)
		}
		// One to which nothing is due has too much with anything at all.
		for i := range s.Conts {
			s.Conts[i].App = 1005
		}
		if got := impl.Over(s, "d"); got != (c.has != impl.Res{}) {
			t.Errorf("nothing is due, with %v: %v", c.has, got)
		}
	}
	// It is of two containers of two applications together.
	s := taken()
	for name, want := range map[string]bool{"a": false, "b": true, "c": true, "d": false, "r": false, "": false, "e": false, "A": false, "m1": false} {
		if got := impl.Over(s, name); got != want {
			t.Errorf("Over of %q: %v", name, got)
		}
	}
	for _, name := range wrongNames {
		if impl.Over(s, name) {
			t.Errorf("Over of %q", name)
		}
	}
	// What is used counts without machines too: all that is due is nothing then.
	s.Machines = nil
	if !impl.Over(s, "a") || !impl.Over(s, "b") || impl.Over(s, "d") || impl.Over(s, "r") {
		t.Error("without machines")
	}
}

func TestNoLeafIsOver(t *testing.T) {
	s := impl.State{Queues: under(queue("p", "r", 1, top), queue("p1", "p", 1, top)), Epoch: 1, Next: 2, Serial: 1,
		Apps: []impl.App{app(1, "p1", ask(1, 1, 1))}, Machines: []impl.Machine{machine("m", 10, 10, 0)}, Conts: []impl.Cont{cont(1, 1, "m", 10, 10)}}
	if impl.Over(s, "r") || impl.Over(s, "p") || !impl.Over(s, "p1") {
		t.Error("one that is no leaf is over, or the leaf is not")
	}
	s.Conts, s.Queues[1].Due, s.Queues[2].Due = nil, top, top
	if impl.Lack(s, "r") != (impl.Res{}) || impl.Lack(s, "p") != (impl.Res{}) || impl.Lack(s, "p1") != res(1, 1) {
		t.Error("one that is no leaf lacks something, or the leaf nothing")
	}
}

func TestLack(t *testing.T) {
	// a is due 40x40, and has 10x10.
	for _, c := range []struct {
		what string
		asks []impl.Ask
		want impl.Res
	}{
		{"nothing is wanted", nil, res(0, 0)},
		{"less is wanted than is due", []impl.Ask{ask(1, 2, 3)}, res(3, 6)},
		{"as much is wanted as is due", []impl.Ask{ask(30, 30, 1)}, res(30, 30)},
		{"one less", []impl.Ask{ask(29, 29, 1)}, res(29, 29)},
		{"one more", []impl.Ask{ask(31, 31, 1)}, res(30, 30)},
		{"more is wanted than is due", []impl.Ask{ask(10, 10, 100)}, res(30, 30)},
		{"in Mem less and in Cpu more", []impl.Ask{ask(1, 10, 4)}, res(4, 30)},
		{"in Mem more and in Cpu less", []impl.Ask{ask(10, 1, 4)}, res(30, 4)},
		{"in Mem nothing", []impl.Ask{ask(0, 7, 2)}, res(0, 14)},
		{"in Cpu nothing", []impl.Ask{ask(7, 0, 2)}, res(14, 0)},
		{"two asks", []impl.Ask{ask(1, 2, 3), ask(4, 5, 2)}, res(11, 16)},
		{"an ask for one machine counts", []impl.Ask{askOn("m1", 0, 1, 2, 3), askOn("zz", 1000, 1, 1, 1)}, res(4, 7)},
		{"MaxNumber and more", []impl.Ask{ask(most, most, 1000), ask(most, 0, 1000)}, res(30, 30)},
		{"ten of the greatest", slices.Repeat([]impl.Ask{ask(most, most, 1000)}, 10), res(30, 30)},
	} {
		s := changedTaken(func(s *impl.State) { s.Apps[0].Asks = c.asks })
		if got := impl.Lack(s, "a"); got != c.want || !impl.StateOk(s) {
			t.Errorf("%s: %v, want %v", c.what, got, c.want)
		}
		// The same by two applications of one queue.
		s.Apps[0].Queue, s.Apps[1].Queue, s.Apps[3].Queue = "b", "a", "a"
		s.Conts = []impl.Cont{cont(1, 1002, "m1", 4, 10), cont(2, 1004, "m1", 6, 0)}
		s.Apps[0].Asks, s.Apps[1].Asks, s.Apps[3].Asks = []impl.Ask{ask(9, 9, 9)}, c.asks[:len(c.asks)/2], c.asks[len(c.asks)/2:]
		if got := impl.Lack(s, "a"); got != c.want || !impl.StateOk(s) {
			t.Errorf("%s, of two: %v, want %v", c.what, got, c.want)
		}
	}
}

func TestLackByWhatItHas(t *testing.T) {
	for _, c := range []struct{ has, want impl.Res }{
		{res(0, 0), res(40, 40)}, {res(40, 40), res(0, 0)}, {res(39, 40), res(1, 0)}, {res(40, 39), res(0, 1)}, {res(41, 39), res(0, 1)}, {res(39, 41), res(1, 0)},
		{res(41, 41), res(0, 0)}, {res(100, 100), res(0, 0)}, {res(100, 0), res(0, 40)}, {res(0, 100), res(40, 0)}, {res(1, 2), res(39, 38)},
	} {
		s := changedTaken(func(s *impl.State) { s.Conts, s.Apps[2].Asks = nil, []impl.Ask{ask(100, 100, 1)} })
		if c.has != (impl.Res{}) {
			s.Conts = []impl.Cont{cont(1, 1003, "m1", c.has.Mem, c.has.Cpu)}
		}
		if got := impl.Lack(s, "c"); got != c.want || !impl.StateOk(s) {
			t.Errorf("with %v: %v, want %v", c.has, got, c.want)
		}
	}
	s := changedTaken(func(s *impl.State) { s.Apps[4].Asks = []impl.Ask{ask(9, 9, 9)} })
	for _, name := range append([]string{"d", "r", "", "e", "m1", "1001"}, wrongNames...) {
		if got := impl.Lack(s, name); got != (impl.Res{}) {
			t.Errorf("Lack of %q: %v", name, got)
		}
	}
	s.Machines = nil
	if got := impl.Lack(s, "a"); got != (impl.Res{}) {
		t.Errorf("without machines: %v", got)
	}
	// The greatest: all that there can be is due, and wanted by as many as may be.
	s = many(impl.MaxApps, 1, 0, impl.MaxAsks)
	s.Machines[0].Cap = res(most, most)
	for _, a := range s.Apps {
		for k := range a.Asks {
			a.Asks[k] = ask(most, most, 1000)
		}
	}
	if got := impl.Lack(s, "r"); got != res(most, most) || !impl.StateOk(s) {
		t.Errorf("at most: %v", got)
	}
	s.Apps = []impl.App{app(1, "r", ask(999999, 1000000, 1000))}
	if got := impl.Lack(s, "r"); got != res(most-1000, most) {
		t.Errorf("just below and at most: %v", got)
	}
}

// Asks that are not right want nothing, and take nothing from what right ones want.
func TestLackOfAsksThatAreNotRight(t *testing.T) {
	wrong := map[string]impl.Ask{
		"nothing": ask(0, 0, 5), "Count 0": ask(1, 1, 0), "Count 1001": ask(1, 1, 1001), "Missed 1001": askOn("", 1001, 1, 1, 1), "no name": askOn("M", 0, 1, 1, 1), "11 bytes": askOn("abcdefghijk", 0, 1, 1, 1),
	}
	for _, n := range wrongNumbers {
		at := strconv.Itoa(n)
		wrong["Mem "+at], wrong["Cpu "+at], wrong["both "+at] = ask(n, 1, 1), ask(1, n, 1), ask(n, n, 1)
		wrong["Count "+at], wrong["Missed "+at] = ask(1, 1, n), askOn("", n, 1, 1, 1)
		wrong["all "+at] = askOn("", n, n, n, n)
	}
	for what, bad := range wrong {
		s := changedTaken(func(s *impl.State) { s.Apps[0].Asks = []impl.Ask{bad} })
		if got := impl.Lack(s, "a"); got != (impl.Res{}) {
			t.Errorf("%s: %v", what, got)
		}
		s.Apps[0].Asks = []impl.Ask{ask(2, 3, 4), bad, askOn("m2", 1000, 1, 1, 1)}
		if got := impl.Lack(s, "a"); got != res(9, 13) {
			t.Errorf("%s among right ones: %v", what, got)
		}
		if got := impl.Victims(s, "a"); len(got) != 0 {
			t.Errorf("%s: taken %v", what, got)
		}
	}
	// More asks than an application may have are right each for itself.
	s := changedTaken(func(s *impl.State) { s.Apps[0].Asks = slices.Repeat([]impl.Ask{ask(1, 2, 1)}, impl.MaxAsks+1) })
	if got := impl.Lack(s, "a"); got != res(11, 22) {
		t.Errorf("more than MaxAsks: %v", got)
	}
	// So many that a sum would wrap round.
	s.Apps[0].Asks = slices.Repeat([]impl.Ask{ask(most, most, 1000)}, 10000)
	s.Apps = slices.Repeat([]impl.App{s.Apps[0]}, 1000)
	if got := impl.Lack(s, "a"); got != res(30, 30) {
		t.Errorf("far more: %v", got)
	}
}

func TestVictims(t *testing.T) {
	// In taken() b comes last (70 of 40), then c (50 of 40); a lacks 30x30 at most.
	for _, c := range []struct {
		what   string
		change func(s *impl.State)
		queue  string
		want   []int
	}{
		{"nothing is wanted", func(s *impl.State) { s.Apps[0].Asks = nil }, "a", nil},
		{"one is enough", func(s *impl.State) { s.Apps[0].Asks = []impl.Ask{ask(20, 5, 1)} }, "a", []int{100006}},
		{"one is more than enough", func(s *impl.State) { s.Apps[0].Asks = []impl.Ask{ask(1, 1, 1)} }, "a", []int{100006}},
		{"one less in Mem", func(s *impl.State) { s.Apps[0].Asks = []impl.Ask{ask(21, 5, 1)} }, "a", []int{100006, 100005}},
		{"one less in Cpu", func(s *impl.State) { s.Apps[0].Asks = []impl.Ask{ask(20, 6, 1)} }, "a", []int{100006, 100005}},
		{"Mem alone", func(s *impl.State) { s.Apps[0].Asks = []impl.Ask{ask(20, 0, 1)} }, "a", []int{100006}},
		{"Cpu alone", func(s *impl.State) { s.Apps[0].Asks = []impl.Ask{ask(0, 5, 1)} }, "a", []int{100006}},
		{"more in Cpu alone", func(s *impl.State) { s.Apps[0].Asks = []impl.Ask{ask(0, 6, 1)} }, "a", []int{100006, 100005}},
		// Without 100006 b and c have 50 of 40 each: alike, so c comes last; without 100005 it is not Over any more, and b is still.
		{"two that are alike", func(s *impl.State) { s.Apps[0].Asks = []impl.Ask{ask(46, 0, 1)} }, "a", []int{100006, 100005}},
		{"several, of two queues", func(s *impl.State) { s.Apps[0].Asks = []impl.Ask{ask(1, 15, 1)} }, "a", []int{100006, 100005, 100004}},
		{"those have not enough", func(s *impl.State) {}, "a", []int{100006, 100005, 100004}},
		{"nobody has too much", func(s *impl.State) { s.Conts = s.Conts[:3] }, "a", nil},
		{"nobody has anything", func(s *impl.State) { s.Conts = nil }, "a", nil},
		{"one to which nothing is due comes last", func(s *impl.State) {
			s.Conts = append(s.Conts, cont(100007, 1005, "m2", 1, 0))
			s.Apps[0].Asks = []impl.Ask{ask(2, 0, 1)}
		}, "a", []int{100007, 100006}},
		{"two to which nothing is due", func(s *impl.State) {
			s.Queues = append(s.Queues, queue("e", "r", 0, 1))
			s.Apps[2].Queue = "e"
			s.Conts = append(s.Conts, cont(100007, 1005, "m2", 1, 0))
			s.Apps[0].Asks = []impl.Ask{ask(51, 10, 1)}
		}, "a", []int{100005, 100002}},
		{"two to which nothing is due, and those behind them", func(s *impl.State) {
			s.Queues = append(s.Queues, queue("e", "r", 0, 1))
			s.Apps[2].Queue = "e"
			s.Conts = append(s.Conts, cont(100007, 1005, "m2", 1, 0))
		}, "a", []int{100005, 100002, 100007, 100006, 100004}},
		{"of the greatest Id, whatever it has", func(s *impl.State) {
			s.Conts[0].Res, s.Conts[5].Res = res(49, 10), res(1, 0)
			s.Apps[0].Asks = []impl.Ask{ask(1, 1, 1)}
		}, "a", []int{100006, 100004}},
		{"the greatest Id is of another application", func(s *impl.State) {
			s.Conts[5].App = 1004
			s.Apps[0].Asks = []impl.Ask{ask(20, 5, 1)}
		}, "a", []int{100006}},
		{"too much in Cpu alone", func(s *impl.State) {
			s.Conts = []impl.Cont{cont(1, 1002, "m1", 1, 30), cont(2, 1002, "m1", 0, 11), cont(3, 1003, "m1", 40, 40)}
		}, "a", []int{2}},
		{"one that does not starve: it has too much", func(s *impl.State) {}, "b", nil},
		{"one that does not starve: nobody asks", func(s *impl.State) {}, "d", nil},
		{"one that does not starve: nothing is due to it", func(s *impl.State) { s.Apps[4].Asks = []impl.Ask{ask(1, 1, 1)} }, "d", nil},
		{"one that does not starve: more in one and less in the other", func(s *impl.State) { s.Conts[2].Res = res(0, 41) }, "a", nil},
		{"one that does not starve: it has just what is due", func(s *impl.State) { s.Conts[2].Res, s.Conts[0].Res = res(40, 40), res(5, 1) }, "a", nil},
		{"less in one and as much in the other", func(s *impl.State) {
			s.Conts = []impl.Cont{cont(7, 1001, "m1", 40, 39), cont(8, 1003, "m2", 41, 41)}
		}, "a", []int{8}},
		{"it lacks nothing that it wants", func(s *impl.State) {
			s.Conts = []impl.Cont{cont(7, 1001, "m1", 40, 39), cont(8, 1003, "m2", 41, 41)}
			s.Apps[0].Asks = []impl.Ask{ask(5, 0, 5)}
		}, "a", nil},
		{"one that is no leaf", func(s *impl.State) {}, "r", nil},
		{"no queue", func(s *impl.State) {}, "e", nil},
		{"the empty text", func(s *impl.State) {}, "", nil},
	} {
		s := changedTaken(c.change)
		if !isState(s) {
			t.Fatalf("%s: %+v is not right", c.what, s)
		}
		if got := impl.Victims(s, c.queue); !slices.Equal(got, c.want) {
			t.Errorf("%s: %v, want %v", c.what, got, c.want)
		}
	}
}

// The last one that is taken may have far more than is wanted still, and all that a queue has may go.
func TestTheLastVictim(t *testing.T) {
	s := changedTaken(func(s *impl.State) {
		s.Conts = []impl.Cont{cont(5, 1002, "m1", 100, 100), cont(9, 1003, "m2", 60, 60)}
	})
	for wanted, want := range map[int][]int{1: {5}, 40: {5}, 100: {5}} {
		s.Apps[0].Asks = []impl.Ask{ask(wanted, 0, 1)}
		if got := impl.Victims(s, "a"); !slices.Equal(got, want) {
			t.Errorf("%d is wanted: %v", wanted, got)
		}
	}
	s.Conts[0].Res, s.Conts[1].Res = res(0, 41), res(0, 42)
	if got := impl.Victims(s, "a"); !slices.Equal(got, []int{9, 5}) {
		t.Errorf("all that both have: %v", got)
	}
	s.Conts = nil
	for i := range impl.MaxConts {
		s.Conts = append(s.Conts, cont(i+1, 1005, "m1", 0, 0))
		s.Conts[i].Res.Cpu = i % 2
		s.Conts[i].Res.Mem = 1 - i%2
	}
	s.Apps[0].Asks = []impl.Ask{ask(40, 40, 1)}
	got := impl.Victims(s, "a")
	if len(got) != 80 || got[0] != impl.MaxConts || got[79] != impl.MaxConts-79 {
		t.Errorf("eighty of one: %v", got)
	}
}

func TestTakeBack(t *testing.T) {
	all := []int{100001, 100002, 100003, 100004, 100005, 100006}
	for _, c := range []struct {
		what string
		ids  []int
		gone []int
	}{
		{"no Id", nil, nil},
		{"no Id, in a list", []int{}, nil},
		{"one", []int{100003}, []int{100003}},
		{"the first", []int{100001}, []int{100001}},
		{"the last", []int{100006}, []int{100006}},
		{"one twice", []int{100003, 100003}, []int{100003}},
		{"two twice", []int{100004, 100003, 100004, 100003}, []int{100003, 100004}},
		{"one that is not there", []int{100007}, nil},
		{"one beside one that is not there", []int{100000, 100002, 5}, []int{100002}},
		{"all", all, all},
		{"all from behind", []int{100006, 100005, 100004, 100003, 100002, 100001}, all},
		{"all but one", []int{100006, 100001, 100002, 100005, 100003}, []int{100001, 100002, 100003, 100005, 100006}},
		{"in no order", []int{100005, 100001, 100003}, []int{100001, 100003, 100005}},
		{"two beside each other", []int{100002, 100003}, []int{100002, 100003}},
		{"numbers that are none", wrongNumbers, nil},
		{"those and one", append([]int{math.MinInt, 0, 100004}, wrongNumbers...), []int{100004}},
		{"the place is no Id", []int{0, 1, 2, 3, 4, 5}, nil},
		{"nor is the application", []int{1001, 1002}, nil},
	} {
		s := taken()
		got, gone := impl.TakeBack(s, c.ids)
		want, wantGone := withoutByRule(s, func(one impl.Cont) bool { return slices.Contains(c.gone, one.Id) })
		if !sameState(got, want) || !slices.Equal(gone, wantGone) || len(gone) != len(c.gone) || len(got.Conts)+len(gone) != 6 || !impl.StateOk(got) {
			t.Errorf("%s: %+v, %+v", c.what, got, gone)
		}
	}
	long := make([]int, 0, 200000)
	for i := range 200000 {
		long = append(long, i)
	}
	if got, gone := impl.TakeBack(taken(), long); len(gone) != 6 || len(got.Conts) != 0 {
		t.Errorf("a long list: %+v, %+v", got, gone)
	}
}

func TestDrop(t *testing.T) {
	for _, c := range []struct {
		id   int
		gone []int
	}{
		{1001, []int{100003}}, {1002, []int{100001, 100006}}, {1003, []int{100002, 100005}}, {1004, []int{100004}}, {1005, nil},
	} {
		s := taken()
		got, gone := impl.Drop(s, c.id)
		want, wantGone := withoutByRule(s, func(one impl.Cont) bool { return slices.Contains(c.gone, one.Id) })
		want.Apps = slices.Delete(want.Apps, c.id-1001, c.id-1000)
		if !sameState(got, want) || !slices.Equal(gone, wantGone) || len(gone) != len(c.gone) || len(got.Apps) != 4 || !impl.StateOk(got) {
			t.Errorf("of %d: %+v, %+v", c.id, got, gone)
		}
		if _, there := impl.AppOf(got, c.id); there {
			t.Errorf("%d is there still", c.id)
		}
		// It is not there a second time.
		if again, gone := impl.Drop(got, c.id); !sameState(again, got) || len(gone) != 0 {
			t.Errorf("of %d again: %+v", c.id, gone)
		}
	}
	for _, id := range append([]int{0, 1, 5, 1000, 1006, 100001, most}, wrongNumbers...) {
		if got, gone := impl.Drop(taken(), id); len(gone) != 0 || !sameState(got, taken()) {
			t.Errorf("of %d: %+v, %+v", id, got, gone)
		}
	}
	got, gone := impl.Drop(oneOfEach(), 1)
	if want := changedOne(func(s *impl.State) { s.Apps, s.Conts = nil, nil }); !sameState(got, want) || len(gone) != 1 {
		t.Errorf("the only one: %+v, %+v", got, gone)
	}
}

func TestLose(t *testing.T) {
	for _, c := range []struct {
		node string
		gone []int
	}{
		{"m1", []int{100001, 100002, 100003, 100006}}, {"m2", []int{100004, 100005}}, {"m3", nil},
	} {
		s := taken()
		got, gone := impl.Lose(s, c.node)
		want, wantGone := withoutByRule(s, func(one impl.Cont) bool { return slices.Contains(c.gone, one.Id) })
		want.Machines = slices.DeleteFunc(want.Machines, func(m impl.Machine) bool { return m.Name == c.node })
		if !sameState(got, want) || !slices.Equal(gone, wantGone) || len(gone) != len(c.gone) || len(got.Machines) != 2 || !impl.StateOk(got) {
			t.Errorf("of %q: %+v, %+v", c.node, got, gone)
		}
		if again, gone := impl.Lose(got, c.node); !sameState(again, got) || len(gone) != 0 {
			t.Errorf("of %q again: %+v", c.node, gone)
		}
	}
	for _, node := range append([]string{"", "m", "m0", "m4", "m11", "a", "r", "1001"}, wrongNames...) {
		if got, gone := impl.Lose(taken(), node); len(gone) != 0 || !sameState(got, taken()) {
			t.Errorf("of %q: %+v, %+v", node, got, gone)
		}
	}
	got, gone := impl.Lose(oneOfEach(), "m")
	if want := changedOne(func(s *impl.State) { s.Machines, s.Conts = nil, nil }); !sameState(got, want) || len(gone) != 1 {
		t.Errorf("the only one: %+v, %+v", got, gone)
	}
}

func checkNothingIsTaken(t *testing.T, what string, s impl.State, queue string, ids []int, id int, node string) {
	t.Helper()
	if got := impl.Victims(s, queue); len(got) != 0 {
		t.Errorf("%s: victims for %q: %v", what, queue, got)
	}
	if got, gone := impl.TakeBack(s, ids); len(gone) != 0 || !sameState(got, s) {
		t.Errorf("%s: TakeBack of %v: %+v", what, ids, gone)
	}
	if got, gone := impl.Drop(s, id); len(gone) != 0 || !sameState(got, s) {
		t.Errorf("%s: Drop of %d: %+v", what, id, gone)
	}
	if got, gone := impl.Lose(s, node); len(gone) != 0 || !sameState(got, s) {
		t.Errorf("%s: Lose of %q: %+v", what, node, gone)
	}
}

func TestNothingIsTakenInWrongStates(t *testing.T) {
	for what, s := range wrongStates() {
		var ids []int
		for _, c := range s.Conts {
			ids = append(ids, c.Id)
		}
		nodes := append([]string{"m", "m1", ""}, nodesOf(s)...)
		for i, a := range append([]impl.App{app(1001, "a"), app(1, "r"), app(0, "")}, s.Apps[:min(len(s.Apps), 25)]...) {
			checkNothingIsTaken(t, what, s, a.Queue, ids, a.Id, nodes[i%len(nodes)])
		}
	}
}

// What would be taken of a right state is not taken once anything at all of it is wrong.
func TestOneWrongThingKeepsAll(t *testing.T) {
	wrong := map[string]func(s *impl.State){
		"a wrong queue":    func(s *impl.State) { s.Queues[4].Most = top + 1 },
		"one more queue":   func(s *impl.State) { s.Queues = append(s.Queues, queue("a", "r", 0, 0)) },
		"Clock":            func(s *impl.State) { s.Clock = 2 },
		"Next":             func(s *impl.State) { s.Next = 1005 },
		"another's queue":  func(s *impl.State) { s.Apps[4].Queue = "r" },
		"another's ask":    func(s *impl.State) { s.Apps[3].Asks[0].Count = 0 },
		"its own ask":      func(s *impl.State) { s.Apps[0].Asks[0].Missed = 1001 },
		"its Node":         func(s *impl.State) { s.Apps[0].Asks[0].Node = "M" },
		"another machine":  func(s *impl.State) { s.Machines[2].Seen = 5 },
		"a container":      func(s *impl.State) { s.Conts[0].App = 9 },
		"its machine":      func(s *impl.State) { s.Conts[1].Node = "m4" },
		"a full machine":   func(s *impl.State) { s.Conts[1].Node = "m3" },
		"two machines":     func(s *impl.State) { s.Machines[2].Name = "m2" },
		"two applications": func(s *impl.State) { s.Apps[4].Id = 1004 },
		"two containers":   func(s *impl.State) { s.Conts[1].Id = 100001 },
		"their order":      func(s *impl.State) { s.Conts[1], s.Conts[2] = s.Conts[2], s.Conts[1] },
		"all Caps":         func(s *impl.State) { s.Machines[2].Cap.Mem = most },
	}
	for _, n := range append([]int{0}, wrongNumbers...) {
		at := strconv.Itoa(n)
		wrong["Epoch "+at] = func(s *impl.State) { s.Epoch = n }
		wrong["Serial "+at] = func(s *impl.State) { s.Serial = n }
		wrong["Next "+at] = func(s *impl.State) { s.Next = n }
		wrong["Count "+at] = func(s *impl.State) { s.Apps[3].Asks[0].Count = n }
	}
	for what, change := range wrong {
		s := changedTaken(change)
		for i, id := range []int{1001, 1002, 1003, 1004, 1005} {
			checkNothingIsTaken(t, what, s, string(rune('a'+i%4)), []int{100001, 100004, 100006}, id, []string{"m1", "m2", "m3"}[i%3])
		}
	}
}

func overwriteIds(ids []int) {
	for i := range ids {
		ids[i] = -1
	}
	_ = append(ids, -2)
}

func callAllOfTaking(s impl.State, ids []int, id int, name string) {
	impl.Over(s, name)
	impl.Lack(s, name)
	overwriteIds(impl.Victims(s, name))
	for _, call := range []func() (impl.State, []impl.Cont){
		func() (impl.State, []impl.Cont) { return impl.TakeBack(s, ids) },
		func() (impl.State, []impl.Cont) { return impl.Drop(s, id) },
		func() (impl.State, []impl.Cont) { return impl.Lose(s, name) },
	} {
		left, gone := call()
		overwrite(left)
		overwriteConts(gone)
	}
}

func TestTakingWritesIntoNothing(t *testing.T) {
	r := rand.New(rand.NewSource(32))
	states := []impl.State{taken()}
	for _, named := range []map[string]impl.State{rightStates(), wrongStates()} {
		for _, s := range named {
			states = append(states, s)
		}
	}
	for range 500 {
		states = append(states, crowdedState(r), spoiltState(r, crowdedState(r)))
	}
	for _, s := range states {
		handed := withRoom(s)
		before := behind(handed)
		ids := append(someIds(r, s), 7, 8, 9)
		handedIds, idsBefore := ids[:len(ids)-3], slices.Clone(ids)
		names := append([]string{"m1", "m100", "m101", "spare", ""}, namesIn(s)[:min(len(namesIn(s)), 20)]...)
		for _, name := range names {
			callAllOfTaking(handed, handedIds, someApp(r, s), name)
		}
		if !reflect.DeepEqual(behind(handed), before) || !slices.Equal(ids, idsBefore) {
			t.Fatalf("written into: %+v, %v", s, ids)
		}
	}
}

// checkOwnMemory: got and gone are still what they should be when all that was handed in is written over, and each other.
func checkOwnMemory(t *testing.T, what string, call func(s impl.State) (impl.State, []impl.Cont), s impl.State) {
	t.Helper()
	want, wantGone := call(deepCopy(s))
	want, wantGone = deepCopy(want), slices.Clone(wantGone)
	handed := withRoom(s)
	got, gone := call(handed)
	overwrite(handed)
	if !sameState(got, want) || !slices.Equal(gone, wantGone) {
		t.Fatalf("%s: what was answered is what was handed in: %+v", what, s)
	}
	overwriteConts(gone)
	if !sameState(got, want) {
		t.Fatalf("%s: the list that is answered is the state's: %+v", what, got)
	}
	got, gone = call(s)
	overwrite(got)
	if !slices.Equal(gone, wantGone) {
		t.Fatalf("%s: the state that is answered has the list's: %+v", what, gone)
	}
}

func TestTakingHandsBackNewMemory(t *testing.T) {
	r := rand.New(rand.NewSource(33))
	for range 1000 {
		s := crowdedState(r)
		if r.Intn(3) == 0 {
			s = spoiltState(r, s)
		}
		ids, id, node := someIds(r, s), someApp(r, s), nodeName(r.Intn(3))
		checkOwnMemory(t, "TakeBack", func(s impl.State) (impl.State, []impl.Cont) { return impl.TakeBack(s, ids) }, s)
		checkOwnMemory(t, "Drop", func(s impl.State) (impl.State, []impl.Cont) { return impl.Drop(s, id) }, s)
		checkOwnMemory(t, "Lose", func(s impl.State) (impl.State, []impl.Cont) { return impl.Lose(s, node) }, s)
	}
}

// What is taken for one that starves makes room for it, unless others are in its way.
func TestTakenBackIsGiven(t *testing.T) {
	s := changedTaken(func(s *impl.State) {
		s.Machines = s.Machines[:1]
		s.Conts = []impl.Cont{cont(1, 1002, "m1", 50, 50), cont(2, 1002, "m1", 50, 50)}
		s.Apps[0].Asks = []impl.Ask{ask(25, 25, 1)}
	})
	if _, ok := impl.NextGrant(s, "m1"); ok {
		t.Fatal("the machine is full")
	}
	ids := impl.Victims(s, "a")
	s, gone := impl.TakeBack(s, ids)
	c, ok := impl.NextGrant(s, "m1")
	if !slices.Equal(ids, []int{2}) || len(gone) != 1 || !ok || c.App != 1001 {
		t.Errorf("%v taken, and %+v given", ids, c)
	}
}

// Nothing stops a state of the greatest lists from being gone through to its end.
func TestVictimsEndsAtTheGreatestStates(t *testing.T) {
	s := impl.State{Queues: fan(impl.MaxQueues, 0), Epoch: 1, Next: most, Serial: 1, Machines: []impl.Machine{machine("m", 10000, 10000, 0)}}
	leaves := leavesOf(s.Queues)
	s.Queues[1].Due = top
	for i := range impl.MaxApps {
		s.Apps = append(s.Apps, app(i+1, leaves[i%len(leaves)]))
	}
	s.Apps[0].Asks = []impl.Ask{ask(most, most, 1000)}
	for i := range impl.MaxConts {
		s.Conts = append(s.Conts, cont(i+1, 2+i%17, "m", 1, 1))
	}
	if got := impl.Victims(s, leaves[0]); len(got) != impl.MaxConts || !isState(s) || !slices.Equal(got, victimsByRule(s, leaves[0])) {
		t.Errorf("%d taken: %v", len(got), got)
	}
}

func TestTakingAnswersAtAnyArguments(t *testing.T) {
	r := rand.New(rand.NewSource(34))
	numbers := append([]int{0, 1, 2, 3, 1000, most - 1, most}, wrongNumbers...)
	names := append([]string{"", "r", "a", "b", "m"}, wrongNames...)
	number := func() int { return *one(r, numbers) }
	name := func() string { return *one(r, names) }
	amount := func() impl.Res { return res(number(), number()) }
	for range 10000 {
		s := impl.State{Clock: number(), Epoch: number(), Next: number(), Serial: number()}
		if r.Intn(3) > 0 {
			s.Queues = under(queue("a", "r", 5000, 5000), queue("b", "r", 5000, 6000))
		}
		for range r.Intn(3) {
			s.Apps = append(s.Apps, impl.App{Id: number(), Queue: name(), Asks: []impl.Ask{{Res: amount(), Count: number(), Node: name(), Missed: number()}}})
			s.Machines = append(s.Machines, impl.Machine{Name: name(), Cap: amount(), Seen: number()})
			s.Conts = append(s.Conts, impl.Cont{Id: number(), App: number(), Node: name(), Res: amount()})
		}
		checkVictims(t, "any", s, name())
		checkTaking(t, "any", s, []int{number(), number(), number()}, number(), name())
	}
}
