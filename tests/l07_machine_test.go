package tests

import (
	"cmp"
	"fmt"
	"math"
	"math/rand"
	"reflect"
	"slices"
	"strings"
	"testing"
	"unsafe"

	"loop.example/g00275/impl"
)

var kinds = []int{impl.OpSubmit, impl.OpFinish, impl.OpAsk, impl.OpFree, impl.OpJoin, impl.OpBeat, impl.OpTick, impl.OpServe}

var noKinds = []int{-1, -2, 8, 9, 1 << 8, 1 << 32, 1<<32 + 6, -most, most, math.MinInt, math.MinInt + 6, math.MaxInt - 1, math.MaxInt}

func submit(queue string) impl.Op {
	return impl.Op{Kind: impl.OpSubmit, Queue: queue}
}

func finish(app int) impl.Op {
	return impl.Op{Kind: impl.OpFinish, App: app}
}

func askFor(app int, a impl.Ask) impl.Op {
	return impl.Op{Kind: impl.OpAsk, App: app, Ask: a}
}

func free(cont int) impl.Op {
	return impl.Op{Kind: impl.OpFree, Cont: cont}
}

func join(node string, mem int, cpu int, conts ...impl.Cont) impl.Op {
	return impl.Op{Kind: impl.OpJoin, Node: node, Cap: res(mem, cpu), Conts: conts}
}

func beat(node string) impl.Op {
	return impl.Op{Kind: impl.OpBeat, Node: node}
}

func tick() impl.Op {
	return impl.Op{Kind: impl.OpTick}
}

func serve(queue string) impl.Op {
	return impl.Op{Kind: impl.OpServe, Queue: queue}
}

func sameReply(a impl.Reply, b impl.Reply) bool {
	return a.Code == b.Code && a.App == b.App && slices.Equal(a.Conts, b.Conts) && slices.Equal(a.Kill, b.Kill)
}

func idsByRule(conts []impl.Cont) []int {
	var ids []int
	for _, c := range conts {
		ids = append(ids, c.Id)
	}
	return ids
}

func refusedByRule(code int) func(s impl.State) (impl.State, impl.Reply) {
	return func(s impl.State) (impl.State, impl.Reply) { return s, impl.Reply{Code: code} }
}

func isLeaf(s impl.State, queue string) bool {
	return slices.Contains(leavesOf(s.Queues), queue)
}

func submitByRule(s impl.State, queue string) (impl.State, impl.Reply) {
	if !isLeaf(s, queue) {
		return refusedByRule(1)(s)
	}
	if len(s.Apps) >= 40 || s.Next == 1000000000 || s.Next > s.Epoch*1000+999 {
		return refusedByRule(5)(s)
	}
	s = deepCopy(s)
	s.Apps = append(s.Apps, app(s.Next, queue))
	s.Next++
	return s, impl.Reply{App: s.Next - 1}
}

func askByRule(s impl.State, id int, a impl.Ask) (impl.State, impl.Reply) {
	at := slices.IndexFunc(s.Apps, func(a impl.App) bool { return a.Id == id })
	a.Missed = 0
	switch {
	case at < 0:
		return refusedByRule(2)(s)
	case !isAsk(a):
		return refusedByRule(6)(s)
	case len(s.Apps[at].Asks) >= 10:
		return refusedByRule(5)(s)
	}
	s = deepCopy(s)
	s.Apps[at].Asks = append(s.Apps[at].Asks, a)
	return s, impl.Reply{}
}

// withCont puts a container where it belongs, right or not.
func withCont(s impl.State, c impl.Cont) impl.State {
	s = deepCopy(s)
	s.Conts = append(s.Conts, c)
	slices.SortStableFunc(s.Conts, func(a impl.Cont, b impl.Cont) int { return cmp.Compare(a.Id, b.Id) })
	return s
}

func joinByRule(s impl.State, op impl.Op) (impl.State, impl.Reply) {
	if !nameForm.MatchString(op.Node) || !isAmount(op.Cap) {
		return refusedByRule(6)(s)
	}
	next, _ := loseByRule(s, op.Node)
	next.Machines = append(next.Machines, impl.Machine{Name: op.Node, Cap: op.Cap, Seen: s.Clock})
	slices.SortFunc(next.Machines, func(a impl.Machine, b impl.Machine) int { return strings.Compare(a.Name, b.Name) })
	// With it the machines are right, or there are too many, or they can too much together.
	if !isState(next) {
		return refusedByRule(5)(s)
	}
	reply := impl.Reply{}
	for _, c := range op.Conts {
		if more := withCont(next, c); c.Node == op.Node && isState(more) {
			next, reply.Conts = more, append(reply.Conts, c)
		} else {
			reply.Kill = append(reply.Kill, c.Id)
		}
	}
	return next, reply
}

func beatByRule(s impl.State, node string) (impl.State, impl.Reply) {
	at := slices.IndexFunc(s.Machines, func(m impl.Machine) bool { return m.Name == node })
	if at < 0 {
		return refusedByRule(3)(s)
	}
	s = deepCopy(s)
	s.Machines[at].Seen = s.Clock
	s, _ = grantsByRule(s, node, 3)
	_, on := withoutByRule(s, func(c impl.Cont) bool { return c.Node == node })
	return s, impl.Reply{Conts: on}
}

func tickByRule(s impl.State) (impl.State, impl.Reply) {
	if s.Clock == 1000000000 {
		return refusedByRule(5)(s)
	}
	s.Clock++
	goes := func(m impl.Machine) bool { return m.Seen+5 < s.Clock }
	var gone []string
	for _, m := range s.Machines {
		if goes(m) {
			gone = append(gone, m.Name)
		}
	}
	s, conts := withoutByRule(s, func(c impl.Cont) bool { return slices.Contains(gone, c.Node) })
	s.Machines = slices.DeleteFunc(s.Machines, goes)
	return s, impl.Reply{Kill: idsByRule(conts)}
}

func serveByRule(s impl.State, queue string) (impl.State, impl.Reply) {
	if !isLeaf(s, queue) {
		return refusedByRule(1)(s)
	}
	s, gone := takeBackByRule(s, victimsByRule(s, queue))
	return s, impl.Reply{Kill: idsByRule(gone)}
}

func doByRule(s impl.State, op impl.Op) (impl.State, impl.Reply) {
	if !isState(s) {
		return refusedByRule(6)(s)
	}
	switch op.Kind {
	case 0:
		return submitByRule(s, op.Queue)
	case 1:
		if !slices.ContainsFunc(s.Apps, func(a impl.App) bool { return a.Id == op.App }) {
			return refusedByRule(2)(s)
		}
		s, gone := dropByRule(s, op.App)
		return s, impl.Reply{Kill: idsByRule(gone)}
	case 2:
		return askByRule(s, op.App, op.Ask)
	case 3:
		if !slices.ContainsFunc(s.Conts, func(c impl.Cont) bool { return c.Id == op.Cont }) {
			return refusedByRule(4)(s)
		}
		s, _ := takeBackByRule(s, []int{op.Cont})
		return s, impl.Reply{}
	case 4:
		return joinByRule(s, op)
	case 5:
		return beatByRule(s, op.Node)
	case 6:
		return tickByRule(s)
	case 7:
		return serveByRule(s, op.Queue)
	}
	return refusedByRule(6)(s)
}

func textByRule(op impl.Op) string {
	amount := func(r impl.Res) string { return fmt.Sprintf("%dx%d", r.Mem, r.Cpu) }
	switch op.Kind {
	case 0:
		return "submit " + op.Queue
	case 1:
		return fmt.Sprintf("finish %d", op.App)
	case 2:
		text := fmt.Sprintf("ask %d %s %d", op.App, amount(op.Ask.Res), op.Ask.Count)
		if op.Ask.Node != "" {
			text += " " + op.Ask.Node
		}
		return text
	case 3:
		return fmt.Sprintf("free %d", op.Cont)
	case 4:
		text := "join " + op.Node + " " + amount(op.Cap)
		for _, c := range op.Conts {
			text += fmt.Sprintf(" %d:%d:%s", c.Id, c.App, amount(c.Res))
		}
		return text
	case 5:
		return "beat " + op.Node
	case 6:
		return "tick"
	case 7:
		return "serve " + op.Queue
	}
	return ""
}

// checkDo holds an event against the rules, and promise 7 of it: the state stays right, and what is refused changes nothing.
func checkDo(t *testing.T, what string, s impl.State, op impl.Op) (impl.State, impl.Reply) {
	t.Helper()
	got, reply := impl.Do(s, op)
	want, wantReply := doByRule(s, op)
	if !sameState(got, want) || !sameReply(reply, wantReply) {
		t.Fatalf("%s: Do(%+v, %+v):\n%+v, %+v, want\n%+v, %+v", what, s, op, got, reply, want, wantReply)
	}
	if impl.StateOk(s) && !impl.StateOk(got) {
		t.Fatalf("%s: Do(%+v, %+v): not right any more: %+v", what, s, op, got)
	}
	if reply.Code != impl.Good && (!sameState(got, s) || !sameReply(reply, impl.Reply{Code: reply.Code})) {
		t.Fatalf("%s: Do(%+v, %+v): refused, but %+v, %+v", what, s, op, got, reply)
	}
	if got, want := impl.OpText(op), textByRule(op); got != want {
		t.Fatalf("%s: OpText(%+v): %q, want %q", what, op, got, want)
	}
	return got, reply
}

func checkReply(t *testing.T, what string, s impl.State, op impl.Op, want impl.Reply) impl.State {
	t.Helper()
	got, reply := checkDo(t, what, s, op)
	if !sameReply(reply, want) {
		t.Fatalf("%s: %+v: %+v, want %+v", what, op, reply, want)
	}
	if !impl.StateOk(got) {
		t.Fatalf("%s: %+v: not right: %+v", what, op, got)
	}
	return got
}

func checkRefused(t *testing.T, what string, s impl.State, op impl.Op, code int) {
	t.Helper()
	got, reply := checkDo(t, what, s, op)
	if !sameReply(reply, impl.Reply{Code: code}) || !sameState(got, s) {
		t.Fatalf("%s: %+v: %+v, want %d", what, op, reply, code)
	}
}

func TestCodes(t *testing.T) {
	for i, n := range []int{impl.OpSubmit, impl.OpFinish, impl.OpAsk, impl.OpFree, impl.OpJoin, impl.OpBeat, impl.OpTick, impl.OpServe} {
		if n != i {
			t.Errorf("kind %d is %d", i, n)
		}
	}
	for i, n := range []int{impl.Good, impl.NoQueue, impl.NoApp, impl.NoNode, impl.NoCont, impl.Full, impl.Wrong} {
		if n != i {
			t.Errorf("code %d is %d", i, n)
		}
	}
	if impl.Expiry != 5 || impl.Batch != 3 {
		t.Errorf("Expiry %d, Batch %d", impl.Expiry, impl.Batch)
	}
}

func TestSubmit(t *testing.T) {
	s := taken()
	got := checkReply(t, "another one", s, submit("c"), impl.Reply{App: 1006})
	want := changedTaken(func(s *impl.State) { s.Apps, s.Next = append(s.Apps, app(1006, "c")), 1007 })
	if !sameState(got, want) {
		t.Errorf("%+v", got)
	}
	got = checkReply(t, "one more", got, submit("d"), impl.Reply{App: 1007})
	if last := got.Apps[6]; !sameApp(last, app(1007, "d")) || got.Next != 1008 {
		t.Errorf("%+v", got)
	}
	// Those that are not there any more leave no room for their Ids.
	got, _ = impl.Do(got, finish(1007))
	checkReply(t, "behind one that went", got, submit("a"), impl.Reply{App: 1008})
	checkReply(t, "the first queue, alone", bareState(), submit("r"), impl.Reply{App: 1})
	for _, name := range append([]string{"r", "", "e", "1001", "m1", "aa"}, wrongNames...) {
		checkRefused(t, "no leaf", s, submit(name), impl.NoQueue)
	}
	tree := impl.State{Queues: sampleTree(), Epoch: 1, Next: 1, Serial: 1}
	for _, q := range tree.Queues {
		if isLeaf(tree, q.Name) {
			checkReply(t, "leaf", tree, submit(q.Name), impl.Reply{App: 1})
		} else {
			checkRefused(t, "above others", tree, submit(q.Name), impl.NoQueue)
		}
	}
}

func TestSubmitAtItsEnds(t *testing.T) {
	at := func(epoch int, next int) impl.State {
		return impl.State{Queues: under(), Epoch: epoch, Next: next, Serial: 1}
	}
	for _, c := range []struct {
		epoch, next int
		good        bool
	}{
		{1, 1, true}, {1, 1000, true}, {1, 1001, true}, {1, 1998, true}, {1, 1999, true}, {1, 2000, false}, {1, 2001, false}, {1, most, false},
		{2, 1999, true}, {2, 2000, true}, {2, 2999, true}, {2, 3000, false}, {7, 7998, true}, {7, 7999, true}, {7, 8000, false},
		{999998, 999998999, true}, {999998, 999999000, false}, {999999, most - 2, true}, {999999, most - 1, true}, {999999, most, false},
		{1000000, most - 1, true}, {1000000, most, false}, {most, most - 1, true}, {most, most, false}, {most, 1, true},
	} {
		s := at(c.epoch, c.next)
		if !c.good {
			checkRefused(t, "at an end", s, submit("r"), impl.Full)
			checkRefused(t, "at an end, no queue", s, submit("s"), impl.NoQueue)
			continue
		}
		if got := checkReply(t, "ahead of an end", s, submit("r"), impl.Reply{App: c.next}); got.Next != c.next+1 || got.Epoch != c.epoch {
			t.Errorf("%+v", got)
		}
	}
	full := many(impl.MaxApps, 0, 0, 0)
	full.Next = 1001
	checkRefused(t, "MaxApps", full, submit("r"), impl.Full)
	checkRefused(t, "MaxApps, no queue", full, submit("s"), impl.NoQueue)
	room := many(impl.MaxApps-1, 0, 0, 0)
	room.Next = 1001
	got := checkReply(t, "one fewer", room, submit("r"), impl.Reply{App: 1001})
	checkRefused(t, "one too many", got, submit("r"), impl.Full)
	got, _ = impl.Do(got, finish(3))
	checkReply(t, "one gone", got, submit("r"), impl.Reply{App: 1002})
}

func TestFinish(t *testing.T) {
	for _, c := range []struct {
		app  int
		kill []int
	}{
		{1001, []int{100003}}, {1002, []int{100001, 100006}}, {1003, []int{100002, 100005}}, {1004, []int{100004}}, {1005, nil},
	} {
		got := checkReply(t, "there", taken(), finish(c.app), impl.Reply{Kill: c.kill})
		if len(got.Apps) != 4 || len(got.Conts) != 6-len(c.kill) || got.Next != 1006 {
			t.Errorf("of %d: %+v", c.app, got)
		}
		checkRefused(t, "a second time", got, finish(c.app), impl.NoApp)
	}
	for _, id := range append([]int{0, 1, 5, 1000, 1006, 100001, most}, wrongNumbers...) {
		checkRefused(t, "not there", taken(), finish(id), impl.NoApp)
	}
	checkReply(t, "the only one", oneOfEach(), finish(1), impl.Reply{Kill: []int{1}})
	checkRefused(t, "of none at all", bareState(), finish(1), impl.NoApp)
}

func TestAskIsPutBehind(t *testing.T) {
	s := taken()
	for i, a := range []impl.Ask{ask(1, 0, 1), askOn("m2", 9, 0, 1, 1000), askOn("abcdefghi9", 1001, most, most, 2), askOn("", -1, 3, 4, 5), askOn("m1", math.MinInt, 1, 1, 1), askOn("m1", math.MaxInt, 1, 1, 1)} {
		s = checkReply(t, "an ask", s, askFor(1001, a), impl.Reply{})
		a.Missed = 0
		if asks := s.Apps[0].Asks; len(asks) != i+2 || asks[0] != ask(10, 5, 9) || asks[i+1] != a {
			t.Errorf("%+v", asks)
		}
	}
	s = checkReply(t, "of one without asks", s, askFor(1005, ask(1, 1, 1)), impl.Reply{})
	s = checkReply(t, "alike", s, askFor(1005, ask(1, 1, 1)), impl.Reply{})
	if !sameApp(s.Apps[4], app(1005, "d", ask(1, 1, 1), ask(1, 1, 1))) || len(s.Apps[1].Asks) != 0 || len(s.Apps[3].Asks) != 1 {
		t.Errorf("%+v", s.Apps)
	}
}

func TestAskAtItsEnds(t *testing.T) {
	s := taken()
	wrong := map[string]impl.Ask{"of nothing": ask(0, 0, 1), "no Count": ask(1, 1, 0), "too many": ask(1, 1, 1001), "nothing at all": {}}
	for _, n := range wrongNumbers {
		wrong[fmt.Sprint("Mem ", n)] = ask(n, 1, 1)
		wrong[fmt.Sprint("Cpu ", n)] = ask(1, n, 1)
		wrong[fmt.Sprint("Count ", n)] = ask(1, 1, n)
	}
	for _, name := range wrongNames {
		wrong[fmt.Sprintf("Node %q", name)] = askOn(name, 0, 1, 1, 1)
	}
	full := many(2, 0, 0, impl.MaxAsks)
	for what, a := range wrong {
		for _, missed := range []int{0, 1, 1000} {
			a.Missed = missed
			checkRefused(t, what, s, askFor(1001, a), impl.Wrong)
			checkRefused(t, what+", of one without asks", s, askFor(1005, a), impl.Wrong)
			// What stands first counts.
			checkRefused(t, what+", of none", s, askFor(1006, a), impl.NoApp)
			checkRefused(t, what+", of one that has MaxAsks", full, askFor(1, a), impl.Wrong)
		}
	}
	for _, id := range append([]int{0, 1, 1000, 1006, 100001, most}, wrongNumbers...) {
		checkRefused(t, "not there", s, askFor(id, ask(1, 1, 1)), impl.NoApp)
	}
	checkRefused(t, "MaxAsks", full, askFor(2, ask(1, 1, 1)), impl.Full)
	room := many(2, 0, 0, impl.MaxAsks-1)
	room = checkReply(t, "one fewer", room, askFor(2, ask(7, 7, 7)), impl.Reply{})
	if len(room.Apps[0].Asks) != impl.MaxAsks-1 || room.Apps[1].Asks[impl.MaxAsks-1] != ask(7, 7, 7) {
		t.Errorf("%+v", room.Apps)
	}
	checkRefused(t, "one more", room, askFor(2, ask(7, 7, 7)), impl.Full)
	checkReply(t, "another one", room, askFor(1, ask(7, 7, 7)), impl.Reply{})
}

func TestFree(t *testing.T) {
	s := taken()
	for i, id := range []int{100004, 100001, 100006, 100003, 100005, 100002} {
		s = checkReply(t, "there", s, free(id), impl.Reply{})
		if len(s.Conts) != 5-i || slices.Contains(idsByRule(s.Conts), id) || len(s.Apps) != 5 || len(s.Machines) != 3 {
			t.Errorf("of %d: %+v", id, s)
		}
		checkRefused(t, "a second time", s, free(id), impl.NoCont)
	}
	for _, id := range append([]int{0, 1, 1001, 100000, 100007, most}, wrongNumbers...) {
		checkRefused(t, "not there", taken(), free(id), impl.NoCont)
		checkRefused(t, "of none at all", s, free(id), impl.NoCont)
	}
}

func TestJoinOfANewMachine(t *testing.T) {
	for _, c := range []struct {
		node string
		at   int
	}{{"a", 0}, {"m", 0}, {"m0", 0}, {"m10", 1}, {"m1a", 1}, {"m21", 2}, {"m4", 3}, {"z123456789", 3}, {"9", 0}} {
		got := checkReply(t, "in its place", taken(), join(c.node, 5, 6), impl.Reply{})
		if len(got.Machines) != 4 || got.Machines[c.at] != machine(c.node, 5, 6, 4) || len(got.Conts) != 6 {
			t.Errorf("%q: %+v", c.node, got.Machines)
		}
	}
	got := checkReply(t, "the first one", bareState(), join("m", 0, 0), impl.Reply{})
	if len(got.Machines) != 1 || got.Machines[0] != machine("m", 0, 0, 0) {
		t.Errorf("%+v", got.Machines)
	}
	got = checkReply(t, "with all that can be", bareState(), join("m", most, most), impl.Reply{})
	got = checkReply(t, "beside it", got, join("n", 0, 0), impl.Reply{})
	checkRefused(t, "and one more", got, join("o", 1, 0), impl.Full)
}

func TestJoinWithContainers(t *testing.T) {
	six, five := cont(6, 1003, "n", 4, 1), cont(5, 1001, "n", 1, 1)
	for _, c := range []struct {
		what  string
		conts []impl.Cont
		taken []impl.Cont
		kill  []int
	}{
		{"one", []impl.Cont{six}, []impl.Cont{six}, nil},
		{"the greater Id first", []impl.Cont{six, five}, []impl.Cont{six, five}, nil},
		{"the greater Id last", []impl.Cont{five, six}, []impl.Cont{five, six}, nil},
		{"between and behind all others", []impl.Cont{cont(200000, 1001, "n", 1, 0), cont(most, 1004, "n", 0, 1), cont(1, 1001, "n", 1, 1)}, []impl.Cont{cont(200000, 1001, "n", 1, 0), cont(most, 1004, "n", 0, 1), cont(1, 1001, "n", 1, 1)}, nil},
		{"another Node", []impl.Cont{cont(5, 1001, "m1", 1, 1), cont(7, 1001, "m3", 1, 1), cont(8, 1001, "", 1, 1), cont(9, 1001, "N", 1, 1), six}, []impl.Cont{six}, []int{5, 7, 8, 9}},
		{"an application that is not there", []impl.Cont{cont(5, 1006, "n", 1, 1), six, cont(7, 0, "n", 1, 1), cont(8, -1, "n", 1, 1)}, []impl.Cont{six}, []int{5, 7, 8}},
		{"an Id of 0", []impl.Cont{cont(0, 1001, "n", 1, 1), six}, []impl.Cont{six}, []int{0}},
		{"an Id that a container has", []impl.Cont{cont(100001, 1002, "n", 1, 1), six, cont(100006, 1002, "n", 1, 1)}, []impl.Cont{six}, []int{100001, 100006}},
		{"an Id that comes twice", []impl.Cont{six, five, six, cont(5, 1005, "n", 1, 1)}, []impl.Cont{six, five}, []int{6, 5}},
		{"an Id that is killed, and comes again", []impl.Cont{cont(6, 1003, "m1", 4, 1), six}, []impl.Cont{six}, []int{6}},
		{"all that it can", []impl.Cont{cont(5, 1001, "n", 9, 3), cont(6, 1001, "n", 1, 2)}, []impl.Cont{cont(5, 1001, "n", 9, 3), cont(6, 1001, "n", 1, 2)}, nil},
		{"more Mem than it can any more", []impl.Cont{cont(5, 1001, "n", 9, 3), cont(6, 1001, "n", 2, 2), cont(7, 1001, "n", 1, 2)}, []impl.Cont{cont(5, 1001, "n", 9, 3), cont(7, 1001, "n", 1, 2)}, []int{6}},
		{"more Cpu than it can any more", []impl.Cont{cont(5, 1001, "n", 9, 3), cont(6, 1001, "n", 1, 3), cont(7, 1001, "n", 0, 2)}, []impl.Cont{cont(5, 1001, "n", 9, 3), cont(7, 1001, "n", 0, 2)}, []int{6}},
		{"more than it can at all", []impl.Cont{cont(5, 1001, "n", 11, 1), cont(6, 1001, "n", 10, 6), cont(7, 1001, "n", most, most)}, nil, []int{5, 6, 7}},
		{"amounts of nothing, and none", []impl.Cont{cont(5, 1001, "n", 0, 0), cont(6, 1001, "n", -1, 1), cont(7, 1001, "n", 1, -1), cont(8, 1001, "n", most+1, 1), cont(9, 1001, "n", math.MinInt, math.MaxInt)}, nil, []int{5, 6, 7, 8, 9}},
		{"an Id below 0 or above MaxNumber", []impl.Cont{cont(-1, 1001, "n", 1, 1), cont(most+1, 1001, "n", 1, 1), cont(math.MinInt, 1001, "n", 1, 1), cont(math.MaxInt, 1001, "n", 1, 1)}, nil, []int{-1, most + 1, math.MinInt, math.MaxInt}},
	} {
		got := checkReply(t, c.what, taken(), join("n", 10, 5, c.conts...), impl.Reply{Conts: c.taken, Kill: c.kill})
		want := taken()
		want.Machines = append(want.Machines, machine("n", 10, 5, 4))
		for _, one := range c.taken {
			want = withCont(want, one)
		}
		if !sameState(got, want) {
			t.Errorf("%s: %+v", c.what, got)
		}
	}
}

// What a queue may have at most does not count for what runs already.
func TestJoinAsksForNoRoom(t *testing.T) {
	s := impl.State{Queues: under(queue("a", "r", 0, 0)), Epoch: 1, Next: 2, Serial: 1, Apps: []impl.App{app(1, "a")}}
	c := cont(1, 1, "m", 10, 10)
	got := checkReply(t, "more than its most", s, join("m", 10, 10, c), impl.Reply{Conts: []impl.Cont{c}})
	if impl.Room(s, "a", res(1, 1)) || !impl.Over(got, "a") {
		t.Errorf("%+v", got)
	}
}

func TestJoinOfAMachineThatIsThere(t *testing.T) {
	s := taken()
	got := checkReply(t, "with something on it", s, join("m1", 7, 8), impl.Reply{})
	if !slices.Equal(idsByRule(got.Conts), []int{100004, 100005}) || len(got.Machines) != 3 || got.Machines[0] != machine("m1", 7, 8, 4) {
		t.Errorf("%+v", got)
	}
	got = checkReply(t, "with nothing on it", s, join("m3", 7, 8), impl.Reply{})
	if len(got.Conts) != 6 || len(got.Machines) != 3 || got.Machines[2] != machine("m3", 7, 8, 4) {
		t.Errorf("%+v", got)
	}
	// An Id that went with the machine itself is nobody's any more.
	back := []impl.Cont{s.Conts[5], s.Conts[0]}
	got = checkReply(t, "with some of what was on it", s, join("m1", 50, 15, back...), impl.Reply{Conts: back})
	if !slices.Equal(idsByRule(got.Conts), []int{100001, 100004, 100005, 100006}) {
		t.Errorf("%+v", got)
	}
	got = checkReply(t, "with an Id that was another's on it", s, join("m1", 50, 15, cont(100002, 1005, "m1", 1, 2)), impl.Reply{Conts: []impl.Cont{cont(100002, 1005, "m1", 1, 2)}})
	if got.Conts[0] != cont(100002, 1005, "m1", 1, 2) || len(got.Conts) != 3 {
		t.Errorf("%+v", got)
	}
	// Those of other machines go on having theirs.
	checkReply(t, "with what is on another one", s, join("m1", 50, 15, cont(100004, 1004, "m1", 1, 1), s.Conts[1]), impl.Reply{Conts: s.Conts[1:2], Kill: []int{100004}})
	checkReply(t, "with a Cap that is less than it was", s, join("m1", 49, 15, back...), impl.Reply{Conts: back[:1], Kill: []int{100001}})
	checkReply(t, "another name that begins alike", s, join("m", 50, 15, back...), impl.Reply{Kill: []int{100006, 100001}})
	// Its own Cap of before does not count.
	one := changedOne(func(s *impl.State) { s.Machines[0].Cap = res(most, most) })
	checkReply(t, "all that can be, again", one, join("m", most, most), impl.Reply{})
}

func TestJoinWithMaxConts(t *testing.T) {
	s := many(1, 2, impl.MaxConts-1, 0)
	s.Machines[1].Cap = res(1000, 1000)
	a, b := cont(500, 1, "m", 1, 1), cont(400, 1, "m", 1, 1)
	got := checkReply(t, "one fewer", s, join("m", 5, 5, a, b), impl.Reply{Conts: []impl.Cont{a}, Kill: []int{400}})
	if len(got.Conts) != impl.MaxConts {
		t.Errorf("%d containers", len(got.Conts))
	}
	checkReply(t, "MaxConts", got, join("n", 5, 5, cont(600, 1, "n", 1, 1)), impl.Reply{Kill: []int{600}})
	// One that goes with its machine leaves room.
	checkReply(t, "the machine's own", got, join("m", 5, 5, b, a), impl.Reply{Conts: []impl.Cont{b}, Kill: []int{500}})
}

func TestJoinIsRefused(t *testing.T) {
	s := taken()
	for _, name := range append([]string{""}, wrongNames...) {
		checkRefused(t, "no name", s, join(name, 1, 1), impl.Wrong)
		checkRefused(t, "no name, and a container of it", s, join(name, 1, 1, cont(1, 1001, name, 1, 1)), impl.Wrong)
	}
	for _, n := range wrongNumbers {
		checkRefused(t, "no Mem", s, join("n", n, 1), impl.Wrong)
		checkRefused(t, "no Cpu", s, join("n", 1, n), impl.Wrong)
		checkRefused(t, "no Cap of one that is there", s, join("m1", n, n, s.Conts[0]), impl.Wrong)
	}
	// m1, m2 and m3 can 160x160 together.
	for _, c := range []struct {
		node     string
		mem, cpu int
		good     bool
	}{
		{"n", most - 160, most - 160, true}, {"n", most - 159, 0, false}, {"n", 0, most - 159, false}, {"n", most, most, false},
		{"m1", most - 60, most - 60, true}, {"m1", most - 59, 0, false}, {"m1", 0, most - 59, false},
		{"m2", most - 100, most - 100, true}, {"m2", most - 99, 1, false}, {"m3", most - 160, 0, true}, {"m3", 1, most - 159, false},
	} {
		if c.good {
			checkReply(t, "Caps together", s, join(c.node, c.mem, c.cpu), impl.Reply{})
		} else {
			checkRefused(t, "Caps together", s, join(c.node, c.mem, c.cpu, cont(1, 1001, c.node, 1, 1)), impl.Full)
		}
	}
	full := many(1, impl.MaxMachines, 0, 0)
	checkRefused(t, "MaxMachines", full, join("n", 1, 1, cont(1, 1, "n", 1, 1)), impl.Full)
	checkRefused(t, "MaxMachines, no name", full, join("N", 1, 1), impl.Wrong)
	checkRefused(t, "MaxMachines, no Cap", full, join("n", 1, -1), impl.Wrong)
	for _, m := range full.Machines {
		got := checkReply(t, "one of MaxMachines", full, join(m.Name, 1, 1), impl.Reply{})
		if len(got.Machines) != impl.MaxMachines {
			t.Errorf("%d machines", len(got.Machines))
		}
	}
	room := checkReply(t, "one fewer", many(1, impl.MaxMachines-1, 0, 0), join("n", 1, 1), impl.Reply{})
	checkRefused(t, "one more", room, join("o", 1, 1), impl.Full)
}

func TestBeat(t *testing.T) {
	s := sharing()
	got := checkReply(t, "with nothing to be given", s, beat("m1"), impl.Reply{})
	if want := changedSharing(func(s *impl.State) { s.Machines[0].Seen = 3 }); !sameState(got, want) {
		t.Errorf("%+v", got)
	}
	got = checkReply(t, "that was seen now", s, beat("m2"), impl.Reply{})
	if !sameState(got, s) {
		t.Errorf("%+v", got)
	}
	s.Apps[0].Asks = []impl.Ask{askOn("m2", 1, 1, 1, 2), ask(2, 3, 4)}
	s.Conts = []impl.Cont{cont(7, 1002, "m1", 1, 1), cont(8, 1002, "m2", 1, 1), cont(999999, 1002, "m1", 1, 1)}
	on := []impl.Cont{cont(7, 1002, "m1", 1, 1), cont(100001, 1001, "m1", 2, 3), cont(100002, 1001, "m1", 2, 3), cont(100003, 1001, "m1", 2, 3), cont(999999, 1002, "m1", 1, 1)}
	got = checkReply(t, "with more than Batch", s, beat("m1"), impl.Reply{Conts: on})
	if !sameApp(got.Apps[0], app(1001, "x", askOn("m2", 2, 1, 1, 2), ask(2, 3, 1))) || got.Serial != 4 || len(got.Conts) != 6 || got.Machines[0].Seen != 3 || got.Clock != 3 {
		t.Errorf("%+v", got)
	}
	on = slices.Insert(on, 4, cont(100004, 1001, "m1", 2, 3))
	got = checkReply(t, "with one that is left", got, beat("m1"), impl.Reply{Conts: on})
	if !sameApp(got.Apps[0], app(1001, "x", askOn("m2", 3, 1, 1, 2))) {
		t.Errorf("%+v", got)
	}
	on = slices.Insert(on, 5, cont(100005, 1001, "m1", 1, 1), cont(100006, 1001, "m1", 1, 1))
	checkReply(t, "with what lost its patience", got, beat("m1"), impl.Reply{Conts: on})
	for _, name := range append([]string{"", "m", "m0", "m3", "m11", "x", "1001"}, wrongNames...) {
		checkRefused(t, "of none", s, beat(name), impl.NoNode)
	}
	checkRefused(t, "of none at all", bareState(), beat("m"), impl.NoNode)
	checkReply(t, "with just Batch", asking(3), beat("m1"), impl.Reply{Conts: doneBy(asking(3), "m1", 3)})
	checkReply(t, "with one fewer", asking(2), beat("m1"), impl.Reply{Conts: doneBy(asking(2), "m1", 2)})
}

// doneBy is what is on a machine behind so many grants.
func doneBy(s impl.State, node string, times int) []impl.Cont {
	for range times {
		s, _, _ = grantByRule(s, node)
	}
	_, on := withoutByRule(s, func(c impl.Cont) bool { return c.Node == node })
	return on
}

func TestTick(t *testing.T) {
	// What is seen at 1 is 5 below 6, and goes at 7.
	s := taken()
	for _, c := range []struct {
		clock    int
		kill     []int
		machines []string
	}{
		{5, nil, []string{"m1", "m2", "m3"}}, {6, nil, []string{"m1", "m2", "m3"}}, {7, []int{100001, 100002, 100003, 100006}, []string{"m2", "m3"}},
		{8, []int{100004, 100005}, []string{"m3"}}, {9, nil, nil}, {10, nil, nil},
	} {
		s = checkReply(t, "a tick", s, tick(), impl.Reply{Kill: c.kill})
		var names []string
		for _, m := range s.Machines {
			names = append(names, m.Name)
		}
		if s.Clock != c.clock || !slices.Equal(names, c.machines) || len(s.Apps) != 5 {
			t.Errorf("at %d: %+v", c.clock, s)
		}
	}
	for _, c := range []struct {
		clock, seen int
		stays       bool
	}{
		{0, 0, true}, {4, 0, true}, {5, 0, false}, {5, 1, true}, {6, 1, false}, {100, 96, true}, {100, 95, false}, {100, 0, false},
		{most - 1, most - 5, true}, {most - 1, most - 6, false}, {most - 1, 0, false}, {most - 1, most - 1, true},
	} {
		want := impl.Reply{}
		if !c.stays {
			want.Kill = []int{1}
		}
		got := checkReply(t, "seen", changedOne(func(s *impl.State) { s.Clock, s.Machines[0].Seen = c.clock, c.seen }), tick(), want)
		if got.Clock != c.clock+1 || len(got.Machines) == 1 != c.stays {
			t.Errorf("at %d, seen at %d: %+v", c.clock, c.seen, got)
		}
	}
	for _, seen := range []int{0, most - 6, most - 5, most} {
		checkRefused(t, "at MaxNumber", changedOne(func(s *impl.State) { s.Clock, s.Machines[0].Seen = most, seen }), tick(), impl.Full)
	}
	if got := checkReply(t, "without machines", bareState(), tick(), impl.Reply{}); got.Clock != 1 {
		t.Errorf("%+v", got)
	}
}

func TestSeveralMachinesGoAtOnce(t *testing.T) {
	s := changedTaken(func(s *impl.State) {
		s.Clock = 8
		for i := range s.Machines {
			s.Machines[i].Seen = 3
		}
		s.Machines[1].Name, s.Conts[3].Node, s.Conts[4].Node = "m0", "m0", "m0"
		s.Machines[0], s.Machines[1] = s.Machines[1], s.Machines[0]
		s.Machines = append(s.Machines, machine("m4", 1, 1, 4))
		s.Conts = append(s.Conts, cont(100007, 1005, "m4", 1, 1))
	})
	got := checkReply(t, "three at once", s, tick(), impl.Reply{Kill: []int{100001, 100002, 100003, 100004, 100005, 100006}})
	if len(got.Machines) != 1 || got.Machines[0].Name != "m4" || len(got.Conts) != 1 {
		t.Errorf("%+v", got)
	}
	// One that beats in time stays.
	s, _ = impl.Do(s, beat("m1"))
	got = checkReply(t, "two at once", s, tick(), impl.Reply{Kill: []int{100004, 100005}})
	if len(got.Machines) != 2 || got.Machines[0].Name != "m1" {
		t.Errorf("%+v", got)
	}
	s = many(impl.MaxApps, impl.MaxMachines, impl.MaxConts, 0)
	s.Clock = impl.Expiry
	all, _ := impl.Do(s, tick())
	if len(all.Machines) != 0 || len(all.Conts) != 0 || len(all.Apps) != impl.MaxApps {
		t.Errorf("%+v", all)
	}
}

func TestServe(t *testing.T) {
	s := taken()
	victims := impl.Victims(s, "a")
	if !slices.Equal(victims, []int{100006, 100005, 100004}) {
		t.Fatalf("victims %v", victims)
	}
	// In the order of Victims the greater one is first.
	got := checkReply(t, "one that starves", s, serve("a"), impl.Reply{Kill: []int{100004, 100005, 100006}})
	if len(got.Conts) != 3 || len(got.Machines) != 3 || !sameApp(got.Apps[0], s.Apps[0]) {
		t.Errorf("%+v", got)
	}
	for _, name := range []string{"b", "c", "d"} {
		if got := checkReply(t, "one that does not", s, serve(name), impl.Reply{}); !sameState(got, s) {
			t.Errorf("%+v", got)
		}
	}
	for _, name := range append([]string{"r", "", "e", "1001", "m1", "aa"}, wrongNames...) {
		checkRefused(t, "no leaf", s, serve(name), impl.NoQueue)
	}
	// Starving, but nobody has too much.
	s.Conts = nil
	if got := checkReply(t, "with nothing to be taken", s, serve("a"), impl.Reply{}); !sameState(got, s) {
		t.Errorf("%+v", got)
	}
}

func TestOpText(t *testing.T) {
	all := impl.Op{Queue: "q", App: 1, Ask: askOn("m1", 7, 2, 3, 4), Cont: 5, Node: "n", Cap: res(6, 7), Conts: []impl.Cont{cont(8, 9, "x", 10, 11)}}
	for kind, want := range []string{"submit q", "finish 1", "ask 1 2x3 4 m1", "free 5", "join n 6x7 8:9:10x11", "beat n", "tick", "serve q"} {
		all.Kind = kind
		if got := impl.OpText(all); got != want {
			t.Errorf("%d: %q, want %q", kind, got, want)
		}
	}
	for kind, want := range []string{"submit ", "finish 0", "ask 0 0x0 0", "free 0", "join  0x0", "beat ", "tick", "serve "} {
		if got := impl.OpText(impl.Op{Kind: kind}); got != want {
			t.Errorf("%d of nothing: %q, want %q", kind, got, want)
		}
	}
	for _, c := range []struct {
		op   impl.Op
		want string
	}{
		{submit("root"), "submit root"}, {submit("a b\n"), "submit a b\n"}, {finish(-1), "finish -1"}, {finish(math.MinInt), "finish -9223372036854775808"}, {finish(1001), "finish 1001"},
		{askFor(1001, ask(2, 1, 5)), "ask 1001 2x1 5"}, {askFor(3, askOn("m1", 0, 1, 2, 4)), "ask 3 1x2 4 m1"}, {askFor(-3, askOn(" ", 0, -1, most, -4)), "ask -3 -1x1000000000 -4  "},
		{free(math.MaxInt), "free 9223372036854775807"}, {free(100001), "free 100001"},
		{join("m1", 20, 10), "join m1 20x10"}, {join("m1", 0, 0, cont(1, 2, "m1", 3, 4)), "join m1 0x0 1:2:3x4"},
		{join("m1", -1, -2, cont(3, 1001, "", 1, 0), cont(2, -5, "m9", 0, 1), cont(3, 1001, "", 1, 0)), "join m1 -1x-2 3:1001:1x0 2:-5:0x1 3:1001:1x0"},
		{join("M", 5, 5, cont(math.MinInt, math.MaxInt, "x", math.MaxInt, math.MinInt)), "join M 5x5 -9223372036854775808:9223372036854775807:9223372036854775807x-9223372036854775808"},
		{beat("m1"), "beat m1"}, {tick(), "tick"}, {serve("a"), "serve a"},
	} {
		if got := impl.OpText(c.op); got != c.want {
			t.Errorf("%+v: %q, want %q", c.op, got, c.want)
		}
	}
	for _, kind := range noKinds {
		all.Kind = kind
		if got := impl.OpText(all); got != "" {
			t.Errorf("%d: %q", kind, got)
		}
	}
}

func TestNoEvents(t *testing.T) {
	for _, kind := range noKinds {
		checkRefused(t, "no event", taken(), impl.Op{Kind: kind, Queue: "a", App: 1001, Ask: ask(1, 1, 1), Cont: 100001, Node: "m1", Cap: res(1, 1)}, impl.Wrong)
		checkRefused(t, "nothing in it", taken(), impl.Op{Kind: kind}, impl.Wrong)
		checkRefused(t, "no state either", impl.State{}, impl.Op{Kind: kind}, impl.Wrong)
	}
}

// wholeOp is one that would be Good in most states that have something.
func wholeOp(s impl.State, kind int) impl.Op {
	op := impl.Op{Kind: kind, Queue: "a", App: 1001, Ask: ask(1, 1, 1), Cont: 100001, Node: "m1", Cap: res(1, 1), Conts: []impl.Cont{cont(3, 1001, "m1", 1, 1)}}
	if leaves := leavesOf(s.Queues); len(leaves) > 0 {
		op.Queue = leaves[0]
	}
	if len(s.Apps) > 0 {
		op.App = s.Apps[0].Id
	}
	if len(s.Machines) > 0 {
		op.Node = s.Machines[0].Name
	}
	if len(s.Conts) > 0 {
		op.Cont = s.Conts[0].Id
	}
	return op
}

func TestNothingHappensInWrongStates(t *testing.T) {
	for what, s := range wrongStates() {
		for _, kind := range append(kinds, 8, -1) {
			checkRefused(t, what, s, wholeOp(s, kind), impl.Wrong)
			checkRefused(t, what+", nothing in it", s, impl.Op{Kind: kind}, impl.Wrong)
		}
	}
	wrong := map[string]func(s *impl.State){
		"a queue":          func(s *impl.State) { s.Queues[4].Most = top + 1 },
		"Clock":            func(s *impl.State) { s.Clock = 2 },
		"Epoch":            func(s *impl.State) { s.Epoch = 0 },
		"Next":             func(s *impl.State) { s.Next = 1005 },
		"Serial":           func(s *impl.State) { s.Serial = most + 1 },
		"another's queue":  func(s *impl.State) { s.Apps[4].Queue = "r" },
		"another's ask":    func(s *impl.State) { s.Apps[3].Asks[0].Count = 0 },
		"another machine":  func(s *impl.State) { s.Machines[2].Seen = 5 },
		"a container":      func(s *impl.State) { s.Conts[5].App = 9 },
		"its machine":      func(s *impl.State) { s.Conts[5].Node = "m4" },
		"its amount":       func(s *impl.State) { s.Conts[5].Res = res(0, 0) },
		"a full machine":   func(s *impl.State) { s.Conts[1].Node = "m3" },
		"two machines":     func(s *impl.State) { s.Machines[2].Name = "m2" },
		"two applications": func(s *impl.State) { s.Apps[4].Id = 1004 },
		"their order":      func(s *impl.State) { s.Conts[4], s.Conts[5] = s.Conts[5], s.Conts[4] },
		"all Caps":         func(s *impl.State) { s.Machines[2].Cap.Mem = most },
	}
	for what, change := range wrong {
		for _, kind := range kinds {
			op := impl.Op{Kind: kind, Queue: "a", App: 1001, Ask: ask(1, 1, 1), Cont: 100001, Node: "m1", Cap: res(100, 100)}
			if _, reply := impl.Do(taken(), op); reply.Code != impl.Good {
				t.Fatalf("%+v: %+v", op, reply)
			}
			checkRefused(t, what, changedTaken(change), op, impl.Wrong)
		}
	}
}

func someName(r *rand.Rand, names []string) string {
	if len(names) > 0 && r.Intn(6) > 0 {
		return *one(r, names)
	}
	return *one(r, append([]string{"", "m100", "m101", "zz", "q0", "q1"}, wrongNames...))
}

func someCont(r *rand.Rand, s impl.State, node string) impl.Cont {
	c := cont(*one(r, []int{r.Intn(12), 1 + r.Intn(300)}), someApp(r, s), node, r.Intn(9), r.Intn(9))
	switch r.Intn(12) {
	case 0:
		c.Id = *one(r, append(wrongNumbers, 0, most))
	case 1:
		c.Node = someName(r, nodesOf(s))
	case 2:
		spoiltRes(r, &c.Res)
	case 3:
		c.Res = freeOnByRule(s, node)
	}
	return c
}

// someOp is an event of which most are Good in a right state, with what other kinds have as well.
func someOp(r *rand.Rand, s impl.State) impl.Op {
	op := impl.Op{Kind: *one(r, append(kinds, impl.OpBeat, impl.OpAsk, impl.OpJoin)), Queue: someName(r, leavesOf(s.Queues)), App: someApp(r, s), Ask: busyAsk(r)}
	op.Node = someName(r, append(nodesOf(s), nodeName(r.Intn(25))))
	op.Cap = res(r.Intn(100), r.Intn(100))
	op.Cont = *one(r, append(someIds(r, s), 1, r.Intn(400)))
	for range r.Intn(6) {
		op.Conts = append(op.Conts, someCont(r, s, op.Node))
		if len(s.Conts) > 0 && r.Intn(3) == 0 {
			op.Conts = append(op.Conts, *one(r, s.Conts))
		}
	}
	op.Ask.Missed = *one(r, []int{0, 1, 2, 1001, -1})
	switch r.Intn(20) {
	case 0:
		op.Kind = *one(r, noKinds)
	case 1:
		spoiltAsk(r, &op.Ask)
	case 2:
		spoiltRes(r, &op.Cap)
	case 3:
		op.Queue = someName(r, namesIn(s))
	}
	return op
}

func TestEventsByTheRules(t *testing.T) {
	r := rand.New(rand.NewSource(40))
	for _, states := range []map[string]impl.State{rightStates(), wrongStates()} {
		for what, s := range states {
			if len(s.Conts) > 1000 {
				continue
			}
			for _, kind := range kinds {
				checkDo(t, what, s, wholeOp(s, kind))
			}
			for range 10 {
				checkDo(t, what, s, someOp(r, s))
			}
		}
	}
	codes := [8][7]int{}
	for range 6000 {
		s := *one(r, []impl.State{crowdedState(r), busyState(r)})
		for range 3 {
			op := someOp(r, s)
			if _, reply := checkDo(t, "", s, op); slices.Contains(kinds, op.Kind) {
				codes[op.Kind][reply.Code]++
			}
		}
		s = spoiltState(r, s)
		checkDo(t, "spoilt", s, someOp(r, s))
	}
	for kind, codes := range codes {
		if codes[impl.Good] < 100 {
			t.Errorf("kind %d: %v", kind, codes)
		}
	}
}

// Promise 7: from the first state on, it stays right whatever is said.
func TestAStateStaysRight(t *testing.T) {
	r := rand.New(rand.NewSource(41))
	good, refused, most := 0, 0, 0
	for range 150 {
		s, ok := impl.StateNew(flatTree(r))
		if !ok {
			t.Fatal("no state")
		}
		for range 80 {
			next, reply := checkDo(t, "on the way", s, someOp(r, s))
			if reply.Code == impl.Good {
				good++
			} else {
				refused++
			}
			s = next
			most = max(most, len(s.Conts))
		}
	}
	if good < 3000 || refused < 500 || most < 10 {
		t.Errorf("%d good, %d refused, %d containers at most", good, refused, most)
	}
}

// The lists fill up to their limits, and no further.
func TestEventsAtAllLimits(t *testing.T) {
	s, _ := impl.StateNew(under(queue("a", "r", 5000, top), queue("b", "r", 5000, top)))
	say := func(op impl.Op, code int) {
		t.Helper()
		next, reply := impl.Do(s, op)
		if reply.Code != code || !impl.StateOk(next) {
			t.Fatalf("%+v: %+v", op, reply)
		}
		s = next
	}
	for i := range impl.MaxApps {
		say(submit([]string{"a", "b"}[i%2]), impl.Good)
		for range impl.MaxAsks {
			say(askFor(1001+i, ask(1, 1, 1000)), impl.Good)
		}
		say(askFor(1001+i, ask(1, 1, 1000)), impl.Full)
	}
	say(submit("a"), impl.Full)
	for i := range impl.MaxMachines {
		say(join(nodeName(i), 10, 10), impl.Good)
	}
	say(join("z", 10, 10), impl.Full)
	for i := range 3 * impl.MaxMachines {
		say(beat(nodeName(i%impl.MaxMachines)), impl.Good)
	}
	if len(s.Conts) != impl.MaxConts || len(s.Apps) != impl.MaxApps || len(s.Machines) != impl.MaxMachines {
		t.Errorf("%d containers", len(s.Conts))
	}
	for range impl.Expiry {
		say(tick(), impl.Good)
	}
	say(beat(nodeName(7)), impl.Good)
	say(tick(), impl.Good)
	if len(s.Machines) != 1 || len(s.Conts) == 0 || len(s.Conts) > 10 {
		t.Errorf("%+v", s.Conts)
	}
}

// A long list of what runs is gone through to its end.
func TestJoinWithALongList(t *testing.T) {
	var conts []impl.Cont
	for i := range 100000 {
		conts = append(conts, cont(200000-i, 1001, "n", 1+i%2, 1))
	}
	got, reply := impl.Do(taken(), join("n", 100, 100, conts...))
	if len(reply.Conts)+len(reply.Kill) != len(conts) || len(reply.Conts) != 67 || !impl.StateOk(got) {
		t.Errorf("%d taken, %d not", len(reply.Conts), len(reply.Kill))
	}
}

func overwriteReply(reply impl.Reply) {
	overwriteConts(reply.Conts)
	overwriteIds(reply.Kill)
}

// contsWithRoom is a list with something in the spare room behind it.
func contsWithRoom(conts []impl.Cont) []impl.Cont {
	out := append(slices.Clone(conts), cont(-7, 7, "spare", 7, 7))
	return out[:len(conts)]
}

func TestEventsWriteIntoNothing(t *testing.T) {
	r := rand.New(rand.NewSource(42))
	states := []impl.State{taken(), sharing()}
	for _, named := range []map[string]impl.State{rightStates(), wrongStates()} {
		for _, s := range named {
			states = append(states, s)
		}
	}
	for range 400 {
		states = append(states, crowdedState(r), spoiltState(r, crowdedState(r)))
	}
	for _, s := range states {
		handed := withRoom(s)
		before := behind(handed)
		for _, kind := range kinds {
			for _, op := range []impl.Op{wholeOp(s, kind), someOp(r, s)} {
				op.Kind, op.Conts = kind, contsWithRoom(op.Conts)
				all := op.Conts[:cap(op.Conts)]
				conts := slices.Clone(all)
				next, reply := impl.Do(handed, op)
				overwrite(next)
				overwriteReply(reply)
				impl.OpText(op)
				if !reflect.DeepEqual(behind(handed), before) || !slices.Equal(all, conts) {
					t.Fatalf("written into by %+v: %+v", op, s)
				}
			}
		}
	}
}

func copyOfReply(reply impl.Reply) impl.Reply {
	reply.Conts, reply.Kill = slices.Clone(reply.Conts), slices.Clone(reply.Kill)
	return reply
}

func TestEventsHandBackNewMemory(t *testing.T) {
	r := rand.New(rand.NewSource(43))
	for range 3000 {
		s := crowdedState(r)
		if r.Intn(5) == 0 {
			s = spoiltState(r, s)
		}
		op := someOp(r, s)
		want, wantReply := impl.Do(deepCopy(s), op)
		want, wantReply = deepCopy(want), copyOfReply(wantReply)
		handed, said := withRoom(s), op
		said.Conts = contsWithRoom(op.Conts)
		got, reply := impl.Do(handed, said)
		overwrite(handed)
		overwriteConts(said.Conts)
		if !sameState(got, want) || !sameReply(reply, wantReply) {
			t.Fatalf("what was answered is what was handed in: %+v, %+v", s, op)
		}
		overwriteReply(reply)
		if !sameState(got, want) {
			t.Fatalf("the reply's lists are the state's: %+v, %+v", s, op)
		}
		got, reply = impl.Do(s, op)
		overwrite(got)
		if !sameReply(reply, wantReply) {
			t.Fatalf("the state has the reply's lists: %+v, %+v", s, op)
		}
	}
}

// textsOf are all texts of a state that are not empty.
func textsOf(s impl.State) []string {
	all := []string{}
	for _, q := range s.Queues {
		all = append(all, q.Name, q.Parent)
	}
	for _, a := range s.Apps {
		all = append(all, a.Queue)
		for _, one := range a.Asks {
			all = append(all, one.Node)
		}
	}
	for _, m := range s.Machines {
		all = append(all, m.Name)
	}
	return slices.DeleteFunc(append(all, textsOfConts(s.Conts)...), func(text string) bool { return text == "" })
}

func textsOfConts(conts []impl.Cont) []string {
	var all []string
	for _, c := range conts {
		all = append(all, c.Node)
	}
	return slices.DeleteFunc(all, func(text string) bool { return text == "" })
}

func textsOfOp(op impl.Op) []string {
	all := append([]string{op.Queue, op.Ask.Node, op.Node}, textsOfConts(op.Conts)...)
	return slices.DeleteFunc(all, func(text string) bool { return text == "" })
}

// shareText tells whether a text of one list is the very memory of one of the other.
func shareText(some []string, others []string) bool {
	at := map[*byte]bool{}
	for _, text := range some {
		at[unsafe.StringData(text)] = true
	}
	return slices.ContainsFunc(others, func(text string) bool { return at[unsafe.StringData(text)] })
}

func TestEventsHandBackNewTexts(t *testing.T) {
	r := rand.New(rand.NewSource(46))
	for range 3000 {
		s := crowdedState(r)
		if r.Intn(5) == 0 {
			s = spoiltState(r, s)
		}
		op := someOp(r, s)
		got, reply := impl.Do(s, op)
		handed := append(textsOf(s), textsOfOp(op)...)
		if shareText(handed, textsOf(got)) || shareText(handed, textsOfConts(reply.Conts)) || shareText(textsOf(got), textsOfConts(reply.Conts)) {
			t.Fatalf("texts are shared: %+v, %+v", s, op)
		}
		if op.Queue != "" && shareText(handed, []string{impl.OpText(op)}) {
			t.Fatalf("a text is what was handed in: %+v", op)
		}
	}
}

func TestEventsKeepNothing(t *testing.T) {
	r := rand.New(rand.NewSource(44))
	for range 300 {
		s, other := crowdedState(r), crowdedState(r)
		op := someOp(r, s)
		first, reply := impl.Do(s, op)
		impl.Do(other, someOp(r, other))
		impl.Do(first, op)
		again, replyAgain := impl.Do(s, op)
		if !sameState(first, again) || !sameReply(reply, replyAgain) {
			t.Fatalf("another answer at the second time: %+v, %+v", s, op)
		}
	}
}

func TestEventsAnswerAtAnyArguments(t *testing.T) {
	r := rand.New(rand.NewSource(45))
	numbers := append([]int{0, 1, 2, 3, 1000, most - 1, most}, wrongNumbers...)
	names := append([]string{"", "r", "a", "b", "m"}, wrongNames...)
	number := func() int { return *one(r, numbers) }
	name := func() string { return *one(r, names) }
	amount := func() impl.Res { return res(number(), number()) }
	anyCont := func() impl.Cont { return impl.Cont{Id: number(), App: number(), Node: name(), Res: amount()} }
	anyAsk := func() impl.Ask { return impl.Ask{Res: amount(), Count: number(), Node: name(), Missed: number()} }
	for range 20000 {
		s := oneOfEach()
		if r.Intn(2) == 0 {
			s = impl.State{Queues: s.Queues, Clock: number(), Epoch: number(), Next: number(), Serial: number()}
		}
		if r.Intn(4) == 0 {
			s.Queues = under(queue("a", "r", 5000, 5000), queue("b", "r", 5000, 6000))
		}
		if r.Intn(4) == 0 {
			s.Apps = append(s.Apps, impl.App{Id: number(), Queue: name(), Asks: []impl.Ask{anyAsk()}})
			s.Machines = append(s.Machines, impl.Machine{Name: name(), Cap: amount(), Seen: number()})
			s.Conts = append(s.Conts, anyCont())
		}
		op := impl.Op{Kind: *one(r, append(kinds, number())), Queue: name(), App: number(), Ask: anyAsk(), Cont: number(), Node: name(), Cap: amount(), Conts: []impl.Cont{anyCont(), anyCont()}}
		checkDo(t, "any", s, op)
	}
}
