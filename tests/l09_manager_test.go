package tests

import (
	"fmt"
	"math"
	"math/rand"
	"reflect"
	"slices"
	"strings"
	"sync"
	"testing"

	"loop.example/g00275/impl"
)

// logOfTaken is what was written down for taken.
func logOfTaken() string {
	return logOf(recApp(1001, "a"), recApp(1002, "b"), recApp(1003, "c"), recApp(1004, "b"), recApp(1005, "d"))
}

// managing is a right manager with applications, machines and containers: what is safe tells the first two alone,
// and two replies wait.
func managing() impl.Manager {
	return impl.Manager{
		State: taken(), Log: logOfTaken(), Safe: len(logOf(recApp(1001, "a"), recApp(1002, "b"))),
		Wait: []impl.Reply{{App: 1004}, {App: 1005}},
	}
}

func changedManaging(change func(m *impl.Manager)) impl.Manager {
	m := managing()
	change(&m)
	return m
}

// filler is a log of just so many bytes (0, or 56 and more) of which nothing is to be seen in a state.
func filler(n int) string {
	short, long := logOf(recDone(1)), logOf(recDone(128))
	nines := n % len(short)
	return strings.Repeat(long, nines) + strings.Repeat(short, (n-nines*len(long))/len(short))
}

// nearlyFull is a right manager of one application, 1001 of a, with room for just so many bytes in its log.
func nearlyFull(room int) impl.Manager {
	first := logOf(recApp(1001, "a"))
	log := first + filler(impl.MaxJournal-room-len(first))
	s := impl.State{Queues: leafTree(), Epoch: 1, Next: 1002, Serial: 1, Apps: []impl.App{app(1001, "a")}}
	return impl.Manager{State: s, Log: log, Safe: len(first), Wait: []impl.Reply{{App: 1001}}}
}

// shown tells a manager for those who read why a test failed: its log may be any bytes, and many.
func shown(m impl.Manager) string {
	return fmt.Sprintf("{%+v, %d bytes: %.200q, %d safe, %+v waits}", m.State, len(m.Log), m.Log, m.Safe, m.Wait)
}

func sameManager(a impl.Manager, b impl.Manager) bool {
	return sameState(a.State, b.State) && a.Log == b.Log && a.Safe == b.Safe && slices.EqualFunc(a.Wait, b.Wait, sameReply)
}

func copyOfWait(wait []impl.Reply) []impl.Reply {
	out := slices.Clone(wait)
	for i, reply := range out {
		out[i] = copyOfReply(reply)
	}
	return out
}

func deepManager(m impl.Manager) impl.Manager {
	m.State, m.Wait = deepCopy(m.State), copyOfWait(m.Wait)
	return m
}

func isManager(m impl.Manager) bool {
	if !isState(m.State) || m.Safe < 0 || m.Safe > len(m.Log) {
		return false
	}
	if _, end := readByRule(m.Log); end != len(m.Log) {
		return false
	}
	told, ok := recoverByRule(m.State.Queues, m.Log)
	bare := impl.State{Queues: m.State.Queues, Epoch: m.State.Epoch, Next: m.State.Next, Serial: 1}
	for _, a := range m.State.Apps {
		bare.Apps = append(bare.Apps, app(a.Id, a.Queue))
	}
	return ok && sameState(told, bare)
}

func managerDoByRule(m impl.Manager, op impl.Op) (impl.Manager, impl.Reply, bool) {
	if !isManager(m) {
		return m, impl.Reply{Code: 6}, true
	}
	before := m
	next, reply := doByRule(m.State, op)
	m.State = next
	var rec impl.Rec
	switch {
	case reply.Code == 0 && op.Kind == 0:
		rec = recApp(reply.App, op.Queue)
	case reply.Code == 0 && op.Kind == 1:
		rec = recDone(op.App)
	default:
		return m, reply, true
	}
	log, ok := writeByRule(m.Log, rec)
	if !ok {
		return before, impl.Reply{Code: 5}, true
	}
	m.Log, m.Wait = log, append(slices.Clone(m.Wait), reply)
	return m, impl.Reply{}, false
}

func managerSyncByRule(m impl.Manager) (impl.Manager, []impl.Reply) {
	if !isManager(m) {
		return m, nil
	}
	waited := m.Wait
	m.Safe, m.Wait = len(m.Log), nil
	return m, waited
}

// bytesByRule goes one by one, so that no sum of any two numbers is asked for.
func bytesByRule(log string, safe int, keep int) string {
	n := 0
	for n < len(log) && n < safe {
		n++
	}
	for n < len(log) && keep > 0 {
		n++
		keep--
	}
	return log[:n]
}

func managerCrashByRule(m impl.Manager, keep int) impl.Manager {
	left := bytesByRule(m.Log, m.Safe, keep)
	_, end := readByRule(left)
	log, _ := writeByRule(left[:end], recEpoch())
	s, _ := recoverByRule(m.State.Queues, log)
	return impl.Manager{State: s, Log: log, Safe: len(log)}
}

func appsOf(s impl.State) []int {
	var ids []int
	for _, a := range s.Apps {
		ids = append(ids, a.Id)
	}
	return ids
}

func promisedByRule(m impl.Manager) []int {
	s, _ := recoverByRule(m.State.Queues, bytesByRule(m.Log, m.Safe, 0))
	return appsOf(s)
}

func checkManagerOk(t *testing.T, what string, m impl.Manager) bool {
	t.Helper()
	got := impl.ManagerOk(m)
	if want := isManager(m); got != want {
		t.Fatalf("%s: ManagerOk(%+v): %v, want %v", what, shown(m), got, want)
	}
	return got
}

// checkManagerDo holds an event against the rules, and half of promise 9 of it: nothing is promised by it,
// neither as a reply nor by more that is safe.
func checkManagerDo(t *testing.T, what string, m impl.Manager, op impl.Op) (impl.Manager, impl.Reply, bool) {
	t.Helper()
	got, reply, now := impl.ManagerDo(m, op)
	want, wantReply, wantNow := managerDoByRule(m, op)
	if !sameManager(got, want) || !sameReply(reply, wantReply) || now != wantNow {
		t.Fatalf("%s: ManagerDo(%+v, %+v):\n%+v, %+v, %v, want\n%+v, %+v, %v", what, shown(m), op, shown(got), reply, now, shown(want), wantReply, wantNow)
	}
	if impl.ManagerOk(m) && !impl.ManagerOk(got) {
		t.Fatalf("%s: ManagerDo(%+v, %+v): not right any more: %+v", what, shown(m), op, shown(got))
	}
	if reply.App != 0 || got.Safe != m.Safe || !slices.Equal(impl.Promised(got), impl.Promised(m)) {
		t.Fatalf("%s: ManagerDo(%+v, %+v): promised ahead: %+v, %+v", what, shown(m), op, reply, shown(got))
	}
	return got, reply, now
}

func checkManagerSync(t *testing.T, what string, m impl.Manager) (impl.Manager, []impl.Reply) {
	t.Helper()
	got, said := impl.ManagerSync(m)
	want, wantSaid := managerSyncByRule(m)
	if !sameManager(got, want) || !slices.EqualFunc(said, wantSaid, sameReply) {
		t.Fatalf("%s: ManagerSync(%+v):\n%+v, %+v, want\n%+v, %+v", what, shown(m), shown(got), said, shown(want), wantSaid)
	}
	if impl.ManagerOk(m) != impl.ManagerOk(got) {
		t.Fatalf("%s: ManagerSync(%+v): right or not, and then not so: %+v", what, shown(m), shown(got))
	}
	return got, said
}

// checkCrash holds a crash against the rules, and the other half of promise 9 of it: what was promised is there, but
// for what bytes that were kept beyond what is safe tell to be done.
func checkCrash(t *testing.T, what string, m impl.Manager, keep int) impl.Manager {
	t.Helper()
	got := impl.ManagerCrash(m, keep)
	if want := managerCrashByRule(m, keep); !sameManager(got, want) {
		t.Fatalf("%s: ManagerCrash(%+v, %d):\n%+v, want\n%+v", what, shown(m), keep, shown(got), shown(want))
	}
	if isTree(m.State.Queues) != impl.ManagerOk(got) {
		t.Fatalf("%s: ManagerCrash(%+v, %d): right: %v", what, shown(m), keep, impl.ManagerOk(got))
	}
	if len(m.Log) > impl.MaxJournal {
		// Of such a one that is not right Read may tell nothing, where more than what is safe is kept.
		return got
	}
	recs, _ := readByRule(got.Log)
	for _, id := range impl.Promised(m) {
		if !slices.Contains(appsOf(got.State), id) && (keep <= 0 || !slices.Contains(recs, recDone(id))) {
			t.Fatalf("%s: ManagerCrash(%+v, %d): %d was promised: %+v", what, shown(m), keep, id, shown(got))
		}
	}
	if keep <= 0 && !slices.Equal(appsOf(got.State), impl.Promised(m)) {
		t.Fatalf("%s: ManagerCrash(%+v, %d): more than was promised: %+v", what, shown(m), keep, shown(got))
	}
	if !slices.Equal(appsOf(got.State), impl.Promised(got)) {
		t.Fatalf("%s: ManagerCrash(%+v, %d): what is there is not promised: %+v", what, shown(m), keep, shown(got))
	}
	return got
}

func checkPromised(t *testing.T, what string, m impl.Manager) []int {
	t.Helper()
	got := impl.Promised(m)
	if want := promisedByRule(m); !slices.Equal(got, want) || !slices.IsSorted(got) {
		t.Fatalf("%s: Promised(%+v): %v, want %v", what, shown(m), got, want)
	}
	return got
}

func checkManager(t *testing.T, what string, m impl.Manager, op impl.Op, keep int) {
	t.Helper()
	checkManagerOk(t, what, m)
	checkManagerDo(t, what, m, op)
	checkManagerSync(t, what, m)
	checkCrash(t, what, m, keep)
	checkPromised(t, what, m)
}

func TestManagerNew(t *testing.T) {
	for what, q := range rightTrees() {
		m, ok := impl.ManagerNew(q)
		want := impl.Manager{State: impl.State{Queues: q, Epoch: 1, Next: 1001, Serial: 1}}
		if !ok || !sameManager(m, want) || !checkManagerOk(t, what, m) || len(checkPromised(t, what, m)) != 0 {
			t.Errorf("%s: %+v, %v", what, shown(m), ok)
		}
	}
	for what, q := range wrongTrees() {
		if m, ok := impl.ManagerNew(q); ok || !sameManager(m, impl.Manager{}) {
			t.Errorf("%s: %+v, %v", what, shown(m), ok)
		}
	}
	if _, ok := impl.ManagerNew(nil); ok {
		t.Error("no queues")
	}
}

func TestRightManagers(t *testing.T) {
	for what, change := range map[string]func(m *impl.Manager){
		"as it is":                   func(m *impl.Manager) {},
		"nothing safe":               func(m *impl.Manager) { m.Safe = 0 },
		"one byte safe":              func(m *impl.Manager) { m.Safe = 1 },
		"all safe":                   func(m *impl.Manager) { m.Safe = len(m.Log) },
		"all but a byte safe":        func(m *impl.Manager) { m.Safe = len(m.Log) - 1 },
		"nothing waits":              func(m *impl.Manager) { m.Wait = nil },
		"any replies wait":           func(m *impl.Manager) { m.Wait = []impl.Reply{{Code: -1, App: most + 1, Kill: []int{-7}}, {}} },
		"another Clock":              func(m *impl.Manager) { m.State.Clock = most },
		"another Serial":             func(m *impl.Manager) { m.State.Serial = 1 },
		"no machines and containers": func(m *impl.Manager) { m.State.Machines, m.State.Conts = nil, nil },
		"no asks":                    func(m *impl.Manager) { m.State.Apps[0].Asks, m.State.Apps[3].Asks = nil, nil },
		"other asks":                 func(m *impl.Manager) { m.State.Apps[4].Asks = []impl.Ask{ask(1, 1, 1)} },
		"other points":               func(m *impl.Manager) { m.State.Queues[4].Due = 1 },
		"something is passed over":   func(m *impl.Manager) { m.Log += logOf(recDone(9), recApp(1001, "a"), recApp(2000, "b")) },
		"one is done":                func(m *impl.Manager) { m.Log += logOf(recDone(1005)); m.State.Apps = m.State.Apps[:4] },
		"an epoch":                   func(m *impl.Manager) { m.Log += logOf(recEpoch()); m.State.Epoch, m.State.Next = 2, 2001 },
		"an epoch, and one more Next": func(m *impl.Manager) {
			m.Log += logOf(recEpoch(), recApp(2001, "d"), recDone(2001))
			m.State.Epoch, m.State.Next = 2, 2002
		},
		"a log of MaxJournal bytes": func(m *impl.Manager) { m.Log += filler(impl.MaxJournal - len(m.Log)) },
		"such a one, all safe":      func(m *impl.Manager) { m.Log += filler(impl.MaxJournal - len(m.Log)); m.Safe = len(m.Log) },
	} {
		if !checkManagerOk(t, what, changedManaging(change)) {
			t.Errorf("%s: not right", what)
		}
	}
	for _, room := range []int{0, 1, 7, 8, 9, 10, 100} {
		if m := nearlyFull(room); !checkManagerOk(t, "nearly full", m) || len(m.Log) != impl.MaxJournal-room {
			t.Errorf("%d bytes of room: %d bytes", room, len(m.Log))
		}
	}
}

// wrongManagers differ from managing in one thing each.
func wrongManagers() map[string]impl.Manager {
	changes := map[string]func(m *impl.Manager){
		"a byte more":                      func(m *impl.Manager) { m.Log += "\x00" },
		"a byte less":                      func(m *impl.Manager) { m.Log = m.Log[:len(m.Log)-1] },
		"a byte ahead":                     func(m *impl.Manager) { m.Log = "\x00" + m.Log },
		"half a record more":               func(m *impl.Manager) { m.Log += logOf(recDone(9))[:6] },
		"no record more":                   func(m *impl.Manager) { m.Log += entry("\x03\x00\x00") },
		"the last record missing":          func(m *impl.Manager) { m.Log = m.Log[:len(m.Log)-len(logOf(recApp(1005, "d")))] },
		"the first record missing":         func(m *impl.Manager) { m.Log = m.Log[len(logOf(recApp(1001, "a"))):] },
		"no log":                           func(m *impl.Manager) { m.Log, m.Safe = "", 0 },
		"itself again, and a byte more":    func(m *impl.Manager) { m.Log += m.Log + "x" },
		"one more than MaxJournal":         func(m *impl.Manager) { m.Log += filler(impl.MaxJournal - len(m.Log) + 1) },
		"Safe one more than there is":      func(m *impl.Manager) { m.Safe = len(m.Log) + 1 },
		"Safe -1":                          func(m *impl.Manager) { m.Safe = -1 },
		"Safe the least":                   func(m *impl.Manager) { m.Safe = math.MinInt },
		"Safe the greatest":                func(m *impl.Manager) { m.Safe = math.MaxInt },
		"another Epoch":                    func(m *impl.Manager) { m.State.Epoch = 2 },
		"another Epoch, told":              func(m *impl.Manager) { m.Log += logOf(recEpoch()); m.State.Next = 2001 },
		"another Next":                     func(m *impl.Manager) { m.State.Next = 1007 },
		"another Next, told":               func(m *impl.Manager) { m.Log += logOf(recApp(1006, "a"), recDone(1006)) },
		"an application not told":          func(m *impl.Manager) { m.Log = strings.Replace(m.Log, logOf(recApp(1004, "b")), "", 1) },
		"an application more, told":        func(m *impl.Manager) { m.Log += logOf(recApp(1006, "d")); m.State.Next = 1007 },
		"an application fewer":             func(m *impl.Manager) { m.State.Apps = m.State.Apps[:4] },
		"the first one fewer":              func(m *impl.Manager) { m.State.Apps, m.State.Conts = m.State.Apps[1:], nil },
		"an application fewer, told":       func(m *impl.Manager) { m.Log += logOf(recDone(1005)) },
		"an application's queue":           func(m *impl.Manager) { m.State.Apps[4].Queue = "c" },
		"the first one's queue":            func(m *impl.Manager) { m.State.Apps[0].Queue = "d" },
		"an application's queue, told":     func(m *impl.Manager) { m.Log = logOf(recApp(1001, "b")) + m.Log[len(logOf(recApp(1001, "a"))):] },
		"two queues of two, changed over":  func(m *impl.Manager) { m.State.Apps[3].Queue, m.State.Apps[4].Queue = "d", "b" },
		"no queues":                        func(m *impl.Manager) { m.State.Queues = nil },
		"no tree":                          func(m *impl.Manager) { m.State.Queues[4].Parent = "z" },
		"another tree":                     func(m *impl.Manager) { m.State.Queues = leafTree() },
		"a queue that is no leaf any more": func(m *impl.Manager) { m.State.Queues = append(m.State.Queues, queue("d1", "d", 1, 1)) },
		"Clock below Seen":                 func(m *impl.Manager) { m.State.Clock = 2 },
		"Serial 0":                         func(m *impl.Manager) { m.State.Serial = 0 },
		"an ask that is none":              func(m *impl.Manager) { m.State.Apps[0].Asks[0].Count = 0 },
		"a machine's name":                 func(m *impl.Manager) { m.State.Machines[2].Name = "M" },
		"a container of no application":    func(m *impl.Manager) { m.State.Conts[5].App = 9 },
		"containers that descend":          func(m *impl.Manager) { slices.Reverse(m.State.Conts) },
		"applications that descend":        func(m *impl.Manager) { slices.Reverse(m.State.Apps) },
		"too much on a machine":            func(m *impl.Manager) { m.State.Machines[0].Cap = res(84, 30) },
	}
	out := map[string]impl.Manager{"the zero value": {}}
	for what, change := range changes {
		out[what] = changedManaging(change)
	}
	// Here the Id alone is another one: Next, how many there are and their queues are told alike.
	alone := impl.Manager{State: taken(), Log: logOf(recApp(1001, "a"), recApp(1002, "b"), recApp(1005, "d"))}
	alone.State.Apps, alone.State.Conts = []impl.App{app(1001, "a"), app(1004, "b"), app(1005, "d")}, nil
	out["an application's Id alone"] = alone
	return out
}

func TestWrongManagers(t *testing.T) {
	all := wrongManagers()
	for what, s := range wrongStates() {
		all["state: "+what] = impl.Manager{State: s, Log: logOfTaken()}
		all["state without a log: "+what] = impl.Manager{State: s}
	}
	for what, m := range all {
		if checkManagerOk(t, what, m) {
			t.Errorf("%s: right", what)
		}
		for _, kind := range append(kinds, 8, -1) {
			for _, op := range []impl.Op{wholeOp(m.State, kind), {Kind: kind}} {
				got, reply, now := checkManagerDo(t, what, m, op)
				if !sameManager(got, m) || !sameReply(reply, impl.Reply{Code: impl.Wrong}) || !now {
					t.Errorf("%s: %+v: %+v, %v", what, op, reply, now)
				}
			}
		}
		if got, said := checkManagerSync(t, what, m); !sameManager(got, m) || len(said) != 0 {
			t.Errorf("%s: %+v", what, said)
		}
	}
}

// Each cut and each byte that is changed makes a log another one, and Safe is any number of its bytes.
func TestManagerOkOfLogs(t *testing.T) {
	m := managing()
	for at := range len(m.Log) {
		cut := changedManaging(func(m *impl.Manager) { m.Log, m.Safe = m.Log[:at], 0 })
		bytes := []byte(m.Log)
		bytes[at] ^= 4
		spoilt := changedManaging(func(m *impl.Manager) { m.Log = string(bytes) })
		if checkManagerOk(t, "cut", cut) || checkManagerOk(t, "changed", spoilt) {
			t.Errorf("at %d: right", at)
		}
	}
	for safe := -3; safe < len(m.Log)+4; safe++ {
		m.Safe = safe
		if got := checkManagerOk(t, "safe", m); got != (safe >= 0 && safe <= len(m.Log)) {
			t.Errorf("Safe %d: %v", safe, got)
		}
	}
	for _, m.Safe = range wrongNumbers {
		if checkManagerOk(t, "safe", m) {
			t.Errorf("Safe %d: right", m.Safe)
		}
	}
	empty, _ := impl.ManagerNew(leafTree())
	for _, empty.Safe = range []int{-1, 0, 1} {
		if got := checkManagerOk(t, "nothing written", empty); got != (empty.Safe == 0) {
			t.Errorf("Safe %d: %v", empty.Safe, got)
		}
	}
}

// What is Good and of no promise is told at once, and nothing is written.
func TestEventsThatAreToldAtOnce(t *testing.T) {
	m := managing()
	for _, op := range []impl.Op{askFor(1005, ask(1, 1, 2)), free(100004), join("m4", 5, 6), join("m1", 9, 9, m.State.Conts[0]), beat("m1"), beat("m3"), tick(), serve("a"), serve("d")} {
		got, reply, now := checkManagerDo(t, "good", m, op)
		state, want := impl.Do(m.State, op)
		if want.Code != impl.Good || !now || !sameReply(reply, want) || !sameState(got.State, state) || sameState(state, m.State) && op.Kind != impl.OpServe {
			t.Errorf("%+v: %+v, %v, want %+v", op, reply, now, want)
		}
		got.State = m.State
		if !sameManager(got, m) {
			t.Errorf("%+v: %+v", op, shown(got))
		}
	}
	if _, reply, _ := impl.ManagerDo(m, beat("m1")); len(reply.Conts) < 5 {
		t.Errorf("%+v", reply)
	}
	if _, reply, _ := impl.ManagerDo(m, serve("a")); len(reply.Kill) == 0 {
		t.Errorf("%+v", reply)
	}
}

// What is refused is told at once too, of a submit and a finish as well, and changes nothing.
func TestEventsThatAManagerRefuses(t *testing.T) {
	full := changedManaging(func(m *impl.Manager) { m.State.Clock, m.State.Machines, m.State.Conts = most, nil, nil })
	last := changedManaging(func(m *impl.Manager) { m.Log += logOf(recApp(1999, "d"), recDone(1999)); m.State.Next = 2000 })
	for _, c := range []struct {
		m    impl.Manager
		op   impl.Op
		code int
	}{
		{managing(), submit("r"), impl.NoQueue}, {managing(), submit(""), impl.NoQueue}, {managing(), submit("z"), impl.NoQueue}, {last, submit("a"), impl.Full},
		{managing(), finish(1006), impl.NoApp}, {managing(), finish(0), impl.NoApp}, {managing(), finish(-1), impl.NoApp}, {managing(), finish(math.MaxInt), impl.NoApp},
		{managing(), askFor(1006, ask(1, 1, 1)), impl.NoApp}, {managing(), askFor(1001, ask(0, 0, 1)), impl.Wrong},
		{managing(), free(100007), impl.NoCont}, {managing(), join("M", 1, 1), impl.Wrong}, {managing(), join("m9", most, most), impl.Full},
		{managing(), beat("m9"), impl.NoNode}, {full, tick(), impl.Full}, {managing(), serve("r"), impl.NoQueue},
		{managing(), impl.Op{Kind: 8}, impl.Wrong}, {managing(), impl.Op{Kind: -1}, impl.Wrong},
	} {
		if !impl.ManagerOk(c.m) {
			t.Fatalf("not right: %+v", shown(c.m))
		}
		got, reply, now := checkManagerDo(t, "refused", c.m, c.op)
		if !sameManager(got, c.m) || !sameReply(reply, impl.Reply{Code: c.code}) || !now {
			t.Errorf("%+v: %+v, %v, want %d", c.op, reply, now, c.code)
		}
	}
	// So many applications that there is no room, but in the log.
	many, _ := impl.ManagerNew(leafTree())
	for range impl.MaxApps {
		many, _, _ = impl.ManagerDo(many, submit("b2"))
	}
	if got, reply, now := checkManagerDo(t, "MaxApps", many, submit("a")); !now || reply.Code != impl.Full || !sameManager(got, many) || len(many.Wait) != impl.MaxApps {
		t.Errorf("%+v, %v", reply, now)
	}
}

func TestSubmitWaits(t *testing.T) {
	m := managing()
	got, reply, now := checkManagerDo(t, "submit", m, submit("c"))
	want := changedManaging(func(m *impl.Manager) {
		m.State.Apps, m.State.Next = append(m.State.Apps, app(1006, "c")), 1007
		m.Log += logOf(recApp(1006, "c"))
		m.Wait = append(m.Wait, impl.Reply{App: 1006})
	})
	if now || !sameReply(reply, impl.Reply{}) || !sameManager(got, want) {
		t.Errorf("%+v, %+v, %v", shown(got), reply, now)
	}
	got, _, now = checkManagerDo(t, "one more", got, submit("a"))
	if now || len(got.Wait) != 4 || got.Wait[3].App != 1007 || got.Safe != m.Safe {
		t.Errorf("%+v", shown(got))
	}
	first, _ := impl.ManagerNew(leafTree())
	got, reply, now = checkManagerDo(t, "the first one", first, submit("b1"))
	if now || !sameReply(reply, impl.Reply{}) || got.Log != logOf(recApp(1001, "b1")) || got.Safe != 0 || len(got.Wait) != 1 || got.Wait[0].App != 1001 {
		t.Errorf("%+v, %+v, %v", shown(got), reply, now)
	}
}

func TestFinishWaits(t *testing.T) {
	for _, c := range []struct {
		app  int
		kill []int
	}{{1001, []int{100003}}, {1002, []int{100001, 100006}}, {1003, []int{100002, 100005}}, {1005, nil}} {
		m := managing()
		got, reply, now := checkManagerDo(t, "finish", m, finish(c.app))
		if now || !sameReply(reply, impl.Reply{}) || got.Log != m.Log+logOf(recDone(c.app)) || got.Safe != m.Safe || len(got.State.Apps) != 4 || len(got.State.Conts) != 6-len(c.kill) {
			t.Errorf("%d: %+v, %+v, %v", c.app, shown(got), reply, now)
		}
		if len(got.Wait) != 3 || !sameReply(got.Wait[2], impl.Reply{Kill: c.kill}) {
			t.Errorf("%d: %+v", c.app, got.Wait)
		}
		if _, reply, now := checkManagerDo(t, "a second time", got, finish(c.app)); reply.Code != impl.NoApp || !now {
			t.Errorf("%d: %+v, %v", c.app, reply, now)
		}
	}
}

// Where the log has no room left, there is no promise; what needs none goes on.
func TestManagerDoAtMaxJournal(t *testing.T) {
	for _, c := range []struct {
		op   impl.Op
		need int
	}{{submit("a"), len(logOf(recApp(1002, "a")))}, {submit("b2"), len(logOf(recApp(1002, "b2")))}, {finish(1001), len(logOf(recDone(1001)))}} {
		for _, room := range []int{0, 1, c.need - 2, c.need - 1, c.need, c.need + 1, c.need + 100} {
			m := nearlyFull(room)
			got, reply, now := checkManagerDo(t, "nearly full", m, c.op)
			if room >= c.need {
				if now || !sameReply(reply, impl.Reply{}) || len(got.Log) != len(m.Log)+c.need || len(got.Wait) != 2 || !impl.ManagerOk(got) {
					t.Errorf("%+v with room for %d bytes: %+v, %v", c.op, room, reply, now)
				}
				continue
			}
			if !now || !sameReply(reply, impl.Reply{Code: impl.Full}) || !sameManager(got, m) {
				t.Errorf("%+v with room for %d bytes: %+v, %v", c.op, room, reply, now)
			}
		}
	}
	m := nearlyFull(0)
	for _, op := range []impl.Op{askFor(1001, ask(1, 1, 1)), join("m1", 9, 9), beat("m1"), tick(), serve("a"), free(100001)} {
		next, reply, now := checkManagerDo(t, "full", m, op)
		if !now || reply.Code != impl.Good {
			t.Errorf("%+v: %+v, %v", op, reply, now)
		}
		m = next
	}
	// What the state refuses comes ahead of that.
	for _, c := range []struct {
		op   impl.Op
		code int
	}{{submit("r"), impl.NoQueue}, {finish(1002), impl.NoApp}} {
		if _, reply, now := checkManagerDo(t, "full", m, c.op); !now || reply.Code != c.code {
			t.Errorf("%+v: %+v, %v", c.op, reply, now)
		}
	}
}

func TestManagerSync(t *testing.T) {
	got, said := checkManagerSync(t, "two wait", managing())
	want := changedManaging(func(m *impl.Manager) { m.Safe, m.Wait = len(m.Log), nil })
	if !sameManager(got, want) || !slices.EqualFunc(said, []impl.Reply{{App: 1004}, {App: 1005}}, sameReply) {
		t.Errorf("%+v, %+v", shown(got), said)
	}
	if again, said := checkManagerSync(t, "nothing waits", got); !sameManager(again, got) || len(said) != 0 {
		t.Errorf("%+v, %+v", shown(again), said)
	}
	m := managing()
	m.Wait = nil
	if got, said := checkManagerSync(t, "nothing waits, and not all is safe", m); !sameManager(got, want) || len(said) != 0 {
		t.Errorf("%+v, %+v", shown(got), said)
	}
	first, _ := impl.ManagerNew(leafTree())
	if got, said := checkManagerSync(t, "nothing at all", first); !sameManager(got, first) || len(said) != 0 {
		t.Errorf("%+v, %+v", shown(got), said)
	}
	// Several, of both kinds, in their order.
	m = managing()
	for _, op := range []impl.Op{finish(1002), submit("d"), tick(), submit("r"), finish(1001), submit("a")} {
		m, _, _ = checkManagerDo(t, "on the way", m, op)
	}
	got, said = checkManagerSync(t, "several wait", m)
	order := []impl.Reply{{App: 1004}, {App: 1005}, {Kill: []int{100001, 100006}}, {App: 1006}, {Kill: []int{100003}}, {App: 1007}}
	if !slices.EqualFunc(said, order, sameReply) || len(got.Wait) != 0 || got.Safe != len(got.Log) || !sameState(got.State, m.State) {
		t.Errorf("%+v, %+v", shown(got), said)
	}
	full := nearlyFull(0)
	if got, said := checkManagerSync(t, "full", full); got.Safe != impl.MaxJournal || len(said) != 1 {
		t.Errorf("%d, %+v", got.Safe, said)
	}
}

// crashed is what a crash leaves of a log of these records, where there is room for one more.
func crashed(q []impl.Queue, recs ...impl.Rec) impl.Manager {
	log := logOf(append(slices.Clone(recs), recEpoch())...)
	s, _ := recoverByRule(q, log)
	return impl.Manager{State: s, Log: log, Safe: len(log)}
}

// Each number of bytes that is safe goes with each that is kept beside: what counts is which records are whole.
func TestCrashKeepsWhatIsWhole(t *testing.T) {
	recs := []impl.Rec{recApp(1001, "a"), recApp(1002, "b"), recApp(1003, "c"), recApp(1004, "b"), recApp(1005, "d")}
	whole := func(bytes int) []impl.Rec {
		n := 0
		for n < len(recs) && len(logOf(recs[:n+1]...)) <= bytes {
			n++
		}
		return recs[:n]
	}
	size := len(logOfTaken())
	for safe := range size + 1 {
		for keep := range size - safe + 1 {
			m := changedManaging(func(m *impl.Manager) { m.Safe = safe })
			if got := impl.ManagerCrash(m, keep); !sameManager(got, crashed(m.State.Queues, whole(safe+keep)...)) {
				t.Fatalf("%d safe and %d more: %+v", safe, keep, shown(got))
			}
		}
	}
	for _, safe := range []int{0, 1, 9, 10, 11, 25, size - 1, size} {
		m := changedManaging(func(m *impl.Manager) { m.Safe = safe })
		for _, keep := range []int{-1, -2, -size, -most, math.MinInt, math.MinInt + 1, 0} {
			if got := checkCrash(t, "below 0", m, keep); !sameManager(got, crashed(m.State.Queues, whole(safe)...)) {
				t.Errorf("%d safe and %d more: %+v", safe, keep, shown(got))
			}
		}
		for _, keep := range []int{size - safe, size - safe + 1, size, most, math.MaxInt - 1, math.MaxInt} {
			if got := checkCrash(t, "more than there is", m, keep); !sameManager(got, crashed(m.State.Queues, recs...)) {
				t.Errorf("%d safe and %d more: %+v", safe, keep, shown(got))
			}
		}
	}
}

// A Safe that is none is taken as the next that is one.
func TestCrashWithAnySafe(t *testing.T) {
	recs := []impl.Rec{recApp(1001, "a"), recApp(1002, "b"), recApp(1003, "c"), recApp(1004, "b"), recApp(1005, "d")}
	q, one := taken().Queues, len(logOf(recs[0]))
	for _, safe := range []int{-1, -2, -one, -most, math.MinInt, math.MinInt + 1} {
		m := changedManaging(func(m *impl.Manager) { m.Safe = safe })
		for keep, left := range map[int][]impl.Rec{math.MinInt: nil, -1: nil, 0: nil, one - 1: nil, one: recs[:1], one + 1: recs[:1], math.MaxInt: recs} {
			if got := checkCrash(t, "Safe below 0", m, keep); !sameManager(got, crashed(q, left...)) {
				t.Errorf("Safe %d and %d more: %+v", safe, keep, shown(got))
			}
		}
	}
	for _, safe := range []int{len(logOfTaken()) + 1, most, math.MaxInt - 1, math.MaxInt} {
		m := changedManaging(func(m *impl.Manager) { m.Safe = safe })
		for _, keep := range []int{math.MinInt, -1, 0, 1, math.MaxInt} {
			if got := checkCrash(t, "Safe of more than there is", m, keep); !sameManager(got, crashed(q, recs...)) {
				t.Errorf("Safe %d and %d more: %+v", safe, keep, shown(got))
			}
		}
	}
}

// A reply that waits is not told any more behind a crash, whether or not what it tells was kept.
func TestNothingWaitsBehindACrash(t *testing.T) {
	m := managing()
	m, _, _ = checkManagerDo(t, "a finish", m, finish(1002))
	m, _, _ = checkManagerDo(t, "a submit", m, submit("a"))
	for _, keep := range []int{-1, 0, 10, 30, 60, len(m.Log)} {
		got := checkCrash(t, "waiting", m, keep)
		if len(got.Wait) != 0 {
			t.Errorf("%d more: %+v waits", keep, got.Wait)
		}
		if same, said := checkManagerSync(t, "behind it", got); len(said) != 0 || !sameManager(same, got) {
			t.Errorf("%d more: %+v is told", keep, said)
		}
		next, _, _ := checkManagerDo(t, "behind it", got, submit("c"))
		if len(next.Wait) != 1 || next.Wait[0].App != 2001 {
			t.Errorf("%d more: %+v waits", keep, next.Wait)
		}
	}
	// What was not safe may be lost: the finish, and the application with it that came behind.
	if got := checkCrash(t, "lost", m, 0); !slices.Equal(appsOf(got.State), []int{1001, 1002}) {
		t.Errorf("%+v", got.State.Apps)
	}
	if got := checkCrash(t, "kept", m, len(m.Log)); !slices.Equal(appsOf(got.State), []int{1001, 1003, 1004, 1005, 1006}) {
		t.Errorf("%+v", got.State.Apps)
	}
}

func TestNothingRunsBehindACrash(t *testing.T) {
	got := checkCrash(t, "all kept", managing(), math.MaxInt)
	want := impl.State{Queues: taken().Queues, Epoch: 2, Next: 2001, Serial: 1, Apps: []impl.App{app(1001, "a"), app(1002, "b"), app(1003, "c"), app(1004, "b"), app(1005, "d")}}
	if !sameState(got.State, want) {
		t.Errorf("%+v", got.State)
	}
	again := checkCrash(t, "a second time", got, 0)
	if again.State.Epoch != 3 || again.State.Next != 3001 || len(again.State.Apps) != 5 || again.Log != got.Log+logOf(recEpoch()) {
		t.Errorf("%+v", shown(again))
	}
	first, _ := impl.ManagerNew(leafTree())
	if got := checkCrash(t, "nothing written", first, 5); got.Log != logOf(recEpoch()) || got.Safe != len(got.Log) || got.State.Epoch != 2 {
		t.Errorf("%+v", shown(got))
	}
}

// Where there is no room for an epoch, what is left stays as it is.
func TestCrashAtMaxJournal(t *testing.T) {
	need := len(logOf(recEpoch()))
	for _, room := range []int{0, 1, need - 1, need, need + 1, 100} {
		m := nearlyFull(room)
		got := checkCrash(t, "nearly full", m, math.MaxInt)
		log, epoch, next := m.Log, 1, 1002
		if room >= need {
			log, epoch, next = m.Log+logOf(recEpoch()), 2, 2001
		}
		if got.Log != log || got.Safe != len(log) || len(got.Wait) != 0 || got.State.Epoch != epoch || got.State.Next != next || len(got.State.Apps) != 1 {
			t.Errorf("room for %d bytes: %d bytes, %+v", room, len(got.Log), got.State)
		}
		// What is lost makes room.
		if got := checkCrash(t, "lost", m, 0); got.State.Epoch != 2 || got.Log != logOf(recApp(1001, "a"), recEpoch()) {
			t.Errorf("room for %d bytes: %+v", room, shown(got))
		}
	}
	full := impl.Manager{State: taken(), Log: strings.Repeat(logOf(recEpoch()), 7500), Safe: impl.MaxJournal}
	if got := checkCrash(t, "full of epochs", full, 0); got.Log != full.Log || got.State.Epoch != 7501 {
		t.Errorf("%d bytes, %+v", len(got.Log), got.State)
	}
	// Of more than MaxJournal bytes Read tells nothing, but what is left may be fewer.
	long := impl.Manager{State: taken(), Log: full.Log + logOf(recEpoch()), Safe: impl.MaxJournal}
	for _, c := range []struct{ keep, epoch int }{{0, 7501}, {-1, 7501}, {1, 2}, {8, 2}, {math.MaxInt, 2}} {
		if got := checkCrash(t, "too long", long, c.keep); got.State.Epoch != c.epoch || len(got.Log) > impl.MaxJournal {
			t.Errorf("%d more: %d bytes, %+v", c.keep, len(got.Log), got.State)
		}
	}
}

func TestCrashOfManagersThatAreNotRight(t *testing.T) {
	ahead := []impl.Rec{recApp(1001, "a"), recApp(1002, "b")}
	q := taken().Queues
	for what, log := range map[string]string{
		"more behind":      logOf(ahead...) + "xyz",
		"a byte":           logOf(ahead...) + "\x00",
		"half a record":    logOf(ahead...) + logOf(recDone(1001))[:7],
		"no record":        logOf(ahead...) + entry("\x03\x00\x00") + logOf(recDone(1001)),
		"a wrong sum":      logOf(ahead...) + "\x00" + logOf(recDone(1001))[1:],
		"others behind it": logOf(ahead...) + "x" + logOf(recApp(1003, "c")),
	} {
		for _, safe := range []int{0, 3, len(logOf(ahead...)), len(log)} {
			m := impl.Manager{State: taken(), Log: log, Safe: safe, Wait: []impl.Reply{{App: 1001}}}
			if got := checkCrash(t, what, m, math.MaxInt); !sameManager(got, crashed(q, ahead...)) {
				t.Errorf("%s: %+v", what, shown(got))
			}
		}
	}
	for what, m := range wrongManagers() {
		for _, keep := range []int{math.MinInt, -1, 0, 1, 15, 35, math.MaxInt} {
			checkCrash(t, what, m, keep)
		}
	}
	// The queues alone of a state count.
	for what, s := range wrongStates() {
		m := impl.Manager{State: s, Log: logOfTaken(), Safe: 20}
		got := checkCrash(t, what, m, 10)
		if isTree(s.Queues) && (got.State.Epoch != 2 || got.State.Next != 2001) || !isTree(s.Queues) && !sameState(got.State, impl.State{}) {
			t.Errorf("%s: %+v", what, shown(got))
		}
	}
	for what, q := range wrongTrees() {
		m := changedManaging(func(m *impl.Manager) { m.State.Queues = q })
		got := checkCrash(t, what, m, 0)
		if want := logOf(append(ahead, recEpoch())...); !sameManager(got, impl.Manager{Log: want, Safe: len(want)}) {
			t.Errorf("%s: %+v", what, shown(got))
		}
	}
}

func TestPromised(t *testing.T) {
	m := managing()
	ends := map[int][]int{0: nil, 10: {1001}, 20: {1001, 1002}, 30: {1001, 1002, 1003}, 40: {1001, 1002, 1003, 1004}, 50: {1001, 1002, 1003, 1004, 1005}}
	if len(m.Log) != 50 {
		t.Fatalf("%d bytes", len(m.Log))
	}
	for safe := range len(m.Log) + 1 {
		m.Safe = safe
		if got := checkPromised(t, "safe", m); !slices.Equal(got, ends[safe/10*10]) {
			t.Errorf("Safe %d: %v", safe, got)
		}
	}
	for _, m.Safe = range []int{-1, -10, -most, math.MinInt} {
		if got := checkPromised(t, "Safe below 0", m); len(got) != 0 {
			t.Errorf("Safe %d: %v", m.Safe, got)
		}
	}
	for _, m.Safe = range []int{51, 100, most, math.MaxInt} {
		if got := checkPromised(t, "Safe of more than there is", m); !slices.Equal(got, ends[50]) {
			t.Errorf("Safe %d: %v", m.Safe, got)
		}
	}
	// What is done is promised no more, once that is safe.
	done := impl.Manager{State: taken(), Log: logOfTaken() + logOf(recDone(1002), recEpoch(), recApp(2001, "a"))}
	for safe, want := range map[int][]int{58: ends[50], 59: {1001, 1003, 1004, 1005}, 60: {1001, 1003, 1004, 1005}, 67: {1001, 1003, 1004, 1005}, len(done.Log): {1001, 1003, 1004, 1005, 2001}} {
		done.Safe = safe
		if got := checkPromised(t, "done", done); !slices.Equal(got, want) {
			t.Errorf("Safe %d: %v, want %v", safe, got, want)
		}
	}
}

func TestPromisedOfManagersThatAreNotRight(t *testing.T) {
	for what, m := range wrongManagers() {
		checkPromised(t, what, m)
	}
	for what, q := range wrongTrees() {
		m := changedManaging(func(m *impl.Manager) { m.State.Queues, m.Safe = q, len(m.Log) })
		if got := checkPromised(t, what, m); len(got) != 0 {
			t.Errorf("%s: %v", what, got)
		}
	}
	// It goes by the log and the queues alone.
	for what, s := range wrongStates() {
		s.Queues = taken().Queues
		m := impl.Manager{State: s, Log: logOfTaken() + "xyz", Safe: 53}
		if got := checkPromised(t, what, m); !slices.Equal(got, []int{1001, 1002, 1003, 1004, 1005}) {
			t.Errorf("%s: %v", what, got)
		}
	}
	long := impl.Manager{State: taken(), Log: logOfTaken() + filler(impl.MaxJournal), Safe: impl.MaxJournal}
	if got := checkPromised(t, "too long", long); len(got) != 5 {
		t.Errorf("%v", got)
	}
	long.Safe++
	if got := checkPromised(t, "too much is safe", long); len(got) != 0 {
		t.Errorf("%v", got)
	}
}

// session is what those know who talk to a manager: what they were told, and what they have asked for since.
type session struct {
	m impl.Manager
	// asked are the events of which the replies wait.
	asked []impl.Op
	// takenOn are the applications of which it was told that they are taken on, with their queues; finishing those
	// of them of which somebody has said a finish, and done those of which it was told that they are finished.
	takenOn   map[int]string
	finishing map[int]bool
	done      map[int]bool
	told      int
	crashes   int
	lost      int
}

func (s *session) do(t *testing.T, op impl.Op) {
	t.Helper()
	next, reply, now := impl.ManagerDo(s.m, op)
	if !now {
		s.asked = append(s.asked, op)
		if op.Kind == impl.OpFinish {
			s.finishing[op.App] = true
		}
	}
	if reply.App != 0 || now && reply.Code == impl.Good && op.Kind <= impl.OpFinish {
		t.Fatalf("%+v is promised at once: %+v", op, reply)
	}
	s.m = next
}

func (s *session) sync(t *testing.T) {
	t.Helper()
	next, said := impl.ManagerSync(s.m)
	if len(said) != len(s.asked) {
		t.Fatalf("%d replies to %d events", len(said), len(s.asked))
	}
	for i, op := range s.asked {
		if op.Kind == impl.OpFinish {
			s.done[op.App] = true
			continue
		}
		if _, again := s.takenOn[said[i].App]; again || said[i].App == 0 {
			t.Fatalf("%+v is told for %+v", said[i], op)
		}
		s.takenOn[said[i].App] = op.Queue
	}
	s.told += len(said)
	s.m, s.asked = next, nil
}

func (s *session) crash(keep int) {
	s.lost += len(s.asked)
	s.m, s.asked = impl.ManagerCrash(s.m, keep), nil
	s.crashes++
}

// check is promise 9 as it is seen from without.
func (s *session) check(t *testing.T) {
	t.Helper()
	if !impl.ManagerOk(s.m) {
		t.Fatalf("not right: %+v", shown(s.m))
	}
	promised := impl.Promised(s.m)
	for id, queue := range s.takenOn {
		a, there := impl.AppOf(s.m.State, id)
		switch {
		case there && (s.done[id] || a.Queue != queue):
			t.Fatalf("%+v is there, of %q, done: %v", a, queue, s.done[id])
		case !there && !s.finishing[id]:
			t.Fatalf("%d was told to be taken on, and is not there: %+v", id, shown(s.m))
		case slices.Contains(promised, id) == s.done[id] && !s.finishing[id]:
			t.Fatalf("%d is not promised as it was told: %v", id, promised)
		}
	}
	for _, id := range promised {
		if s.done[id] {
			t.Fatalf("%d is promised, and was told to be finished", id)
		}
	}
}

// Promise 9, whatever is said, and whenever there is a crash that keeps whatever it does.
func TestAManagerKeepsItsPromises(t *testing.T) {
	r := rand.New(rand.NewSource(60))
	told, crashes, lost, most := 0, 0, 0, 0
	for range 150 {
		m, _ := impl.ManagerNew(flatTree(r))
		s := session{m: m, takenOn: map[int]string{}, finishing: map[int]bool{}, done: map[int]bool{}}
		for range 60 {
			switch r.Intn(12) {
			case 0:
				s.sync(t)
			case 1:
				s.crash(*one(r, []int{-1, 0, 0, r.Intn(12), r.Intn(60), math.MaxInt}))
			case 2, 3, 4, 5:
				s.do(t, submit(*one(r, leavesOf(s.m.State.Queues))))
			case 6:
				if len(s.m.State.Apps) > 0 {
					s.do(t, finish(one(r, s.m.State.Apps).Id))
				}
			default:
				s.do(t, someOp(r, s.m.State))
			}
			s.check(t)
			most = max(most, len(s.m.State.Apps))
		}
		told, crashes, lost = told+s.told, crashes+s.crashes, lost+s.lost
	}
	if told < 1000 || crashes < 300 || lost < 300 || most < 10 {
		t.Errorf("%d told, %d crashes, %d lost, %d applications at most", told, crashes, lost, most)
	}
}

// Promise 9 for each crash that may come: wherever the log ends behind what is safe, all that was told is there.
func TestEveryCrashKeepsWhatWasTold(t *testing.T) {
	m, _ := impl.ManagerNew(leafTree())
	for _, op := range []impl.Op{submit("a"), submit("b1"), submit("b2")} {
		m, _, _ = checkManagerDo(t, "told", m, op)
	}
	m, said := checkManagerSync(t, "told", m)
	if len(said) != 3 || !slices.Equal(impl.Promised(m), []int{1001, 1002, 1003}) {
		t.Fatalf("%+v", said)
	}
	for _, op := range []impl.Op{submit("a"), finish(1002), submit("b1"), finish(1004)} {
		m, _, _ = checkManagerDo(t, "not told", m, op)
	}
	waits := []int{0, 10, 19, 30}
	left := [][]int{{1001, 1002, 1003}, {1001, 1002, 1003, 1004}, {1001, 1003, 1004}, {1001, 1003, 1004, 1005}}
	for keep := range len(m.Log) - m.Safe {
		at := 0
		for at+1 < len(waits) && waits[at+1] <= keep {
			at++
		}
		got := checkCrash(t, "in between", m, keep)
		if !slices.Equal(appsOf(got.State), left[at]) || !slices.Equal(impl.Promised(got), left[at]) {
			t.Errorf("%d more: %v, want %v", keep, appsOf(got.State), left[at])
		}
	}
	if got := checkCrash(t, "all", m, len(m.Log)); !slices.Equal(appsOf(got.State), []int{1001, 1003, 1005}) {
		t.Errorf("%v", appsOf(got.State))
	}
}

// A number is never another one's, though what was given in an epoch is lost with it.
func TestNoNumberComesAgainBehindACrash(t *testing.T) {
	m, _ := impl.ManagerNew(leafTree())
	seen := map[int]bool{}
	for i := range 200 {
		next, reply, now := impl.ManagerDo(m, submit("a"))
		if now {
			t.Fatalf("%+v", reply)
		}
		id := next.Wait[len(next.Wait)-1].App
		if seen[id] {
			t.Fatalf("%d comes again", id)
		}
		seen[id] = true
		m = next
		for len(m.State.Apps) > 10 {
			m, _, _ = impl.ManagerDo(m, finish(m.State.Apps[0].Id))
		}
		if i%3 == 0 {
			m, _ = impl.ManagerSync(m)
		}
		if i%2 == 0 {
			m = impl.ManagerCrash(m, i%40)
		}
	}
	if m.State.Epoch != 101 || !impl.ManagerOk(m) {
		t.Errorf("%+v", m.State)
	}
}

// A log fills up, with crashes in between as numbers run out, to the end that Full tells.
func TestALogFillsUp(t *testing.T) {
	m := nearlyFull(2000)
	records := 0
	for {
		next, reply, now := impl.ManagerDo(m, submit("a"))
		if now && reply.Code == impl.Full {
			break
		}
		next, _, now = impl.ManagerDo(next, finish(next.State.Next-1))
		if m = next; now {
			break
		}
		records += 2
	}
	// Pairs of a RecApp and a RecDone, of 10 and of 9 bytes.
	if records != 210 || !impl.ManagerOk(m) || len(m.Log) > impl.MaxJournal || len(m.Wait) < records {
		t.Errorf("%d records, %d bytes, %d wait", records, len(m.Log), len(m.Wait))
	}
	m, said := impl.ManagerSync(m)
	if len(said) < records || m.Safe != len(m.Log) {
		t.Errorf("%d told", len(said))
	}
}

// someManager is right: it came about by events, with some synced, lost and told in between.
func someManager(r *rand.Rand) impl.Manager {
	m, _ := impl.ManagerNew(*one(r, [][]impl.Queue{flatTree(r), flatTree(r), leafTree()}))
	for range r.Intn(30) {
		switch r.Intn(10) {
		case 0:
			m, _ = managerSyncByRule(m)
		case 1:
			m = managerCrashByRule(m, r.Intn(30))
		case 2, 3, 4:
			m, _, _ = managerDoByRule(m, submit(*one(r, leavesOf(m.State.Queues))))
		default:
			m, _, _ = managerDoByRule(m, someOp(r, m.State))
		}
	}
	return deepManager(m)
}

// spoiltManager is one of which something is changed, right or not.
func spoiltManager(r *rand.Rand, m impl.Manager) impl.Manager {
	m = deepManager(m)
	switch r.Intn(8) {
	case 0:
		spoiltNumber(r, &m.Safe)
	case 1:
		m.Safe = r.Intn(len(m.Log) + 2)
	case 2:
		m.Log = m.Log[:r.Intn(len(m.Log)+1)]
	case 3:
		m.Log += anyText(r, 9)
	case 4:
		m.Log += logOf(someRec(r, m.State))
	case 5:
		m.Wait = append(m.Wait, impl.Reply{Code: r.Intn(9) - 1, App: r.Intn(3000), Kill: []int{r.Intn(9), -1}, Conts: []impl.Cont{someCont(r, m.State, "m100")}})
	default:
		m.State = spoiltState(r, m.State)
	}
	return m
}

func someKeep(r *rand.Rand, m impl.Manager) int {
	return *one(r, []int{0, -1, 1, r.Intn(len(m.Log) + 2), len(m.Log) - m.Safe, len(m.Log), *one(r, wrongNumbers)})
}

func TestManagersByTheRules(t *testing.T) {
	r := rand.New(rand.NewSource(61))
	right, wrong, wait := 0, 0, 0
	for range 1500 {
		m := someManager(r)
		checkManager(t, "right", m, someOp(r, m.State), someKeep(r, m))
		if !impl.ManagerOk(m) {
			t.Fatalf("not right: %+v", shown(m))
		}
		wait += len(m.Wait)
		m = spoiltManager(r, m)
		checkManager(t, "spoilt", m, someOp(r, m.State), someKeep(r, m))
		if impl.ManagerOk(m) {
			right++
		} else {
			wrong++
		}
	}
	if right < 300 || wrong < 500 || wait < 1000 {
		t.Errorf("%d right, %d wrong, %d wait", right, wrong, wait)
	}
}

func TestManagersOfAnyStates(t *testing.T) {
	r := rand.New(rand.NewSource(62))
	for _, states := range []map[string]impl.State{rightStates(), wrongStates()} {
		for what, s := range states {
			if len(s.Conts) > 1000 {
				continue
			}
			var recs []impl.Rec
			for range min(max(s.Epoch, 1), 50) - 1 {
				recs = append(recs, recEpoch())
			}
			for _, a := range s.Apps {
				if a := recApp(a.Id, a.Queue); isRec(a) {
					recs = append(recs, a)
				}
			}
			log := logOf(recs...)
			for _, safe := range []int{0, len(log) / 2, len(log), len(log) + 1} {
				m := impl.Manager{State: s, Log: log, Safe: safe}
				checkManager(t, what, m, wholeOp(s, *one(r, kinds)), someKeep(r, m))
			}
		}
	}
}

// waitWithRoom has something in the spare room behind each of its lists.
func waitWithRoom(wait []impl.Reply) []impl.Reply {
	out := append(slices.Clone(wait), impl.Reply{Code: -7})
	for i, reply := range out {
		out[i].Conts = contsWithRoom(reply.Conts)
		out[i].Kill = append(slices.Clone(reply.Kill), -7)[:len(reply.Kill)]
	}
	return out[:len(wait)]
}

func managerWithRoom(m impl.Manager) impl.Manager {
	m.State, m.Wait = withRoom(m.State), waitWithRoom(m.Wait)
	return m
}

// behindManager tells all that a manager's lists have, and what stands behind them.
func behindManager(m impl.Manager) impl.Manager {
	m.State = behind(m.State)
	m.Wait = slices.Clone(m.Wait[:cap(m.Wait)])
	for i, reply := range m.Wait {
		m.Wait[i].Conts = slices.Clone(reply.Conts[:cap(reply.Conts)])
		m.Wait[i].Kill = slices.Clone(reply.Kill[:cap(reply.Kill)])
	}
	m.Log = strings.Clone(m.Log)
	return m
}

func overwriteReplies(replies []impl.Reply) {
	for i := range replies {
		overwriteReply(replies[i])
		replies[i] = impl.Reply{Code: -1, App: -1}
	}
	_ = append(replies, impl.Reply{Code: -2})
}

func overwriteManager(m impl.Manager) {
	overwrite(m.State)
	overwriteReplies(m.Wait)
}

// busyManagers are right and wrong ones, with replies of each kind that wait.
func busyManagers(r *rand.Rand, n int) []impl.Manager {
	all := []impl.Manager{managing(), nearlyFull(0), nearlyFull(100)}
	for _, m := range wrongManagers() {
		all = append(all, m)
	}
	for range n {
		m := someManager(r)
		if r.Intn(2) == 0 {
			m.Wait = append(m.Wait, impl.Reply{App: 7, Kill: []int{1, 2}, Conts: []impl.Cont{cont(1, 2, "m1", 3, 4)}})
		}
		all = append(all, m, spoiltManager(r, m))
	}
	return all
}

func TestManagersWriteIntoNothing(t *testing.T) {
	r := rand.New(rand.NewSource(63))
	for _, m := range busyManagers(r, 150) {
		handed := managerWithRoom(m)
		before := behindManager(handed)
		for _, kind := range kinds {
			op := someOp(r, m.State)
			op.Kind, op.Conts = kind, contsWithRoom(op.Conts)
			all := op.Conts[:cap(op.Conts)]
			conts := slices.Clone(all)
			next, reply, _ := impl.ManagerDo(handed, op)
			overwriteManager(next)
			overwriteReply(reply)
			if !slices.Equal(all, conts) {
				t.Fatalf("written into the event by %+v: %+v", op, shown(m))
			}
		}
		next, said := impl.ManagerSync(handed)
		overwriteManager(next)
		overwriteReplies(said)
		overwriteManager(impl.ManagerCrash(handed, someKeep(r, m)))
		overwriteIds(impl.Promised(handed))
		impl.ManagerOk(handed)
		if !reflect.DeepEqual(behindManager(handed), before) {
			t.Fatalf("written into: %+v", shown(m))
		}
	}
	for what, q := range rightTrees() {
		room := append(slices.Clone(q), queue("spare", "room", 7, 8))
		before := slices.Clone(room)
		m, _ := impl.ManagerNew(room[:len(q)])
		overwriteManager(m)
		if !slices.Equal(room, before) {
			t.Errorf("%s: written into", what)
		}
	}
}

// answers are all that the functions answer of a manager.
type answers struct {
	next    impl.Manager
	reply   impl.Reply
	now     bool
	synced  impl.Manager
	said    []impl.Reply
	crashed impl.Manager
	ids     []int
	ok      bool
}

func answersOf(m impl.Manager, op impl.Op, keep int) answers {
	var a answers
	a.next, a.reply, a.now = impl.ManagerDo(m, op)
	a.synced, a.said = impl.ManagerSync(m)
	a.crashed = impl.ManagerCrash(m, keep)
	a.ids, a.ok = impl.Promised(m), impl.ManagerOk(m)
	return a
}

func (a answers) copied() answers {
	a.next, a.synced, a.crashed = deepManager(a.next), deepManager(a.synced), deepManager(a.crashed)
	a.reply, a.said, a.ids = copyOfReply(a.reply), copyOfWait(a.said), slices.Clone(a.ids)
	return a
}

func (a answers) same(b answers) bool {
	return sameManager(a.next, b.next) && sameReply(a.reply, b.reply) && a.now == b.now && sameManager(a.synced, b.synced) &&
		slices.EqualFunc(a.said, b.said, sameReply) && sameManager(a.crashed, b.crashed) && slices.Equal(a.ids, b.ids) && a.ok == b.ok
}

func TestManagersHandBackNewMemory(t *testing.T) {
	r := rand.New(rand.NewSource(64))
	for _, m := range busyManagers(r, 300) {
		op, keep := someOp(r, m.State), someKeep(r, m)
		want := answersOf(m, op, keep).copied()
		handed, said := managerWithRoom(m), op
		said.Conts = contsWithRoom(op.Conts)
		got := answersOf(handed, said, keep)
		overwriteManager(handed)
		overwriteConts(said.Conts)
		if !got.same(want) {
			t.Fatalf("what was answered is what was handed in: %+v, %+v", shown(m), op)
		}
		overwriteReply(got.reply)
		overwriteReplies(got.said)
		if !sameManager(got.next, want.next) || !sameManager(got.synced, want.synced) {
			t.Fatalf("what is told has the manager's lists: %+v, %+v", shown(m), op)
		}
		got = answersOf(m, op, keep)
		overwriteManager(got.next)
		overwriteManager(got.synced)
		if !sameReply(got.reply, want.reply) || !slices.EqualFunc(got.said, want.said, sameReply) {
			t.Fatalf("the manager has the lists of what is told: %+v, %+v", shown(m), op)
		}
		overwrite(got.crashed.State)
		got = answersOf(m, op, keep)
		overwriteReplies(got.next.Wait)
		if !sameState(got.next.State, want.next.State) {
			t.Fatalf("what waits has the state's lists: %+v, %+v", shown(m), op)
		}
	}
	// Where two that wait have the same lists, those that are told have not.
	kill, conts := []int{1, 2}, []impl.Cont{cont(1, 2, "m1", 3, 4)}
	twice := changedManaging(func(m *impl.Manager) {
		m.Wait = []impl.Reply{{Kill: kill, Conts: conts}, {Kill: kill, Conts: conts}}
	})
	_, said := impl.ManagerSync(twice)
	overwriteReply(said[0])
	if !sameReply(said[1], twice.Wait[0]) {
		t.Errorf("%+v", said)
	}
}

func textsOfManager(m impl.Manager) []string {
	all := append(textsOf(m.State), textsOfReplies(m.Wait)...)
	if m.Log != "" {
		all = append(all, m.Log)
	}
	return all
}

func textsOfReplies(replies []impl.Reply) []string {
	var all []string
	for _, reply := range replies {
		all = append(all, textsOfConts(reply.Conts)...)
	}
	return all
}

func TestManagersHandBackNewTexts(t *testing.T) {
	r := rand.New(rand.NewSource(65))
	for _, m := range busyManagers(r, 300) {
		op, keep := someOp(r, m.State), someKeep(r, m)
		handed := append(textsOfManager(m), textsOfOp(op)...)
		got := answersOf(m, op, keep)
		for what, some := range map[string][]string{
			"do":    append(textsOfManager(got.next), textsOfConts(got.reply.Conts)...),
			"sync":  append(textsOfManager(got.synced), textsOfReplies(got.said)...),
			"crash": textsOfManager(got.crashed),
		} {
			if shareText(handed, some) {
				t.Fatalf("%s: texts are shared: %+v, %+v", what, shown(m), op)
			}
		}
		if inside(got.next.Log, m.Log) || inside(got.synced.Log, m.Log) || inside(got.crashed.Log, m.Log) {
			t.Fatalf("a log is what was handed in: %+v", shown(m))
		}
		for _, a := range got.crashed.State.Apps {
			if inside(a.Queue, m.Log) || inside(a.Queue, got.crashed.Log) {
				t.Fatalf("a queue is memory of a log: %+v", shown(m))
			}
		}
		if shareText(textsOf(got.next.State), textsOfConts(got.reply.Conts)) || shareText(textsOf(got.synced.State), textsOfReplies(got.said)) {
			t.Fatalf("what is told has texts of the state: %+v", shown(m))
		}
	}
	q := leafTree()
	m, _ := impl.ManagerNew(q)
	if shareText(textsOf(m.State), textsOf(impl.State{Queues: q})) {
		t.Error("a new one has texts of what was handed in")
	}
}

func TestManagersKeepNothing(t *testing.T) {
	r := rand.New(rand.NewSource(66))
	all := busyManagers(r, 100)
	for _, m := range all {
		op, keep := someOp(r, m.State), someKeep(r, m)
		first := answersOf(m, op, keep)
		want := first.copied()
		other := *one(r, all)
		answersOf(other, someOp(r, other.State), someKeep(r, other))
		answersOf(first.next, op, keep)
		overwriteManager(first.next)
		if !answersOf(m, op, keep).same(want) {
			t.Fatalf("another answer at the second time: %+v, %+v", shown(m), op)
		}
	}
}

// Many at once may ask about one manager: each has its own answer.
func TestManagersAreAskedByManyAtOnce(t *testing.T) {
	r := rand.New(rand.NewSource(67))
	for range 30 {
		m := someManager(r)
		op, keep := someOp(r, m.State), someKeep(r, m)
		want := answersOf(m, op, keep).copied()
		got := make([]answers, 8)
		var all sync.WaitGroup
		for i := range got {
			all.Go(func() { got[i] = answersOf(m, op, keep) })
		}
		all.Wait()
		for _, a := range got {
			if !a.same(want) {
				t.Fatalf("another answer: %+v, %+v", shown(m), op)
			}
		}
	}
}

func TestManagersAnswerAtAnyArguments(t *testing.T) {
	r := rand.New(rand.NewSource(68))
	numbers := append([]int{0, 1, 2, 3, 10, 20, 50, 1000, 1001, 1002, most - 1, most}, wrongNumbers...)
	names := append([]string{"", "r", "a", "b1", "m"}, wrongNames...)
	number := func() int { return *one(r, numbers) }
	name := func() string { return *one(r, names) }
	amount := func() impl.Res { return res(number(), number()) }
	anyCont := func() impl.Cont { return impl.Cont{Id: number(), App: number(), Node: name(), Res: amount()} }
	logs := []func() string{
		func() string { return "" },
		func() string { return anyText(r, 40) },
		func() string { return entry(anyText(r, 9)) + anyText(r, 9) },
		func() string { return someLog(r, leafTree(), r.Intn(6)) },
		func() string { return logOf(recApp(1001, "a")) },
	}
	for range 6000 {
		s := impl.State{Queues: leafTree(), Epoch: 1, Next: *one(r, []int{1001, 1002, number()}), Serial: 1}
		if r.Intn(3) == 0 {
			s.Clock, s.Epoch, s.Serial = number(), number(), number()
		}
		if r.Intn(3) == 0 {
			s.Queues = spoilt(r, s.Queues)
		}
		if r.Intn(3) == 0 {
			s.Apps = append(s.Apps, impl.App{Id: *one(r, []int{1001, number()}), Queue: name(), Asks: []impl.Ask{{Res: amount(), Count: number(), Node: name(), Missed: number()}}})
			s.Machines = append(s.Machines, impl.Machine{Name: name(), Cap: amount(), Seen: number()})
			s.Conts = append(s.Conts, anyCont())
		} else if r.Intn(2) == 0 {
			s.Apps = []impl.App{app(1001, "a")}
		}
		m := impl.Manager{State: s, Log: (*one(r, logs))(), Safe: number()}
		if r.Intn(2) == 0 {
			m.Safe = r.Intn(len(m.Log) + 1)
			m.Wait = []impl.Reply{{Code: number(), App: number(), Conts: []impl.Cont{anyCont()}, Kill: []int{number()}}}
		}
		op := impl.Op{Kind: *one(r, append(kinds, impl.OpSubmit, impl.OpFinish, number())), Queue: name(), App: *one(r, []int{1001, number()}), Ask: ask(number(), number(), number()), Cont: number(), Node: name(), Cap: amount(), Conts: []impl.Cont{anyCont()}}
		checkManager(t, "any", m, op, number())
	}
	for _, n := range []int{impl.MaxJournal - 1, impl.MaxJournal, impl.MaxJournal + 1, 10 * impl.MaxJournal} {
		for _, c := range []string{"\x00", "\x80", "\xff"} {
			for _, safe := range []int{math.MinInt, 0, n / 2, n, math.MaxInt} {
				m := impl.Manager{State: taken(), Log: strings.Repeat(c, n), Safe: safe}
				checkManager(t, "long", m, submit("a"), n)
			}
		}
	}
}
