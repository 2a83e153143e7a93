package tests

import (
	"cmp"
	"fmt"
	"math"
	"math/rand"
	"reflect"
	"slices"
	"strconv"
	"strings"
	"sync"
	"testing"

	"loop.example/g00275/impl"
)

var eventKinds = []int{impl.EvOp, impl.EvBeat, impl.EvHalf, impl.EvSync, impl.EvCrash, impl.EvLoss}

var noEventKinds = []int{-1, -2, 6, 7, 1 << 8, 1 << 32, 1<<32 + 1, -most, most, math.MinInt, math.MinInt + 5, math.MaxInt - 1, math.MaxInt}

func agent(name string, mem int, cpu int, conts ...impl.Cont) impl.Agent {
	return impl.Agent{Name: name, Cap: res(mem, cpu), Conts: conts}
}

func operation(op impl.Op) impl.Event {
	return impl.Event{Kind: impl.EvOp, Op: op}
}

func heard(at int) impl.Event {
	return impl.Event{Kind: impl.EvBeat, At: at}
}

func half(at int) impl.Event {
	return impl.Event{Kind: impl.EvHalf, At: at}
}

func synced() impl.Event {
	return impl.Event{Kind: impl.EvSync}
}

func crash(keep int) impl.Event {
	return impl.Event{Kind: impl.EvCrash, At: keep}
}

func loss(at int) impl.Event {
	return impl.Event{Kind: impl.EvLoss, At: at}
}

// twoAgents is a new cluster of the leaves a, b1 and b2 and the agents m1 and m2, which can 10x10 each.
func twoAgents() impl.Cluster {
	c, _ := impl.ClusterNew(leafTree(), []impl.Agent{agent("m1", 10, 10), agent("m2", 10, 10)})
	return c
}

// running is a cluster of the manager that managing tells. Its agents m1, m2 and m3 run what the manager has on them;
// m4 it does not know, and there runs one of 1005 and one of an application that is not there.
func running() impl.Cluster {
	c := impl.Cluster{Manager: managing(), Told: []impl.Reply{{App: 1001}, {Kill: []int{100007, 100008}}, {App: 1002}}}
	for _, m := range c.Manager.State.Machines {
		_, on := withoutByRule(c.Manager.State, func(one impl.Cont) bool { return one.Node == m.Name })
		c.Agents = append(c.Agents, impl.Agent{Name: m.Name, Cap: m.Cap, Conts: on})
	}
	c.Agents = append(c.Agents, agent("m4", 30, 30, cont(100009, 1005, "m4", 10, 10), cont(100010, 1009, "m4", 5, 5)))
	return c
}

func changedRunning(change func(c *impl.Cluster)) impl.Cluster {
	c := running()
	change(&c)
	return c
}

func shownCluster(c impl.Cluster) string {
	return fmt.Sprintf("{%s, agents %+v, told %+v}", shown(c.Manager), c.Agents, c.Told)
}

func sameAgent(a impl.Agent, b impl.Agent) bool {
	return a.Name == b.Name && a.Cap == b.Cap && slices.Equal(a.Conts, b.Conts)
}

func sameCluster(a impl.Cluster, b impl.Cluster) bool {
	return sameManager(a.Manager, b.Manager) && slices.EqualFunc(a.Agents, b.Agents, sameAgent) && slices.EqualFunc(a.Told, b.Told, sameReply)
}

func deepAgents(agents []impl.Agent) []impl.Agent {
	out := slices.Clone(agents)
	for i, a := range out {
		out[i].Conts = slices.Clone(a.Conts)
	}
	return out
}

func deepCluster(c impl.Cluster) impl.Cluster {
	return impl.Cluster{Manager: deepManager(c.Manager), Agents: deepAgents(c.Agents), Told: copyOfWait(c.Told)}
}

func clusterNewByRule(q []impl.Queue, agents []impl.Agent) (impl.Cluster, bool) {
	if !isTree(q) || len(agents) > 20 {
		return impl.Cluster{}, false
	}
	for i, a := range agents {
		if !nameForm.MatchString(a.Name) || !isAmount(a.Cap) || len(a.Conts) != 0 || i > 0 && a.Name <= agents[i-1].Name {
			return impl.Cluster{}, false
		}
	}
	return impl.Cluster{Manager: impl.Manager{State: impl.State{Queues: q, Epoch: 1, Next: 1001, Serial: 1}}, Agents: agents}, true
}

func isAgent(c impl.Cluster, at int) bool {
	return at >= 0 && at < len(c.Agents)
}

func talkByRule(c impl.Cluster, at int, hears bool) (impl.Cluster, int) {
	if !isAgent(c, at) {
		return c, 3
	}
	a := c.Agents[at]
	m, reply, _ := managerDoByRule(c.Manager, beat(a.Name))
	if reply.Code == 3 {
		m, reply, _ = managerDoByRule(m, join(a.Name, a.Cap.Mem, a.Cap.Cpu, a.Conts...))
	}
	c.Manager = m
	if hears && reply.Code == 0 {
		c.Agents = deepAgents(c.Agents)
		c.Agents[at].Conts = slices.SortedStableFunc(slices.Values(reply.Conts), func(a impl.Cont, b impl.Cont) int { return cmp.Compare(a.Id, b.Id) })
	}
	return c, reply.Code
}

func clusterDoByRule(c impl.Cluster, e impl.Event) (impl.Cluster, int) {
	switch e.Kind {
	case 0:
		if e.Op.Kind == 4 || e.Op.Kind == 5 {
			return c, 6
		}
		m, reply, _ := managerDoByRule(c.Manager, e.Op)
		c.Manager = m
		return c, reply.Code
	case 1:
		return talkByRule(c, e.At, true)
	case 2:
		return talkByRule(c, e.At, false)
	case 3:
		m, said := managerSyncByRule(c.Manager)
		c.Manager, c.Told = m, slices.Concat(c.Told, said)
		return c, 0
	case 4:
		c.Manager = managerCrashByRule(c.Manager, e.At)
		return c, 0
	case 5:
		if !isAgent(c, e.At) {
			return c, 3
		}
		c.Agents = deepAgents(c.Agents)
		c.Agents[e.At].Conts = nil
		return c, 0
	}
	return c, 6
}

// agreesByRule strikes out, one by one, what the manager has of what runs.
func agreesByRule(c impl.Cluster, at int) bool {
	if !isAgent(c, at) || !slices.Contains(nodesOf(c.Manager.State), c.Agents[at].Name) {
		return false
	}
	left := slices.Clone(c.Agents[at].Conts)
	for _, one := range c.Manager.State.Conts {
		if one.Node != c.Agents[at].Name {
			continue
		}
		place := slices.Index(left, one)
		if place < 0 {
			return false
		}
		left = slices.Delete(left, place, place+1)
	}
	return len(left) == 0
}

func runsByRule(c impl.Cluster) []int {
	var ids []int
	for _, a := range c.Agents {
		ids = append(ids, idsByRule(a.Conts)...)
	}
	return slices.Sorted(slices.Values(ids))
}

func clusterTextByRule(c impl.Cluster) string {
	text := ""
	for _, a := range c.Agents {
		text += a.Name
		for _, one := range a.Conts {
			text += fmt.Sprintf(" %d:%d", one.Id, one.App)
		}
		text += "\n"
	}
	s := c.Manager.State
	return text + fmt.Sprintf("epoch %d clock %d apps %d conts %d\n", s.Epoch, s.Clock, len(s.Apps), len(s.Conts))
}

func checkClusterNew(t *testing.T, what string, q []impl.Queue, agents []impl.Agent) bool {
	t.Helper()
	got, ok := impl.ClusterNew(q, agents)
	if want, wantOk := clusterNewByRule(q, agents); ok != wantOk || !sameCluster(got, want) {
		t.Fatalf("%s: ClusterNew(%+v, %+v): %s, %v, want %v", what, q, agents, shownCluster(got), ok, wantOk)
	}
	return ok
}

func checkClusterDo(t *testing.T, what string, c impl.Cluster, e impl.Event) (impl.Cluster, int) {
	t.Helper()
	got, code := impl.ClusterDo(c, e)
	if want, wantCode := clusterDoByRule(c, e); code != wantCode || !sameCluster(got, want) {
		t.Fatalf("%s: ClusterDo(%s, %+v):\n%s, %d, want\n%s, %d", what, shownCluster(c), e, shownCluster(got), code, shownCluster(want), wantCode)
	}
	if impl.ManagerOk(c.Manager) && !impl.ManagerOk(got.Manager) {
		t.Fatalf("%s: ClusterDo(%s, %+v): not right any more: %s", what, shownCluster(c), e, shownCluster(got))
	}
	if e.Kind == impl.EvBeat && code == impl.Good && !impl.Agrees(got, e.At) {
		t.Fatalf("%s: ClusterDo(%s, %+v): heard, and does not agree: %s", what, shownCluster(c), e, shownCluster(got))
	}
	return got, code
}

func checkAgrees(t *testing.T, what string, c impl.Cluster, at int) bool {
	t.Helper()
	got := impl.Agrees(c, at)
	if want := agreesByRule(c, at); got != want {
		t.Fatalf("%s: Agrees(%s, %d): %v, want %v", what, shownCluster(c), at, got, want)
	}
	return got
}

func checkRuns(t *testing.T, what string, c impl.Cluster) []int {
	t.Helper()
	got := impl.Runs(c)
	if want := runsByRule(c); !slices.Equal(got, want) {
		t.Fatalf("%s: Runs(%s): %v, want %v", what, shownCluster(c), got, want)
	}
	return got
}

func checkClusterText(t *testing.T, what string, c impl.Cluster) string {
	t.Helper()
	got := impl.ClusterText(c)
	if want := clusterTextByRule(c); got != want {
		t.Fatalf("%s: ClusterText(%s): %q, want %q", what, shownCluster(c), got, want)
	}
	return got
}

func checkCluster(t *testing.T, what string, c impl.Cluster, e impl.Event) (impl.Cluster, int) {
	t.Helper()
	for at := -1; at <= len(c.Agents); at++ {
		checkAgrees(t, what, c, at)
	}
	checkRuns(t, what, c)
	checkClusterText(t, what, c)
	return checkClusterDo(t, what, c, e)
}

// after is what these events make of a cluster, each of which has to be Good.
func after(t *testing.T, c impl.Cluster, events ...impl.Event) impl.Cluster {
	t.Helper()
	for _, e := range events {
		next, code := checkCluster(t, "on the way", c, e)
		if code != impl.Good {
			t.Fatalf("%+v: %d: %s", e, code, shownCluster(c))
		}
		c = next
	}
	return c
}

// checkNothingElse is for what is refused.
func checkNothingElse(t *testing.T, what string, c impl.Cluster, e impl.Event, code int) {
	t.Helper()
	if got, said := checkClusterDo(t, what, c, e); said != code || !sameCluster(got, c) {
		t.Errorf("%s: %+v: %d, want %d: %s", what, e, said, code, shownCluster(got))
	}
}

func TestKindsOfClusterEvents(t *testing.T) {
	if !slices.Equal(eventKinds, []int{0, 1, 2, 3, 4, 5}) {
		t.Errorf("%v", eventKinds)
	}
}

func manyAgents(n int) []impl.Agent {
	var agents []impl.Agent
	for i := range n {
		agents = append(agents, agent(nodeName(i), i, 2*i))
	}
	return agents
}

func TestClusterNew(t *testing.T) {
	for what, agents := range map[string][]impl.Agent{
		"none":                     nil,
		"an empty list":            {},
		"one":                      {agent("m1", 1, 2)},
		"two":                      {agent("m1", 1, 2), agent("m2", 0, 0)},
		"one fewer":                manyAgents(impl.MaxMachines - 1),
		"MaxMachines":              manyAgents(impl.MaxMachines),
		"names that begin alike":   {agent("m", 1, 1), agent("m0", 1, 1), agent("m00", 1, 1), agent("ma", 1, 1)},
		"digits ahead of letters":  {agent("10", 1, 1), agent("9", 1, 1), agent("a", 1, 1)},
		"a name of 10 bytes":       {agent("abcdefghi9", 1, 1)},
		"an empty list that runs":  {{Name: "m1", Conts: []impl.Cont{}}},
		"Caps that are too much":   {agent("m1", most, most), agent("m2", most, most)},
		"a Cap of nothing":         {agent("m1", 0, 0)},
		"a Cap of Cpu alone":       {agent("m1", 0, most)},
		"as queues, but no matter": {agent("a", 1, 1), agent("b", 1, 1), agent("r", 1, 1)},
	} {
		for tree, q := range rightTrees() {
			if !checkClusterNew(t, what+" of "+tree, q, agents) {
				t.Errorf("%s of %s: refused", what, tree)
			}
		}
		for tree, q := range wrongTrees() {
			if checkClusterNew(t, what+" of "+tree, q, agents) {
				t.Errorf("%s of %s: taken", what, tree)
			}
		}
	}
	if _, ok := impl.ClusterNew(nil, nil); ok {
		t.Error("no queues")
	}
}

func TestClusterNewRefusesAgents(t *testing.T) {
	wrong := map[string][]impl.Agent{
		"one more than MaxMachines": manyAgents(impl.MaxMachines + 1),
		"many more":                 manyAgents(500),
		"two alike":                 {agent("m1", 1, 1), agent("m1", 1, 1)},
		"two of one name":           {agent("m0", 1, 1), agent("m1", 1, 1), agent("m1", 2, 2)},
		"descending":                {agent("m2", 1, 1), agent("m1", 1, 1)},
		"the last one descends":     {agent("m1", 1, 1), agent("m3", 1, 1), agent("m2", 1, 1)},
		"numbers, not texts":        {agent("9", 1, 1), agent("10", 1, 1)},
		"a longer one ahead":        {agent("m0", 1, 1), agent("m", 1, 1)},
		"no Name":                   {agent("", 1, 1)},
		"no Name, another one":      {agent("", 1, 1), agent("m1", 1, 1)},
		"a container":               {agent("m1", 9, 9, cont(100001, 1001, "m1", 1, 1))},
		"the last has a container":  {agent("m1", 9, 9), agent("m2", 9, 9, impl.Cont{})},
	}
	for _, name := range wrongNames {
		wrong["the name "+strconv.Quote(name)] = []impl.Agent{agent(name, 1, 1)}
	}
	for _, n := range wrongNumbers {
		wrong["Mem "+strconv.Itoa(n)] = []impl.Agent{agent("m1", n, 1)}
		wrong["Cpu "+strconv.Itoa(n)] = []impl.Agent{agent("m1", 1, 1), agent("m2", 1, n)}
	}
	for what, agents := range wrong {
		if checkClusterNew(t, what, leafTree(), agents) {
			t.Errorf("%s: taken", what)
		}
		if checkClusterNew(t, what+", and no queues", nil, agents) {
			t.Errorf("%s, and no queues: taken", what)
		}
	}
}

func TestANewClusterRunsNothing(t *testing.T) {
	c := twoAgents()
	if !impl.ManagerOk(c.Manager) || len(checkRuns(t, "new", c)) != 0 || len(c.Told) != 0 || checkAgrees(t, "new", c, 0) || checkAgrees(t, "new", c, 1) {
		t.Errorf("%s", shownCluster(c))
	}
	if text := checkClusterText(t, "new", c); text != "m1\nm2\nepoch 1 clock 0 apps 0 conts 0\n" {
		t.Errorf("%q", text)
	}
}

func TestNoClusterEvents(t *testing.T) {
	for _, kind := range noEventKinds {
		for what, c := range map[string]impl.Cluster{"running": running(), "new": twoAgents(), "the zero value": {}} {
			checkNothingElse(t, what, c, impl.Event{Kind: kind, Op: submit("a")}, impl.Wrong)
			checkNothingElse(t, what, c, impl.Event{Kind: kind, At: 1, Op: tick()}, impl.Wrong)
			checkNothingElse(t, what, c, impl.Event{Kind: kind, At: -1}, impl.Wrong)
		}
	}
}

func TestOperationsAreTheManagers(t *testing.T) {
	c := running()
	for _, op := range []impl.Op{submit("c"), finish(1002), finish(1005), askFor(1005, ask(1, 1, 2)), free(100004), tick(), serve("a"), serve("d")} {
		got, code := checkClusterDo(t, "good", c, operation(op))
		m, _, _ := impl.ManagerDo(c.Manager, op)
		if code != impl.Good || !sameManager(got.Manager, m) {
			t.Errorf("%+v: %d", op, code)
		}
		if got.Manager = c.Manager; !sameCluster(got, c) {
			t.Errorf("%+v: the agents or what was told: %s", op, shownCluster(got))
		}
	}
	got, _ := checkClusterDo(t, "it waits", c, operation(submit("c")))
	if len(got.Manager.Wait) != 3 || got.Manager.Wait[2].App != 1006 || len(got.Told) != 3 {
		t.Errorf("%s", shownCluster(got))
	}
	// At is for other kinds.
	for _, at := range []int{-1, 4, math.MinInt, math.MaxInt} {
		if _, code := checkClusterDo(t, "any At", c, impl.Event{At: at, Op: tick()}); code != impl.Good {
			t.Errorf("At %d: %d", at, code)
		}
	}
}

func TestOperationsThatAreRefused(t *testing.T) {
	c := running()
	for _, one := range []struct {
		op   impl.Op
		code int
	}{
		{submit("r"), impl.NoQueue}, {submit(""), impl.NoQueue}, {finish(1006), impl.NoApp}, {finish(math.MinInt), impl.NoApp},
		{askFor(1006, ask(1, 1, 1)), impl.NoApp}, {askFor(1001, ask(0, 0, 1)), impl.Wrong}, {free(100009), impl.NoCont}, {serve("r"), impl.NoQueue},
		{impl.Op{Kind: 8}, impl.Wrong}, {impl.Op{Kind: -1}, impl.Wrong}, {impl.Op{Kind: math.MaxInt}, impl.Wrong},
	} {
		checkNothingElse(t, "refused", c, operation(one.op), one.code)
	}
	full := impl.Cluster{Manager: nearlyFull(0), Agents: []impl.Agent{agent("m1", 1, 1)}}
	checkNothingElse(t, "no room in the log", full, operation(submit("a")), impl.Full)
	checkNothingElse(t, "no room in the log", full, operation(finish(1001)), impl.Full)
	late := changedRunning(func(c *impl.Cluster) { c.Manager.State.Clock = most })
	checkNothingElse(t, "no more time", late, operation(tick()), impl.Full)
}

// What agents say is not said by others, right or not.
func TestOperationsOfAgents(t *testing.T) {
	c := running()
	for _, op := range []impl.Op{
		join("m9", 1, 1), join("m4", 30, 30), join("m1", 100, 100, c.Agents[0].Conts...), join("", -1, -1), join("m9", most, most),
		beat("m1"), beat("m3"), beat("m4"), beat(""), {Kind: impl.OpBeat}, {Kind: impl.OpJoin},
	} {
		checkNothingElse(t, "an agent's", c, operation(op), impl.Wrong)
		checkNothingElse(t, "an agent's, at one", c, impl.Event{At: 1, Op: op}, impl.Wrong)
		checkNothingElse(t, "an agent's", impl.Cluster{}, operation(op), impl.Wrong)
	}
}

// An agent that is known is seen, given something, and runs all that the manager has on it.
func TestBeatOfAnAgentThatIsKnown(t *testing.T) {
	c := running()
	got, code := checkCluster(t, "m1", c, heard(0))
	if code != impl.Good || got.Manager.State.Machines[0].Seen != 4 || !checkAgrees(t, "m1", got, 0) {
		t.Fatalf("%d: %s", code, shownCluster(got))
	}
	if ids := idsByRule(got.Agents[0].Conts); !slices.Equal(ids, []int{100001, 100002, 100003, 100006, 100020, 100021}) {
		t.Errorf("%v", ids)
	}
	if !slices.EqualFunc(got.Agents[1:], c.Agents[1:], sameAgent) || !slices.EqualFunc(got.Told, c.Told, sameReply) || got.Manager.Log != c.Manager.Log {
		t.Errorf("others: %s", shownCluster(got))
	}
	// With nothing to be given, it is seen alone.
	if got, code := checkCluster(t, "m3", c, heard(2)); code != impl.Good || got.Manager.State.Machines[2].Seen != 4 || len(got.Agents[2].Conts) != 0 {
		t.Errorf("%d: %s", code, shownCluster(got))
	}
}

// One that runs what the manager has not there stops that, and begins what it should run.
func TestBeatOfAnAgentThatRunsSomethingElse(t *testing.T) {
	want := after(t, running(), heard(0))
	for what, conts := range map[string][]impl.Cont{
		"nothing":              nil,
		"one more":             append(slices.Clone(running().Agents[0].Conts), cont(100007, 1001, "m1", 1, 1)),
		"one less":             running().Agents[0].Conts[1:],
		"another's":            {cont(100004, 1004, "m2", 20, 5)},
		"another amount":       {cont(100001, 1002, "m1", 1, 1)},
		"of no application":    {cont(99, 99, "m1", 1, 1)},
		"numbers that are not": {cont(math.MinInt, -1, "", math.MaxInt, -1), cont(0, 0, "M", 0, 0)},
	} {
		c := changedRunning(func(c *impl.Cluster) { c.Agents[0].Conts = conts })
		if checkAgrees(t, what, c, 0) {
			t.Errorf("%s: agrees ahead", what)
		}
		if got := after(t, c, heard(0)); !sameCluster(got, want) {
			t.Errorf("%s: %s", what, shownCluster(got))
		}
	}
}

// An agent that is not known joins with what runs on it; nothing is given with that.
func TestBeatOfAnAgentThatIsNotKnown(t *testing.T) {
	c := running()
	got, code := checkCluster(t, "m4", c, heard(3))
	if code != impl.Good || !slices.Contains(got.Manager.State.Machines, machine("m4", 30, 30, 4)) || !checkAgrees(t, "m4", got, 3) {
		t.Fatalf("%d: %s", code, shownCluster(got))
	}
	if !slices.Equal(got.Agents[3].Conts, []impl.Cont{cont(100009, 1005, "m4", 10, 10)}) || got.Manager.State.Serial != c.Manager.State.Serial {
		t.Errorf("%s", shownCluster(got))
	}
	got = after(t, got, heard(3))
	if ids := idsByRule(got.Agents[3].Conts); !slices.Equal(ids, []int{100009, 100020, 100021}) {
		t.Errorf("given at the second time: %v", ids)
	}
}

// What runs there is told in any order and taken on in that one; the agent has it ascending.
func TestJoinIsHeardAscending(t *testing.T) {
	c := changedRunning(func(c *impl.Cluster) {
		c.Agents[3].Conts = []impl.Cont{
			cont(100015, 1001, "m4", 10, 10), cont(100011, 1002, "m4", 5, 5), cont(100015, 1002, "m4", 1, 1), cont(100001, 1001, "m4", 1, 1), cont(100013, 1003, "m4", 15, 15),
			cont(100012, 1001, "m4", 1, 0), cont(0, 1001, "m4", 0, 1), cont(100014, 1001, "m2", 0, 0), cont(7, 1005, "m4", 0, 0),
		}
	})
	got := after(t, c, heard(3))
	if want := []impl.Cont{cont(100011, 1002, "m4", 5, 5), cont(100013, 1003, "m4", 15, 15), cont(100015, 1001, "m4", 10, 10)}; !slices.Equal(got.Agents[3].Conts, want) {
		t.Errorf("%+v", got.Agents[3].Conts)
	}
}

// Where a join is refused, its code is told, and the agent goes on with what it runs.
func TestJoinThatIsRefused(t *testing.T) {
	full := changedRunning(func(c *impl.Cluster) { c.Agents[3].Cap = res(most, 30) })
	many := changedRunning(func(c *impl.Cluster) {
		for i := range impl.MaxMachines - 3 {
			c.Manager.State.Machines = append(c.Manager.State.Machines, machine("n"+strconv.Itoa(100+i), 1, 1, 4))
		}
	})
	name := changedRunning(func(c *impl.Cluster) { c.Agents[3].Name = "M4" })
	amount := changedRunning(func(c *impl.Cluster) { c.Agents[3].Cap.Cpu = -1 })
	for _, e := range []impl.Event{heard(3), half(3)} {
		checkNothingElse(t, "all Caps together", full, e, impl.Full)
		checkNothingElse(t, "MaxMachines", many, e, impl.Full)
		checkNothingElse(t, "no name", name, e, impl.Wrong)
		checkNothingElse(t, "no amount", amount, e, impl.Wrong)
	}
	// In a cluster that was made so: the second one that comes is refused, whichever it is.
	c, ok := impl.ClusterNew(leafTree(), []impl.Agent{agent("m1", most, 1), agent("m2", 1, 1)})
	if !ok {
		t.Fatal("no cluster")
	}
	checkNothingElse(t, "m2 behind m1", after(t, c, heard(0)), heard(1), impl.Full)
	checkNothingElse(t, "m1 behind m2", after(t, c, heard(1)), heard(0), impl.Full)
}

func TestEventsOfNoAgent(t *testing.T) {
	for what, c := range map[string]impl.Cluster{"running": running(), "new": twoAgents(), "the zero value": {}, "a manager that is not right": {Agents: manyAgents(3)}} {
		for _, at := range append([]int{len(c.Agents), len(c.Agents) + 1}, wrongNumbers...) {
			checkNothingElse(t, what, c, heard(at), impl.NoNode)
			checkNothingElse(t, what, c, half(at), impl.NoNode)
			checkNothingElse(t, what, c, loss(at), impl.NoNode)
		}
		if len(c.Agents) > 0 {
			if _, code := checkClusterDo(t, what, c, loss(len(c.Agents)-1)); code != impl.Good {
				t.Errorf("%s: the last one: %d", what, code)
			}
		}
	}
}

// A reply that is lost changes the manager as one that is heard, and nothing at the agent.
func TestAReplyThatIsLost(t *testing.T) {
	c := running()
	for at := range c.Agents {
		lost, code := checkCluster(t, "lost", c, half(at))
		got, want := checkCluster(t, "heard", c, heard(at))
		if code != impl.Good || code != want || !sameManager(lost.Manager, got.Manager) || sameManager(lost.Manager, c.Manager) {
			t.Errorf("%d: %d, %s", at, code, shownCluster(lost))
		}
		if !slices.EqualFunc(lost.Agents, c.Agents, sameAgent) || !slices.EqualFunc(lost.Told, c.Told, sameReply) {
			t.Errorf("%d: the agents: %s", at, shownCluster(lost))
		}
	}
	// Whose words were lost is heard again: it runs what it was told then, and what it is given now.
	lost := after(t, c, half(0))
	if checkAgrees(t, "lost", lost, 0) {
		t.Error("m1 agrees, and has heard nothing")
	}
	lost = after(t, lost, operation(askFor(1005, ask(1, 1, 1))), heard(0))
	if ids := idsByRule(lost.Agents[0].Conts); !slices.Equal(ids, []int{100001, 100002, 100003, 100006, 100020, 100021, 100022}) || !checkAgrees(t, "heard", lost, 0) {
		t.Errorf("%v", ids)
	}
	// The join that was lost has made it known; what it should stop it learns with the next word.
	lost = after(t, c, half(3))
	if checkAgrees(t, "joined", lost, 3) || len(lost.Agents[3].Conts) != 2 || !slices.Contains(nodesOf(lost.Manager.State), "m4") {
		t.Errorf("%s", shownCluster(lost))
	}
	lost = after(t, lost, half(3), half(3), heard(3))
	if ids := idsByRule(lost.Agents[3].Conts); !slices.Equal(ids, []int{100009, 100020, 100021}) || !checkAgrees(t, "joined", lost, 3) {
		t.Errorf("%v", ids)
	}
}

func TestSyncOfACluster(t *testing.T) {
	c := running()
	got := after(t, c, synced())
	want := []impl.Reply{{App: 1001}, {Kill: []int{100007, 100008}}, {App: 1002}, {App: 1004}, {App: 1005}}
	if !slices.EqualFunc(got.Told, want, sameReply) || len(got.Manager.Wait) != 0 || got.Manager.Safe != len(c.Manager.Log) || !slices.EqualFunc(got.Agents, c.Agents, sameAgent) {
		t.Errorf("%s", shownCluster(got))
	}
	if again := after(t, got, synced()); !sameCluster(again, got) {
		t.Errorf("nothing waits: %s", shownCluster(again))
	}
	got = after(t, got, operation(finish(1002)), operation(submit("d")), operation(tick()), operation(finish(1005)), synced())
	want = append(want, impl.Reply{Kill: []int{100001, 100006}}, impl.Reply{App: 1006}, impl.Reply{})
	if !slices.EqualFunc(got.Told, want, sameReply) {
		t.Errorf("several: %+v", got.Told)
	}
	if got := after(t, twoAgents(), synced(), synced()); !sameCluster(got, twoAgents()) {
		t.Errorf("nothing at all: %s", shownCluster(got))
	}
	// At and Op are for other kinds.
	if got, code := checkClusterDo(t, "any At", c, impl.Event{Kind: impl.EvSync, At: math.MinInt, Op: submit("a")}); code != impl.Good || len(got.Told) != 5 || len(got.Manager.State.Apps) != 5 {
		t.Errorf("%d: %s", code, shownCluster(got))
	}
}

// A crash is the manager's alone: what runs and what was told stays.
func TestCrashOfACluster(t *testing.T) {
	first, all := []int{1001, 1002}, []int{1001, 1002, 1003, 1004, 1005}
	for _, one := range []struct {
		keep int
		apps []int
	}{{math.MinInt, first}, {-1, first}, {0, first}, {1, first}, {9, first}, {10, []int{1001, 1002, 1003}}, {29, []int{1001, 1002, 1003, 1004}}, {30, all}, {31, all}, {math.MaxInt, all}} {
		c := running()
		got := after(t, c, crash(one.keep))
		if !slices.Equal(appsOf(got.Manager.State), one.apps) || got.Manager.State.Epoch != 2 || len(got.Manager.State.Machines)+len(got.Manager.State.Conts) != 0 || len(got.Manager.Wait) != 0 {
			t.Errorf("%d: %s", one.keep, shownCluster(got))
		}
		if !slices.EqualFunc(got.Agents, c.Agents, sameAgent) || !slices.EqualFunc(got.Told, c.Told, sameReply) {
			t.Errorf("%d: the agents: %s", one.keep, shownCluster(got))
		}
		for at := range got.Agents {
			if checkAgrees(t, "crash", got, at) {
				t.Errorf("%d: agent %d agrees", one.keep, at)
			}
		}
		// Behind a sync nothing is lost.
		if got := after(t, c, synced(), crash(one.keep)); !slices.Equal(appsOf(got.Manager.State), all) || len(got.Told) != 5 {
			t.Errorf("%d, synced: %s", one.keep, shownCluster(got))
		}
	}
}

func TestLossOfWhatRuns(t *testing.T) {
	c := running()
	for at := range c.Agents {
		got := after(t, c, loss(at))
		if len(got.Agents[at].Conts) != 0 || !sameManager(got.Manager, c.Manager) || checkAgrees(t, "lost", got, at) != (at == 2) {
			t.Errorf("%d: %s", at, shownCluster(got))
		}
		if got.Agents[at] = c.Agents[at]; !sameCluster(got, c) {
			t.Errorf("%d: others: %s", at, shownCluster(got))
		}
	}
	if got := after(t, c, loss(2)); !sameCluster(got, c) {
		t.Errorf("nothing ran: %s", shownCluster(got))
	}
	// It is told again what it should run.
	if got := after(t, c, loss(0), heard(0)); !sameCluster(got, after(t, c, heard(0))) {
		t.Errorf("a machine that forgot: %s", shownCluster(got))
	}
	// One that forgot while the manager forgot too brings nothing back.
	got := after(t, c, synced(), crash(0), loss(0), heard(0), heard(1))
	if !slices.Equal(checkRuns(t, "both", got), []int{100004, 100005, 100009, 100010}) || len(got.Manager.State.Conts) != 2 || !checkAgrees(t, "both", got, 0) || !checkAgrees(t, "both", got, 1) {
		t.Errorf("both forgot: %s", shownCluster(got))
	}
}

func TestAgrees(t *testing.T) {
	c := running()
	for at, want := range map[int]bool{-1: false, 0: true, 1: true, 2: true, 3: false, 4: false, math.MinInt: false, math.MaxInt: false} {
		if got := checkAgrees(t, "running", c, at); got != want {
			t.Errorf("%d: %v", at, got)
		}
	}
	for what, change := range map[string]func(c *impl.Cluster){
		"one more at the agent":      func(c *impl.Cluster) { c.Agents[0].Conts = append(c.Agents[0].Conts, cont(100030, 1001, "m1", 1, 1)) },
		"the first one less":         func(c *impl.Cluster) { c.Agents[0].Conts = c.Agents[0].Conts[1:] },
		"the last one less":          func(c *impl.Cluster) { c.Agents[0].Conts = c.Agents[0].Conts[:3] },
		"nothing":                    func(c *impl.Cluster) { c.Agents[0].Conts = nil },
		"one twice":                  func(c *impl.Cluster) { c.Agents[0].Conts = append(c.Agents[0].Conts, c.Agents[0].Conts[3]) },
		"one for another":            func(c *impl.Cluster) { c.Agents[0].Conts[3] = c.Agents[0].Conts[2] },
		"another Id":                 func(c *impl.Cluster) { c.Agents[0].Conts[3].Id++ },
		"another application":        func(c *impl.Cluster) { c.Agents[0].Conts[3].App = 1004 },
		"another Node":               func(c *impl.Cluster) { c.Agents[0].Conts[3].Node = "m2" },
		"another Mem":                func(c *impl.Cluster) { c.Agents[0].Conts[3].Res.Mem++ },
		"another Cpu":                func(c *impl.Cluster) { c.Agents[0].Conts[3].Res.Cpu-- },
		"one more at the manager":    func(c *impl.Cluster) { c.Manager.State.Conts[3].Node = "m1" },
		"one less at the manager":    func(c *impl.Cluster) { c.Manager.State.Conts = c.Manager.State.Conts[:5] },
		"the machine is not there":   func(c *impl.Cluster) { c.Manager.State.Machines = c.Manager.State.Machines[1:] },
		"no machine, and no work":    func(c *impl.Cluster) { c.Manager.State, c.Agents[0].Conts = impl.State{}, nil },
		"a machine of another name":  func(c *impl.Cluster) { c.Agents[0].Name = "m11" },
		"the name of another agent":  func(c *impl.Cluster) { c.Agents[0].Name = "m2" },
		"the agent has another name": func(c *impl.Cluster) { c.Agents[0].Name = "" },
	} {
		if checkAgrees(t, what, changedRunning(change), 0) {
			t.Errorf("%s: agrees", what)
		}
	}
	// What counts is what runs there, not in what order it stands, nor how much either can.
	for what, change := range map[string]func(c *impl.Cluster){
		"in another order":       func(c *impl.Cluster) { slices.Reverse(c.Agents[0].Conts) },
		"there too":              func(c *impl.Cluster) { slices.Reverse(c.Manager.State.Conts) },
		"another Cap":            func(c *impl.Cluster) { c.Agents[0].Cap = res(-1, most+1) },
		"another one's work":     func(c *impl.Cluster) { c.Agents[1].Conts = nil },
		"a log that is none":     func(c *impl.Cluster) { c.Manager.Log, c.Manager.Safe = "x", -1 },
		"no applications":        func(c *impl.Cluster) { c.Manager.State.Apps, c.Manager.State.Queues = nil, nil },
		"two machines of a name": func(c *impl.Cluster) { c.Manager.State.Machines[1].Name = "m1" },
		"twice with both": func(c *impl.Cluster) {
			c.Agents[0].Conts = append(c.Agents[0].Conts, c.Agents[0].Conts[0])
			c.Manager.State.Conts = append(c.Manager.State.Conts, c.Manager.State.Conts[0])
		},
	} {
		if !checkAgrees(t, what, changedRunning(change), 0) {
			t.Errorf("%s: does not agree", what)
		}
	}
}

func TestRuns(t *testing.T) {
	for what, one := range map[string]struct {
		c    impl.Cluster
		want []int
	}{
		"no agent":        {impl.Cluster{Manager: managing()}, nil},
		"nothing at all":  {impl.Cluster{}, nil},
		"nothing runs":    {impl.Cluster{Manager: managing(), Agents: manyAgents(3)}, nil},
		"running":         {running(), []int{100001, 100002, 100003, 100004, 100005, 100006, 100009, 100010}},
		"twice on one":    {impl.Cluster{Agents: []impl.Agent{agent("m1", 1, 1, impl.Cont{Id: 7}, impl.Cont{Id: 3}, impl.Cont{Id: 7})}}, []int{3, 7, 7}},
		"once on each":    {impl.Cluster{Agents: []impl.Agent{agent("m1", 1, 1, impl.Cont{Id: 7}), agent("m2", 1, 1), agent("m3", 1, 1, impl.Cont{Id: 5}, impl.Cont{Id: 7})}}, []int{5, 7, 7}},
		"numbers of ints": {impl.Cluster{Agents: []impl.Agent{agent("m1", 1, 1, impl.Cont{Id: math.MaxInt}, impl.Cont{}), agent("m2", 1, 1, impl.Cont{Id: math.MinInt}, impl.Cont{Id: -1})}}, []int{math.MinInt, -1, 0, math.MaxInt}},
	} {
		if got := checkRuns(t, what, one.c); !slices.Equal(got, one.want) {
			t.Errorf("%s: %v, want %v", what, got, one.want)
		}
	}
}

func TestClusterText(t *testing.T) {
	for what, one := range map[string]struct {
		c    impl.Cluster
		want string
	}{
		"nothing at all": {impl.Cluster{}, "epoch 0 clock 0 apps 0 conts 0\n"},
		"no agent":       {impl.Cluster{Manager: managing()}, "epoch 1 clock 4 apps 5 conts 6\n"},
		"running":        {running(), "m1 100001:1002 100002:1003 100003:1001 100006:1002\nm2 100004:1004 100005:1003\nm3\nm4 100009:1005 100010:1009\nepoch 1 clock 4 apps 5 conts 6\n"},
		"new":            {twoAgents(), "m1\nm2\nepoch 1 clock 0 apps 0 conts 0\n"},
		"any numbers": {impl.Cluster{
			Manager: impl.Manager{State: impl.State{Epoch: math.MinInt, Clock: -1, Next: 5, Serial: 6}},
			Agents:  []impl.Agent{agent("", -1, -1, cont(math.MaxInt, -7, "x", 1, 1), cont(0, math.MinInt, "", 2, 2)), agent("a b\n", 0, 0)},
		}, " 9223372036854775807:-7 0:-9223372036854775808\na b\n\nepoch -9223372036854775808 clock -1 apps 0 conts 0\n"},
	} {
		if got := checkClusterText(t, what, one.c); got != one.want {
			t.Errorf("%s: %q, want %q", what, got, one.want)
		}
	}
}

// The lines stand in the order of the agents, however many there are.
func TestClusterTextOfManyAgents(t *testing.T) {
	for _, n := range []int{1, 2, 19, 20, 21, 39, 40, 41, 1000} {
		agents := manyAgents(n)
		for i := range agents {
			for k := range i % 7 {
				agents[i].Conts = append(agents[i].Conts, cont(100*i+k, k, agents[i].Name, 1, 1))
			}
		}
		c := impl.Cluster{Manager: managing(), Agents: agents}
		for range 5 {
			checkClusterText(t, strconv.Itoa(n), c)
		}
		slices.Reverse(agents)
		checkClusterText(t, strconv.Itoa(n)+", in reverse", c)
	}
}

// watch is what those know who look on a cluster from without, and what they hold it to: promise 10.
type watch struct {
	c impl.Cluster
	// asked are the operations of which the replies wait; the maps are as those of a session.
	asked     []impl.Op
	takenOn   map[int]string
	finishing map[int]bool
	done      map[int]bool
	// given are all containers that there ever were, by their numbers.
	given map[int]impl.Cont
	// has is how often something happened, so that one who looks on sees whether it was worth it.
	has map[string]int
}

func watching(c impl.Cluster) *watch {
	return &watch{c: c, takenOn: map[int]string{}, finishing: map[int]bool{}, done: map[int]bool{}, given: map[int]impl.Cont{}, has: map[string]int{}}
}

func (w *watch) happens(t *testing.T, e impl.Event) int {
	t.Helper()
	before := w.c
	next, code := impl.ClusterDo(before, e)
	w.c = next
	if !impl.ManagerOk(next.Manager) {
		t.Fatalf("%+v: not right: %s", e, shownCluster(next))
	}
	if !slices.EqualFunc(before.Told, next.Told[:len(before.Told)], sameReply) || e.Kind != impl.EvSync && len(next.Told) != len(before.Told) {
		t.Fatalf("%+v: told: %+v, then %+v", e, before.Told, next.Told)
	}
	for at, a := range next.Agents {
		changes := at == e.At && (e.Kind == impl.EvBeat || e.Kind == impl.EvLoss)
		if !changes && !sameAgent(a, before.Agents[at]) {
			t.Fatalf("%+v: agent %d runs something else: %s, then %s", e, at, shownCluster(before), shownCluster(next))
		}
	}
	switch {
	case e.Kind == impl.EvOp && code == impl.Good && e.Op.Kind <= impl.OpFinish:
		w.asked = append(w.asked, e.Op)
		if e.Op.Kind == impl.OpFinish {
			w.finishing[e.Op.App] = true
		}
	case e.Kind == impl.EvSync:
		w.hear(t, next.Told[len(before.Told):])
	case e.Kind == impl.EvCrash:
		w.asked = nil
		w.has["crash"]++
	case e.Kind == impl.EvBeat && code == impl.Good:
		w.checkHeard(t, before, e.At)
	}
	w.checkTakenOn(t)
	w.checkNumbers(t)
	return code
}

func (w *watch) hear(t *testing.T, said []impl.Reply) {
	t.Helper()
	if len(said) != len(w.asked) {
		t.Fatalf("%d replies to %d operations", len(said), len(w.asked))
	}
	for i, op := range w.asked {
		if op.Kind == impl.OpFinish {
			w.done[op.App] = true
			continue
		}
		if _, again := w.takenOn[said[i].App]; again || said[i].App == 0 {
			t.Fatalf("%+v is told for %+v", said[i], op)
		}
		w.takenOn[said[i].App] = op.Queue
	}
	w.has["told"] += len(said)
	w.asked = nil
}

// checkHeard: what a machine was told to run is what the manager has on it; and what ran goes on, but for what is
// the manager's to end: of an application that is gone, or taken back while the machine was known.
func (w *watch) checkHeard(t *testing.T, before impl.Cluster, at int) {
	t.Helper()
	a := w.c.Agents[at]
	_, on := withoutByRule(w.c.Manager.State, func(one impl.Cont) bool { return one.Node == a.Name })
	if !slices.Equal(a.Conts, on) || !impl.Agrees(w.c, at) {
		t.Fatalf("agent %d was told to run something else: %s", at, shownCluster(w.c))
	}
	known := slices.Contains(nodesOf(before.Manager.State), a.Name)
	goesOn := func(one impl.Cont) bool {
		if known {
			return slices.Contains(before.Manager.State.Conts, one)
		}
		return slices.Contains(appsOf(before.Manager.State), one.App)
	}
	for _, one := range before.Agents[at].Conts {
		switch {
		case goesOn(one) != slices.Contains(a.Conts, one):
			t.Fatalf("agent %d, known %v: %+v goes on: %v: %s, then %s", at, known, one, !goesOn(one), shownCluster(before), shownCluster(w.c))
		case !goesOn(one):
			w.has["stopped"]++
		case !known && one.Id/100000 < before.Manager.State.Epoch:
			w.has["behind a crash"]++
		case !known:
			w.has["behind expiry"]++
		}
	}
	w.has["heard"]++
}

func (w *watch) checkTakenOn(t *testing.T) {
	t.Helper()
	for id, queue := range w.takenOn {
		a, there := impl.AppOf(w.c.Manager.State, id)
		if there && (w.done[id] || a.Queue != queue) {
			t.Fatalf("%+v is there, of %q, done: %v", a, queue, w.done[id])
		}
		if !there && !w.finishing[id] {
			t.Fatalf("%d was told to be taken on, and is not there: %s", id, shownCluster(w.c))
		}
	}
}

// checkNumbers: no container's number is ever another one's, neither with the manager nor on an agent.
func (w *watch) checkNumbers(t *testing.T) {
	t.Helper()
	all := slices.Clone(w.c.Manager.State.Conts)
	for _, a := range w.c.Agents {
		all = append(all, a.Conts...)
	}
	for _, one := range all {
		if known, there := w.given[one.Id]; there && known != one {
			t.Fatalf("%+v has the number of %+v: %s", one, known, shownCluster(w.c))
		}
		w.given[one.Id] = one
	}
	if runs := impl.Runs(w.c); len(slices.Compact(slices.Clone(runs))) != len(runs) {
		t.Fatalf("one runs twice: %v", runs)
	}
	w.has["most"] = max(w.has["most"], len(all))
}

func clusterOf(r *rand.Rand) impl.Cluster {
	var agents []impl.Agent
	for i := range 1 + r.Intn(4) {
		agents = append(agents, agent(nodeName(i), 5+r.Intn(40), 5+r.Intn(40)))
	}
	c, _ := impl.ClusterNew(flatTree(r), agents)
	return c
}

func someOperation(r *rand.Rand, s impl.State) impl.Op {
	switch n := r.Intn(12); {
	case n < 3:
		return submit(*one(r, leavesOf(s.Queues)))
	case n < 7 && len(s.Apps) > 0:
		return askFor(one(r, s.Apps).Id, impl.Ask{Res: res(r.Intn(6), 1+r.Intn(5)), Count: 1 + r.Intn(4), Node: *one(r, []string{"", "", nodeName(r.Intn(4))})})
	case n < 8 && len(s.Apps) > 3:
		return finish(one(r, s.Apps).Id)
	case n < 9 && len(s.Conts) > 0:
		return free(one(r, s.Conts).Id)
	case n < 10:
		return serve(*one(r, leavesOf(s.Queues)))
	}
	return tick()
}

func someEvent(r *rand.Rand, c impl.Cluster) impl.Event {
	at := r.Intn(len(c.Agents))
	switch n := r.Intn(40); {
	case n < 18:
		return operation(someOperation(r, c.Manager.State))
	case n < 29:
		return heard(at)
	case n < 33:
		return half(at)
	case n < 36:
		return synced()
	case n < 38:
		return crash(*one(r, []int{-1, 0, 0, r.Intn(12), r.Intn(60), math.MaxInt}))
	case n < 39:
		return loss(at)
	}
	return operation(someOp(r, c.Manager.State))
}

// Promise 10, whatever happens, with replies that are lost, machines that forget, and crashes that keep what they do.
func TestAClusterKeepsItsPromises(t *testing.T) {
	r := rand.New(rand.NewSource(70))
	has := map[string]int{}
	for range 120 {
		w := watching(clusterOf(r))
		for range 120 {
			w.happens(t, someEvent(r, w.c))
			if r.Intn(60) == 0 {
				// Long enough for all machines to go.
				for range impl.Expiry + 1 {
					w.happens(t, operation(tick()))
				}
			}
		}
		for what, n := range w.has {
			has[what] += n
		}
		has["given"] += len(w.given)
	}
	for what, least := range map[string]int{"told": 500, "crash": 400, "heard": 2000, "given": 2000, "stopped": 300, "behind a crash": 400, "behind expiry": 100, "most": 1000} {
		if has[what] < least {
			t.Errorf("%s: %d; all: %v", what, has[what], has)
		}
	}
}

// What was told, and what runs of it, is there behind each crash that may come; what was not told may be lost.
func TestWhatRunsGoesOnBehindACrash(t *testing.T) {
	c := after(t, twoAgents(),
		operation(submit("a")), synced(), operation(submit("b1")), heard(0), heard(1),
		operation(askFor(1001, ask(2, 2, 3))), operation(askFor(1002, ask(1, 1, 2))), heard(0), heard(1), heard(0))
	if text := checkClusterText(t, "ahead", c); text != "m1 100001:1001 100002:1002 100003:1001\nm2 100004:1002 100005:1001\nepoch 1 clock 0 apps 2 conts 5\n" {
		t.Fatalf("%q", text)
	}
	lost := after(t, c, crash(0), heard(0), heard(1))
	if text := checkClusterText(t, "lost", lost); text != "m1 100001:1001 100003:1001\nm2 100005:1001\nepoch 2 clock 0 apps 1 conts 3\n" {
		t.Errorf("%q", text)
	}
	for _, ahead := range [][]impl.Event{{crash(math.MaxInt)}, {synced(), crash(-1)}, {synced(), crash(0), crash(0), crash(5)}} {
		kept := after(t, c, ahead...)
		if !slices.Equal(checkRuns(t, "kept", kept), []int{100001, 100002, 100003, 100004, 100005}) || len(kept.Manager.State.Conts) != 0 {
			t.Errorf("%s", shownCluster(kept))
		}
		kept = after(t, kept, half(1), heard(0), heard(1))
		if !slices.EqualFunc(kept.Agents, c.Agents, sameAgent) || !slices.Equal(kept.Manager.State.Conts, c.Manager.State.Conts) || !checkAgrees(t, "kept", kept, 0) || !checkAgrees(t, "kept", kept, 1) {
			t.Errorf("%s", shownCluster(kept))
		}
		// What is given now has other numbers.
		kept = after(t, kept, operation(askFor(1001, ask(1, 1, 1))), heard(1))
		if ids := idsByRule(kept.Agents[1].Conts); !slices.Equal(ids, []int{100004, 100005, kept.Manager.State.Epoch*100000 + 1}) {
			t.Errorf("%v", ids)
		}
	}
}

// A finish that was not told may be undone by a crash, and then what was not heard to be stopped goes on.
func TestAFinishThatIsLost(t *testing.T) {
	c := after(t, twoAgents(), operation(submit("a")), synced(), operation(askFor(1001, ask(1, 1, 2))), heard(0), heard(0))
	if !slices.Equal(checkRuns(t, "ahead", c), []int{100001, 100002}) {
		t.Fatalf("%s", shownCluster(c))
	}
	c = after(t, c, operation(finish(1001)), half(0))
	undone := after(t, c, crash(0), heard(0))
	if !slices.Equal(checkRuns(t, "undone", undone), []int{100001, 100002}) || !slices.Equal(appsOf(undone.Manager.State), []int{1001}) {
		t.Errorf("%s", shownCluster(undone))
	}
	for what, done := range map[string]impl.Cluster{
		"told":           after(t, c, synced(), crash(0), heard(0)),
		"kept":           after(t, c, crash(math.MaxInt), heard(0)),
		"without crash":  after(t, c, heard(0)),
		"twice a crash":  after(t, c, synced(), crash(0), half(0), crash(0), heard(0)),
		"the reply lost": after(t, c, synced(), crash(0), half(0), heard(0)),
	} {
		if len(checkRuns(t, what, done)) != 0 || len(done.Manager.State.Apps) != 0 {
			t.Errorf("%s: %s", what, shownCluster(done))
		}
	}
}

// A machine that was not seen so long that it went comes back with what it runs, though it was no crash.
func TestAMachineThatWasNotSeen(t *testing.T) {
	c := after(t, twoAgents(), operation(submit("a")), operation(askFor(1001, ask(1, 1, 2))), heard(0), heard(0))
	for range impl.Expiry {
		c = after(t, c, operation(tick()))
	}
	if !checkAgrees(t, "seen just now", c, 0) {
		t.Errorf("%s", shownCluster(c))
	}
	c = after(t, c, operation(tick()))
	if checkAgrees(t, "gone", c, 0) || len(c.Manager.State.Conts) != 0 || len(checkRuns(t, "gone", c)) != 2 {
		t.Errorf("%s", shownCluster(c))
	}
	// Others get numbers of their own in between.
	c = after(t, c, operation(askFor(1001, ask(1, 1, 1))), heard(1), heard(1), heard(0))
	if text := checkClusterText(t, "back", c); text != "m1 100001:1001 100002:1001\nm2 100003:1001\nepoch 1 clock 6 apps 1 conts 3\n" {
		t.Errorf("%q", text)
	}
}

// Up to 99999 containers in an epoch have numbers of their own.
func TestNumbersUpToTheLastOfAnEpoch(t *testing.T) {
	c := after(t, twoAgents(), operation(submit("a")), synced(), heard(0), operation(askFor(1001, ask(1, 1, 1))), heard(0))
	c.Manager.State.Serial = 99998
	c = after(t, c, operation(askFor(1001, ask(1, 1, 2))), heard(0))
	if runs := checkRuns(t, "the last ones", c); !slices.Equal(runs, []int{100001, 199998, 199999}) {
		t.Errorf("%v", runs)
	}
	c = after(t, c, crash(0), heard(0), operation(askFor(1001, ask(1, 1, 2))), heard(0))
	if runs := checkRuns(t, "another epoch", c); !slices.Equal(runs, []int{100001, 199998, 199999, 200001, 200002}) {
		t.Errorf("%v", runs)
	}
}

// Crash upon crash, up to the last for which the log has room, with something new that runs in each epoch.
func TestNumbersUpToTheLastEpochOfALog(t *testing.T) {
	log := logOf(recApp(1001, "a")) + strings.Repeat(logOf(recEpoch()), 7470)
	c := twoAgents()
	c.Manager.Log, c.Manager.Safe = log, len(log)
	c.Manager.State, _ = impl.Recover(leafTree(), log)
	w := watching(c)
	w.takenOn[1001] = "a"
	for range 28 {
		w.happens(t, crash(0))
		w.happens(t, heard(0))
		w.happens(t, heard(1))
		epoch := w.c.Manager.State.Epoch
		for _, one := range w.c.Manager.State.Conts {
			if one.Id/100000 < epoch-2 {
				w.happens(t, operation(free(one.Id)))
			}
		}
		w.happens(t, operation(askFor(1001, ask(1, 1, 2))))
		w.happens(t, heard(epoch%2))
		w.happens(t, heard(1-epoch%2))
		if !slices.Contains(impl.Runs(w.c), 100000*epoch+1) || !slices.Contains(impl.Runs(w.c), 100000*epoch+2) {
			t.Fatalf("%v", impl.Runs(w.c))
		}
	}
	if w.c.Manager.State.Epoch != 7499 || len(w.c.Manager.Log)+len(logOf(recEpoch())) <= impl.MaxJournal || w.has["behind a crash"] < 100 {
		t.Errorf("%d: %v", w.c.Manager.State.Epoch, w.has)
	}
}

// A cluster at all its limits: as many agents, applications and containers as may be.
func TestAClusterAtAllLimits(t *testing.T) {
	var agents []impl.Agent
	for i := range impl.MaxMachines {
		agents = append(agents, agent(nodeName(i), 10, 10))
	}
	c, ok := impl.ClusterNew(under(queue("a", "r", 5000, top), queue("b", "r", 5000, top)), agents)
	if !ok {
		t.Fatal("no cluster")
	}
	w := watching(c)
	for i := range impl.MaxApps {
		w.happens(t, operation(submit([]string{"a", "b"}[i%2])))
		w.happens(t, operation(askFor(1001+i, ask(1, 1, 1000))))
	}
	if code := w.happens(t, operation(submit("a"))); code != impl.Full {
		t.Errorf("MaxApps: %d", code)
	}
	w.happens(t, synced())
	for i := range 4 * impl.MaxMachines {
		if code := w.happens(t, heard(i%impl.MaxMachines)); code != impl.Good {
			t.Fatalf("%d: %d", i, code)
		}
	}
	ahead := impl.Runs(w.c)
	if len(ahead) != impl.MaxConts || len(w.c.Told) != impl.MaxApps {
		t.Fatalf("%d run", len(ahead))
	}
	w.happens(t, crash(0))
	for i := range impl.MaxMachines {
		w.happens(t, heard(i))
	}
	if !slices.Equal(impl.Runs(w.c), ahead) || len(w.c.Manager.State.Conts) != impl.MaxConts || len(w.c.Manager.State.Apps) != impl.MaxApps {
		t.Errorf("%v", impl.Runs(w.c))
	}
}

// someCluster is right: it came about by events.
func someCluster(r *rand.Rand) impl.Cluster {
	c := clusterOf(r)
	for range r.Intn(40) {
		c, _ = impl.ClusterDo(c, someEvent(r, c))
	}
	return c
}

// spoiltCluster is one of which something is changed, right or not.
func spoiltCluster(r *rand.Rand, c impl.Cluster) impl.Cluster {
	c = deepCluster(c)
	a := one(r, c.Agents)
	switch r.Intn(10) {
	case 0:
		spoiltText(r, &a.Name)
	case 1:
		spoiltRes(r, &a.Cap)
	case 2:
		a.Conts = append(a.Conts, someCont(r, c.Manager.State, a.Name))
	case 3:
		slices.Reverse(a.Conts)
	case 4:
		a.Conts = slices.Clone(c.Manager.State.Conts)
	case 5:
		slices.Reverse(c.Agents)
	case 6:
		c.Agents = append(c.Agents, *a)
	case 7:
		c.Told = append(c.Told, impl.Reply{Code: r.Intn(9) - 1, App: r.Intn(3000), Kill: []int{-1}, Conts: []impl.Cont{someCont(r, c.Manager.State, "m100")}})
	default:
		c.Manager = spoiltManager(r, c.Manager)
	}
	return c
}

// anyEvent is of each kind and of none, with an At that is right or wrong.
func anyEvent(r *rand.Rand, c impl.Cluster) impl.Event {
	e := impl.Event{Kind: *one(r, append(eventKinds, impl.EvOp, impl.EvBeat, impl.EvBeat, impl.EvHalf)), At: r.Intn(len(c.Agents) + 1), Op: someOp(r, c.Manager.State)}
	switch r.Intn(12) {
	case 0:
		e.Kind = *one(r, noEventKinds)
	case 1:
		e.At = *one(r, wrongNumbers)
	case 2:
		e.At = someKeep(r, c.Manager)
	}
	return e
}

func TestClustersByTheRules(t *testing.T) {
	r := rand.New(rand.NewSource(71))
	codes := [6][7]int{}
	for range 1500 {
		c := someCluster(r)
		e := anyEvent(r, c)
		if _, code := checkCluster(t, "right", c, e); slices.Contains(eventKinds, e.Kind) {
			codes[e.Kind][code]++
		}
		c = spoiltCluster(r, c)
		e = anyEvent(r, c)
		checkCluster(t, "spoilt", c, e)
	}
	for kind, codes := range codes {
		if codes[impl.Good] < 40 {
			t.Errorf("kind %d: %v", kind, codes)
		}
	}
	if codes[impl.EvOp][impl.Wrong] < 20 || codes[impl.EvBeat][impl.NoNode] < 20 || codes[impl.EvHalf][impl.NoNode] < 20 || codes[impl.EvLoss][impl.NoNode] < 10 {
		t.Errorf("%v", codes)
	}
}

// Where the manager is not right, it answers Wrong, and nothing changes but by a crash and a loss.
func TestClustersOfManagersThatAreNotRight(t *testing.T) {
	for what, m := range wrongManagers() {
		c := changedRunning(func(c *impl.Cluster) { c.Manager = m })
		for at := range c.Agents {
			checkNothingElse(t, what, c, heard(at), impl.Wrong)
			checkNothingElse(t, what, c, half(at), impl.Wrong)
			if got, code := checkCluster(t, what, c, loss(at)); code != impl.Good || len(got.Agents[at].Conts) != 0 {
				t.Errorf("%s: %d", what, code)
			}
		}
		for _, kind := range append(kinds, 8, -1) {
			checkNothingElse(t, what, c, operation(wholeOp(m.State, kind)), impl.Wrong)
		}
		checkNothingElse(t, what, c, synced(), impl.Good)
		for _, keep := range []int{math.MinInt, -1, 0, 10, math.MaxInt} {
			if got, code := checkCluster(t, what, c, crash(keep)); code != impl.Good || !slices.EqualFunc(got.Agents, c.Agents, sameAgent) {
				t.Errorf("%s: %d", what, code)
			}
		}
	}
}

func clusterWithRoom(c impl.Cluster) impl.Cluster {
	c.Manager, c.Told = managerWithRoom(c.Manager), waitWithRoom(c.Told)
	agents := append(slices.Clone(c.Agents), agent("spare", 7, 8))
	for i, a := range agents {
		agents[i].Conts = contsWithRoom(a.Conts)
	}
	c.Agents = agents[:len(c.Agents)]
	return c
}

// behindCluster tells all that a cluster's lists have, and what stands behind them.
func behindCluster(c impl.Cluster) impl.Cluster {
	// The lists of replies are told as those of a manager are.
	told := behindManager(impl.Manager{Wait: c.Told})
	c.Manager, c.Told = behindManager(c.Manager), told.Wait
	c.Agents = slices.Clone(c.Agents[:cap(c.Agents)])
	for i, a := range c.Agents {
		c.Agents[i].Conts = slices.Clone(a.Conts[:cap(a.Conts)])
	}
	return c
}

func overwriteAgents(agents []impl.Agent) {
	for i := range agents {
		overwriteConts(agents[i].Conts)
		agents[i] = agent("written", -1, -1)
	}
	_ = append(agents, agent("behind", -1, -1))
}

func overwriteCluster(c impl.Cluster) {
	overwriteManager(c.Manager)
	overwriteAgents(c.Agents)
	overwriteReplies(c.Told)
}

// busyClusters are right and wrong ones, with replies of each kind that wait and were told.
func busyClusters(r *rand.Rand, n int) []impl.Cluster {
	all := []impl.Cluster{running(), twoAgents(), {Manager: nearlyFull(0), Agents: manyAgents(3)}}
	for _, m := range wrongManagers() {
		all = append(all, changedRunning(func(c *impl.Cluster) { c.Manager = m }))
	}
	for range n {
		c := someCluster(r)
		if r.Intn(2) == 0 {
			c.Told = append(c.Told, impl.Reply{App: 7, Kill: []int{1, 2}, Conts: []impl.Cont{cont(1, 2, "m1", 3, 4)}})
		}
		all = append(all, c, spoiltCluster(r, c))
	}
	return all
}

// eventsOf has one of each kind, and one of none.
func eventsOf(r *rand.Rand, c impl.Cluster) []impl.Event {
	var events []impl.Event
	for _, kind := range append(eventKinds, 6) {
		e := anyEvent(r, c)
		e.Kind, e.At = kind, *one(r, []int{r.Intn(len(c.Agents)), e.At})
		events = append(events, e)
	}
	return events
}

func TestClustersWriteIntoNothing(t *testing.T) {
	r := rand.New(rand.NewSource(72))
	for _, c := range busyClusters(r, 150) {
		handed := clusterWithRoom(c)
		before := behindCluster(handed)
		for _, e := range eventsOf(r, c) {
			e.Op.Conts = contsWithRoom(e.Op.Conts)
			all := e.Op.Conts[:cap(e.Op.Conts)]
			conts := slices.Clone(all)
			next, _ := impl.ClusterDo(handed, e)
			overwriteCluster(next)
			if !slices.Equal(all, conts) {
				t.Fatalf("written into the event %+v: %s", e, shownCluster(c))
			}
		}
		for at := range c.Agents {
			impl.Agrees(handed, at)
		}
		overwriteIds(impl.Runs(handed))
		impl.ClusterText(handed)
		if !reflect.DeepEqual(behindCluster(handed), before) {
			t.Fatalf("written into: %s", shownCluster(c))
		}
	}
}

func TestClusterNewWritesIntoNothing(t *testing.T) {
	for _, agents := range [][]impl.Agent{nil, manyAgents(3), manyAgents(21), {agent("b", 1, 1, impl.Cont{Id: 1}), agent("a", 1, 1)}} {
		for _, q := range [][]impl.Queue{leafTree(), leafTree()[1:], nil} {
			room := append(slices.Clone(q), queue("spare", "room", 7, 8))
			handed := clusterWithRoom(impl.Cluster{Agents: agents})
			before, queues := behindCluster(handed), slices.Clone(room)
			c, ok := impl.ClusterNew(room[:len(q)], handed.Agents)
			want := deepCluster(c)
			overwriteCluster(c)
			if !reflect.DeepEqual(behindCluster(handed), before) || !slices.Equal(room, queues) {
				t.Fatalf("written into: %+v, %+v", q, agents)
			}
			c, _ = impl.ClusterNew(room[:len(q)], handed.Agents)
			overwriteAgents(handed.Agents)
			overwrite(impl.State{Queues: room[:len(q)]})
			if ok && !sameCluster(c, want) {
				t.Fatalf("what was answered is what was handed in: %+v, %+v", q, agents)
			}
		}
	}
}

func TestClustersHandBackNewMemory(t *testing.T) {
	r := rand.New(rand.NewSource(73))
	for _, c := range busyClusters(r, 200) {
		for _, e := range eventsOf(r, c) {
			want, _ := impl.ClusterDo(c, e)
			want = deepCluster(want)
			handed, said := clusterWithRoom(c), e
			said.Op.Conts = contsWithRoom(e.Op.Conts)
			got, _ := impl.ClusterDo(handed, said)
			overwriteCluster(handed)
			overwriteConts(said.Op.Conts)
			if !sameCluster(got, want) {
				t.Fatalf("what was answered is what was handed in: %s, %+v", shownCluster(c), e)
			}
			overwriteAgents(got.Agents)
			overwriteReplies(got.Told)
			if !sameManager(got.Manager, want.Manager) {
				t.Fatalf("the agents, or what was told, have the manager's lists: %s, %+v", shownCluster(c), e)
			}
			got, _ = impl.ClusterDo(c, e)
			overwriteManager(got.Manager)
			overwriteReplies(got.Told)
			if !slices.EqualFunc(got.Agents, want.Agents, sameAgent) {
				t.Fatalf("the agents have others' lists: %s, %+v", shownCluster(c), e)
			}
			overwriteAgents(got.Agents)
			got, _ = impl.ClusterDo(c, e)
			overwriteManager(got.Manager)
			overwriteAgents(got.Agents)
			if !slices.EqualFunc(got.Told, want.Told, sameReply) {
				t.Fatalf("what was told has others' lists: %s, %+v", shownCluster(c), e)
			}
		}
	}
}

// Where two agents, or two replies, that are handed in have the same lists, those that are handed back have not.
func TestListsThatAreHandedInTwice(t *testing.T) {
	kill, conts := []int{1, 2}, []impl.Cont{cont(100009, 1005, "m4", 3, 4)}
	c := changedRunning(func(c *impl.Cluster) {
		c.Agents[0].Conts, c.Agents[1].Conts, c.Agents[3].Conts = conts, conts, conts
		c.Told = []impl.Reply{{Kill: kill, Conts: conts}, {Kill: kill, Conts: conts}}
		c.Manager.Wait = slices.Clone(c.Told)
	})
	for _, e := range []impl.Event{operation(tick()), heard(3), half(3), synced(), crash(0), loss(0), {Kind: 6}} {
		got, _ := impl.ClusterDo(c, e)
		want := deepCluster(got)
		overwriteConts(got.Agents[1].Conts)
		overwriteReply(got.Told[0])
		if !sameAgent(got.Agents[0], want.Agents[0]) || !sameAgent(got.Agents[3], want.Agents[3]) || !sameReply(got.Told[1], want.Told[1]) || !sameManager(got.Manager, want.Manager) {
			t.Errorf("%+v: %s", e, shownCluster(got))
		}
		for i := 2; i < len(got.Told); i++ {
			if !sameReply(got.Told[i], want.Told[i]) {
				t.Errorf("%+v: %+v", e, got.Told)
			}
		}
	}
}

func textsOfAgents(agents []impl.Agent) []string {
	var all []string
	for _, a := range agents {
		all = append(all, textsOfConts(a.Conts)...)
		if a.Name != "" {
			all = append(all, a.Name)
		}
	}
	return all
}

func TestClustersHandBackNewTexts(t *testing.T) {
	r := rand.New(rand.NewSource(74))
	for _, c := range busyClusters(r, 150) {
		for _, e := range eventsOf(r, c) {
			handed := slices.Concat(textsOfManager(c.Manager), textsOfAgents(c.Agents), textsOfReplies(c.Told), textsOfOp(e.Op))
			got, _ := impl.ClusterDo(c, e)
			agents, told, manager := textsOfAgents(got.Agents), textsOfReplies(got.Told), textsOfManager(got.Manager)
			if shareText(handed, agents) || shareText(handed, told) || shareText(handed, manager) {
				t.Fatalf("texts are shared: %s, %+v", shownCluster(c), e)
			}
			if shareText(agents, manager) || shareText(agents, told) || shareText(told, manager) {
				t.Fatalf("texts of one answer are shared: %s, %+v", shownCluster(c), e)
			}
		}
		if text := impl.ClusterText(c); shareText([]string{text}, textsOfAgents(c.Agents)) {
			t.Fatalf("a text is what was handed in: %s", shownCluster(c))
		}
	}
	q, agents := leafTree(), manyAgents(5)
	c, _ := impl.ClusterNew(q, agents)
	if shareText(textsOf(c.Manager.State), textsOf(impl.State{Queues: q})) || shareText(textsOfAgents(c.Agents), textsOfAgents(agents)) {
		t.Error("a new one has texts of what was handed in")
	}
}

func TestClustersKeepNothing(t *testing.T) {
	r := rand.New(rand.NewSource(75))
	all := busyClusters(r, 100)
	for _, c := range all {
		e, other := anyEvent(r, c), *one(r, all)
		first, code := impl.ClusterDo(c, e)
		want, text := deepCluster(first), impl.ClusterText(c)
		impl.ClusterDo(other, anyEvent(r, other))
		impl.ClusterText(other)
		impl.ClusterDo(first, e)
		overwriteCluster(first)
		if again, codeAgain := impl.ClusterDo(c, e); !sameCluster(again, want) || codeAgain != code || impl.ClusterText(c) != text {
			t.Fatalf("another answer at the second time: %s, %+v", shownCluster(c), e)
		}
	}
}

// Many at once may ask about one cluster: each has its own answer.
func TestClustersAreAskedByManyAtOnce(t *testing.T) {
	r := rand.New(rand.NewSource(76))
	for range 20 {
		c := someCluster(r)
		e := anyEvent(r, c)
		want, wantCode := clusterDoByRule(c, e)
		var all sync.WaitGroup
		for range 8 {
			all.Go(func() {
				got, code := impl.ClusterDo(c, e)
				if !sameCluster(got, want) || code != wantCode || impl.ClusterText(c) != clusterTextByRule(c) || !slices.Equal(impl.Runs(c), runsByRule(c)) {
					t.Errorf("another answer: %s, %+v", shownCluster(c), e)
				}
			})
		}
		all.Wait()
	}
}

func TestClustersAnswerAtAnyArguments(t *testing.T) {
	r := rand.New(rand.NewSource(77))
	numbers := append([]int{0, 1, 2, 3, 10, 1000, 1001, 1002, most - 1, most}, wrongNumbers...)
	names := append([]string{"", "r", "a", "b1", "m", "m1"}, wrongNames...)
	number := func() int { return *one(r, numbers) }
	name := func() string { return *one(r, names) }
	amount := func() impl.Res { return res(number(), number()) }
	anyCont := func() impl.Cont { return impl.Cont{Id: number(), App: number(), Node: name(), Res: amount()} }
	for range 6000 {
		s := impl.State{Queues: leafTree(), Epoch: 1, Next: *one(r, []int{1001, 1001, 1002, number()}), Serial: 1}
		if r.Intn(4) == 0 {
			s.Clock, s.Epoch, s.Serial = number(), number(), number()
		}
		if r.Intn(4) == 0 {
			s.Queues = spoilt(r, s.Queues)
		}
		if r.Intn(3) == 0 {
			s.Apps = append(s.Apps, impl.App{Id: *one(r, []int{1001, number()}), Queue: name(), Asks: []impl.Ask{{Res: amount(), Count: number(), Node: name(), Missed: number()}}})
			s.Machines = append(s.Machines, impl.Machine{Name: name(), Cap: amount(), Seen: number()})
			s.Conts = append(s.Conts, anyCont())
		}
		c := impl.Cluster{Manager: impl.Manager{State: s, Log: *one(r, []string{"", "", anyText(r, 40), someLog(r, leafTree(), r.Intn(6))}), Safe: *one(r, []int{0, number()})}}
		for range r.Intn(4) {
			c.Agents = append(c.Agents, impl.Agent{Name: name(), Cap: amount(), Conts: []impl.Cont{anyCont(), anyCont()}[:r.Intn(3)]})
			c.Told = append(c.Told, impl.Reply{Code: number(), App: number(), Conts: []impl.Cont{anyCont()}, Kill: []int{number()}})
		}
		op := impl.Op{Kind: *one(r, append(kinds, number())), Queue: name(), App: *one(r, []int{1001, number()}), Ask: ask(number(), number(), number()), Cont: number(), Node: name(), Cap: amount(), Conts: []impl.Cont{anyCont()}}
		checkCluster(t, "any", c, impl.Event{Kind: *one(r, append(eventKinds, number())), At: *one(r, []int{0, 1, 2, number()}), Op: op})
		checkAgrees(t, "any", c, number())
		checkClusterNew(t, "any", s.Queues, c.Agents)
	}
}

// Long lists are gone through to their ends.
func TestClustersOfLongLists(t *testing.T) {
	var conts []impl.Cont
	for i := range 20000 {
		conts = append(conts, cont(200000-i, 1001, "m4", 1+i%2, 1))
	}
	c := changedRunning(func(c *impl.Cluster) { c.Agents[3].Conts = conts })
	got, code := impl.ClusterDo(c, heard(3))
	if code != impl.Good || len(got.Agents[3].Conts) != 20 || !impl.Agrees(got, 3) || !slices.IsSorted(idsByRule(got.Agents[3].Conts)) {
		t.Errorf("%d: %d run", code, len(got.Agents[3].Conts))
	}
	if runs := impl.Runs(c); len(runs) != 20006 || !slices.IsSorted(runs) {
		t.Errorf("%d run", len(runs))
	}
	c.Agents = manyAgents(50000)
	if text := impl.ClusterText(c); strings.Count(text, "\n") != 50001 || !strings.HasPrefix(text, "m100\nm101\n") {
		t.Errorf("%d bytes", len(text))
	}
	for _, log := range []string{strings.Repeat("\x00", impl.MaxJournal+1), strings.Repeat("\x80", 10*impl.MaxJournal), strings.Repeat("\xff", impl.MaxJournal)} {
		c := changedRunning(func(c *impl.Cluster) { c.Manager.Log = log })
		for _, e := range []impl.Event{heard(0), half(3), synced(), crash(math.MaxInt), crash(-1), loss(1), operation(submit("a"))} {
			checkCluster(t, "a long log", c, e)
		}
	}
}
