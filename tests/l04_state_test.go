package tests

import (
	"math"
	"math/rand"
	"reflect"
	"slices"
	"strconv"
	"strings"
	"testing"

	"loop.example/g00275/impl"
)

var wrongNumbers = []int{-1, -2, -most, most + 1, 2 * most, 1 << 32, 1<<32 + 1, math.MinInt, math.MinInt + 1, math.MaxInt - 1, math.MaxInt}

var wrongNames = []string{"abcdefghijk", "A", "m-1", "m 1", " ", "\n", "m1\n", "é", "\x00", "\xff", "`", "{", "/", ":", "-", strings.Repeat("m", 300)}

func ask(mem int, cpu int, count int) impl.Ask {
	return impl.Ask{Res: res(mem, cpu), Count: count}
}

func app(id int, queue string, asks ...impl.Ask) impl.App {
	return impl.App{Id: id, Queue: queue, Asks: asks}
}

func machine(name string, mem int, cpu int, seen int) impl.Machine {
	return impl.Machine{Name: name, Cap: res(mem, cpu), Seen: seen}
}

func cont(id int, app int, node string, mem int, cpu int) impl.Cont {
	return impl.Cont{Id: id, App: app, Node: node, Res: res(mem, cpu)}
}

// sampleState has more than one application in a queue, queues two below the first one that use something,
// a machine that is all used and one that can nothing.
func sampleState() impl.State {
	return impl.State{
		Queues: sampleTree(), Clock: 9, Epoch: 2, Next: 2005, Serial: 77,
		Apps: []impl.App{
			app(1001, "a", ask(1, 0, 1), impl.Ask{Res: res(2, 3), Count: 1000, Node: "m2", Missed: 1000}),
			app(1002, "b2"), app(2001, "b11"), app(2002, "b2", ask(0, 5, 2)), app(2004, "c"),
		},
		Machines: []impl.Machine{machine("m1", 200, 100, 0), machine("m2", 50, 40, 9), machine("m3", 0, 0, 3), machine("m4", 1000, 7, 8)},
		Conts: []impl.Cont{
			cont(100001, 1001, "m1", 10, 1), cont(100002, 1002, "m1", 20, 2), cont(100003, 1002, "m2", 50, 40), cont(200001, 2001, "m1", 40, 0),
			cont(200002, 2002, "m4", 0, 6), cont(200005, 1001, "m4", 300, 1), cont(200009, 2001, "m4", 1, 0),
		},
	}
}

func changedState(change func(s *impl.State)) impl.State {
	s := sampleState()
	change(&s)
	return s
}

func bareState() impl.State {
	return impl.State{Queues: under(), Epoch: 1, Next: 1, Serial: 1}
}

// oneOfEach is a state with one application, one machine, one container and one ask.
func oneOfEach() impl.State {
	return impl.State{
		Queues: under(), Clock: 5, Epoch: 1, Next: 2, Serial: 1, Apps: []impl.App{app(1, "r", ask(1, 1, 1))},
		Machines: []impl.Machine{machine("m", 10, 10, 5)}, Conts: []impl.Cont{cont(1, 1, "m", 10, 10)},
	}
}

func changedOne(change func(s *impl.State)) impl.State {
	s := oneOfEach()
	change(&s)
	return s
}

func nodeName(i int) string {
	return "m" + strconv.Itoa(100+i)
}

// many is a state with so many of each; its machines can just what is on them.
func many(apps int, machines int, conts int, asks int) impl.State {
	s := impl.State{Queues: under(), Epoch: 1, Next: most, Serial: 1}
	for i := range apps {
		s.Apps = append(s.Apps, app(i+1, "r"))
		for range asks {
			s.Apps[i].Asks = append(s.Apps[i].Asks, ask(1, 1, 1))
		}
	}
	for i := range machines {
		s.Machines = append(s.Machines, machine(nodeName(i), 0, 0, 0))
	}
	for i := range conts {
		at := i % machines
		s.Conts = append(s.Conts, cont(i+1, 1+i%apps, nodeName(at), 3, 2))
		s.Machines[at].Cap.Mem += 3
		s.Machines[at].Cap.Cpu += 2
	}
	return s
}

func rightStates() map[string]impl.State {
	out := map[string]impl.State{
		"nothing but a queue":         bareState(),
		"the sample":                  sampleState(),
		"one of each":                 oneOfEach(),
		"machines alone":              changedState(func(s *impl.State) { s.Apps, s.Conts = nil, nil }),
		"applications alone":          changedState(func(s *impl.State) { s.Machines, s.Conts = nil, nil }),
		"no containers":               changedState(func(s *impl.State) { s.Conts = []impl.Cont{} }),
		"one container":               changedState(func(s *impl.State) { s.Conts = s.Conts[:1] }),
		"as many as may be of each":   many(impl.MaxApps, impl.MaxMachines, impl.MaxConts, impl.MaxAsks),
		"MaxApps":                     many(impl.MaxApps, 0, 0, 0),
		"MaxMachines":                 many(0, impl.MaxMachines, 0, 0),
		"MaxConts":                    many(1, 1, impl.MaxConts, 0),
		"MaxAsks":                     many(1, 0, 0, impl.MaxAsks),
		"one fewer of each":           many(impl.MaxApps-1, impl.MaxMachines-1, impl.MaxConts-1, impl.MaxAsks-1),
		"a Clock of MaxNumber":        changedState(func(s *impl.State) { s.Clock = most }),
		"an application at Next - 1":  changedState(func(s *impl.State) { s.Apps[4].Id = s.Next - 1 }),
		"an application of 1":         changedOne(func(s *impl.State) { s.Next = most }),
		"an application below Next":   changedOne(func(s *impl.State) { s.Next, s.Apps[0].Id, s.Conts[0].App = most, most-1, most-1 }),
		"an application of another":   changedState(func(s *impl.State) { s.Apps[0].Queue = "b11" }),
		"an ask of Mem alone":         changedOne(func(s *impl.State) { s.Apps[0].Asks[0].Res = res(1, 0) }),
		"an ask of Cpu alone":         changedOne(func(s *impl.State) { s.Apps[0].Asks[0].Res = res(0, 1) }),
		"an ask of MaxNumber":         changedOne(func(s *impl.State) { s.Apps[0].Asks[0].Res = res(most, most) }),
		"an ask's Count 1000":         changedOne(func(s *impl.State) { s.Apps[0].Asks[0].Count = 1000 }),
		"an ask's Count 2":            changedOne(func(s *impl.State) { s.Apps[0].Asks[0].Count = 2 }),
		"an ask's Missed 1000":        changedOne(func(s *impl.State) { s.Apps[0].Asks[0].Missed = 1000 }),
		"an ask's Missed 1":           changedOne(func(s *impl.State) { s.Apps[0].Asks[0].Missed = 1 }),
		"an ask's Node not there":     changedOne(func(s *impl.State) { s.Apps[0].Asks[0].Node = "abcdefghi0" }),
		"two asks alike":              changedOne(func(s *impl.State) { s.Apps[0].Asks = append(s.Apps[0].Asks, s.Apps[0].Asks[0]) }),
		"Seen below Clock":            changedOne(func(s *impl.State) { s.Machines[0].Seen = 4 }),
		"Seen 0":                      changedOne(func(s *impl.State) { s.Machines[0].Seen = 0 }),
		"a Cap of more":               changedOne(func(s *impl.State) { s.Machines[0].Cap = res(11, 10) }),
		"a Cap of MaxNumber":          changedOne(func(s *impl.State) { s.Machines[0].Cap = res(most, most) }),
		"a Cap of MaxNumber, used up": changedOne(func(s *impl.State) { s.Machines[0].Cap, s.Conts[0].Res = res(most, most), res(most, most) }),
		"a Cap of nothing":            changedOne(func(s *impl.State) { s.Machines[0].Cap, s.Conts = res(0, 0), nil }),
		"a machine of 10 bytes":       changedOne(func(s *impl.State) { s.Machines[0].Name, s.Conts[0].Node = "abcdefghi9", "abcdefghi9" }),
		"a container of MaxNumber":    changedOne(func(s *impl.State) { s.Conts[0].Id = most }),
		"a container of Mem alone":    changedOne(func(s *impl.State) { s.Conts[0].Res = res(1, 0) }),
		"a container of Cpu alone":    changedOne(func(s *impl.State) { s.Conts[0].Res = res(0, 1) }),
		"machines that begin alike":   changedOne(func(s *impl.State) { s.Machines = append(s.Machines, machine("m0", 1, 1, 1), machine("ma", 1, 1, 1)) }),
		"Caps together MaxNumber": changedOne(func(s *impl.State) {
			s.Machines = append(s.Machines, machine("n", most-10, 0, 0), machine("o", 0, most-10, 0))
		}),
		"two that use a machine up": changedOne(func(s *impl.State) { s.Conts = []impl.Cont{cont(1, 1, "m", 4, 10), cont(2, 1, "m", 6, 0)} }),
	}
	for name, number := range numbersOfState() {
		for _, n := range []int{1, 2, most - 1, most} {
			s := bareState()
			*number(&s) = n
			out[name+" "+strconv.Itoa(n)] = s
		}
	}
	for what, q := range rightTrees() {
		s := bareState()
		s.Queues = q
		out["queues: "+what] = s
	}
	return out
}

func numbersOfState() map[string]func(s *impl.State) *int {
	return map[string]func(s *impl.State) *int{
		"Clock":  func(s *impl.State) *int { return &s.Clock },
		"Epoch":  func(s *impl.State) *int { return &s.Epoch },
		"Next":   func(s *impl.State) *int { return &s.Next },
		"Serial": func(s *impl.State) *int { return &s.Serial },
	}
}

func wrongStates() map[string]impl.State {
	out := map[string]impl.State{
		"the zero value":               {},
		"no queues":                    changedState(func(s *impl.State) { s.Queues = nil }),
		"Epoch 0":                      changedState(func(s *impl.State) { s.Epoch = 0 }),
		"Next 0":                       changedOne(func(s *impl.State) { s.Next, s.Apps, s.Conts = 0, nil, nil }),
		"Serial 0":                     changedState(func(s *impl.State) { s.Serial = 0 }),
		"MaxApps and one more":         many(impl.MaxApps+1, 0, 0, 0),
		"MaxMachines and one more":     many(0, impl.MaxMachines+1, 0, 0),
		"MaxConts and one more":        many(1, 1, impl.MaxConts+1, 0),
		"MaxAsks and one more":         many(1, 0, 0, impl.MaxAsks+1),
		"MaxAsks and more, of another": many(2, 0, 0, impl.MaxAsks+1),
		"far more of each":             many(3000, 3000, 3000, 30),
		"an application at Next":       changedState(func(s *impl.State) { s.Apps[4].Id = s.Next }),
		"the only one at Next":         changedOne(func(s *impl.State) { s.Next = 1 }),
		"two applications alike":       changedState(func(s *impl.State) { s.Apps[1].Id = 1001 }),
		"applications that descend":    changedState(func(s *impl.State) { s.Apps[0], s.Apps[1] = s.Apps[1], s.Apps[0] }),
		"the last one of them behind":  changedState(func(s *impl.State) { s.Apps[4].Id = 2001 }),
		"an application of the first":  changedState(func(s *impl.State) { s.Apps[0].Queue = "root" }),
		"an application of a parent":   changedState(func(s *impl.State) { s.Apps[4].Queue = "b" }),
		"of a parent below it":         changedState(func(s *impl.State) { s.Apps[4].Queue = "b1" }),
		"of a queue not there":         changedState(func(s *impl.State) { s.Apps[0].Queue = "z" }),
		"of the empty text":            changedState(func(s *impl.State) { s.Apps[4].Queue = "" }),
		"of -":                         changedState(func(s *impl.State) { s.Apps[4].Queue = "-" }),
		"an ask of nothing":            changedState(func(s *impl.State) { s.Apps[0].Asks[1].Res = res(0, 0) }),
		"an ask's Count 0":             changedState(func(s *impl.State) { s.Apps[0].Asks[0].Count = 0 }),
		"an ask's Count 1001":          changedState(func(s *impl.State) { s.Apps[3].Asks[0].Count = 1001 }),
		"an ask's Missed -1":           changedState(func(s *impl.State) { s.Apps[0].Asks[0].Missed = -1 }),
		"an ask's Missed 1001":         changedState(func(s *impl.State) { s.Apps[0].Asks[1].Missed = 1001 }),
		"two machines of one name":     changedState(func(s *impl.State) { s.Machines[3].Name = "m3" }),
		"the first of two machines":    changedState(func(s *impl.State) { s.Machines[2] = s.Machines[1] }),
		"machines out of order":        changedState(func(s *impl.State) { s.Machines[2], s.Machines[3] = s.Machines[3], s.Machines[2] }),
		"machines by their length":     changedOne(func(s *impl.State) { s.Machines = append(s.Machines, machine("n", 1, 1, 1), machine("m0", 1, 1, 1)) }),
		"a machine of no name":         changedOne(func(s *impl.State) { s.Machines[0].Name, s.Conts[0].Node = "", "" }),
		"Seen one behind Clock":        changedState(func(s *impl.State) { s.Machines[1].Seen = 10 }),
		"Seen 1 at Clock 0":            changedOne(func(s *impl.State) { s.Clock, s.Machines[0].Seen = 0, 1 }),
		"two containers alike":         changedState(func(s *impl.State) { s.Conts[1].Id = s.Conts[0].Id }),
		"containers that descend":      changedState(func(s *impl.State) { s.Conts[5], s.Conts[6] = s.Conts[6], s.Conts[5] }),
		"a container of 0":             changedState(func(s *impl.State) { s.Conts[0].Id = 0 }),
		"of MaxNumber and one more":    changedState(func(s *impl.State) { s.Conts[6].Id = most + 1 }),
		"of no application":            changedState(func(s *impl.State) { s.Conts[6].App = 2003 }),
		"of application 0":             changedState(func(s *impl.State) { s.Conts[6].App = 0 }),
		"of an application that comes": changedState(func(s *impl.State) { s.Conts[0].App = s.Next }),
		"of none at all":               changedOne(func(s *impl.State) { s.Apps = nil }),
		"on no machine":                changedState(func(s *impl.State) { s.Conts[6].Node = "m5" }),
		"on the empty text":            changedState(func(s *impl.State) { s.Conts[6].Node = "" }),
		"on none at all":               changedOne(func(s *impl.State) { s.Machines = nil }),
		"a container of nothing":       changedState(func(s *impl.State) { s.Conts[6].Res = res(0, 0) }),
		"one more Mem than Cap":        changedState(func(s *impl.State) { s.Conts[2].Res.Mem++ }),
		"one more Cpu than Cap":        changedState(func(s *impl.State) { s.Conts[2].Res.Cpu++ }),
		"one more Mem together":        changedState(func(s *impl.State) { s.Machines[0].Cap.Mem = 69 }),
		"one more Cpu together":        changedState(func(s *impl.State) { s.Machines[3].Cap.Cpu = 6 }),
		"a Cap of nothing, used":       changedState(func(s *impl.State) { s.Conts[0].Node = "m3" }),
		"Caps together one more":       changedOne(func(s *impl.State) { s.Machines = append(s.Machines, machine("n", most-9, 0, 0)) }),
		"Caps' Cpu together one more": changedOne(func(s *impl.State) {
			s.Machines = append(s.Machines, machine("n", 0, most-10, 0), machine("o", 0, 1, 0))
		}),
	}
	addWrongNumbers(out)
	for _, name := range wrongNames {
		at := strconv.Quote(name)
		out["an ask's Node "+at] = changedState(func(s *impl.State) { s.Apps[0].Asks[0].Node = name })
		out["a machine "+at] = changedState(func(s *impl.State) { s.Machines = []impl.Machine{machine(name, 1, 1, 1)}; s.Conts = nil })
		out["a container on "+at] = changedState(func(s *impl.State) { s.Conts[0].Node = name })
		out["an application of queue "+at] = changedState(func(s *impl.State) { s.Apps[4].Queue = name })
	}
	for what, q := range wrongTrees() {
		out["queues: "+what] = changedState(func(s *impl.State) { s.Queues = q; s.Apps, s.Conts = nil, nil })
		out["queues, and all else: "+what] = changedState(func(s *impl.State) { s.Queues = q })
	}
	return out
}

func addWrongNumbers(out map[string]impl.State) {
	for _, n := range wrongNumbers {
		at := strconv.Itoa(n)
		for name, number := range numbersOfState() {
			s := bareState()
			*number(&s) = n
			out[name+" "+at] = s
		}
		out["an application "+at] = changedState(func(s *impl.State) { s.Apps = []impl.App{app(n, "a")}; s.Conts = nil })
		out["an ask's Count "+at] = changedState(func(s *impl.State) { s.Apps[0].Asks[0].Count = n })
		out["an ask's Missed "+at] = changedState(func(s *impl.State) { s.Apps[0].Asks[0].Missed = n })
		out["an ask's Mem "+at] = changedState(func(s *impl.State) { s.Apps[0].Asks[0].Res.Mem = n })
		out["an ask's Cpu "+at] = changedState(func(s *impl.State) { s.Apps[0].Asks[0].Res.Cpu = n })
		out["Seen "+at] = changedState(func(s *impl.State) { s.Machines[0].Seen = n })
		out["a Cap's Mem "+at] = changedState(func(s *impl.State) { s.Machines[3].Cap.Mem = n; s.Conts = nil })
		out["a Cap's Cpu "+at] = changedState(func(s *impl.State) { s.Machines[3].Cap.Cpu = n; s.Conts = nil })
		// Together these would be in bounds again.
		out["Caps that even out "+at] = changedState(func(s *impl.State) { s.Machines[2].Cap, s.Machines[3].Cap = res(n, n), res(-n, -n); s.Conts = nil })
		out["a container "+at] = changedState(func(s *impl.State) { s.Conts = []impl.Cont{cont(n, 1001, "m1", 1, 1)} })
		out["a container's application "+at] = changedState(func(s *impl.State) { s.Conts[0].App = n })
		out["a container's Mem "+at] = changedState(func(s *impl.State) { s.Conts[4].Res.Mem = n })
		out["a container's Cpu "+at] = changedState(func(s *impl.State) { s.Conts[4].Res.Cpu = n })
		out["containers that even out "+at] = changedState(func(s *impl.State) { s.Conts[0].Res, s.Conts[1].Res = res(n, n), res(-n, -n) })
	}
}

func isNumber(n int, least int, greatest int) bool {
	return n >= least && n <= greatest
}

func isAmount(r impl.Res) bool {
	return isNumber(r.Mem, 0, 1000000000) && isNumber(r.Cpu, 0, 1000000000)
}

// sumByRule: no list of the tests is so long that a sum of amounts wraps round.
func sumByRule(all []impl.Res) (impl.Res, bool) {
	sum := impl.Res{}
	for _, r := range all {
		if !isAmount(r) {
			return impl.Res{}, false
		}
		sum = res(sum.Mem+r.Mem, sum.Cpu+r.Cpu)
	}
	if !isAmount(sum) {
		return impl.Res{}, false
	}
	return sum, true
}

func isAsk(a impl.Ask) bool {
	return isAmount(a.Res) && a.Res.Mem+a.Res.Cpu > 0 && isNumber(a.Count, 1, 1000) && isNumber(a.Missed, 0, 1000) && (a.Node == "" || nameForm.MatchString(a.Node))
}

func areApps(s impl.State) bool {
	if len(s.Apps) > 40 {
		return false
	}
	for i, a := range s.Apps {
		there := slices.ContainsFunc(s.Queues, func(q impl.Queue) bool { return q.Name == a.Queue })
		parent := slices.ContainsFunc(s.Queues, func(q impl.Queue) bool { return q.Parent == a.Queue })
		if !isNumber(a.Id, 1, s.Next-1) || i > 0 && s.Apps[i-1].Id >= a.Id || !there || parent || len(a.Asks) > 10 {
			return false
		}
		for _, one := range a.Asks {
			if !isAsk(one) {
				return false
			}
		}
	}
	return true
}

func areMachines(s impl.State) bool {
	if len(s.Machines) > 20 {
		return false
	}
	var caps []impl.Res
	for i, m := range s.Machines {
		if !nameForm.MatchString(m.Name) || i > 0 && s.Machines[i-1].Name >= m.Name || !isNumber(m.Seen, 0, s.Clock) {
			return false
		}
		var on []impl.Res
		for _, c := range s.Conts {
			if c.Node == m.Name {
				on = append(on, c.Res)
			}
		}
		used, ok := sumByRule(on)
		if !ok || used.Mem > m.Cap.Mem || used.Cpu > m.Cap.Cpu {
			return false
		}
		caps = append(caps, m.Cap)
	}
	_, ok := sumByRule(caps)
	return ok
}

func areConts(s impl.State) bool {
	if len(s.Conts) > 150 {
		return false
	}
	for i, c := range s.Conts {
		app := slices.ContainsFunc(s.Apps, func(a impl.App) bool { return a.Id == c.App })
		node := slices.ContainsFunc(s.Machines, func(m impl.Machine) bool { return m.Name == c.Node })
		if !isNumber(c.Id, 1, 1000000000) || i > 0 && s.Conts[i-1].Id >= c.Id || !app || !node || !isAmount(c.Res) || c.Res == (impl.Res{}) {
			return false
		}
	}
	return true
}

// isState says the document's sentences in their own order, by no function of the program.
func isState(s impl.State) bool {
	return isTree(s.Queues) && isNumber(s.Clock, 0, 1000000000) && isNumber(s.Epoch, 1, 1000000000) && isNumber(s.Next, 1, 1000000000) &&
		isNumber(s.Serial, 1, 1000000000) && areApps(s) && areMachines(s) && areConts(s)
}

func randomAsk(r *rand.Rand) impl.Ask {
	a := impl.Ask{Res: randomAmount(r), Count: 1 + r.Intn(1000), Missed: r.Intn(1001)}
	if a.Res == (impl.Res{}) {
		a.Res.Cpu = 1
	}
	if r.Intn(2) == 0 {
		a.Node = nodeName(r.Intn(4))
	}
	return a
}

func leavesOf(q []impl.Queue) []string {
	var out []string
	for _, one := range q {
		if !slices.ContainsFunc(q, func(kid impl.Queue) bool { return kid.Parent == one.Name }) {
			out = append(out, one.Name)
		}
	}
	return out
}

// randomState is right, often with what is on a machine all that it can.
func randomState(r *rand.Rand) impl.State {
	s := impl.State{Queues: randomTree(r), Clock: r.Intn(20), Epoch: 1 + r.Intn(5), Next: 1, Serial: 1 + r.Intn(200000)}
	leaves := leavesOf(s.Queues)
	for range r.Intn(8) {
		s.Next += r.Intn(3)
		a := app(s.Next, leaves[r.Intn(len(leaves))])
		for range r.Intn(4) {
			a.Asks = append(a.Asks, randomAsk(r))
		}
		s.Apps = append(s.Apps, a)
		s.Next++
	}
	for i := range r.Intn(5) {
		s.Machines = append(s.Machines, machine(nodeName(i), r.Intn(200000000), r.Intn(20), r.Intn(s.Clock+1)))
	}
	free := slices.Clone(s.Machines)
	id := 0
	for len(s.Apps) > 0 && len(free) > 0 && r.Intn(12) > 0 {
		m := &free[r.Intn(len(free))]
		had := res(r.Intn(m.Cap.Mem+1), r.Intn(m.Cap.Cpu+1))
		if r.Intn(4) == 0 {
			had = m.Cap
		}
		id += 1 + r.Intn(3)
		if had != (impl.Res{}) {
			s.Conts = append(s.Conts, cont(id, s.Apps[r.Intn(len(s.Apps))].Id, m.Name, had.Mem, had.Cpu))
			m.Cap = res(m.Cap.Mem-had.Mem, m.Cap.Cpu-had.Cpu)
		}
	}
	return s
}

func deepCopy(s impl.State) impl.State {
	s.Queues = slices.Clone(s.Queues)
	s.Apps = slices.Clone(s.Apps)
	for i := range s.Apps {
		s.Apps[i].Asks = slices.Clone(s.Apps[i].Asks)
	}
	s.Machines = slices.Clone(s.Machines)
	s.Conts = slices.Clone(s.Conts)
	return s
}

func one[T any](r *rand.Rand, list []T) *T {
	return &list[r.Intn(len(list))]
}

func spoiltNumber(r *rand.Rand, n *int) {
	switch r.Intn(4) {
	case 0:
		*n++
	case 1:
		*n--
	case 2:
		*n = *one(r, wrongNumbers)
	case 3:
		*n = *one(r, []int{0, 1, most - 1, most})
	}
}

func spoiltText(r *rand.Rand, name *string) {
	*name = *one(r, append([]string{"", "q0", "q1", "q2", "m100", "m101", "m102", "zz"}, wrongNames...))
}

func spoiltRes(r *rand.Rand, a *impl.Res) {
	switch r.Intn(3) {
	case 0:
		spoiltNumber(r, &a.Mem)
	case 1:
		spoiltNumber(r, &a.Cpu)
	case 2:
		*a = impl.Res{}
	}
}

// spoiltState is a state with one thing changed, which may be no right one then.
func spoiltState(r *rand.Rand, s impl.State) impl.State {
	s = deepCopy(s)
	switch kind := r.Intn(8); {
	case kind == 0:
		s.Queues = spoilt(r, s.Queues)
	case kind == 1:
		spoiltNumber(r, *one(r, []*int{&s.Clock, &s.Epoch, &s.Next, &s.Serial}))
	case kind < 4 && len(s.Apps) > 0:
		spoiltApp(r, &s)
	case kind < 6 && len(s.Machines) > 0:
		spoiltMachine(r, &s)
	case len(s.Conts) > 0:
		spoiltCont(r, &s)
	}
	return s
}

func spoiltAsk(r *rand.Rand, a *impl.Ask) {
	switch r.Intn(3) {
	case 0:
		spoiltRes(r, &a.Res)
	case 1:
		spoiltText(r, &a.Node)
	case 2:
		spoiltNumber(r, *one(r, []*int{&a.Count, &a.Missed}))
	}
}

func spoiltApp(r *rand.Rand, s *impl.State) {
	a := one(r, s.Apps)
	switch r.Intn(7) {
	case 0:
		spoiltNumber(r, &a.Id)
	case 1:
		spoiltText(r, &a.Queue)
	case 2:
		*a = *one(r, s.Apps)
	case 3:
		a.Id = one(r, s.Apps).Id
	case 4:
		a.Queue = one(r, s.Queues).Name
	case 5:
		b := one(r, s.Apps)
		*a, *b = *b, *a
	case 6:
		if len(a.Asks) == 0 {
			a.Asks = append(a.Asks, randomAsk(r))
		}
		spoiltAsk(r, one(r, a.Asks))
	}
}

func spoiltMachine(r *rand.Rand, s *impl.State) {
	m := one(r, s.Machines)
	switch r.Intn(5) {
	case 0:
		spoiltText(r, &m.Name)
	case 1:
		spoiltRes(r, &m.Cap)
	case 2:
		spoiltNumber(r, &m.Seen)
	case 3:
		m.Name = one(r, s.Machines).Name
	case 4:
		b := one(r, s.Machines)
		*m, *b = *b, *m
	}
}

func spoiltCont(r *rand.Rand, s *impl.State) {
	c := one(r, s.Conts)
	switch r.Intn(7) {
	case 0:
		spoiltNumber(r, &c.Id)
	case 1:
		spoiltNumber(r, &c.App)
	case 2:
		spoiltText(r, &c.Node)
	case 3:
		spoiltRes(r, &c.Res)
	case 4:
		b := one(r, s.Conts)
		*c, *b = *b, *c
	case 5:
		c.Node = one(r, s.Machines).Name
	case 6:
		c.App = one(r, s.Apps).Id
	}
}

func TestStates(t *testing.T) {
	for what, s := range rightStates() {
		if !isState(s) || !impl.StateOk(s) {
			t.Errorf("%s is right", what)
		}
	}
	for what, s := range wrongStates() {
		if isState(s) || impl.StateOk(s) {
			t.Errorf("%s is not right", what)
		}
	}
	r := rand.New(rand.NewSource(16))
	right := 0
	for range 20000 {
		s := randomState(r)
		if !isState(s) || !impl.StateOk(s) {
			t.Fatalf("%+v is right", s)
		}
		s = spoiltState(r, s)
		if got := impl.StateOk(s); got != isState(s) {
			t.Fatalf("StateOk(%+v): %v", s, got)
		} else if got {
			right++
		}
	}
	if right < 1000 || right > 19000 {
		t.Errorf("%d of the spoilt states are right", right)
	}
}

// A state without anything is right at any tree of queues, and at no list that is none.
func TestStateNew(t *testing.T) {
	for what, q := range rightTrees() {
		s, ok := impl.StateNew(q)
		if !ok || !isState(s) || !impl.StateOk(s) || !slices.Equal(s.Queues, q) {
			t.Errorf("%s: %+v, %v", what, s, ok)
		}
		s.Queues = nil
		if !reflect.DeepEqual(s, impl.State{Epoch: 1, Next: 1001, Serial: 1}) {
			t.Errorf("%s, beside its queues: %+v", what, s)
		}
	}
	for what, q := range wrongTrees() {
		if s, ok := impl.StateNew(q); ok || !reflect.DeepEqual(s, impl.State{}) {
			t.Errorf("%s: %+v, %v", what, s, ok)
		}
	}
	if s, ok := impl.StateNew(nil); ok || !reflect.DeepEqual(s, impl.State{}) {
		t.Errorf("nil: %+v, %v", s, ok)
	}
}

func capsByRule(s impl.State) impl.Res {
	var all []impl.Res
	for _, m := range s.Machines {
		all = append(all, m.Cap)
	}
	sum, _ := sumByRule(all)
	return sum
}

func usedOnByRule(s impl.State, node string) impl.Res {
	var all []impl.Res
	for _, c := range s.Conts {
		if c.Node == node {
			all = append(all, c.Res)
		}
	}
	sum, _ := sumByRule(all)
	return sum
}

func freeOnByRule(s impl.State, node string) impl.Res {
	for _, m := range s.Machines {
		if m.Name != node {
			continue
		}
		used := usedOnByRule(s, node)
		if !isAmount(m.Cap) || used.Mem > m.Cap.Mem || used.Cpu > m.Cap.Cpu {
			return impl.Res{}
		}
		return res(m.Cap.Mem-used.Mem, m.Cap.Cpu-used.Cpu)
	}
	return impl.Res{}
}

func usedByRule(s impl.State, queue string) impl.Res {
	if !isTree(s.Queues) {
		return impl.Res{}
	}
	var all []impl.Res
	for _, c := range s.Conts {
		at := slices.IndexFunc(s.Apps, func(a impl.App) bool { return a.Id == c.App })
		if at >= 0 && slices.Contains(pathByRule(s.Queues, s.Apps[at].Queue), queue) {
			all = append(all, c.Res)
		}
	}
	sum, _ := sumByRule(all)
	return sum
}

func roomByRule(s impl.State, queue string, r impl.Res) bool {
	if !isTree(s.Queues) {
		return false
	}
	path := pathByRule(s.Queues, queue)
	for _, name := range path {
		both, ok := sumByRule([]impl.Res{usedByRule(s, name), r})
		most := partByRule(s.Queues, name, capsByRule(s), mostOf)
		if !ok || both.Mem > most.Mem || both.Cpu > most.Cpu {
			return false
		}
	}
	return len(path) > 0
}

func pendingByRule(s impl.State, queue string) bool {
	for _, a := range s.Apps {
		if a.Queue == queue && len(a.Asks) > 0 {
			return true
		}
	}
	return false
}

func sameApp(a impl.App, b impl.App) bool {
	return a.Id == b.Id && a.Queue == b.Queue && slices.Equal(a.Asks, b.Asks)
}

// namesIn are all names that a state has, and some that it mostly has not.
func namesIn(s impl.State) []string {
	out := []string{"", "-", "none", "root", "m1"}
	for _, q := range s.Queues {
		out = append(out, q.Name)
	}
	for _, a := range s.Apps {
		out = append(out, a.Queue)
	}
	for _, m := range s.Machines {
		out = append(out, m.Name)
	}
	for _, c := range s.Conts {
		out = append(out, c.Node)
	}
	slices.Sort(out)
	return slices.Compact(out)
}

func checkAmountsOfState(t *testing.T, what string, s impl.State) {
	t.Helper()
	if got, want := impl.Total(s), capsByRule(s); got != want {
		t.Fatalf("%s: Total(%+v): %v, want %v", what, s, got, want)
	}
	for _, name := range namesIn(s) {
		if got, want := impl.UsedOn(s, name), usedOnByRule(s, name); got != want {
			t.Fatalf("%s: UsedOn(%+v, %q): %v, want %v", what, s, name, got, want)
		}
		if got, want := impl.FreeOn(s, name), freeOnByRule(s, name); got != want {
			t.Fatalf("%s: FreeOn(%+v, %q): %v, want %v", what, s, name, got, want)
		}
		if got, want := impl.UsedBy(s, name), usedByRule(s, name); got != want {
			t.Fatalf("%s: UsedBy(%+v, %q): %v, want %v", what, s, name, got, want)
		}
		if got, want := impl.Pending(s, name), pendingByRule(s, name); got != want {
			t.Fatalf("%s: Pending(%+v, %q): %v", what, s, name, got)
		}
	}
}

func checkAppsOfState(t *testing.T, what string, s impl.State) {
	t.Helper()
	ids := []int{0, 1, -1, most, most + 1, math.MinInt, math.MaxInt, s.Next}
	for _, a := range s.Apps {
		ids = append(ids, a.Id-1, a.Id, a.Id+1)
	}
	for _, id := range ids {
		want := impl.App{}
		at := slices.IndexFunc(s.Apps, func(a impl.App) bool { return a.Id == id })
		if at >= 0 {
			want = s.Apps[at]
		}
		if got, ok := impl.AppOf(s, id); ok != (at >= 0) || !sameApp(got, want) {
			t.Fatalf("%s: AppOf(%+v, %d): %+v, %v", what, s, id, got, ok)
		}
	}
}

// roomsToAsk are the amounts that just fit somewhere on the way up, and those beside them.
func roomsToAsk(s impl.State) []impl.Res {
	out := []impl.Res{{}, res(1, 1), res(-1, 0), res(0, -1), res(most, most), res(most+1, 0), res(math.MinInt, math.MaxInt)}
	if !isTree(s.Queues) {
		return out
	}
	for _, q := range s.Queues {
		m, u := partByRule(s.Queues, q.Name, capsByRule(s), mostOf), usedByRule(s, q.Name)
		left := res(m.Mem-u.Mem, m.Cpu-u.Cpu)
		out = append(out, left, res(left.Mem+1, left.Cpu), res(left.Mem, left.Cpu+1))
	}
	return out
}

func checkRooms(t *testing.T, what string, s impl.State) {
	t.Helper()
	for _, name := range namesIn(s) {
		for _, r := range roomsToAsk(s) {
			if got := impl.Room(s, name, r); got != roomByRule(s, name, r) {
				t.Fatalf("%s: Room(%+v, %q, %v): %v", what, s, name, r, got)
			}
		}
	}
}

func TestWhatThereIs(t *testing.T) {
	for _, states := range []map[string]impl.State{rightStates(), wrongStates()} {
		for what, s := range states {
			if len(s.Conts) > 1000 {
				continue
			}
			checkAmountsOfState(t, what, s)
			checkAppsOfState(t, what, s)
			checkRooms(t, what, s)
		}
	}
	r := rand.New(rand.NewSource(17))
	for range 300 {
		s := randomState(r)
		checkRooms(t, "", s)
		checkRooms(t, "", spoiltState(r, s))
	}
	for range 3000 {
		s := randomState(r)
		for range 3 {
			checkAmountsOfState(t, "", s)
			checkAppsOfState(t, "", s)
			s = spoiltState(r, s)
		}
	}
}

func checkQueuesUseWhatTheirKidsUse(t *testing.T, s impl.State) {
	t.Helper()
	for _, q := range s.Queues {
		if impl.Leaf(s.Queues, q.Name) {
			continue
		}
		var kids []impl.Res
		for _, kid := range s.Queues {
			if kid.Parent == q.Name {
				kids = append(kids, impl.UsedBy(s, kid.Name))
			}
		}
		if want, ok := sumByRule(kids); !ok || impl.UsedBy(s, q.Name) != want {
			t.Fatalf("%q uses %v, its kids %v, in %+v", q.Name, impl.UsedBy(s, q.Name), want, s)
		}
	}
}

func checkMachinesCanWhatIsFreeAndUsed(t *testing.T, s impl.State) {
	t.Helper()
	var used []impl.Res
	for _, m := range s.Machines {
		both, ok := impl.Add(impl.FreeOn(s, m.Name), impl.UsedOn(s, m.Name))
		if !ok || both != m.Cap {
			t.Fatalf("%q has %v free and used, and can %v, in %+v", m.Name, both, m.Cap, s)
		}
		used = append(used, impl.UsedOn(s, m.Name))
	}
	sum, _ := sumByRule(used)
	if got := impl.UsedBy(s, s.Queues[0].Name); got != sum {
		t.Fatalf("all queues use %v, and on all machines is %v, in %+v", got, sum, s)
	}
}

func TestUsedByQueuesAndOnMachines(t *testing.T) {
	for _, s := range rightStates() {
		checkQueuesUseWhatTheirKidsUse(t, s)
		checkMachinesCanWhatIsFreeAndUsed(t, s)
	}
	r := rand.New(rand.NewSource(18))
	for range 5000 {
		s := randomState(r)
		checkQueuesUseWhatTheirKidsUse(t, s)
		checkMachinesCanWhatIsFreeAndUsed(t, s)
	}
}

func TestAmountsOfTheSample(t *testing.T) {
	s := sampleState()
	if got := impl.Total(s); got != res(1250, 147) {
		t.Errorf("Total: %v", got)
	}
	for node, want := range map[string][2]impl.Res{
		"m1": {res(70, 3), res(130, 97)}, "m2": {res(50, 40), res(0, 0)}, "m3": {}, "m4": {res(301, 7), res(699, 0)},
		"m5": {}, "": {}, "M1": {}, "m": {}, "m11": {}, "a": {},
	} {
		if used, free := impl.UsedOn(s, node), impl.FreeOn(s, node); used != want[0] || free != want[1] {
			t.Errorf("on %q: %v used, %v free", node, used, free)
		}
	}
	for queue, want := range map[string]impl.Res{
		"root": res(421, 50), "a": res(310, 2), "b": res(111, 48), "b1": res(41, 0), "b11": res(41, 0), "b2": res(70, 48), "c": {},
		"": {}, "-": {}, "z": {}, "roo": {}, "b111": {}, "m1": {}, "B": {},
	} {
		if got := impl.UsedBy(s, queue); got != want {
			t.Errorf("UsedBy(%q): %v, want %v", queue, got, want)
		}
	}
}

func TestTotalAtItsEnds(t *testing.T) {
	total := func(caps ...impl.Res) impl.Res {
		s := impl.State{}
		for _, c := range caps {
			s.Machines = append(s.Machines, impl.Machine{Name: "m", Cap: c})
		}
		return impl.Total(s)
	}
	for _, c := range []struct{ got, want impl.Res }{
		{total(), res(0, 0)},
		{total(res(0, 0)), res(0, 0)},
		{total(res(3, 4), res(5, 6)), res(8, 10)},
		{total(res(most, 0), res(0, most)), res(most, most)},
		{total(res(most-1, 5), res(1, 5)), res(most, 10)},
		{total(res(most-1, 5), res(2, 5)), res(0, 0)},
		{total(res(5, most-1), res(5, 2)), res(0, 0)},
		{total(res(most, most), res(most, most), res(1, 1)), res(0, 0)},
		{total(res(5, 5), res(-1, 5)), res(0, 0)},
		{total(res(5, 5), res(5, -1), res(5, 5)), res(0, 0)},
		{total(res(most+1, 5), res(-1, 5)), res(0, 0)},
		{total(res(math.MaxInt, 5), res(math.MaxInt, 5), res(2, 0)), res(0, 0)},
	} {
		if c.got != c.want {
			t.Errorf("Total: %v, want %v", c.got, c.want)
		}
	}
	for _, r := range wrongAmounts() {
		if got := total(r); got != (impl.Res{}) {
			t.Errorf("Total of %v: %v", r, got)
		}
		if got := total(res(1, 1), r, res(2, 2)); got != (impl.Res{}) {
			t.Errorf("Total with %v: %v", r, got)
		}
	}
}

func TestUsedAtItsEnds(t *testing.T) {
	for _, c := range []struct {
		first, second, want impl.Res
	}{
		{res(1, 2), res(3, 4), res(4, 6)},
		{res(0, 0), res(3, 4), res(3, 4)},
		{res(most-1, 0), res(1, most), res(most, most)},
		{res(most-1, 0), res(2, 1), res(0, 0)},
		{res(1, most), res(1, 1), res(0, 0)},
		{res(-1, 0), res(2, 2), res(0, 0)},
		{res(2, 2), res(0, -1), res(0, 0)},
		{res(most+1, 0), res(-1, 0), res(0, 0)},
		{res(math.MinInt, math.MaxInt), res(math.MinInt, math.MaxInt), res(0, 0)},
	} {
		s := oneOfEach()
		s.Conts = []impl.Cont{{Id: 1, App: 1, Node: "m", Res: c.first}, {Id: 2, App: 1, Node: "m", Res: c.second}}
		if on, by := impl.UsedOn(s, "m"), impl.UsedBy(s, "r"); on != c.want || by != c.want {
			t.Errorf("%v and %v: %v on the machine, %v by the queue", c.first, c.second, on, by)
		}
		// What does not count may be wrong, and is nothing to those who ask for another.
		s.Conts[0].Node, s.Conts[0].App = "n", 9
		want := c.second
		if !isAmount(want) {
			want = impl.Res{}
		}
		if on, by := impl.UsedOn(s, "m"), impl.UsedBy(s, "r"); on != want || by != want {
			t.Errorf("%v alone: %v on the machine, %v by the queue", c.second, on, by)
		}
	}
}

// Containers of applications that are not there count on a machine, but for no queue.
func TestContainersOfNoApplication(t *testing.T) {
	s := changedState(func(s *impl.State) { s.Apps = s.Apps[1:] })
	if got := impl.UsedOn(s, "m1"); got != res(70, 3) {
		t.Errorf("on m1: %v", got)
	}
	if got := impl.FreeOn(s, "m1"); got != res(130, 97) {
		t.Errorf("free on m1: %v", got)
	}
	for queue, want := range map[string]impl.Res{"a": {}, "root": res(111, 48), "b": res(111, 48)} {
		if got := impl.UsedBy(s, queue); got != want {
			t.Errorf("UsedBy(%q): %v, want %v", queue, got, want)
		}
	}
	s.Apps = nil
	for _, q := range s.Queues {
		if got := impl.UsedBy(s, q.Name); got != (impl.Res{}) {
			t.Errorf("UsedBy(%q) without applications: %v", q.Name, got)
		}
	}
	if impl.StateOk(s) {
		t.Error("containers of no application are right")
	}
	// Applications of a parent, and of no queue.
	s = changedState(func(s *impl.State) { s.Apps[0].Queue, s.Apps[1].Queue = "b", "z" })
	for queue, want := range map[string]impl.Res{"root": res(351, 8), "b": res(351, 8), "b1": res(41, 0), "b2": res(0, 6), "a": {}, "z": {}} {
		if got := impl.UsedBy(s, queue); got != want {
			t.Errorf("UsedBy(%q) with others: %v, want %v", queue, got, want)
		}
	}
}

func TestFreeOnAtItsEnds(t *testing.T) {
	for _, c := range []struct{ can, used, want impl.Res }{
		{res(10, 10), res(10, 10), res(0, 0)},
		{res(10, 10), res(9, 10), res(1, 0)},
		{res(10, 10), res(11, 1), res(0, 0)},
		{res(10, 10), res(1, 11), res(0, 0)},
		{res(most, most), res(1, most), res(most-1, 0)},
		{res(0, 0), res(0, 0), res(0, 0)},
		{res(0, 0), res(1, 0), res(0, 0)},
		{res(most+1, 5), res(1, 1), res(0, 0)},
		{res(5, -1), res(0, 0), res(0, 0)},
		{res(math.MaxInt, math.MinInt), res(1, 1), res(0, 0)},
		// What is on it is no amount, so UsedOn is nothing.
		{res(10, 10), res(-1, 0), res(10, 10)},
		{res(10, 10), res(1, most+1), res(10, 10)},
	} {
		s := oneOfEach()
		s.Machines[0].Cap, s.Conts[0].Res = c.can, c.used
		if got := impl.FreeOn(s, "m"); got != c.want {
			t.Errorf("%v, of which %v is used: %v", c.can, c.used, got)
		}
		if got := impl.FreeOn(s, "n"); got != (impl.Res{}) {
			t.Errorf("on none: %v", got)
		}
		s.Machines = nil
		if got := impl.FreeOn(s, "m"); got != (impl.Res{}) {
			t.Errorf("on one that went: %v", got)
		}
	}
}

func TestRoomAtItsEnds(t *testing.T) {
	s := sampleState()
	s.Conts = nil
	// The most of b is 999x99 (of 9999 points), of b1 333x33, of b11 332x32.
	s.Machines = []impl.Machine{machine("m1", 1000, 100, 0)}
	for _, c := range []struct {
		queue string
		r     impl.Res
		want  bool
	}{
		{"root", res(1000, 100), true}, {"root", res(1001, 0), false}, {"root", res(0, 101), false},
		{"a", res(666, 66), true}, {"a", res(667, 0), false}, {"a", res(0, 67), false},
		{"b", res(999, 99), true}, {"b", res(1000, 99), false}, {"b", res(999, 100), false},
		{"b1", res(333, 33), true}, {"b1", res(334, 33), false}, {"b11", res(332, 32), true}, {"b11", res(333, 32), false}, {"b11", res(332, 33), false},
		{"b2", res(999, 99), true}, {"b2", res(1000, 0), false},
		{"c", res(0, 0), true}, {"c", res(1, 0), false}, {"c", res(0, 1), false},
		{"", res(0, 0), false}, {"-", res(0, 0), false}, {"none", res(0, 0), false}, {"m1", res(0, 0), false},
		{"a", res(-1, 0), false}, {"a", res(0, -1), false}, {"root", res(most+1, 0), false}, {"root", res(math.MinInt, math.MinInt), false}, {"root", res(math.MaxInt, math.MaxInt), false},
	} {
		if got := impl.Room(s, c.queue, c.r); got != c.want {
			t.Errorf("Room(%q, %v): %v", c.queue, c.r, got)
		}
	}
	// What another one of the same parent has leaves less room below it, and what nobody may have more.
	s.Conts = []impl.Cont{cont(1, 1002, "m1", 700, 1)}
	for r, want := range map[impl.Res]bool{res(299, 32): true, res(300, 1): false, res(0, 33): false} {
		if got := impl.Room(s, "b11", r); got != want {
			t.Errorf("Room beside another, %v: %v", r, got)
		}
	}
	// The first one has the total, which the kids use up although each may have more.
	s.Conts = append(s.Conts, cont(2, 1001, "m1", 300, 1))
	if impl.Room(s, "a", res(1, 0)) || !impl.Room(s, "a", res(0, 1)) || !impl.Room(s, "a", res(0, 0)) {
		t.Error("Room where all is used")
	}
	// UsedBy and r together are no amount.
	s.Machines[0].Cap, s.Conts = res(most, most), []impl.Cont{cont(1, 1002, "m1", most, 1)}
	if impl.Room(s, "root", res(1, 0)) || impl.Room(s, "b2", res(most, most)) {
		t.Error("Room beyond all amounts")
	}
	none := bareState()
	if !impl.Room(none, "r", res(0, 0)) || impl.Room(none, "r", res(1, 0)) {
		t.Error("Room without machines")
	}
}

func TestPending(t *testing.T) {
	s := sampleState()
	for queue, want := range map[string]bool{"a": true, "b2": true, "root": false, "b": false, "b1": false, "b11": false, "c": false, "": false, "none": false} {
		if got := impl.Pending(s, queue); got != want {
			t.Errorf("Pending(%q): %v", queue, got)
		}
	}
	s.Apps[3].Asks = []impl.Ask{}
	if impl.Pending(s, "b2") {
		t.Error("pending without an ask")
	}
	s.Apps = nil
	if impl.Pending(s, "a") {
		t.Error("pending without an application")
	}
}

func TestAppOf(t *testing.T) {
	s := sampleState()
	for _, want := range s.Apps {
		got, ok := impl.AppOf(s, want.Id)
		if !ok || !sameApp(got, want) {
			t.Errorf("AppOf(%d): %+v, %v", want.Id, got, ok)
		}
	}
	for _, id := range append([]int{0, 1, 1000, 1003, 2003, 2005, most, 100001}, wrongNumbers...) {
		if got, ok := impl.AppOf(s, id); ok || !reflect.DeepEqual(got, impl.App{}) {
			t.Errorf("AppOf(%d): %+v, %v", id, got, ok)
		}
	}
	if got, ok := impl.AppOf(impl.State{}, 0); ok || !reflect.DeepEqual(got, impl.App{}) {
		t.Errorf("AppOf nothing: %+v, %v", got, ok)
	}
}

func callAllOfState(s impl.State, name string, r impl.Res, id int) {
	impl.StateOk(s)
	impl.Total(s)
	impl.UsedOn(s, name)
	impl.FreeOn(s, name)
	impl.UsedBy(s, name)
	impl.Room(s, name, r)
	impl.Pending(s, name)
	a, _ := impl.AppOf(s, id)
	made, _ := impl.StateNew(s.Queues)
	// What is answered is the caller's own: to write into it, or behind it, is to change no argument.
	for i := range a.Asks {
		a.Asks[i] = impl.Ask{Node: "written"}
	}
	_ = append(a.Asks, impl.Ask{Node: "behind"})
	for i := range made.Queues {
		made.Queues[i] = queue("written", "", 1, 1)
	}
	_ = append(made.Queues, queue("behind", "", 1, 1))
}

// withRoom is a state whose lists have something in the spare room behind them.
func withRoom(s impl.State) impl.State {
	s = deepCopy(s)
	s.Queues = append(s.Queues, queue("spare", "room", 7, 8))[:len(s.Queues)]
	for i, a := range s.Apps {
		s.Apps[i].Asks = append(a.Asks, ask(-7, 7, 7))[:len(a.Asks)]
	}
	s.Apps = append(s.Apps, app(-7, "spare"))[:len(s.Apps)]
	s.Machines = append(s.Machines, machine("spare", 7, 8, 9))[:len(s.Machines)]
	s.Conts = append(s.Conts, cont(-7, 7, "spare", 7, 7))[:len(s.Conts)]
	return s
}

// behind tells all that a state's lists have, and what stands behind them.
func behind(s impl.State) impl.State {
	s.Queues = slices.Clone(s.Queues[:cap(s.Queues)])
	s.Apps = slices.Clone(s.Apps[:cap(s.Apps)])
	for i := range s.Apps {
		s.Apps[i].Asks = slices.Clone(s.Apps[i].Asks[:cap(s.Apps[i].Asks)])
	}
	s.Machines = slices.Clone(s.Machines[:cap(s.Machines)])
	s.Conts = slices.Clone(s.Conts[:cap(s.Conts)])
	return s
}

func TestStatesAreWrittenIntoByNone(t *testing.T) {
	for _, states := range []map[string]impl.State{rightStates(), wrongStates()} {
		for what, s := range states {
			handed := withRoom(s)
			before := behind(handed)
			for _, name := range []string{"r", "root", "b", "m", "m1", "q0", "spare", "", "none"} {
				callAllOfState(handed, name, res(1, 1), 1001)
				callAllOfState(handed, name, res(-1, most+1), 1)
			}
			if !reflect.DeepEqual(behind(handed), before) {
				t.Errorf("%s: written into", what)
			}
		}
	}
}

func TestStatesAreNewEachTime(t *testing.T) {
	q := sampleTree()
	first, _ := impl.StateNew(q)
	for i := range q {
		q[i] = queue("x", "y", 0, 0)
	}
	if !slices.Equal(first.Queues, sampleTree()) {
		t.Errorf("a new state has what was handed in: %+v", first)
	}
	s := sampleState()
	a, _ := impl.AppOf(s, 1001)
	s.Apps[0].Asks[0].Count = 7
	if b := sampleState().Apps[0]; !sameApp(a, b) {
		t.Errorf("an application has what was handed in: %+v", a)
	}
}

func TestStatesAnswerAtAnyArguments(t *testing.T) {
	r := rand.New(rand.NewSource(19))
	numbers := append([]int{0, 1, 2, 1000, most - 1, most}, wrongNumbers...)
	names := append([]string{"", "r", "a", "m"}, wrongNames...)
	number := func() int { return *one(r, numbers) }
	name := func() string { return *one(r, names) }
	amount := func() impl.Res { return res(number(), number()) }
	for range 20000 {
		s := impl.State{Clock: number(), Epoch: number(), Next: number(), Serial: number()}
		if r.Intn(3) > 0 {
			s.Queues = under(queue("a", "r", 5000, 5000))
		}
		for range r.Intn(3) {
			s.Apps = append(s.Apps, impl.App{Id: number(), Queue: name(), Asks: []impl.Ask{{Res: amount(), Count: number(), Node: name(), Missed: number()}}})
			s.Machines = append(s.Machines, impl.Machine{Name: name(), Cap: amount(), Seen: number()})
			s.Conts = append(s.Conts, impl.Cont{Id: number(), App: number(), Node: name(), Res: amount()})
		}
		if got := impl.StateOk(s); got != isState(s) {
			t.Fatalf("StateOk(%+v): %v", s, got)
		}
		checkAmountsOfState(t, "any", s)
		checkAppsOfState(t, "any", s)
		at, asked := name(), amount()
		if got := impl.Room(s, at, asked); got != roomByRule(s, at, asked) {
			t.Fatalf("Room(%+v, %q, %v): %v", s, at, asked, got)
		}
	}
}
