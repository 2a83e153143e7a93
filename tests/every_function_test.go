package tests

import (
	"go/ast"
	"go/parser"
	"go/token"
	"maps"
	"math/rand"
	"path/filepath"
	"reflect"
	"slices"
	"strings"
	"testing"
	"unsafe"

	"loop.example/g00275/impl"
)

// everyFunction is all that the eleven chapters list.
var everyFunction = map[string]any{
	"PutNum": impl.PutNum, "GetNum": impl.GetNum, "PutText": impl.PutText, "GetText": impl.GetText, "CheckSum": impl.CheckSum,
	"NameOk": impl.NameOk, "DecText": impl.DecText, "ReadDec": impl.ReadDec, "Words": impl.Words,
	"ResOk": impl.ResOk, "Add": impl.Add, "Sub": impl.Sub, "Within": impl.Within, "Share": impl.Share, "Times": impl.Times,
	"Ratio": impl.Ratio, "LessRatio": impl.LessRatio, "ResText": impl.ResText, "ReadRes": impl.ReadRes,
	"QueuesOk": impl.QueuesOk, "ReadQueues": impl.ReadQueues, "QueuesText": impl.QueuesText, "Leaf": impl.Leaf, "Path": impl.Path,
	"DueOf": impl.DueOf, "MostOf": impl.MostOf,
	"StateOk": impl.StateOk, "StateNew": impl.StateNew, "Total": impl.Total, "UsedOn": impl.UsedOn, "FreeOn": impl.FreeOn,
	"UsedBy": impl.UsedBy, "Room": impl.Room, "Pending": impl.Pending, "AppOf": impl.AppOf,
	"QueueOrder": impl.QueueOrder, "Suits": impl.Suits, "NextGrant": impl.NextGrant, "Grant": impl.Grant, "Grants": impl.Grants, "Starving": impl.Starving,
	"Over": impl.Over, "Lack": impl.Lack, "Victims": impl.Victims, "TakeBack": impl.TakeBack, "Drop": impl.Drop, "Lose": impl.Lose,
	"Do": impl.Do, "OpText": impl.OpText,
	"PutRec": impl.PutRec, "GetRec": impl.GetRec, "Write": impl.Write, "Read": impl.Read, "Recover": impl.Recover, "RecText": impl.RecText,
	"ManagerNew": impl.ManagerNew, "ManagerOk": impl.ManagerOk, "ManagerDo": impl.ManagerDo, "ManagerSync": impl.ManagerSync,
	"ManagerCrash": impl.ManagerCrash, "Promised": impl.Promised,
	"ClusterNew": impl.ClusterNew, "ClusterDo": impl.ClusterDo, "Agrees": impl.Agrees, "Runs": impl.Runs, "ClusterText": impl.ClusterText,
	"ReadOp": impl.ReadOp, "Desk": impl.Desk,
}

func TestEveryFunctionIsThere(t *testing.T) {
	files, err := filepath.Glob("../impl/*.go")
	if err != nil || len(files) != 11 {
		t.Fatal(files, err)
	}
	var names []string
	for _, name := range files {
		file, err := parser.ParseFile(token.NewFileSet(), name, nil, 0)
		if err != nil {
			t.Fatal(err)
		}
		for _, d := range file.Decls {
			if f, ok := d.(*ast.FuncDecl); ok && f.Name.IsExported() && f.Recv == nil {
				names = append(names, f.Name.Name)
			}
		}
	}
	slices.Sort(names)
	if known := slices.Sorted(maps.Keys(everyFunction)); !slices.Equal(names, known) {
		t.Errorf("the program has %v, and the tests know %v", names, known)
	}
}

// likely tells values of what a function takes: right ones, some of which something is changed, and ones that are
// wrong altogether.
type likely struct {
	r *rand.Rand
}

func (l likely) number() int {
	return *one(l.r, []int{0, 0, 1, 2, 3, l.r.Intn(60), 1001, 1002, 100001, most - 1, most, *one(l.r, wrongNumbers), int(l.r.Uint64())})
}

func (l likely) text() string {
	names := append([]string{"", "r", "a", "b", "q1", "q2", "root", "m1", nodeName(l.r.Intn(4))}, wrongNames...)
	return *one(l.r, []string{
		*one(l.r, names), *one(l.r, names), anyText(l.r, 40), linesOf(flatTree(l.r)), someLog(l.r, leafTree(), 9),
		impl.OpText(*one(l.r, rightOps())), *one(l.r, wrongOps), "queues\nr - 10000 10000\nx r 1 1\n--\nagent m1 9x9\nhear 0\nsubmit x\nask 1001 1x1 3\nhear 0\nsync\nshow\norder\n",
		"1000000000x1", "7", "1000000001", impl.PutText("a text"), impl.PutNum(300), impl.PutRec(recApp(1001, "a")),
		strings.Repeat("x", 2000+l.r.Intn(2)),
	})
}

func (l likely) queues() []impl.Queue {
	return *one(l.r, [][]impl.Queue{flatTree(l.r), randomTree(l.r), leafTree(), spoilt(l.r, leafTree()), nil})
}

func (l likely) state() impl.State {
	s := *one(l.r, []impl.State{crowdedState(l.r), busyState(l.r), crowdedState(l.r)})
	if l.r.Intn(3) == 0 {
		return spoiltState(l.r, s)
	}
	return s
}

func (l likely) manager() impl.Manager {
	if l.r.Intn(3) == 0 {
		return spoiltManager(l.r, someManager(l.r))
	}
	return someManager(l.r)
}

func (l likely) cluster() impl.Cluster {
	if l.r.Intn(3) == 0 {
		return spoiltCluster(l.r, someCluster(l.r))
	}
	return someCluster(l.r)
}

// fitting are values for a function's arguments, of which those behind the first are of what stands in that.
func (l likely) fitting(takes []reflect.Type) []any {
	var values []any
	state := l.state()
	for _, kind := range takes {
		switch kind {
		case reflect.TypeFor[impl.State]():
			values = append(values, state)
		case reflect.TypeFor[impl.Manager]():
			m := l.manager()
			state = m.State
			values = append(values, m)
		case reflect.TypeFor[impl.Cluster]():
			c := l.cluster()
			state = c.Manager.State
			values = append(values, c)
		case reflect.TypeFor[impl.Op]():
			values = append(values, someOp(l.r, state))
		case reflect.TypeFor[impl.Event]():
			values = append(values, impl.Event{Kind: *one(l.r, append(eventKinds, l.number())), At: *one(l.r, []int{0, 1, l.number()}), Op: someOp(l.r, state)})
		case reflect.TypeFor[[]impl.Queue]():
			values = append(values, l.queues())
		case reflect.TypeFor[[]impl.Agent]():
			values = append(values, *one(l.r, [][]impl.Agent{manyAgents(l.r.Intn(22)), {agent("m1", 5, 5, cont(1, 2, "m1", 3, 4)), agent("m2", 1, 1)}, nil}))
		case reflect.TypeFor[impl.Rec]():
			values = append(values, someRec(l.r, state))
		case reflect.TypeFor[impl.Ask]():
			values = append(values, busyAsk(l.r))
		case reflect.TypeFor[impl.Res]():
			values = append(values, *one(l.r, []impl.Res{randomAmount(l.r), res(l.r.Intn(20), l.r.Intn(20)), res(l.number(), l.number())}))
		case reflect.TypeFor[[]int]():
			values = append(values, someIds(l.r, state))
		case reflect.TypeFor[int]():
			values = append(values, *one(l.r, []int{l.number(), someApp(l.r, state)}))
		case reflect.TypeFor[string]():
			values = append(values, *one(l.r, []string{l.text(), someName(l.r, namesIn(state))}))
		}
	}
	return values
}

// own is a copy that shares no memory, with something in the spare room behind each of its lists.
func own(v reflect.Value) reflect.Value {
	out := reflect.New(v.Type()).Elem()
	switch v.Kind() {
	case reflect.String:
		out.SetString(strings.Clone(v.String()))
	case reflect.Slice:
		list := reflect.MakeSlice(v.Type(), v.Len()+2, v.Len()+2)
		for i := range v.Len() {
			list.Index(i).Set(own(v.Index(i)))
		}
		if v.Len() > 0 {
			list.Index(v.Len()).Set(own(v.Index(0)))
		}
		out.Set(list.Slice(0, v.Len()))
	case reflect.Struct:
		for i := range v.NumField() {
			out.Field(i).Set(own(v.Field(i)))
		}
	default:
		out.Set(v)
	}
	return out
}

// wholly is a copy of all that there is, the spare room too.
func wholly(v reflect.Value) reflect.Value {
	out := reflect.New(v.Type()).Elem()
	switch v.Kind() {
	case reflect.String:
		out.SetString(strings.Clone(v.String()))
	case reflect.Slice:
		if v.IsNil() {
			return out
		}
		all := v.Slice(0, v.Cap())
		list := reflect.MakeSlice(v.Type(), v.Cap(), v.Cap())
		for i := range all.Len() {
			list.Index(i).Set(wholly(all.Index(i)))
		}
		out.Set(list)
	case reflect.Struct:
		for i := range v.NumField() {
			out.Field(i).Set(wholly(v.Field(i)))
		}
	default:
		out.Set(v)
	}
	return out
}

// span is a piece of memory that a list or a text has.
type span struct {
	from uintptr
	to   uintptr
	list bool
}

// spansOf adds all lists, with their spare room, and all texts of a value.
func spansOf(v reflect.Value, spans []span) []span {
	switch v.Kind() {
	case reflect.String:
		if from := uintptr(unsafe.Pointer(unsafe.StringData(v.String()))); v.Len() > 0 {
			spans = append(spans, span{from: from, to: from + uintptr(v.Len())})
		}
	case reflect.Slice:
		if size := uintptr(v.Cap()) * v.Type().Elem().Size(); size > 0 {
			spans = append(spans, span{from: v.Pointer(), to: v.Pointer() + size, list: true})
		}
		for i := range v.Len() {
			spans = spansOf(v.Index(i), spans)
		}
	case reflect.Struct:
		for i := range v.NumField() {
			spans = spansOf(v.Field(i), spans)
		}
	}
	return spans
}

func overlap(a span, b span) bool {
	return a.from < b.to && b.from < a.to
}

func spansOfAll(values []reflect.Value) []span {
	var spans []span
	for _, v := range values {
		spans = spansOf(v, spans)
	}
	return spans
}

func interfacesOf(values []reflect.Value) []any {
	var out []any
	for _, v := range values {
		out = append(out, v.Interface())
	}
	return out
}

func copiesOf(values []reflect.Value) []reflect.Value {
	var out []reflect.Value
	for _, v := range values {
		out = append(out, wholly(v))
	}
	return out
}

// checkPromise12 calls a function twice with the same arguments: nothing is written into these, what is answered is new
// memory, no two lists of it share any, and both answers are the same.
func checkPromise12(t *testing.T, name string, f reflect.Value, values []any) {
	t.Helper()
	var handed []reflect.Value
	for _, v := range values {
		handed = append(handed, own(reflect.ValueOf(v)))
	}
	defer func() {
		if bad := recover(); bad != nil {
			t.Fatalf("%s(%#v) panics: %v", name, values, bad)
		}
	}()
	before := copiesOf(handed)
	got := f.Call(handed)
	if !reflect.DeepEqual(interfacesOf(copiesOf(handed)), interfacesOf(before)) {
		t.Fatalf("%s(%#v) writes into what it is handed", name, values)
	}
	in, out := spansOfAll(handed), spansOfAll(got)
	for i, a := range out {
		if slices.ContainsFunc(in, func(b span) bool { return overlap(a, b) }) {
			t.Fatalf("%s(%#v): %#v shares memory with what it is handed", name, values, interfacesOf(got))
		}
		if a.list && slices.ContainsFunc(out[i+1:], func(b span) bool { return b.list && overlap(a, b) }) {
			t.Fatalf("%s(%#v): two lists of %#v share memory", name, values, interfacesOf(got))
		}
	}
	if again := f.Call(handed); !reflect.DeepEqual(interfacesOf(again), interfacesOf(got)) {
		t.Fatalf("%s(%#v): %#v, and then %#v", name, values, interfacesOf(got), interfacesOf(again))
	}
}

// Promise 12, of every function of all chapters.
func TestEveryFunctionAnswersAndWritesIntoNothing(t *testing.T) {
	for name, face := range everyFunction {
		l := likely{r: rand.New(rand.NewSource(90))}
		f := reflect.ValueOf(face)
		var takes []reflect.Type
		for i := range f.Type().NumIn() {
			takes = append(takes, f.Type().In(i))
		}
		for range 400 {
			values := l.fitting(takes)
			if len(values) != len(takes) {
				t.Fatalf("%s: no values for one of %v", name, takes)
			}
			checkPromise12(t, name, f, values)
		}
		var zero []any
		for _, kind := range takes {
			zero = append(zero, reflect.Zero(kind).Interface())
		}
		checkPromise12(t, name, f, zero)
	}
}
