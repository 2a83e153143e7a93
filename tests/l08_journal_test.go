package tests

import (
	"encoding/binary"
	"fmt"
	"hash/crc32"
	"math"
	"math/rand"
	"slices"
	"strings"
	"testing"
	"unsafe"

	"loop.example/g00275/impl"
)

// noRecKinds are none, among them those that have the one byte of a kind.
var noRecKinds = []int{-1, -2, -254, -255, -256, 3, 4, 127, 128, 255, 256, 257, 258, 259, 1 << 32, 1<<32 + 1, -most, most, math.MinInt, math.MinInt + 1, math.MaxInt - 1, math.MaxInt}

func recApp(id int, queue string) impl.Rec {
	return impl.Rec{Kind: impl.RecApp, App: id, Queue: queue}
}

func recDone(id int) impl.Rec {
	return impl.Rec{Kind: impl.RecDone, App: id}
}

func recEpoch() impl.Rec {
	return impl.Rec{Kind: impl.RecEpoch}
}

func isRec(r impl.Rec) bool {
	switch r.Kind {
	case 0:
		return isNumber(r.App, 1, 1000000000) && nameForm.MatchString(r.Queue)
	case 1:
		return isNumber(r.App, 1, 1000000000) && r.Queue == ""
	case 2:
		return r == impl.Rec{Kind: 2}
	}
	return false
}

func putRecByRule(r impl.Rec) string {
	if !isRec(r) {
		return ""
	}
	out := binary.AppendUvarint([]byte{byte(r.Kind)}, uint64(r.App))
	return string(append(append(out, byte(len(r.Queue))), r.Queue...))
}

// getRecByRule makes of the bytes what they may say at all, and asks whether that is written so.
func getRecByRule(s string) (impl.Rec, bool) {
	if s == "" {
		return impl.Rec{}, false
	}
	n, width := binary.Uvarint([]byte(s[1:]))
	if width <= 0 || 1+width >= len(s) {
		return impl.Rec{}, false
	}
	r := impl.Rec{Kind: int(s[0]), App: int(n), Queue: s[2+width:]}
	if !isRec(r) || putRecByRule(r) != s {
		return impl.Rec{}, false
	}
	return r, true
}

// entry is what stands in a log for a text, that of a record or not.
func entry(text string) string {
	out := binary.BigEndian.AppendUint32(nil, crc32.ChecksumIEEE([]byte(text)))
	return string(append(binary.AppendUvarint(out, uint64(len(text))), text...))
}

// logOf is a log of right records, by the rules.
func logOf(recs ...impl.Rec) string {
	var out strings.Builder
	for _, r := range recs {
		out.WriteString(entry(putRecByRule(r)))
	}
	return out.String()
}

func writeByRule(log string, r impl.Rec) (string, bool) {
	if longer := log + entry(putRecByRule(r)); isRec(r) && len(longer) <= 60000 {
		return longer, true
	}
	return log, false
}

func readByRule(log string) ([]impl.Rec, int) {
	var recs []impl.Rec
	end := 0
	for len(log) <= 60000 {
		// No record is longer than what one byte tells.
		rest := log[end:]
		if len(rest) < 5 || len(rest) < 5+int(rest[4]) {
			break
		}
		text := rest[5 : 5+int(rest[4])]
		r, ok := getRecByRule(text)
		if !ok || !strings.HasPrefix(rest, entry(text)) {
			break
		}
		recs = append(recs, r)
		end += len(entry(text))
	}
	return recs, end
}

func recoverByRule(q []impl.Queue, log string) (impl.State, bool) {
	if !isTree(q) {
		return impl.State{}, false
	}
	s := impl.State{Queues: q, Epoch: 1, Next: 1001, Serial: 1}
	recs, _ := readByRule(log)
	for _, r := range recs {
		switch {
		case r.Kind == 0 && slices.Contains(leavesOf(q), r.Queue) && r.App >= s.Next && r.App <= s.Epoch*1000+999 && len(s.Apps) < 40:
			s.Apps, s.Next = append(s.Apps, app(r.App, r.Queue)), r.App+1
		case r.Kind == 1:
			s.Apps = slices.DeleteFunc(s.Apps, func(a impl.App) bool { return a.Id == r.App })
		case r.Kind == 2 && s.Epoch < 900000:
			s.Epoch++
			s.Next = max(s.Next, s.Epoch*1000+1)
		}
	}
	return s, true
}

func recTextByRule(r impl.Rec) string {
	if !isRec(r) {
		return ""
	}
	return []string{fmt.Sprintf("app %d %s", r.App, r.Queue), fmt.Sprintf("done %d", r.App), "epoch"}[r.Kind]
}

// checkRec holds a record against the rules, and the first half of promise 8 of it: it comes back from its bytes.
func checkRec(t *testing.T, r impl.Rec) {
	t.Helper()
	put := impl.PutRec(r)
	if want := putRecByRule(r); put != want {
		t.Fatalf("PutRec(%+v): %q, want %q", r, put, want)
	}
	if got, want := impl.RecText(r), recTextByRule(r); got != want {
		t.Fatalf("RecText(%+v): %q, want %q", r, got, want)
	}
	back, ok := impl.GetRec(put)
	if isRec(r) && (back != r || !ok) || !isRec(r) && (back != (impl.Rec{}) || ok || put != "") {
		t.Fatalf("%+v comes back as %+v, %v", r, back, ok)
	}
	for _, log := range []string{"", "x", logOf(recEpoch())} {
		checkWrite(t, log, r)
	}
}

func checkGetRec(t *testing.T, s string) bool {
	t.Helper()
	got, ok := impl.GetRec(s)
	if want, wantOk := getRecByRule(s); got != want || ok != wantOk {
		t.Fatalf("GetRec(%q): %+v, %v, want %+v, %v", s, got, ok, want, wantOk)
	}
	return ok
}

func checkWrite(t *testing.T, log string, r impl.Rec) (string, bool) {
	t.Helper()
	got, ok := impl.Write(log, r)
	if want, wantOk := writeByRule(log, r); got != want || ok != wantOk {
		t.Fatalf("Write(%d bytes, %+v): %d bytes, %v, want %d bytes, %v", len(log), r, len(got), ok, len(want), wantOk)
	}
	return got, ok
}

func checkRead(t *testing.T, what string, log string) ([]impl.Rec, int) {
	t.Helper()
	got, end := impl.Read(log)
	if want, wantEnd := readByRule(log); !slices.Equal(got, want) || end != wantEnd {
		t.Fatalf("%s: Read(%d bytes): %+v, %d, want %+v, %d", what, len(log), got, end, want, wantEnd)
	}
	return got, end
}

// checkReads is checkRead where it is known what is told.
func checkReads(t *testing.T, what string, log string, end int, recs ...impl.Rec) {
	t.Helper()
	if got, gotEnd := checkRead(t, what, log); !slices.Equal(got, recs) || gotEnd != end {
		t.Fatalf("%s: %+v, %d, want %+v, %d", what, got, gotEnd, recs, end)
	}
}

// checkRecover holds a state against the rules, and the second half of promise 8 of it: it is right, and has nothing running.
func checkRecover(t *testing.T, what string, q []impl.Queue, log string) impl.State {
	t.Helper()
	got, ok := impl.Recover(q, log)
	if want, wantOk := recoverByRule(q, log); !sameState(got, want) || ok != wantOk {
		t.Fatalf("%s: Recover(%v, %q):\n%+v, %v, want\n%+v, %v", what, q, log, got, ok, want, wantOk)
	}
	if ok && !impl.StateOk(got) {
		t.Fatalf("%s: Recover(%v, %q): not right: %+v", what, q, log, got)
	}
	asks := slices.ContainsFunc(got.Apps, func(a impl.App) bool { return len(a.Asks) > 0 })
	if asks || len(got.Conts) > 0 || len(got.Machines) > 0 || got.Clock != 0 || ok && got.Serial != 1 {
		t.Fatalf("%s: Recover(%v, %q): something runs: %+v", what, q, log, got)
	}
	return got
}

func TestKindsOfRecords(t *testing.T) {
	if impl.RecApp != 0 || impl.RecDone != 1 || impl.RecEpoch != 2 || impl.MaxJournal != 60000 || impl.MaxEpoch != 900000 {
		t.Error(impl.RecApp, impl.RecDone, impl.RecEpoch, impl.MaxJournal, impl.MaxEpoch)
	}
}

func TestBytesOfRecords(t *testing.T) {
	for _, c := range []struct {
		r    impl.Rec
		put  string
		text string
	}{
		{recApp(1, "a"), "\x00\x01\x01a", "app 1 a"},
		{recApp(1001, "abcdefghij"), "\x00\xe9\x07\x0aabcdefghij", "app 1001 abcdefghij"},
		{recApp(most, "0"), "\x00\x80\x94\xeb\xdc\x03\x010", "app 1000000000 0"},
		{recDone(1), "\x01\x01\x00", "done 1"},
		{recDone(128), "\x01\x80\x01\x00", "done 128"},
		{recDone(most), "\x01\x80\x94\xeb\xdc\x03\x00", "done 1000000000"},
		{recEpoch(), "\x02\x00\x00", "epoch"},
	} {
		checkRec(t, c.r)
		if got := impl.PutRec(c.r); got != c.put {
			t.Errorf("PutRec(%+v): %q", c.r, got)
		}
		if got := impl.RecText(c.r); got != c.text {
			t.Errorf("RecText(%+v): %q", c.r, got)
		}
		if got, ok := impl.GetRec(c.put); got != c.r || !ok {
			t.Errorf("GetRec(%q): %+v, %v", c.put, got, ok)
		}
	}
}

// Each kind goes with each number and each text; what it has not has to be zero.
func TestWhatIsARecord(t *testing.T) {
	numbers := append([]int{0, 1, 2, 127, 128, 999, 1000, 1001, most - 1, most, maxPut, maxPut + 1}, wrongNumbers...)
	names := append([]string{"", "a", "z9", "root", "abcdefghij"}, wrongNames...)
	right := 0
	for _, kind := range append([]int{impl.RecApp, impl.RecDone, impl.RecEpoch}, noRecKinds...) {
		for _, n := range numbers {
			for _, name := range names {
				r := impl.Rec{Kind: kind, App: n, Queue: name}
				checkRec(t, r)
				if impl.PutRec(r) != "" {
					right++
				}
			}
		}
	}
	// Of a RecApp nine numbers with four names, of a RecDone nine, of a RecEpoch one.
	if right != 9*4+9+1 {
		t.Errorf("%d records", right)
	}
	for _, r := range []impl.Rec{
		{}, recApp(0, "a"), recApp(most+1, "a"), recApp(-1, "a"), recApp(1, ""), recApp(1, "A"), recApp(1, "abcdefghijk"),
		recDone(0), recDone(most + 1), recDone(math.MinInt), {Kind: impl.RecDone, App: 1, Queue: "a"},
		{Kind: impl.RecEpoch, App: 1}, {Kind: impl.RecEpoch, Queue: "a"}, {Kind: impl.RecEpoch, App: 1, Queue: "a"}, {Kind: 3}, {Kind: -1},
	} {
		if put, text := impl.PutRec(r), impl.RecText(r); put != "" || text != "" {
			t.Errorf("%+v is none: %q, %q", r, put, text)
		}
	}
}

// What GetRec takes is just what PutRec writes: no record has two forms.
func TestRecordHasOneForm(t *testing.T) {
	for _, r := range []impl.Rec{recApp(1, "a"), recApp(300, "zz9"), recApp(most, "abcdefghij"), recDone(1), recDone(127), recDone(most), recEpoch()} {
		put := impl.PutRec(r)
		for c := range 256 {
			more := string([]byte{byte(c)})
			if checkGetRec(t, put+more) || checkGetRec(t, more+put) {
				t.Errorf("%q with %q", put, more)
			}
			for i := range len(put) {
				checkGetRec(t, put[:i]+more+put[i+1:])
				checkGetRec(t, put[:i]+more+put[i:])
			}
		}
		for i := range len(put) {
			checkGetRec(t, put[:i]+put[i+1:])
			if checkGetRec(t, put[:i]) || i > 0 && checkGetRec(t, put[i:]) {
				t.Errorf("a part of %q", put)
			}
		}
	}
}

func TestNoRecords(t *testing.T) {
	long := strings.Repeat("a", 2000)
	for _, s := range []string{
		"", "\x00", "\x01", "\x02", "\x00\x01", "\x01\x01", "\x02\x00",
		"\x00\x81\x00\x01a", "\x01\x81\x00\x00", "\x02\x80\x00\x00", "\x02\x00\x80\x00", "\x00\x01\x81\x00a", "\x01\xe9\x87\x00\x00", // bytes more than are needed
		"\x00\x00\x01a", "\x01\x00\x00", // App 0
		"\x00\x81\x94\xeb\xdc\x03\x01a", "\x01\x81\x94\xeb\xdc\x03\x00", // one more than MaxNumber
		"\x01\x80\xd0\xac\xf3\x0e\x00", "\x01\x81\xd0\xac\xf3\x0e\x00", "\x01\x81\x80\x80\x80\x10\x00", // what PutNum takes, more, and what would wrap round
		"\x00\x01\x00", "\x00\x01\x01A", "\x00\x01\x0babcdefghijk", "\x00\x01\x02a", "\x00\x01\x01ab", "\x00\x01" + impl.PutText(long), "\x00\x01" + impl.PutNum(2001) + long + "a",
		"\x01\x01\x01a", "\x02\x01\x00", "\x02\x00\x01a", // what a kind has not
		"\x03\x00\x00", "\x03\x01\x00", "\x03\x01\x01a", "\xff\x00\x00", "\x80\x01\x01a", "\x80\x00\x00\x00",
		"\x02\x00\x00\x00", "\x01\x01\x00\x00", "\x00\x01\x01a\x00", "\x02\x00\x00\x02\x00\x00",
	} {
		if checkGetRec(t, s) {
			t.Errorf("%q is no record", s)
		}
	}
}

func TestWrite(t *testing.T) {
	first, ok := checkWrite(t, "", recApp(1001, "a"))
	// The sum of its bytes, the highest first, and these with how many they are.
	if sum := crc32.ChecksumIEEE([]byte("\x00\xe9\x07\x01a")); !ok || first != string([]byte{byte(sum >> 24), byte(sum >> 16), byte(sum >> 8), byte(sum)})+"\x05\x00\xe9\x07\x01a" {
		t.Errorf("%q", first)
	}
	if epoch, _ := checkWrite(t, "", recEpoch()); epoch != "\xfc\xc5\x0d\x7c\x03\x02\x00\x00" {
		t.Errorf("%q", epoch)
	}
	second, ok := checkWrite(t, first, recDone(1001))
	if !ok || !strings.HasPrefix(second, first) || len(second) != len(first)+4+1+4 {
		t.Errorf("%q", second)
	}
	// What stands in a log isn't asked for.
	for _, log := range []string{"x", "\x00", allBytes(), first[:3], second[:len(second)-1]} {
		if got, ok := checkWrite(t, log, recEpoch()); !ok || got != log+logOf(recEpoch()) {
			t.Errorf("behind %q: %q", log, got)
		}
	}
	for _, kind := range noRecKinds {
		for _, log := range []string{"", first, "x", strings.Repeat("x", impl.MaxJournal), strings.Repeat("x", impl.MaxJournal+1)} {
			if got, ok := checkWrite(t, log, impl.Rec{Kind: kind}); ok || got != log {
				t.Errorf("kind %d behind %d bytes", kind, len(log))
			}
		}
	}
}

func TestWriteAtMaxJournal(t *testing.T) {
	for _, r := range []impl.Rec{recEpoch(), recDone(1), recDone(most), recApp(1, "a"), recApp(most, "abcdefghij")} {
		room := impl.MaxJournal - len(logOf(r))
		for _, n := range []int{0, 1, room - 1, room, room + 1, room + 2, impl.MaxJournal - 1, impl.MaxJournal, impl.MaxJournal + 1, 3 * impl.MaxJournal} {
			log := strings.Repeat("x", n)
			got, ok := checkWrite(t, log, r)
			if ok != (n <= room) || ok && len(got) > impl.MaxJournal || !ok && got != log {
				t.Errorf("%+v behind %d bytes: %d bytes, %v", r, n, len(got), ok)
			}
		}
	}
}

// A log fills up to just MaxJournal bytes, is read whole, and what comes then is refused.
func TestAFullLog(t *testing.T) {
	log, n := "", 0
	for n < 8000 {
		longer, ok := impl.Write(log, recEpoch())
		if !ok {
			break
		}
		log = longer
		n++
	}
	if len(log) != impl.MaxJournal || n != 7500 {
		t.Fatalf("%d records, %d bytes", n, len(log))
	}
	recs, end := checkRead(t, "full", log)
	if len(recs) != n || end != len(log) {
		t.Errorf("%d records, %d", len(recs), end)
	}
	if s := checkRecover(t, "full", sampleTree(), log); s.Epoch != 7501 || s.Next != 7501001 {
		t.Errorf("%+v", s)
	}
	checkReads(t, "one byte more", log+"\x00", 0)
	checkReads(t, "one record more", log+logOf(recEpoch()), 0)
	checkReads(t, "far more", strings.Repeat(log, 20), 0)
	if s := checkRecover(t, "one byte more", sampleTree(), log+"\x00"); s.Epoch != 1 || s.Next != 1001 {
		t.Errorf("%+v", s)
	}
	recs, end = checkRead(t, "one byte less", log[:len(log)-1])
	if len(recs) != n-1 || end != len(log)-8 {
		t.Errorf("%d records, %d", len(recs), end)
	}
	short := logOf(recApp(1001, "a"))
	checkReads(t, "up to MaxJournal", short+strings.Repeat("\x00", impl.MaxJournal-len(short)), len(short), recApp(1001, "a"))
	checkReads(t, "beyond MaxJournal", short+strings.Repeat("\x00", impl.MaxJournal-len(short)+1), 0)
}

func TestRead(t *testing.T) {
	recs := []impl.Rec{recApp(1001, "a"), recEpoch(), recDone(1001), recApp(most, "abcdefghij"), recDone(7), recEpoch(), recApp(1, "b")}
	checkReads(t, "nothing", "", 0)
	log := ""
	for i, r := range recs {
		begin := len(log)
		log, _ = impl.Write(log, r)
		checkReads(t, "whole", log, len(log), recs[:i+1]...)
		for cut := begin; cut < len(log); cut++ {
			checkReads(t, "cut off", log[:cut], begin, recs[:i]...)
			if cut > begin {
				checkReads(t, "cut off, and others behind", log[:cut]+logOf(recEpoch()), begin, recs[:i]...)
			}
		}
		for _, more := range []string{"\x00", "\xff", "xyz", "\x00\x00\x00\x00", "\x00\x00\x00\x00\x00", strings.Repeat("\x00", 100)} {
			checkReads(t, "more behind", log+more, len(log), recs[:i+1]...)
		}
	}
	// Any byte that is changed ends what is told ahead of its record.
	at := 0
	for i, r := range recs {
		end := at + len(logOf(r))
		for ; at < end; at++ {
			for _, bit := range []byte{1, 2, 128, 255} {
				changed := []byte(log)
				changed[at] ^= bit
				checkReads(t, "a byte changed", string(changed), len(logOf(recs[:i]...)), recs[:i]...)
			}
		}
	}
}

// What has a right sum has to be a record, too.
func TestReadOfWhatIsNoRecord(t *testing.T) {
	ahead, last := []impl.Rec{recApp(1001, "a"), recDone(1001)}, recEpoch()
	for _, text := range []string{
		"", "\x00", "\x03\x00\x00", "\x02\x00", "\x02\x00\x00\x00", "\x02\x01\x00", "\x02\x80\x00\x00", "\x01\x00\x00", "\x01\x01\x01a", "\x00\x01\x00", "\x00\x00\x01a", "\x00\x01\x01A",
		"\x01\x81\x94\xeb\xdc\x03\x00", "\x00\x01\x0babcdefghijk", "epoch", strings.Repeat("\x02", 127), strings.Repeat("\x02", 128), strings.Repeat("\x02", 2000), logOf(recEpoch()),
	} {
		log := logOf(ahead...) + entry(text)
		checkReads(t, "at the end", log, len(logOf(ahead...)), ahead...)
		checkReads(t, "in the midst", log+logOf(last), len(logOf(ahead...)), ahead...)
		checkReads(t, "at the beginning", entry(text)+log, 0)
	}
	text := putRecByRule(last)
	sum := entry(text)[:4]
	for what, wrong := range map[string]string{
		"no sum":                       "\x00\x00\x00\x00\x03" + text,
		"the lowest byte first":        string([]byte{sum[3], sum[2], sum[1], sum[0]}) + "\x03" + text,
		"the sum behind it":            "\x03" + text + sum,
		"the sum of what it is put as": entry("\x03" + text)[:4] + "\x03" + text,
		"bytes more than are needed":   sum + "\x83\x00" + text,
		"no number ahead of it":        sum + text,
		"a number too small":           sum + "\x02" + text,
		"a number too great":           sum + "\x04" + text + "\x00",
		"a number beyond all":          sum + "\xff\xff\xff\xff\x0e" + text,
		"more than 2000 bytes":         entry(strings.Repeat("a", 2001)),
	} {
		checkReads(t, what, wrong, 0)
		checkReads(t, what+", in the midst", logOf(ahead...)+wrong+logOf(last), len(logOf(ahead...)), ahead...)
	}
}

// leafTree has the leaves a, b1 and b2.
func leafTree() []impl.Queue {
	return under(queue("a", "r", 5000, 6000), queue("b", "r", 5000, top), queue("b1", "b", 5000, top), queue("b2", "b", 5000, 5000))
}

// checkRecovered is checkRecover where it is known what is told.
func checkRecovered(t *testing.T, what string, recs []impl.Rec, epoch int, next int, apps ...impl.App) {
	t.Helper()
	got := checkRecover(t, what, leafTree(), logOf(recs...))
	want := impl.State{Queues: leafTree(), Epoch: epoch, Next: next, Serial: 1, Apps: apps}
	if !sameState(got, want) {
		t.Errorf("%s: %+v, want %+v", what, got, want)
	}
}

func TestRecoverOfApplications(t *testing.T) {
	checkRecovered(t, "nothing", nil, 1, 1001)
	checkRecovered(t, "Next", []impl.Rec{recApp(1001, "a")}, 1, 1002, app(1001, "a"))
	checkRecovered(t, "one more than Next", []impl.Rec{recApp(1002, "b1")}, 1, 1003, app(1002, "b1"))
	checkRecovered(t, "one below Next", []impl.Rec{recApp(1000, "a")}, 1, 1001)
	checkRecovered(t, "the least", []impl.Rec{recApp(1, "a")}, 1, 1001)
	checkRecovered(t, "the last of the epoch", []impl.Rec{recApp(1999, "b2")}, 1, 2000, app(1999, "b2"))
	checkRecovered(t, "one more than it", []impl.Rec{recApp(2000, "b2")}, 1, 1001)
	checkRecovered(t, "behind it", []impl.Rec{recApp(1999, "a"), recApp(2000, "a"), recApp(2001, "a")}, 1, 2000, app(1999, "a"))
	checkRecovered(t, "the greatest", []impl.Rec{recApp(most, "a")}, 1, 1001)
	checkRecovered(t, "a second time", []impl.Rec{recApp(1001, "a"), recApp(1001, "b1")}, 1, 1002, app(1001, "a"))
	checkRecovered(t, "not in order", []impl.Rec{recApp(1005, "a"), recApp(1004, "a"), recApp(1006, "b2"), recApp(1005, "b2")}, 1, 1007, app(1005, "a"), app(1006, "b2"))
	for _, name := range []string{"r", "b", "c", "b11", "1001", "abcdefghij"} {
		checkRecovered(t, "no leaf", []impl.Rec{recApp(1003, name), recApp(1001, "a")}, 1, 1002, app(1001, "a"))
	}
	// What is passed over leaves Next as it is.
	checkRecovered(t, "passed over", []impl.Rec{recApp(1000, "a"), recApp(2000, "a"), recApp(1500, "b"), recApp(1002, "b1")}, 1, 1003, app(1002, "b1"))
}

func TestRecoverOfWhatIsDone(t *testing.T) {
	three := []impl.Rec{recApp(1001, "a"), recApp(1002, "b1"), recApp(1004, "a")}
	done := func(ids ...int) []impl.Rec {
		recs := slices.Clone(three)
		for _, id := range ids {
			recs = append(recs, recDone(id))
		}
		return recs
	}
	checkRecovered(t, "the first", done(1001), 1, 1005, app(1002, "b1"), app(1004, "a"))
	checkRecovered(t, "the second", done(1002), 1, 1005, app(1001, "a"), app(1004, "a"))
	checkRecovered(t, "the last", done(1004), 1, 1005, app(1001, "a"), app(1002, "b1"))
	checkRecovered(t, "all", done(1004, 1001, 1002), 1, 1005)
	checkRecovered(t, "a second time", done(1001, 1001), 1, 1005, app(1002, "b1"), app(1004, "a"))
	checkRecovered(t, "not there", done(1, 1000, 1003, 1005, most), 1, 1005, app(1001, "a"), app(1002, "b1"), app(1004, "a"))
	checkRecovered(t, "of none at all", []impl.Rec{recDone(1001)}, 1, 1001)
	checkRecovered(t, "ahead of it", []impl.Rec{recDone(1001), recApp(1001, "a")}, 1, 1002, app(1001, "a"))
	// A number that is done does not come again.
	checkRecovered(t, "again behind it", []impl.Rec{recApp(1001, "a"), recDone(1001), recApp(1001, "a")}, 1, 1002)
	checkRecovered(t, "another behind it", []impl.Rec{recApp(1001, "a"), recDone(1001), recApp(1002, "a")}, 1, 1003, app(1002, "a"))
	checkRecovered(t, "in another epoch", append(done(), recEpoch(), recDone(1002), recApp(2001, "b2")), 2, 2002, app(1001, "a"), app(1004, "a"), app(2001, "b2"))
}

// An epoch makes numbers go on behind all that the one ahead of it may have given.
func TestRecoverOfEpochs(t *testing.T) {
	checkRecovered(t, "one", []impl.Rec{recEpoch()}, 2, 2001)
	checkRecovered(t, "three", []impl.Rec{recEpoch(), recEpoch(), recEpoch()}, 4, 4001)
	checkRecovered(t, "behind some", []impl.Rec{recApp(1001, "a"), recEpoch()}, 2, 2001, app(1001, "a"))
	// Next is 2000 at most here, as far as applications go: always below what the epoch begins with.
	checkRecovered(t, "behind the last", []impl.Rec{recApp(1999, "a"), recEpoch()}, 2, 2001, app(1999, "a"))
	checkRecovered(t, "the first of it", []impl.Rec{recEpoch(), recApp(2001, "a")}, 2, 2002, app(2001, "a"))
	checkRecovered(t, "the last of it", []impl.Rec{recEpoch(), recApp(2999, "a")}, 2, 3000, app(2999, "a"))
	checkRecovered(t, "one more", []impl.Rec{recEpoch(), recApp(3000, "a")}, 2, 2001)
	checkRecovered(t, "one less", []impl.Rec{recEpoch(), recApp(2000, "a")}, 2, 2001)
	checkRecovered(t, "of the one ahead", []impl.Rec{recEpoch(), recApp(1001, "a"), recApp(1999, "a")}, 2, 2001)
	checkRecovered(t, "of the next", []impl.Rec{recApp(2001, "a"), recEpoch(), recApp(2002, "a")}, 2, 2003, app(2002, "a"))
	checkRecovered(t, "both ends of two", []impl.Rec{recApp(1999, "a"), recEpoch(), recApp(2001, "b1"), recApp(2999, "b2"), recApp(3000, "a"), recEpoch(), recApp(3000, "a"), recApp(3001, "a")},
		3, 3002, app(1999, "a"), app(2001, "b1"), app(2999, "b2"), app(3001, "a"))
}

// The greatest epoch of a log: no log is long enough for MaxEpoch of them.
func TestRecoverOfAsManyEpochsAsALogHas(t *testing.T) {
	epochs := strings.Repeat(logOf(recEpoch()), 7496)
	for _, c := range []struct {
		id    int
		taken bool
	}{{1001, false}, {7496999, false}, {7497000, false}, {7497001, true}, {7497999, true}, {7498000, false}, {most, false}} {
		got := checkRecover(t, "many epochs", leafTree(), epochs+logOf(recApp(c.id, "b1")))
		want := impl.State{Queues: leafTree(), Epoch: 7497, Next: 7497001, Serial: 1}
		if c.taken {
			want.Apps, want.Next = []impl.App{app(c.id, "b1")}, c.id+1
		}
		if !sameState(got, want) {
			t.Errorf("%d: %+v", c.id, got)
		}
	}
}

func TestRecoverAtMaxApps(t *testing.T) {
	var recs []impl.Rec
	var apps []impl.App
	for i := range impl.MaxApps {
		recs, apps = append(recs, recApp(1001+i, "a")), append(apps, app(1001+i, "a"))
	}
	checkRecovered(t, "one fewer", recs[:39], 1, 1040, apps[:39]...)
	checkRecovered(t, "MaxApps", recs, 1, 1041, apps...)
	recs = append(recs, recApp(1500, "a"))
	checkRecovered(t, "one more", recs, 1, 1041, apps...)
	recs = append(recs, recDone(1003), recApp(1041, "b1"))
	apps = append(slices.Delete(apps, 2, 3), app(1041, "b1"))
	checkRecovered(t, "one that is done", recs, 1, 1042, apps...)
	recs = append(recs, recEpoch(), recApp(2001, "b1"))
	checkRecovered(t, "in another epoch", recs, 2, 2001, apps...)
}

func TestRecoverOfALogThatIsCutOff(t *testing.T) {
	recs := []impl.Rec{recApp(1001, "a"), recApp(1002, "b1"), recDone(1001), recEpoch(), recApp(2001, "b2"), recDone(1002), recEpoch()}
	log := logOf(recs...)
	at := 0
	for i, r := range recs {
		want := checkRecover(t, "whole", leafTree(), logOf(recs[:i]...))
		for end := at + len(logOf(r)); at < end; at++ {
			if got := checkRecover(t, "cut off", leafTree(), log[:at]); !sameState(got, want) {
				t.Errorf("cut off at %d: %+v, want %+v", at, got, want)
			}
			changed := []byte(log)
			changed[at] ^= 1
			if got := checkRecover(t, "a byte changed", leafTree(), string(changed)); !sameState(got, want) {
				t.Errorf("changed at %d: %+v, want %+v", at, got, want)
			}
		}
	}
}

func TestRecoverOfTrees(t *testing.T) {
	var recs []impl.Rec
	for i, name := range []string{"r", "root", "a", "b", "b1", "b2", "b11", "c", "q0", "q1", "q2", "q18", "q19", "q20"} {
		recs = append(recs, recApp(1001+i, name))
	}
	log := logOf(recs...)
	apps := 0
	for what, q := range rightTrees() {
		for _, log := range []string{"", log, log + "x", "x" + log, strings.Repeat("x", impl.MaxJournal+1)} {
			apps += len(checkRecover(t, what, q, log).Apps)
		}
	}
	if apps < 20 {
		t.Errorf("%d applications", apps)
	}
	for what, q := range wrongTrees() {
		for _, log := range []string{"", log, "x"} {
			if s, ok := impl.Recover(q, log); ok || !sameState(s, impl.State{}) {
				t.Errorf("%s: %+v, %v", what, s, ok)
			}
			checkRecover(t, what, q, log)
		}
	}
}

// someRec is a record of which most have something to do behind a log, or nearly so.
func someRec(r *rand.Rand, s impl.State) impl.Rec {
	switch r.Intn(12) {
	case 0:
		return recEpoch()
	case 1:
		return recDone(*one(r, []int{1, 1000, s.Next, s.Next + 1, most}))
	case 2, 3:
		if len(s.Apps) > 0 {
			return recDone(one(r, s.Apps).Id)
		}
	}
	id := *one(r, []int{s.Next, s.Next, s.Next, s.Next + r.Intn(300), s.Next - 1, s.Epoch*1000 + 999, s.Epoch*1000 + 1000, 1, most})
	return recApp(id, *one(r, append(leavesOf(s.Queues), leavesOf(s.Queues)[0], "r", "q1", "zz")))
}

// someLog is a log for a tree of queues, of which now and then something is spoilt.
func someLog(r *rand.Rand, q []impl.Queue, records int) string {
	log := ""
	for range records {
		s, _ := recoverByRule(q, log)
		log += logOf(someRec(r, s))
	}
	switch r.Intn(8) {
	case 0:
		log = log[:r.Intn(len(log)+1)]
	case 1:
		if len(log) > 0 {
			changed := []byte(log)
			*one(r, changed) ^= 1 << r.Intn(8)
			log = string(changed)
		}
	case 2:
		log += entry(anyText(r, 20)) + logOf(recEpoch())
	case 3:
		log += anyText(r, 30)
	}
	return log
}

func anyText(r *rand.Rand, most int) string {
	b := make([]byte, r.Intn(most))
	r.Read(b)
	return string(b)
}

func TestJournalsByTheRules(t *testing.T) {
	r := rand.New(rand.NewSource(50))
	epochs, apps, whole := 0, 0, 0
	for range 4000 {
		q := *one(r, [][]impl.Queue{flatTree(r), leafTree(), randomTree(r)})
		log := someLog(r, q, r.Intn(30))
		_, end := checkRead(t, "", log)
		s := checkRecover(t, "", q, log)
		epochs += s.Epoch - 1
		apps += len(s.Apps)
		if end == len(log) {
			whole++
		}
		checkRecover(t, "spoilt", spoilt(r, q), log)
		for range 3 {
			checkWrite(t, log, someRec(r, s))
		}
	}
	if epochs < 1000 || apps < 4000 || whole < 1000 || whole > 3500 {
		t.Errorf("%d epochs, %d applications, %d whole", epochs, apps, whole)
	}
}

// What is written behind what is told comes next.
func TestWrittenIsRead(t *testing.T) {
	r := rand.New(rand.NewSource(51))
	for range 500 {
		log := someLog(r, leafTree(), r.Intn(20))
		recs, end := impl.Read(log)
		rec := someRec(r, impl.State{Queues: leafTree(), Epoch: 1, Next: 1001})
		longer, ok := impl.Write(log[:end], rec)
		if !ok {
			t.Fatalf("%+v is refused", rec)
		}
		checkReads(t, "one more", longer, len(longer), append(slices.Clone(recs), rec)...)
	}
}

// What events made, and was written down, is what is recovered.
func TestWhatWasTakenOnIsRecovered(t *testing.T) {
	r := rand.New(rand.NewSource(52))
	most := 0
	for range 200 {
		s, _ := impl.StateNew(flatTree(r))
		log := ""
		for range 60 {
			op := someOp(r, s)
			if r.Intn(2) == 0 {
				op = submit(someName(r, leavesOf(s.Queues)))
			}
			next, reply := impl.Do(s, op)
			if reply.Code == impl.Good && op.Kind == impl.OpSubmit {
				log, _ = impl.Write(log, recApp(reply.App, op.Queue))
			}
			if reply.Code == impl.Good && op.Kind == impl.OpFinish {
				log, _ = impl.Write(log, recDone(op.App))
			}
			s = next
		}
		got := checkRecover(t, "", s.Queues, log)
		want := impl.State{Queues: s.Queues, Epoch: s.Epoch, Next: s.Next, Serial: 1}
		for _, a := range s.Apps {
			want.Apps = append(want.Apps, app(a.Id, a.Queue))
		}
		if !sameState(got, want) {
			t.Fatalf("%+v, want %+v", got, want)
		}
		most = max(most, len(got.Apps))
	}
	if most < 10 {
		t.Errorf("%d applications at most", most)
	}
}

// inside tells whether a text, or its beginning, is memory of another one.
func inside(part string, whole string) bool {
	if part == "" || whole == "" {
		return false
	}
	at, begin := uintptr(unsafe.Pointer(unsafe.StringData(part))), uintptr(unsafe.Pointer(unsafe.StringData(whole)))
	return at >= begin && at < begin+uintptr(len(whole))
}

func TestJournalsHandBackNewTexts(t *testing.T) {
	r := rand.New(rand.NewSource(53))
	for range 500 {
		q := randomTree(r)
		log := someLog(r, q, 10)
		recs, _ := impl.Read(log)
		for _, rec := range recs {
			put := impl.PutRec(rec)
			back, _ := impl.GetRec(put)
			if inside(rec.Queue, log) || inside(back.Queue, put) || inside(rec.Queue, put) {
				t.Fatalf("a queue of %+v is memory of what was handed in", rec)
			}
			if text := impl.RecText(rec); inside(rec.Queue, text) {
				t.Fatalf("%q has the memory of its queue", text)
			}
		}
		s, _ := impl.Recover(q, log)
		for _, text := range textsOf(s) {
			if inside(text, log) {
				t.Fatalf("%q is memory of the log", text)
			}
		}
		if shareText(textsOf(s), textsOf(impl.State{Queues: q})) {
			t.Fatal("the state has texts of the queues that were handed in")
		}
		for _, rec := range []impl.Rec{recEpoch(), recApp(1001, "a"), {}, {Kind: 3}} {
			if got, _ := impl.Write(log, rec); inside(got, log) {
				t.Fatalf("a log is what was handed in: %+v", rec)
			}
		}
	}
	full := strings.Repeat("x", impl.MaxJournal)
	if got, ok := impl.Write(full, recEpoch()); ok || inside(got, full) {
		t.Error("a full log is what was handed in")
	}
}

func TestJournalsWriteIntoNothing(t *testing.T) {
	r := rand.New(rand.NewSource(54))
	trees := wrongTrees()
	for what, q := range rightTrees() {
		trees[what] = q
	}
	for what, q := range trees {
		room := append(slices.Clone(q), queue("spare", "room", 7, 8), queue("behind", "it", -1, 9))
		before := slices.Clone(room)
		log := someLog(r, leafTree(), 20)
		kept := strings.Clone(log)
		s, ok := impl.Recover(room[:len(q)], log)
		overwrite(s)
		_ = append(s.Queues, queue("more", "of", 1, 1))
		if !slices.Equal(room, before) || log != kept {
			t.Errorf("%s: written into", what)
		}
		if !ok {
			continue
		}
		again, _ := impl.Recover(room[:len(q)], log)
		want := deepCopy(again)
		for i := range room {
			room[i] = queue("x", "y", 0, 0)
		}
		if !sameState(again, want) {
			t.Errorf("%s: what was answered is what was handed in", what)
		}
	}
}

func TestJournalsKeepNothing(t *testing.T) {
	r := rand.New(rand.NewSource(55))
	for range 200 {
		log, other := someLog(r, leafTree(), 15), someLog(r, leafTree(), 15)
		first, end := impl.Read(log)
		kept := slices.Clone(first)
		for i := range first {
			first[i] = impl.Rec{Kind: -1, App: -1, Queue: "x"}
		}
		_ = append(first, recEpoch())
		s, _ := impl.Recover(leafTree(), log)
		want := deepCopy(s)
		overwrite(s)
		impl.Read(other)
		impl.Recover(leafTree(), other)
		impl.Write(other, recEpoch())
		again, endAgain := impl.Read(log)
		if !slices.Equal(again, kept) || end != endAgain {
			t.Fatalf("another answer at the second time: %q", log)
		}
		if s, _ := impl.Recover(leafTree(), log); !sameState(s, want) {
			t.Fatalf("another state at the second time: %q", log)
		}
	}
}

func TestJournalsAnswerAtAnyArguments(t *testing.T) {
	r := rand.New(rand.NewSource(56))
	numbers := append([]int{0, 1, 2, 3, 1000, 1001, most - 1, most}, wrongNumbers...)
	names := append([]string{"", "r", "a", "b1"}, wrongNames...)
	for range 20000 {
		text := anyText(r, 40)
		checkGetRec(t, text)
		checkRead(t, "any", text)
		// Small bytes come nearer to what is right.
		small := []byte(anyText(r, 8))
		for i := range small {
			small[i] = "\x00\x01\x02\x03a\x80"[int(small[i])%6]
		}
		checkGetRec(t, string(small))
		log := entry(string(small)) + text
		checkRead(t, "any", log)
		checkRecover(t, "any", leafTree(), log)
		rec := impl.Rec{Kind: *one(r, append([]int{0, 1, 2}, *one(r, numbers), int(r.Uint64()))), App: *one(r, append(numbers, int(r.Uint64()))), Queue: *one(r, append(names, text))}
		checkRec(t, rec)
		checkWrite(t, text, rec)
	}
	for _, n := range []int{impl.MaxJournal - 1, impl.MaxJournal, impl.MaxJournal + 1, 10 * impl.MaxJournal} {
		for _, c := range []string{"\x00", "\x01", "\x80", "\xff"} {
			text := strings.Repeat(c, n)
			checkGetRec(t, text)
			checkRead(t, "long", text)
			checkRecover(t, "long", leafTree(), text)
		}
	}
}
