package tests

import (
	"math"
	"math/big"
	"math/rand"
	"strconv"
	"strings"
	"sync"
	"testing"

	"loop.example/g00275/impl"
)

const most = impl.MaxNumber

var rightParts = []int{0, 1, 2, 3, 7, 9999, 10000, 10001, most / 2, most/2 + 1, most - 1, most}

var wrongParts = []int{-1, -2, -most, most + 1, 2 * most, 1 << 32, 1<<32 + 1, math.MinInt, math.MinInt + 1, math.MaxInt - 1, math.MaxInt}

func res(mem int, cpu int) impl.Res {
	return impl.Res{Mem: mem, Cpu: cpu}
}

func rightAmounts() []impl.Res {
	var out []impl.Res
	for _, mem := range rightParts {
		for _, cpu := range rightParts {
			out = append(out, res(mem, cpu))
		}
	}
	return out
}

// wrongAmounts: each wrong number as Mem alone, as Cpu alone, and as both.
func wrongAmounts() []impl.Res {
	var out []impl.Res
	for _, n := range wrongParts {
		out = append(out, res(n, 0), res(n, 5), res(n, most), res(0, n), res(5, n), res(most, n), res(n, n))
	}
	return append(out, res(math.MinInt, math.MaxInt), res(math.MaxInt, math.MinInt), res(-1, most+1), res(most+1, -1))
}

func amountsBesideEdges() []impl.Res {
	return []impl.Res{{}, res(0, 1), res(1, 0), res(1, 1), res(2, 3), res(10, 4), res(0, most), res(most, 0), res(most-1, most), res(most, most-1), res(most, most)}
}

// randomAmount is small as often as great, so that there are noughts and fractions alike among them.
func randomAmount(r *rand.Rand) impl.Res {
	if r.Intn(2) == 0 {
		return res(r.Intn(4), r.Intn(4))
	}
	return res(r.Intn(most+1)>>r.Intn(31), r.Intn(most+1)>>r.Intn(31))
}

func TestAmounts(t *testing.T) {
	for _, r := range rightAmounts() {
		if !impl.ResOk(r) {
			t.Errorf("%v is an amount", r)
		}
	}
	for _, r := range wrongAmounts() {
		if impl.ResOk(r) {
			t.Errorf("%v is no amount", r)
		}
	}
}

func checkAddAndSub(t *testing.T, a impl.Res, b impl.Res) {
	t.Helper()
	sum, ok := impl.Add(a, b)
	fits := a.Mem+b.Mem <= most && a.Cpu+b.Cpu <= most
	want := impl.Res{}
	if fits {
		want = res(a.Mem+b.Mem, a.Cpu+b.Cpu)
	}
	if ok != fits || sum != want {
		t.Fatalf("Add(%v, %v): %v, %v", a, b, sum, ok)
	}
	rest, ok := impl.Sub(a, b)
	fits = a.Mem >= b.Mem && a.Cpu >= b.Cpu
	want = impl.Res{}
	if fits {
		want = res(a.Mem-b.Mem, a.Cpu-b.Cpu)
	}
	if ok != fits || rest != want || impl.Within(b, a) != fits {
		t.Fatalf("Sub(%v, %v): %v, %v; Within: %v", a, b, rest, ok, impl.Within(b, a))
	}
}

func checkAddedComesAway(t *testing.T, a impl.Res, b impl.Res) {
	t.Helper()
	sum, ok := impl.Add(a, b)
	if !ok {
		return
	}
	if back, ok := impl.Sub(sum, b); !ok || back != a {
		t.Fatalf("%v and %v, less the second: %v, %v", a, b, back, ok)
	}
	if back, ok := impl.Sub(sum, a); !ok || back != b {
		t.Fatalf("%v and %v, less the first: %v, %v", a, b, back, ok)
	}
	if !impl.Within(a, sum) || !impl.Within(b, sum) {
		t.Fatalf("%v or %v is not within both", a, b)
	}
}

func TestWhatIsAddedComesAway(t *testing.T) {
	for _, a := range rightAmounts() {
		for _, b := range rightAmounts() {
			checkAddAndSub(t, a, b)
			checkAddedComesAway(t, a, b)
		}
	}
	r := rand.New(rand.NewSource(4))
	for range 20000 {
		a, b := randomAmount(r), randomAmount(r)
		checkAddAndSub(t, a, b)
		checkAddedComesAway(t, a, b)
	}
}

func TestAddAtItsEnds(t *testing.T) {
	for _, c := range []struct {
		a, b, want impl.Res
		ok         bool
	}{
		{res(0, 0), res(0, 0), res(0, 0), true},
		{res(10, 4), res(3, 4), res(13, 8), true},
		{res(most, 0), res(0, most), res(most, most), true},
		{res(most-1, 5), res(1, 5), res(most, 10), true},
		{res(5, most-1), res(5, 1), res(10, most), true},
		{res(most, 5), res(1, 5), res(0, 0), false},
		{res(5, most), res(5, 1), res(0, 0), false},
		{res(most-1, 5), res(2, 5), res(0, 0), false},
		{res(most, most), res(most, most), res(0, 0), false},
	} {
		if got, ok := impl.Add(c.a, c.b); got != c.want || ok != c.ok {
			t.Errorf("Add(%v, %v): %v, %v", c.a, c.b, got, ok)
		}
		if got, ok := impl.Add(c.b, c.a); got != c.want || ok != c.ok {
			t.Errorf("Add(%v, %v): %v, %v", c.b, c.a, got, ok)
		}
	}
}

func TestSubAtItsEnds(t *testing.T) {
	for _, c := range []struct {
		a, b, want impl.Res
		ok         bool
	}{
		{res(0, 0), res(0, 0), res(0, 0), true},
		{res(10, 4), res(3, 4), res(7, 0), true},
		{res(3, 4), res(3, 4), res(0, 0), true},
		{res(3, 4), res(4, 4), res(0, 0), false},
		{res(3, 4), res(3, 5), res(0, 0), false},
		{res(3, 4), res(10, 4), res(0, 0), false},
		{res(most, most), res(most, most), res(0, 0), true},
		{res(most, most), res(0, 1), res(most, most-1), true},
		{res(0, 0), res(most, most), res(0, 0), false},
		{res(0, 0), res(0, 1), res(0, 0), false},
	} {
		if got, ok := impl.Sub(c.a, c.b); got != c.want || ok != c.ok {
			t.Errorf("Sub(%v, %v): %v, %v", c.a, c.b, got, ok)
		}
	}
}

func TestWithin(t *testing.T) {
	for _, c := range []struct {
		a, b impl.Res
		want bool
	}{
		{res(0, 0), res(0, 0), true},
		{res(3, 4), res(3, 4), true},
		{res(3, 4), res(10, 4), true},
		{res(4, 4), res(3, 9), false},
		{res(3, 5), res(9, 4), false},
		{res(9, 9), res(3, 3), false},
		{res(0, 1), res(most, 0), false},
		{res(most, most), res(most, most), true},
		{res(most, most), res(most, most-1), false},
	} {
		if got := impl.Within(c.a, c.b); got != c.want {
			t.Errorf("Within(%v, %v): %v", c.a, c.b, got)
		}
	}
}

// Where one of both is no amount, whatever comes out of the numbers (-1 and 2 make 1), each has its fixed answer.
func TestNoAmountsAreRefused(t *testing.T) {
	check := func(a impl.Res, b impl.Res) {
		t.Helper()
		if got, ok := impl.Add(a, b); ok || got != (impl.Res{}) {
			t.Errorf("Add(%v, %v): %v, %v", a, b, got, ok)
		}
		if got, ok := impl.Sub(a, b); ok || got != (impl.Res{}) {
			t.Errorf("Sub(%v, %v): %v, %v", a, b, got, ok)
		}
		if impl.Within(a, b) {
			t.Errorf("Within(%v, %v)", a, b)
		}
		if got := impl.Times(a, b); got != -1 {
			t.Errorf("Times(%v, %v): %d", a, b, got)
		}
		if top, bottom := impl.Ratio(a, b); top != 0 || bottom != 1 {
			t.Errorf("Ratio(%v, %v): %d, %d", a, b, top, bottom)
		}
	}
	for _, wrong := range wrongAmounts() {
		for _, right := range amountsBesideEdges() {
			check(wrong, right)
			check(right, wrong)
		}
		for _, other := range wrongAmounts() {
			check(wrong, other)
		}
		for _, points := range []int{0, 1, 5000, 10000, -1, 10001} {
			if got := impl.Share(wrong, points); got != (impl.Res{}) {
				t.Errorf("Share(%v, %d): %v", wrong, points, got)
			}
		}
	}
}

func TestShare(t *testing.T) {
	for _, c := range []struct {
		total  impl.Res
		points int
		want   impl.Res
	}{
		{res(10, 4), 0, res(0, 0)},
		{res(10, 4), 1, res(0, 0)},
		{res(10000, 20000), 1, res(1, 2)},
		{res(9999, 19999), 1, res(0, 1)},
		{res(10, 3), 3333, res(3, 0)},
		{res(10, 3), 3334, res(3, 1)},
		{res(10, 4), 5000, res(5, 2)},
		{res(7, 5), 5000, res(3, 2)},
		{res(10, 4), 9999, res(9, 3)},
		{res(10, 4), 10000, res(10, 4)},
		{res(0, 9), 10000, res(0, 9)},
		{res(most, most), 10000, res(most, most)},
		{res(most, most-1), 9999, res(999900000, 999899999)},
		{res(most-1, most), 1, res(99999, 100000)},
		{res(0, 0), 10000, res(0, 0)},
	} {
		if got := impl.Share(c.total, c.points); got != c.want {
			t.Errorf("Share(%v, %d): %v, want %v", c.total, c.points, got, c.want)
		}
	}
	for _, points := range []int{-1, -10000, 10001, 20000, 1 << 32, 1<<32 + 5000, math.MinInt, math.MaxInt} {
		if got := impl.Share(res(10, 4), points); got != (impl.Res{}) {
			t.Errorf("Share of %d points: %v", points, got)
		}
	}
}

func checkTwoShares(t *testing.T, first impl.Res, second impl.Res, both impl.Res) {
	t.Helper()
	sum, ok := impl.Add(first, second)
	if !ok || !impl.Within(sum, both) {
		t.Fatalf("shares %v and %v are more than %v", first, second, both)
	}
	// Each rounds down by less than one, so no more than one is lost.
	if both.Mem-sum.Mem > 1 || both.Cpu-sum.Cpu > 1 {
		t.Fatalf("shares %v and %v are far below %v", first, second, both)
	}
}

func TestTwoSharesAreNoMoreThanBoth(t *testing.T) {
	r := rand.New(rand.NewSource(5))
	for range 20000 {
		points := r.Intn(10001)
		a, b := randomAmount(r), randomAmount(r)
		if both, ok := impl.Add(a, b); ok {
			checkTwoShares(t, impl.Share(a, points), impl.Share(b, points), impl.Share(both, points))
		}
		part := r.Intn(points + 1)
		checkTwoShares(t, impl.Share(a, part), impl.Share(a, points-part), impl.Share(a, points))
		if !impl.Within(impl.Share(a, part), impl.Share(a, points)) || !impl.Within(impl.Share(a, points), a) {
			t.Fatalf("%d and %d points of %v", part, points, a)
		}
	}
}

func TestTimes(t *testing.T) {
	for _, c := range []struct {
		total, r impl.Res
		want     int
	}{
		{res(10, 4), res(3, 4), 1},
		{res(10, 4), res(3, 1), 3},
		{res(3, 4), res(10, 4), 0},
		{res(9, 9), res(3, 10), 0},
		{res(10, 4), res(10, 4), 1},
		{res(10, 4), res(5, 2), 2},
		{res(9, 4), res(5, 2), 1},
		{res(10, 4), res(0, 0), 1000},
		{res(0, 0), res(0, 0), 1000},
		{res(most, most), res(0, 0), 1000},
		{res(10, 0), res(3, 0), 3},
		{res(10, 4), res(3, 0), 3},
		{res(10, 4), res(0, 3), 1},
		{res(0, 4), res(0, 2), 2},
		{res(0, 4), res(1, 2), 0},
		{res(0, 0), res(1, 0), 0},
		{res(0, 0), res(0, 1), 0},
		{res(999, most), res(1, 1), 999},
		{res(1000, most), res(1, 1), 1000},
		{res(1001, most), res(1, 1), 1000},
		{res(most, 999), res(0, 1), 999},
		{res(most, 1000), res(0, 1), 1000},
		{res(most, 1001), res(0, 1), 1000},
		{res(2999, 9000), res(3, 3), 999},
		{res(3000, 9000), res(3, 3), 1000},
		{res(3003, 9000), res(3, 3), 1000},
		{res(most, most), res(1, 1), 1000},
		{res(most, most), res(most, most), 1},
		{res(most-1, most), res(most, most), 0},
		{res(most, most), res(most, 0), 1},
	} {
		if got := impl.Times(c.total, c.r); got != c.want {
			t.Errorf("Times(%v, %v): %d, want %d", c.total, c.r, got, c.want)
		}
	}
}

// So many go into it, and one more does not.
func TestTimesIsTheMost(t *testing.T) {
	r := rand.New(rand.NewSource(6))
	for range 20000 {
		total, part := randomAmount(r), randomAmount(r)
		n := impl.Times(total, part)
		if n < 0 || n > 1000 || n*part.Mem > total.Mem || n*part.Cpu > total.Cpu {
			t.Fatalf("Times(%v, %v): %d", total, part, n)
		}
		if n < 1000 && (n+1)*part.Mem <= total.Mem && (n+1)*part.Cpu <= total.Cpu {
			t.Fatalf("Times(%v, %v): %d, but one more goes into it", total, part, n)
		}
	}
}

func TestRatio(t *testing.T) {
	for _, c := range []struct {
		used, due   impl.Res
		top, bottom int
	}{
		{res(1, 3), res(4, 5), 3, 5},
		{res(3, 1), res(5, 4), 3, 5},
		{res(9, 1), res(5, 4), 9, 5},
		{res(3, 4), res(3, 4), 3, 3},       // alike, and not made shorter
		{res(2, 1), res(4, 2), 2, 4},       // alike
		{res(1, 2), res(2, 4), 1, 2},       // alike
		{res(0, 0), res(4, 5), 0, 4},       // alike, at nothing used
		{res(0, 0), res(0, 0), 0, 1},       // nothing due of both, nothing used
		{res(0, 0), res(0, 5), 0, 1},       // alike: 0 over 1 and 0 over 5
		{res(0, 0), res(5, 0), 0, 5},       // alike: 0 over 5 and 0 over 1
		{res(0, 2), res(0, 5), 2, 5},       // nothing due and used of Mem
		{res(2, 0), res(5, 0), 2, 5},       // nothing due and used of Cpu
		{res(1, 0), res(0, 5), 1, 0},       // something used of which nothing is due: Mem
		{res(7, 2), res(0, 5), 1, 0},       // it is 1 over 0, however much is used
		{res(2, 7), res(5, 0), 1, 0},       // Cpu
		{res(most, 7), res(5, 0), 1, 0},    // Cpu, beside a great one
		{res(0, 7), res(0, 0), 1, 0},       // Mem would be 0 over 1
		{res(7, 0), res(0, 0), 1, 0},       // Cpu would be 0 over 1
		{res(7, 9), res(0, 0), 1, 0},       // both over 0
		{res(most, most), res(0, 0), 1, 0}, // both over 0
		{res(most, most), res(1, 1), most, 1},
		{res(1, 1), res(most, most-1), 1, most - 1},
		{res(most-1, most-1), res(most, most), most - 1, most},
		{res(most-2, most-1), res(most-1, most), most - 1, most},
		{res(most, most-1), res(most-1, most-2), most - 1, most - 2},
	} {
		if top, bottom := impl.Ratio(c.used, c.due); top != c.top || bottom != c.bottom {
			t.Errorf("Ratio(%v, %v): %d, %d, want %d, %d", c.used, c.due, top, bottom, c.top, c.bottom)
		}
	}
}

// partRatio is one of both as a fraction; nil where something is used of which nothing is due.
func partRatio(used int, due int) *big.Rat {
	if due == 0 && used > 0 {
		return nil
	}
	return big.NewRat(int64(used), int64(max(due, 1)))
}

// order is -1, 0 or 1, where nil is more than all others and like itself.
func order(a *big.Rat, b *big.Rat) int {
	switch {
	case a == nil && b == nil:
		return 0
	case a == nil:
		return 1
	case b == nil:
		return -1
	}
	return a.Cmp(b)
}

func wholeRatio(used impl.Res, due impl.Res) *big.Rat {
	if !impl.ResOk(used) || !impl.ResOk(due) {
		return new(big.Rat)
	}
	mem, cpu := partRatio(used.Mem, due.Mem), partRatio(used.Cpu, due.Cpu)
	if order(mem, cpu) < 0 {
		return cpu
	}
	return mem
}

func checkRatio(t *testing.T, used impl.Res, due impl.Res) {
	t.Helper()
	top, bottom := impl.Ratio(used, due)
	want := wholeRatio(used, due)
	if want == nil && (top != 1 || bottom != 0) {
		t.Fatalf("Ratio(%v, %v): %d, %d, want 1, 0", used, due, top, bottom)
	}
	if want != nil && (bottom < 1 || big.NewRat(int64(top), int64(bottom)).Cmp(want) != 0) {
		t.Fatalf("Ratio(%v, %v): %d, %d, want %v", used, due, top, bottom, want)
	}
}

func checkLessRatio(t *testing.T, a, da, b, db impl.Res) {
	t.Helper()
	want := order(wholeRatio(a, da), wholeRatio(b, db))
	if got := impl.LessRatio(a, da, b, db); got != (want < 0) {
		t.Fatalf("LessRatio(%v, %v, %v, %v): %v", a, da, b, db, got)
	}
	if got := impl.LessRatio(b, db, a, da); got != (want > 0) {
		t.Fatalf("LessRatio(%v, %v, %v, %v): %v", b, db, a, da, got)
	}
}

func TestRatiosAreFractions(t *testing.T) {
	edges := append(amountsBesideEdges(), res(-1, 0), res(5, most+1), res(math.MinInt, math.MaxInt))
	for _, a := range edges {
		for _, da := range edges {
			checkRatio(t, a, da)
			for _, b := range edges {
				for _, db := range edges {
					checkLessRatio(t, a, da, b, db)
				}
			}
		}
	}
	r := rand.New(rand.NewSource(7))
	for range 20000 {
		a, da, b, db := randomAmount(r), randomAmount(r), randomAmount(r), randomAmount(r)
		checkRatio(t, a, da)
		checkLessRatio(t, a, da, b, db)
	}
}

func TestLessRatio(t *testing.T) {
	for _, c := range []struct {
		a, da, b, db impl.Res
		want         bool
	}{
		{res(1, 1), res(3, 3), res(1, 1), res(2, 2), true},
		{res(1, 1), res(2, 2), res(1, 1), res(3, 3), false},
		{res(1, 1), res(2, 2), res(2, 2), res(4, 4), false}, // alike
		{res(1, 9), res(9, 9), res(9, 1), res(9, 9), false}, // alike: by Cpu, by Mem
		{res(1, 8), res(9, 9), res(9, 1), res(9, 9), true},
		{res(0, 0), res(0, 0), res(0, 0), res(5, 5), false},                  // both nothing
		{res(0, 0), res(0, 0), res(0, 1), res(5, most), true},                // nothing, and the least that is more
		{res(9, 9), res(0, 0), res(1, 1), res(0, 0), false},                  // alike among those over 0
		{res(1, 1), res(0, 0), res(9, 9), res(0, 0), false},                  // likewise
		{res(1, 0), res(0, 9), res(0, 1), res(9, 0), false},                  // over 0 by Mem, by Cpu
		{res(most, most), res(1, 1), res(1, 0), res(0, 1), true},             // the greatest, and over 0
		{res(1, 0), res(0, 1), res(most, most), res(1, 1), false},            // over 0, and the greatest
		{res(0, 0), res(0, 0), res(1, 0), res(0, 0), true},                   // nothing, and over 0
		{res(most-1, 0), res(most, 1), res(most, 0), res(most, 1), true},     // products of great numbers
		{res(most-2, 0), res(most-1, 1), res(most-1, 0), res(most, 1), true}, // by one in 10 to the 18
		{res(most-1, 0), res(most, 1), res(most-2, 0), res(most-1, 1), false},
		{res(0, most), res(1, most-1), res(0, most-1), res(1, most-2), true},
		{res(0, most-1), res(1, most-2), res(0, most), res(1, most-1), false},
		{res(-1, 9), res(1, 1), res(1, 1), res(9, 9), true},                     // no amount: 0 over 1
		{res(1, 1), res(9, 9), res(9, 9), res(most+1, 1), false},                // likewise
		{res(most+1, 9), res(1, 1), res(math.MinInt, 0), res(1, 1), false},      // both none: alike
		{res(math.MaxInt, 1), res(0, 0), res(1, 1), res(0, 0), true},            // none, and over 0
		{res(1, 1), res(0, 0), res(1, 1), res(0, math.MinInt), false},           // over 0, and none
		{res(0, 0), res(5, 5), res(math.MaxInt, math.MaxInt), res(1, 1), false}, // 0 over 5 and 0 over 1
	} {
		if got := impl.LessRatio(c.a, c.da, c.b, c.db); got != c.want {
			t.Errorf("LessRatio(%v, %v, %v, %v): %v", c.a, c.da, c.b, c.db, got)
		}
	}
}

// One order: none is less than itself, of two at most one is less, and who is less than, or like, a lesser one is so too.
func TestRatiosAreInOneOrder(t *testing.T) {
	r := rand.New(rand.NewSource(8))
	less := func(a [2]impl.Res, b [2]impl.Res) bool {
		return impl.LessRatio(a[0], a[1], b[0], b[1])
	}
	some := make([][2]impl.Res, 60)
	for i := range some {
		some[i] = [2]impl.Res{randomAmount(r), randomAmount(r)}
	}
	for _, a := range some {
		if less(a, a) {
			t.Fatalf("%v is less than itself", a)
		}
		for _, b := range some {
			if less(a, b) && less(b, a) {
				t.Fatalf("%v and %v are each less", a, b)
			}
			for _, c := range some {
				if less(a, b) && less(b, c) && !less(a, c) || !less(a, b) && !less(b, c) && less(a, c) {
					t.Fatalf("%v, %v and %v are not in one order", a, b, c)
				}
			}
		}
	}
}

func TestResText(t *testing.T) {
	for want, r := range map[string]impl.Res{
		"10x4": res(10, 4), "0x0": {}, "0x1": res(0, 1), "1x0": res(1, 0), "1000000000x1000000000": res(most, most),
		// No answer is named for what is no amount: its numbers stand as they are.
		"-1x2": res(-1, 2), "2x-1": res(2, -1), "1000000001x0": res(most+1, 0), "-9223372036854775808x9223372036854775807": res(math.MinInt, math.MaxInt),
	} {
		if got := impl.ResText(r); got != want {
			t.Errorf("ResText(%v): %q, want %q", r, got, want)
		}
	}
}

func TestAmountsComeBackFromTheirText(t *testing.T) {
	for _, r := range rightAmounts() {
		if got, ok := impl.ReadRes(impl.ResText(r)); !ok || got != r {
			t.Errorf("ReadRes of %v: %v, %v", r, got, ok)
		}
	}
	for _, r := range wrongAmounts() {
		if got, ok := impl.ReadRes(impl.ResText(r)); ok || got != (impl.Res{}) {
			t.Errorf("ReadRes of %v: %v, %v", r, got, ok)
		}
	}
}

func TestReadResRefuses(t *testing.T) {
	for _, s := range []string{
		"", "x", "xx", "10", "10x", "x4", "104", "10 4", "10X4", "10*4", "10×4", "10,4",
		"01x4", "10x04", "00x4", "10x00", "0x00", "00x0", // needless noughts
		"1x2x3", "1xx2", "x1x2", "1x2x", "x1x", "1x2x0", // a second x
		"-1x2", "1x-2", "-0x0", "0x-0", "+1x2", "1x+2", "1.0x2", "1e1x2", "0b1x1", "0x0x1", "1_0x2", "axb",
		" 1x2", "1x2 ", "1 x2", "1x 2", "1x2\n", "\n1x2", "1x2\x00", "\x001x2", "1\xffx2",
		"1000000001x1", "1x1000000001", "9999999999x1", "1x18446744073709551617", "4294967297x1", "1x4294967297",
		strings.Repeat("9", 400) + "x1", "1x" + strings.Repeat("0", 400), strings.Repeat("x", 400), strings.Repeat("1x", 4000),
	} {
		if got, ok := impl.ReadRes(s); ok || got != (impl.Res{}) {
			t.Errorf("ReadRes(%q): %v, %v", s, got, ok)
		}
	}
}

// What ReadRes takes is just what ResText writes: no amount has two texts.
func TestAmountHasOneText(t *testing.T) {
	const signs = "0019x-+ "
	r := rand.New(rand.NewSource(9))
	for range 50000 {
		b := make([]byte, r.Intn(8))
		for i := range b {
			b[i] = signs[r.Intn(len(signs))]
		}
		s := string(b)
		got, ok := impl.ReadRes(s)
		if ok && impl.ResText(got) != s || !ok && got != (impl.Res{}) {
			t.Fatalf("ReadRes(%q): %v, %v", s, got, ok)
		}
		mem, cpu, found := strings.Cut(s, "x")
		m, err := strconv.Atoi(mem)
		c, err2 := strconv.Atoi(cpu)
		if !ok && found && err == nil && err2 == nil && impl.ResText(res(m, c)) == s && m >= 0 && c >= 0 {
			t.Fatalf("ReadRes(%q) is refused", s)
		}
	}
}

func TestAmountsAnswerAtAnyArguments(t *testing.T) {
	parts := append(append([]int{}, rightParts...), wrongParts...)
	r := rand.New(rand.NewSource(10))
	any := func() impl.Res { return res(parts[r.Intn(len(parts))], parts[r.Intn(len(parts))]) }
	for range 50000 {
		a, b, c, d := any(), any(), any(), any()
		sum, ok := impl.Add(a, b)
		if ok && (!impl.ResOk(a) || !impl.ResOk(b) || !impl.ResOk(sum)) {
			t.Fatalf("Add(%v, %v): %v", a, b, sum)
		}
		rest, ok := impl.Sub(a, b)
		if ok && (!impl.ResOk(a) || !impl.ResOk(b) || !impl.ResOk(rest)) {
			t.Fatalf("Sub(%v, %v): %v", a, b, rest)
		}
		if got := impl.Share(a, parts[r.Intn(len(parts))]); !impl.ResOk(got) {
			t.Fatalf("Share of %v: %v", a, got)
		}
		if n := impl.Times(a, b); n < -1 || n > 1000 {
			t.Fatalf("Times(%v, %v): %d", a, b, n)
		}
		checkRatio(t, a, b)
		checkLessRatio(t, a, b, c, d)
		if got, want := impl.ResText(a), strconv.Itoa(a.Mem)+"x"+strconv.Itoa(a.Cpu); got != want {
			t.Fatalf("ResText(%v): %q", a, got)
		}
	}
}

func TestRatiosKeepNothing(t *testing.T) {
	var wg sync.WaitGroup
	wrong := make([]int, 16)
	for i := range wrong {
		wg.Go(func() {
			for n := range 200 {
				a, b := res(i, n), res(n, i)
				if impl.LessRatio(a, res(most, most), b, res(most, most)) || !impl.LessRatio(a, res(200, 200), res(1, 1), res(0, 0)) {
					wrong[i]++
				}
			}
		})
	}
	wg.Wait()
	for i, n := range wrong {
		if n > 0 {
			t.Errorf("worker %d: %d wrong", i, n)
		}
	}
}
