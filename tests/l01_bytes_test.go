package tests

import (
	"hash/crc32"
	"math"
	"math/rand"
	"slices"
	"strconv"
	"strings"
	"sync"
	"testing"

	"loop.example/g00275/impl"
)

const maxPut = 4000000000

// edgeNumbers: both ends of what PutNum takes, and each number at which it takes a byte more.
var edgeNumbers = []int{0, 1, 127, 128, 129, 300, 16383, 16384, 2097151, 2097152, 268435455, 268435456, impl.MaxNumber, 1<<31 - 1, 1 << 31, maxPut - 1, maxPut}

func checkNumComesBack(t *testing.T, n int) {
	t.Helper()
	s := impl.PutNum(n)
	if s == "" {
		t.Fatalf("PutNum(%d) is empty", n)
	}
	for _, ahead := range []string{"", "\x80", "ab\xff"} {
		for _, behind := range []string{"", "\x00", "\xff\xff"} {
			got, at := impl.GetNum(ahead+s+behind, len(ahead))
			if got != n || at != len(ahead)+len(s) {
				t.Errorf("GetNum of %d, %q ahead, %q behind: %d, %d", n, ahead, behind, got, at)
			}
		}
	}
}

func TestNumbersComeBack(t *testing.T) {
	for _, n := range edgeNumbers {
		checkNumComesBack(t, n)
	}
	r := rand.New(rand.NewSource(1))
	for range 5000 {
		checkNumComesBack(t, r.Intn(maxPut+1)>>r.Intn(32))
	}
}

func TestPutNumBytes(t *testing.T) {
	for n, want := range map[int]string{
		0: "\x00", 1: "\x01", 127: "\x7f", 128: "\x80\x01", 300: "\xac\x02", 16383: "\xff\x7f", 16384: "\x80\x80\x01",
		maxPut - 1: "\xff\xcf\xac\xf3\x0e", maxPut: "\x80\xd0\xac\xf3\x0e",
	} {
		if got := impl.PutNum(n); got != want {
			t.Errorf("PutNum(%d): %q, want %q", n, got, want)
		}
	}
	for _, n := range []int{-1, -128, maxPut + 1, 1 << 32, 1<<32 + 5, 1 << 40, math.MinInt, math.MaxInt} {
		if got := impl.PutNum(n); got != "" {
			t.Errorf("PutNum(%d): %q, want nothing", n, got)
		}
	}
}

func TestGetNumRefuses(t *testing.T) {
	for _, s := range []string{
		"", "\x80", "\xff\xff", "\x80\x80\x80\x80\x80",
		"\x80\x00", "\x81\x00", "\xff\x80\x00", "\x80\x80\x80\x80\x00", // bytes more than are needed
		"\x81\xd0\xac\xf3\x0e",                                 // one more than PutNum takes
		"\xff\xff\xff\xff\x0f",                                 // 32 bits
		"\x80\x80\x80\x80\x10",                                 // 32 bits and one more: nothing is to wrap round
		"\x80\x80\x80\x80\x7f",                                 // 35 bits
		"\x80\x80\x80\x80\x80\x01", "\x81\x80\x80\x80\x80\x00", // six bytes
		"\x80\x80\x80\x80\x80\x80\x80\x80\x80\x80\x01", // more than 64 bits
	} {
		if n, at := impl.GetNum(s, 0); n != 0 || at != -1 {
			t.Errorf("GetNum(%q): %d, %d", s, n, at)
		}
	}
	for _, i := range []int{-1, -2, 3, 4, 100, math.MinInt, math.MinInt + 1, math.MaxInt - 1, math.MaxInt} {
		if n, at := impl.GetNum("\x01\x02\x03", i); n != 0 || at != -1 {
			t.Errorf("GetNum at %d: %d, %d", i, n, at)
		}
	}
}

// What GetNum takes is just what PutNum writes: no number has two forms.
func TestNumberHasOneForm(t *testing.T) {
	check := func(s string) {
		n, at := impl.GetNum(s, 0)
		if at == -1 && n == 0 {
			return
		}
		if at < 1 || at > len(s) || impl.PutNum(n) != s[:at] {
			t.Errorf("GetNum(%q): %d, %d, but PutNum is %q", s, n, at, impl.PutNum(n))
		}
	}
	for a := range 256 {
		check(string([]byte{byte(a)}))
		for b := range 256 {
			check(string([]byte{byte(a), byte(b)}))
			check(string([]byte{0x80, byte(a), byte(b)}))
			check(string([]byte{0x80, 0xd0, 0xac, byte(a), byte(b)}))
		}
	}
}

func checkTextComesBack(t *testing.T, s string) {
	t.Helper()
	put := impl.PutText(s)
	if put != impl.PutNum(len(s))+s {
		t.Fatalf("PutText of %d bytes: %d bytes", len(s), len(put))
	}
	for _, ahead := range []string{"", "\x80q"} {
		for _, behind := range []string{"", "z\x00"} {
			got, at := impl.GetText(ahead+put+behind, len(ahead))
			if got != s || at != len(ahead)+len(put) {
				t.Errorf("GetText of %d bytes: %d bytes, %d", len(s), len(got), at)
			}
		}
	}
	for cut := range len(put) {
		if got, at := impl.GetText(put[:cut], 0); got != "" || at != -1 {
			t.Fatalf("GetText of %d bytes cut at %d: %q, %d", len(s), cut, got, at)
		}
	}
}

func allBytes() string {
	out := make([]byte, 256)
	for i := range out {
		out[i] = byte(i)
	}
	return string(out)
}

func TestTextsComeBack(t *testing.T) {
	for _, s := range []string{"", "a", "ab", "\x00", "\x80\x00", "\xff\xfe", "naïve\n", allBytes()} {
		checkTextComesBack(t, s)
	}
	for _, n := range []int{126, 127, 128, 129, 1999, 2000} {
		checkTextComesBack(t, strings.Repeat("q", n))
	}
}

func TestTextsRefused(t *testing.T) {
	for _, n := range []int{2001, 2002, 16384, 100000} {
		s := strings.Repeat("q", n)
		if got := impl.PutText(s); got != "" {
			t.Errorf("PutText of %d bytes: %d bytes", n, len(got))
		}
		if got, at := impl.GetText(impl.PutNum(n)+s, 0); got != "" || at != -1 {
			t.Errorf("GetText of %d bytes: %d bytes, %d", n, len(got), at)
		}
	}
	for _, s := range []string{"", "\x01", "\x03ab", "\x80", "\x82\x00ab", "\xd0\x0f", "\x80\xd0\xac\xf3\x0eab"} {
		if got, at := impl.GetText(s, 0); got != "" || at != -1 {
			t.Errorf("GetText(%q): %q, %d", s, got, at)
		}
	}
	for _, i := range []int{-1, 3, 4, math.MinInt, math.MaxInt} {
		if got, at := impl.GetText("\x00\x00\x00", i); got != "" || at != -1 {
			t.Errorf("GetText at %d: %q, %d", i, got, at)
		}
	}
}

func TestSumIsKnown(t *testing.T) {
	for s, want := range map[string]uint32{"": 0, "a": 0xe8b7be43, "123456789": 3421780262, "\x00": 0xd202ef8d, "\xff\xff\xff\xff": 0xffffffff} {
		if got := impl.CheckSum(s); got != want {
			t.Errorf("CheckSum(%q): %d, want %d", s, got, want)
		}
	}
	r := rand.New(rand.NewSource(2))
	for n := range 600 {
		b := make([]byte, n)
		r.Read(b)
		if got, want := impl.CheckSum(string(b)), crc32.ChecksumIEEE(b); got != want {
			t.Fatalf("CheckSum of %d bytes: %d, want %d", n, got, want)
		}
	}
	long := strings.Repeat(allBytes(), 400)
	if got, want := impl.CheckSum(long), crc32.ChecksumIEEE([]byte(long)); got != want {
		t.Errorf("CheckSum of a long text: %d, want %d", got, want)
	}
}

func TestOneByteChangedHasAnotherSum(t *testing.T) {
	for _, s := range []string{"a", "\x00", "root - 10000 10000\n", "\xff\x00\xff\x00", strings.Repeat("\x00", 40)} {
		sum := impl.CheckSum(s)
		for i := range len(s) {
			b := []byte(s)
			for c := range 256 {
				b[i] = byte(c)
				if string(b) != s && impl.CheckSum(string(b)) == sum {
					t.Errorf("%q and %q have one sum", s, b)
				}
			}
		}
	}
}

func TestSumKeepsNothing(t *testing.T) {
	var wg sync.WaitGroup
	got := make([]uint32, 16)
	for i := range got {
		wg.Go(func() {
			for range 100 {
				impl.CheckSum("other")
				got[i] = impl.CheckSum("123456789")
			}
		})
	}
	wg.Wait()
	for i, sum := range got {
		if sum != 3421780262 {
			t.Errorf("worker %d: %d", i, sum)
		}
	}
}

func TestNames(t *testing.T) {
	for _, s := range []string{"a", "z", "0", "9", "a1", "1a", "root", "abcdefghij", "0123456789"} {
		if !impl.NameOk(s) {
			t.Errorf("%q is a name", s)
		}
	}
	for _, s := range []string{"", "abcdefghijk", "01234567890", "A", "Z", "aB", " ", "a ", " a", "a\n", "a-b", "_", "-", "é", "\x00", "a\x00", "\xff", strings.Repeat("a", 5000)} {
		if impl.NameOk(s) {
			t.Errorf("%q is no name", s)
		}
	}
	for c := range 256 {
		want := strings.IndexByte("abcdefghijklmnopqrstuvwxyz0123456789", byte(c)) >= 0
		for _, b := range [][]byte{{byte(c)}, {'a', byte(c)}, {byte(c), 'a'}} {
			if impl.NameOk(string(b)) != want {
				t.Errorf("NameOk(%q) is not %v", b, want)
			}
		}
	}
}

func TestDecText(t *testing.T) {
	for n, want := range map[int]string{
		0: "0", 1: "1", 9: "9", 10: "10", -1: "-1", -12: "-12", impl.MaxNumber: "1000000000",
		math.MaxInt: "9223372036854775807", math.MinInt: "-9223372036854775808", math.MinInt + 1: "-9223372036854775807",
	} {
		if got := impl.DecText(n); got != want {
			t.Errorf("DecText(%d): %q, want %q", n, got, want)
		}
	}
}

func TestReadDec(t *testing.T) {
	for _, n := range []int{0, 1, 9, 10, 11, 100, 120, 999999999, impl.MaxNumber - 1, impl.MaxNumber} {
		if got := impl.ReadDec(impl.DecText(n)); got != n {
			t.Errorf("ReadDec of %d: %d", n, got)
		}
	}
	for n := range 20000 {
		if got := impl.ReadDec(strconv.Itoa(n)); got != n {
			t.Errorf("ReadDec of %d: %d", n, got)
		}
	}
	for _, s := range []string{
		"", "-", "+", "-0", "-1", "+1", "00", "01", "0000000001", "01000000000", " 1", "1 ", "1\n", "1a", "a1", "0x1", "1_0", "1.0", "1e3", "/", ":", "1/", "1:", "\x00", "1\x00", "١",
		"1000000001", "9999999999", "10000000000", "4294967296", "18446744073709551616", "18446744073709551617", strings.Repeat("9", 400), strings.Repeat("0", 400),
	} {
		if got := impl.ReadDec(s); got != -1 {
			t.Errorf("ReadDec(%q): %d", s, got)
		}
	}
	for _, n := range []int{-1, impl.MaxNumber + 1, math.MaxInt, math.MinInt} {
		if got := impl.ReadDec(impl.DecText(n)); got != -1 {
			t.Errorf("ReadDec of %d: %d", n, got)
		}
	}
}

func TestWords(t *testing.T) {
	for _, c := range []struct {
		s    string
		want []string
	}{
		{"", []string{""}},
		{" ", []string{"", ""}},
		{"  ", []string{"", "", ""}},
		{"a", []string{"a"}},
		{"a b", []string{"a", "b"}},
		{"a  b", []string{"a", "", "b"}},
		{" a", []string{"", "a"}},
		{"a ", []string{"a", ""}},
		{" a b ", []string{"", "a", "b", ""}},
		{"a\tb\nc\u00a0d \xff\x00", []string{"a\tb\nc\u00a0d", "\xff\x00"}},
	} {
		if got := impl.Words(c.s); !slices.Equal(got, c.want) {
			t.Errorf("Words(%q): %q, want %q", c.s, got, c.want)
		}
	}
	long := strings.Repeat("ab ", 3000)
	got := impl.Words(long)
	if len(got) != 3001 || strings.Join(got, " ") != long {
		t.Errorf("Words of a long text: %d", len(got))
	}
}

func TestWordsAreNewEachTime(t *testing.T) {
	first := impl.Words("a b c")
	first[0] = "changed"
	_ = append(first[:1], "x", "y", "z")
	if again := impl.Words("a b c"); !slices.Equal(again, []string{"a", "b", "c"}) {
		t.Errorf("Words again: %q", again)
	}
}

func TestBytesAnswerAtAnyArguments(t *testing.T) {
	r := rand.New(rand.NewSource(3))
	places := []int{math.MinInt, -1, 0, 1, 2, 5, 39, 40, 41, math.MaxInt - 4, math.MaxInt}
	for range 3000 {
		b := make([]byte, r.Intn(41))
		r.Read(b)
		s := string(b)
		for _, i := range places {
			if n, at := impl.GetNum(s, i); at != -1 && (i < 0 || s[i:at] != impl.PutNum(n)) || at == -1 && n != 0 {
				t.Errorf("GetNum(%q, %d): %d, %d", s, i, n, at)
			}
			if x, at := impl.GetText(s, i); at != -1 && (i < 0 || s[i:at] != impl.PutText(x)) || at == -1 && x != "" {
				t.Errorf("GetText(%q, %d): %q, %d", s, i, x, at)
			}
		}
		if n := impl.ReadDec(s); n != -1 && impl.DecText(n) != s {
			t.Errorf("ReadDec(%q): %d", s, n)
		}
		if w := impl.Words(s); strings.Join(w, " ") != s || len(w) != 1+strings.Count(s, " ") {
			t.Errorf("Words(%q): %q", s, w)
		}
		impl.NameOk(s)
		impl.PutNum(int(r.Uint64()))
		if n := int(r.Uint64()); impl.DecText(n) != strconv.Itoa(n) {
			t.Errorf("DecText(%d)", n)
		}
	}
}
