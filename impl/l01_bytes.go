package impl

import (
	"strconv"
	"strings"
	"sync"
)

const MaxNumber = 1000000000

const (
	maxPut    = 4000000000
	maxText   = 2000
	maxName   = 10
	maxDigits = 10
)

// numBits is how many bits the longest number takes: five bytes of seven.
const numBits = 35

const (
	sumEnds = 4294967295
	sumOdd  = 3988292384
)

func PutNum(n int) string {
	if n < 0 || n > maxPut {
		return ""
	}
	out := make([]byte, 0, numBits/7)
	rest := uint32(n)
	for rest >= 128 {
		out = append(out, byte(rest)|128)
		rest >>= 7
	}
	return string(append(out, byte(rest)))
}

func GetNum(s string, i int) (int, int) {
	if i < 0 {
		return 0, -1
	}
	n := uint64(0)
	at := i
	for shift := 0; shift < numBits && at < len(s); shift += 7 {
		b := s[at]
		at++
		n |= uint64(b&127) << shift
		if b >= 128 {
			continue
		}
		// A last byte of nought behind others is one more than PutNum writes.
		if n > maxPut || b == 0 && shift > 0 {
			break
		}
		return int(n), at
	}
	return 0, -1
}

func PutText(s string) string {
	if len(s) > maxText {
		return ""
	}
	return PutNum(len(s)) + s
}

func GetText(s string, i int) (string, int) {
	n, at := GetNum(s, i)
	if at < 0 || n > maxText || n > len(s)-at {
		return "", -1
	}
	return strings.Clone(s[at : at+n]), at + n
}

// sumTable tells what four bits do to a sum. It lives as long as one call, for nothing is kept
// behind it; so it goes by four bits, since a table for eight takes longer to make than most texts to sum.
type sumTable struct {
	made sync.Once
	step [16]uint32
}

func (t *sumTable) fill() {
	for i := range t.step {
		t.step[i] = halveFour(uint32(i))
	}
}

func (t *sumTable) shiftFour(sum uint32) uint32 {
	t.made.Do(t.fill)
	return t.step[sum&15] ^ sum>>4
}

func halveFour(sum uint32) uint32 {
	for range 4 {
		odd := sum&1 == 1
		sum >>= 1
		if odd {
			sum ^= sumOdd
		}
	}
	return sum
}

func (t *sumTable) sumOf(s string) uint32 {
	sum := uint32(sumEnds)
	for i := range len(s) {
		sum ^= uint32(s[i])
		sum = t.shiftFour(t.shiftFour(sum))
	}
	return sum ^ sumEnds
}

func CheckSum(s string) uint32 {
	var t sumTable
	return t.sumOf(s)
}

func NameOk(s string) bool {
	if len(s) < 1 || len(s) > maxName {
		return false
	}
	for i := range len(s) {
		if !isDigit(s[i]) && (s[i] < 'a' || s[i] > 'z') {
			return false
		}
	}
	return true
}

func isDigit(b byte) bool {
	return b >= '0' && b <= '9'
}

func DecText(n int) string {
	return strconv.Itoa(n)
}

func ReadDec(s string) int {
	// No more digits than MaxNumber has: so n below can't wrap round.
	if len(s) < 1 || len(s) > maxDigits || s[0] == '0' && len(s) > 1 {
		return -1
	}
	n := 0
	for i := range len(s) {
		if !isDigit(s[i]) {
			return -1
		}
		n = n*10 + int(s[i]-'0')
	}
	if n > MaxNumber {
		return -1
	}
	return n
}

func Words(s string) []string {
	parts := strings.Split(s, " ")
	for i := range parts {
		parts[i] = strings.Clone(parts[i])
	}
	return parts
}
