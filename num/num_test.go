package num

import (
	"bytes"
	"encoding/hex"
	"math"
	"math/big"
	"slices"
	"strconv"
	"strings"
	"testing"

	"millrace/api"
)

// bases are all that may be.
var bases = []int{2, 3, 4, 5, 6, 7, 8, 9, 10, 11, 12, 13, 14, 15, 16}

// wrongBases are those beside them, and far ones.
var wrongBases = []int{math.MinInt, -16, -2, -1, 0, 1, 17, 18, 36, 256 + 10, 1<<32 + 10, math.MaxInt}

// someInts are edges, and the numbers around the powers of 2 and of 10.
func someInts() []int {
	l := []int{0, 1, -1, 7, -7, 255, -256, math.MaxInt, math.MaxInt - 1, math.MinInt, math.MinInt + 1}
	for _, base := range []int{2, 10} {
		for p := base; p > 0 && p <= math.MaxInt/base; p *= base {
			l = append(l, p-1, p, p+1, 1-p, -p, -p-1)
		}
	}
	return l
}

// someUints are edges, and the numbers around the powers of each base.
func someUints() []uint64 {
	l := []uint64{0, 1, 255, 1<<63 - 1, 1 << 63, math.MaxUint64 - 1, math.MaxUint64}
	for _, base := range bases {
		b := uint64(base)
		for p := b; ; p *= b {
			l = append(l, p-1, p, p+1)
			if p > math.MaxUint64/b {
				break
			}
		}
	}
	return l
}

// beyond is 2^64 + n to a base.
func beyond(n int64, base int) string {
	x := new(big.Int).Lsh(big.NewInt(1), 64)
	return x.Add(x, big.NewInt(n)).Text(base)
}

func wantParsed(t *testing.T, s string, base int, n uint64, e api.Errno, at int) {
	t.Helper()
	gotN, gotE, gotAt := ParseBase(s, base)
	if gotN != n || gotE != e || gotAt != at {
		t.Errorf("ParseBase(%q, %d): %d, %d, %d; want %d, %d, %d", s, base, gotN, gotE, gotAt, n, e, at)
	}
}

func wantOctets(t *testing.T, s string, b []byte, e api.Errno, at int) {
	t.Helper()
	gotB, gotE, gotAt := Unhex(s)
	if !bytes.Equal(gotB, b) || gotE != e || gotAt != at {
		t.Errorf("Unhex(%q): %v, %d, %d; want %v, %d, %d", s, gotB, gotE, gotAt, b, e, at)
	}
}

// P1.1

func TestDecimal(t *testing.T) {
	for n, want := range map[int]string{
		0: "0", 5: "5", -5: "-5", 10: "10", 100: "100", -1000: "-1000", 907: "907",
		math.MaxInt64: "9223372036854775807",
		math.MinInt64: "-9223372036854775808",
	} {
		if got := Decimal(n); got != want {
			t.Errorf("Decimal(%d): %q, want %q", n, got, want)
		}
	}
	for _, n := range someInts() {
		if got := Decimal(n); got != strconv.Itoa(n) {
			t.Errorf("Decimal(%d): %q", n, got)
		}
	}
}

func TestParseInt(t *testing.T) {
	for _, n := range someInts() {
		if got, e := ParseInt(strconv.Itoa(n)); got != n || e != api.OK {
			t.Errorf("ParseInt(%d): %d, %d", n, got, e)
		}
	}
}

func TestParseIntOfNoInt(t *testing.T) {
	for _, s := range []string{
		"", "-", "--1", "-0", "00", "007", "-07", "-00", "01", "+1", "+0", "1-", "-1-", "1+",
		" 1", "1 ", "1\n", "1_0", "0x10", "1e3", "1.0", "a", "f", "A", "1a", "\x00", "\xff", "1\xff", "\u0661", "\u22121",
		"9223372036854775808", "-9223372036854775809", "9999999999999999999", "-9999999999999999999",
		"18446744073709551615", "-18446744073709551615", "18446744073709551616", "-18446744073709551616",
		"18446744073709551617", "-18446744073709551617", "10000000000000000000", "-10000000000000000000",
		"09223372036854775807", "-09223372036854775808", strings.Repeat("0", 5000), strings.Repeat("1", 5000),
		"-" + strings.Repeat("0", 5000) + "1",
	} {
		if n, e := ParseInt(s); n != 0 || e != api.ErrDigit {
			t.Errorf("ParseInt(%q): %d, %d; want 0, ErrDigit", s, n, e)
		}
	}
}

func TestParseIntTakesNoOtherForm(t *testing.T) {
	signs := "-+019a "
	var try func(s string)
	try = func(s string) {
		n, e := ParseInt(s)
		want, err := strconv.Atoi(s)
		if err != nil || strconv.Itoa(want) != s {
			if n != 0 || e != api.ErrDigit {
				t.Errorf("ParseInt(%q): %d, %d; want 0, ErrDigit", s, n, e)
			}
		} else if n != want || e != api.OK {
			t.Errorf("ParseInt(%q): %d, %d", s, n, e)
		}
		if len(s) < 5 {
			for i := range len(signs) {
				try(s + signs[i:i+1])
			}
		}
	}
	try("")
}

// P1.2

func TestBase(t *testing.T) {
	if s, e := Base(255, 16); s != "ff" || e != api.OK {
		t.Errorf("Base(255, 16): %q, %d", s, e)
	}
	for _, base := range bases {
		for _, n := range someUints() {
			if s, e := Base(n, base); s != strconv.FormatUint(n, base) || e != api.OK {
				t.Errorf("Base(%d, %d): %q, %d", n, base, s, e)
			}
		}
	}
}

func TestBaseOfWrongBase(t *testing.T) {
	for _, base := range wrongBases {
		for _, n := range []uint64{0, 1, math.MaxUint64} {
			if s, e := Base(n, base); s != "" || e != api.ErrRange {
				t.Errorf("Base(%d, %d): %q, %d; want ErrRange", n, base, s, e)
			}
		}
	}
}

func TestParseBase(t *testing.T) {
	wantParsed(t, "0FF", 16, 255, api.OK, 3)
	wantParsed(t, "aBcDeF", 16, 0xabcdef, api.OK, 6)
	wantParsed(t, "101", 2, 5, api.OK, 3)
	wantParsed(t, "18446744073709551615", 10, math.MaxUint64, api.OK, 20)
	for _, base := range bases {
		for _, n := range someUints() {
			s := strconv.FormatUint(n, base)
			wantParsed(t, s, base, n, api.OK, len(s))
			wantParsed(t, strings.ToUpper(s), base, n, api.OK, len(s))
			wantParsed(t, "000"+s, base, n, api.OK, len(s)+3)
		}
	}
}

func TestParseBaseTakesAnyNumberOfZeros(t *testing.T) {
	zeros := strings.Repeat("0", 100000)
	for _, base := range bases {
		wantParsed(t, zeros, base, 0, api.OK, len(zeros))
		most := beyond(-1, base)
		wantParsed(t, zeros+most, base, math.MaxUint64, api.OK, len(zeros)+len(most))
		wantParsed(t, zeros+beyond(0, base), base, 0, api.ErrRange, len(zeros)+len(beyond(0, base))-1)
	}
}

func TestParseBaseOfWrongBase(t *testing.T) {
	for _, base := range wrongBases {
		for _, s := range []string{"", "0", "1", "x", "-1", beyond(0, 10)} {
			wantParsed(t, s, base, 0, api.ErrRange, 0)
		}
	}
}

func TestParseBaseOfNothing(t *testing.T) {
	for _, base := range bases {
		wantParsed(t, "", base, 0, api.ErrShort, 0)
	}
}

func TestParseBaseOfEachByte(t *testing.T) {
	for _, base := range bases {
		for c := range 256 {
			s := string([]byte{byte(c)})
			n := uint64(strings.Index("0123456789abcdef", s))
			if 'A' <= c && c <= 'F' {
				n = uint64(c - 'A' + 10)
			}
			if n >= uint64(base) {
				wantParsed(t, s, base, 0, api.ErrDigit, 0)
				wantParsed(t, "10"+s+s+"1", base, 0, api.ErrDigit, 2)
			} else {
				wantParsed(t, s, base, n, api.OK, 1)
				wantParsed(t, "1"+s, base, uint64(base)+n, api.OK, 2)
			}
		}
	}
}

func TestParseBaseBeyond(t *testing.T) {
	wantParsed(t, "18446744073709551616", 10, 0, api.ErrRange, 19)
	wantParsed(t, "10000000000000000", 16, 0, api.ErrRange, 16)
	wantParsed(t, strings.Repeat("1", 65), 2, 0, api.ErrRange, 64)
	wantParsed(t, strings.Repeat("9", 5000), 10, 0, api.ErrRange, 19)
	for _, base := range bases {
		for n := range int64(base * base) {
			s := beyond(n, base)
			at := len(s) - 1
			if len(s) > len(beyond(0, base)) {
				t.Fatalf("2^64 + %d to base %d has a digit more", n, base)
			}
			// Where the digits ahead of the last have passed it already, their last one is the place.
			for new(big.Int).Rsh(digitsAhead(t, s[:at], base), 64).Sign() != 0 {
				at--
			}
			wantParsed(t, s, base, 0, api.ErrRange, at)
		}
	}
}

func digitsAhead(t *testing.T, s string, base int) *big.Int {
	t.Helper()
	x, ok := new(big.Int).SetString(s, base)
	if !ok {
		t.Fatalf("%q is no number to base %d", s, base)
	}
	return x
}

// The first fault from the left counts, whichever of the two it is.
func TestParseBaseOfTwoFaults(t *testing.T) {
	wantParsed(t, "12", 2, 0, api.ErrDigit, 1)
	wantParsed(t, "18446744073709551616x", 10, 0, api.ErrRange, 19)
	wantParsed(t, "1844674407370955161x6", 10, 0, api.ErrDigit, 19)
	wantParsed(t, "x18446744073709551616", 10, 0, api.ErrDigit, 0)
	wantParsed(t, "1844674407370955161a", 10, 0, api.ErrDigit, 19)
	wantParsed(t, "1x2y", 10, 0, api.ErrDigit, 1)
	wantParsed(t, "-1", 10, 0, api.ErrDigit, 0)
	wantParsed(t, "0x10", 16, 0, api.ErrDigit, 1)
	wantParsed(t, "1\u00e9", 16, 0, api.ErrDigit, 1)
}

// P1.3

func TestHex(t *testing.T) {
	for want, b := range map[string][]byte{
		"": nil, "00": {0}, "0f": {15}, "f0": {240}, "0a00ff": {10, 0, 255}, "6869": []byte("hi"),
	} {
		if got := Hex(b); got != want {
			t.Errorf("Hex(%v): %q, want %q", b, got, want)
		}
	}
	if got := Hex([]byte{}); got != "" {
		t.Errorf("Hex of an empty list: %q", got)
	}
	all := eachOctet()
	if got := Hex(all); got != hex.EncodeToString(all) {
		t.Errorf("Hex of each octet: %q", got)
	}
}

func TestUnhex(t *testing.T) {
	wantOctets(t, "", nil, api.OK, 0)
	wantOctets(t, "00", []byte{0}, api.OK, 2)
	wantOctets(t, "0a00fF", []byte{10, 0, 255}, api.OK, 6)
	wantOctets(t, "ABCDEFabcdef", []byte{0xab, 0xcd, 0xef, 0xab, 0xcd, 0xef}, api.OK, 12)
	all := eachOctet()
	wantOctets(t, hex.EncodeToString(all), all, api.OK, 512)
	wantOctets(t, strings.ToUpper(hex.EncodeToString(all)), all, api.OK, 512)
}

func TestUnhexOfOddNumber(t *testing.T) {
	wantOctets(t, "0", nil, api.ErrCount, 1)
	wantOctets(t, "f", nil, api.ErrCount, 1)
	wantOctets(t, "abc", nil, api.ErrCount, 3)
	wantOctets(t, strings.Repeat("A", 1001), nil, api.ErrCount, 1001)
}

func TestUnhexOfNoDigit(t *testing.T) {
	wantOctets(t, "0g", nil, api.ErrDigit, 1)
	wantOctets(t, "g0", nil, api.ErrDigit, 0)
	wantOctets(t, "0x10", nil, api.ErrDigit, 1)
	wantOctets(t, "00 0", nil, api.ErrDigit, 2)
	wantOctets(t, "xyz", nil, api.ErrDigit, 0)
	// A byte that is no digit goes ahead of an odd number of them.
	wantOctets(t, "-", nil, api.ErrDigit, 0)
	wantOctets(t, "00G", nil, api.ErrDigit, 2)
	wantOctets(t, "0g0", nil, api.ErrDigit, 1)
	for c := range 256 {
		s := "12" + string([]byte{byte(c)}) + "3"
		if strings.IndexByte("0123456789abcdefABCDEF", byte(c)) < 0 {
			wantOctets(t, s, nil, api.ErrDigit, 2)
			wantOctets(t, s+"4", nil, api.ErrDigit, 2)
		} else {
			want, _ := hex.DecodeString(s)
			wantOctets(t, s, want, api.OK, 4)
			wantOctets(t, s+"4", nil, api.ErrCount, 5)
		}
	}
}

func eachOctet() []byte {
	b := make([]byte, 256)
	for i := range b {
		b[i] = byte(i)
	}
	return b
}

// P1.4

func TestThereAndBack(t *testing.T) {
	for _, n := range someInts() {
		if got, e := ParseInt(Decimal(n)); got != n || e != api.OK {
			t.Errorf("ParseInt of Decimal(%d): %d, %d", n, got, e)
		}
	}
	for _, base := range bases {
		for _, n := range someUints() {
			s, _ := Base(n, base)
			wantParsed(t, s, base, n, api.OK, len(s))
		}
	}
	all := eachOctet()
	for n := range len(all) + 1 {
		wantOctets(t, Hex(all[:n]), all[:n], api.OK, 2*n)
		wantOctets(t, Hex(all[n:]), all[n:], api.OK, 2*(len(all)-n))
	}
}

// P1.5

func TestHexLeavesItsOctets(t *testing.T) {
	room := []byte{1, 2, 3, 4}
	text := Hex(room[:2])
	if !slices.Equal(room, []byte{1, 2, 3, 4}) {
		t.Errorf("Hex changed what it was given: %v", room)
	}
	room[0], room[1] = 9, 9
	if text != "0102" {
		t.Errorf("Hex's answer follows what it was given: %q", text)
	}
}

func TestUnhexAnswersNewMemory(t *testing.T) {
	first, _, _ := Unhex("0102")
	second, _, _ := Unhex("0102")
	whole := first[:cap(first)]
	for i := range whole {
		whole[i] = 0xee
	}
	_ = append(first, 0xee)
	if !slices.Equal(second, []byte{1, 2}) {
		t.Errorf("two answers of Unhex share memory: %v", second)
	}
	wantOctets(t, "0102", []byte{1, 2}, api.OK, 4)
}

// Whoever ranges over digits may leave early, and may range again.
func TestDigitsLeftEarly(t *testing.T) {
	l := digits(907, 10)
	for _, want := range [][]uint64{{9}, {9, 0}, {9, 0, 7}} {
		var got []uint64
		for d := range l {
			got = append(got, d)
			if len(got) == len(want) {
				break
			}
		}
		if !slices.Equal(got, want) {
			t.Errorf("digits of 907: %v, want %v", got, want)
		}
	}
}
