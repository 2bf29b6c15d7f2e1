package ints

import (
	"math"
	"math/big"
	"strings"
	"testing"

	"hornbeam/api"
)

// P2.4
func TestText(t *testing.T) {
	for n, want := range map[int64]string{0: "0", 7: "7", -7: "-7", 10: "10", -40: "-40", 1000: "1000", greatest: "9223372036854775807", least: "-9223372036854775808"} {
		if got := Text(n); got != want {
			t.Errorf("Text(%d) = %q, want %q", n, got, want)
		}
	}
	for _, n := range numbers() {
		if got, want := Text(n), big.NewInt(n).String(); got != want {
			t.Errorf("Text of %s = %q", want, got)
		}
	}
}

type parseCase struct {
	digits string
	base   int
	want   int64
	e      api.Errno
}

func checkParse(t *testing.T, cases []parseCase) {
	t.Helper()
	for _, x := range cases {
		if got, e := Parse(x.digits, x.base); got != x.want || e != x.e {
			t.Errorf("Parse(%.60q, %d) = %d, %d, want %d, %d", x.digits, x.base, got, e, x.want, x.e)
		}
	}
}

// P2.5
func TestParseExamples(t *testing.T) {
	zeros := strings.Repeat("0", 50000)
	checkParse(t, []parseCase{
		{"-0ff", 16, -255, api.OK}, {"FF", 16, 255, api.OK}, {"fF", 16, 255, api.OK}, {"zZ", 36, 1295, api.OK}, {"101", 2, 5, api.OK}, {"777", 8, 511, api.OK},
		{"0", 10, 0, api.OK}, {"-0", 10, 0, api.OK}, {"007", 10, 7, api.OK}, {"-000", 2, 0, api.OK}, {zeros + "12", 10, 12, api.OK}, {"-" + zeros + "12", 10, -12, api.OK},
		{"9223372036854775807", 10, greatest, api.OK}, {"9223372036854775808", 10, 0, api.ErrOverflow}, {"-9223372036854775808", 10, least, api.OK}, {"-9223372036854775809", 10, 0, api.ErrOverflow},
		{"18446744073709551615", 10, 0, api.ErrOverflow}, {"18446744073709551616", 10, 0, api.ErrOverflow}, {"-18446744073709551617", 10, 0, api.ErrOverflow}, {"36893488147419103232", 10, 0, api.ErrOverflow},
		{strings.Repeat("9", 50000), 10, 0, api.ErrOverflow}, {zeros + "9223372036854775808", 10, 0, api.ErrOverflow}, {"1" + zeros, 2, 0, api.ErrOverflow},
	})
}

// P2.5
func TestParseOfTextsThatAreNotNumbers(t *testing.T) {
	nines := strings.Repeat("9", 50)
	for _, digits := range []string{"", "-", "--1", "+1", "-+1", "1-", "1-1", " 1", "1 ", "- 1", "1_000", "0x1", "0b1", "0o7", "1.0", "1e3", "1a", "a", "A", ":", "/", "\n", "\x00", "1\x00", "\xff", "1\xb5", "\u0661", "\uff11", "0'a", nines + "x", "-" + nines + "x", "x" + nines, nines + "-", nines + " "} {
		checkParse(t, []parseCase{{digits, 10, 0, api.ErrForm}})
	}
	checkParse(t, []parseCase{{"2", 2, 0, api.ErrForm}, {"12", 2, 0, api.ErrForm}, {"8", 8, 0, api.ErrForm}, {"g", 16, 0, api.ErrForm}, {"G", 16, 0, api.ErrForm}, {"z", 35, 0, api.ErrForm}, {"[", 36, 0, api.ErrForm}, {"{", 36, 0, api.ErrForm}, {"@", 36, 0, api.ErrForm}, {"`", 36, 0, api.ErrForm}})
}

// P2.5: the base is checked first.
func TestParseInOtherBases(t *testing.T) {
	for _, base := range []int{math.MinInt, -10, -1, 0, 1, 37, 62, 64, 256 + 10, 1<<32 + 10, math.MaxInt} {
		for _, digits := range []string{"", "-", "0", "1", "x", strings.Repeat("9", 50)} {
			checkParse(t, []parseCase{{digits, base, 0, api.ErrArg}})
		}
	}
}

// P2.5
func TestParseOfEveryDigit(t *testing.T) {
	const all = "0123456789abcdefghijklmnopqrstuvwxyz"
	for base := 2; base <= 36; base++ {
		for c := range 256 {
			text := string([]byte{byte(c)})
			want := strings.Index(all[:base], text)
			if 'A' <= c && c <= 'Z' {
				want = strings.Index(all[:base], strings.ToLower(text))
			}
			if want < 0 {
				checkParse(t, []parseCase{{text, base, 0, api.ErrForm}, {"1" + text, base, 0, api.ErrForm}})
				continue
			}
			n, b := int64(want), int64(base)
			checkParse(t, []parseCase{{text, base, n, api.OK}, {"1" + text, base, b + n, api.OK}, {"-" + text + "1", base, -b*n - 1, api.OK}})
		}
	}
}

// P2.5: around the ends of the range, and where 64 bits wrap around.
func TestParseAtTheEndsInEveryBase(t *testing.T) {
	var around []*big.Int
	for _, bit := range []uint{31, 32, 62, 63, 64, 65, 70, 128} {
		power := new(big.Int).Lsh(big.NewInt(1), bit)
		for d := int64(-40); d <= 40; d++ {
			n := new(big.Int).Add(power, big.NewInt(d))
			around = append(around, n, new(big.Int).Neg(n))
		}
	}
	for base := 2; base <= 36; base++ {
		for _, n := range around {
			want, why := inRange(n)
			digits := n.Text(base)
			checkParse(t, []parseCase{{digits, base, want, why}, {strings.ToUpper(digits), base, want, why}, {digits + "!", base, 0, api.ErrForm}})
		}
	}
}

// P2.7
func TestParseInvertsText(t *testing.T) {
	for _, n := range numbers() {
		checkParse(t, []parseCase{{Text(n), 10, n, api.OK}})
	}
	for n := int64(-2000); n <= 2000; n++ {
		checkParse(t, []parseCase{{Text(n), 10, n, api.OK}})
	}
}
