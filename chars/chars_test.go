package chars

import (
	"math"
	"slices"
	"strings"
	"testing"

	"hornbeam/api"
)

// strangers are integers that are not characters; some of them become characters when they are cut to 8, 16 or 32 bits.
func strangers() []int {
	l := []int{math.MinInt, math.MinInt + 'a', math.MinInt32, -256 + 'a', -256, -128, -2, -1, 256, 256 + '\\', 256 + 'n', 1000, 1<<16 + '0', 1<<32 + 'a', math.MaxInt32, math.MaxInt}
	for c := range 256 {
		l = append(l, 256+c, c-256)
	}
	return l
}

// rangesOf lists, for each class, the first and the last character of each of its ranges, as the chapter gives them.
func rangesOf(class int) [][2]int {
	return map[int][][2]int{
		api.ClassLayout:  {{9, 13}, {32, 32}},
		api.ClassSmall:   {{97, 122}},
		api.ClassCapital: {{65, 90}, {95, 95}},
		api.ClassDigit:   {{48, 57}},
		api.ClassSymbol:  {{35, 36}, {38, 38}, {42, 43}, {45, 47}, {58, 58}, {60, 64}, {92, 92}, {94, 94}, {126, 126}},
		api.ClassSolo:    {{33, 33}, {37, 37}, {40, 41}, {44, 44}, {59, 59}, {91, 91}, {93, 93}, {123, 125}},
		api.ClassQuote:   {{34, 34}, {39, 39}, {96, 96}},
		api.ClassOther:   {{0, 8}, {14, 31}, {127, 255}},
	}[class]
}

func inClass(c, class int) bool {
	return slices.ContainsFunc(rangesOf(class), func(r [2]int) bool { return r[0] <= c && c <= r[1] })
}

// P1.1, P1.2
func TestClassOfEveryCharacter(t *testing.T) {
	for c := range 256 {
		var classes []int
		for class := api.ClassLayout; class <= api.ClassOther; class++ {
			if inClass(c, class) {
				classes = append(classes, class)
			}
		}
		if got := Class(c); len(classes) != 1 || got != classes[0] {
			t.Errorf("Class(%d) = %d, want one of %v", c, got, classes)
		}
	}
}

// P1.2
func TestClassOfOtherIntegers(t *testing.T) {
	for _, c := range strangers() {
		if got := Class(c); got != api.ClassNone {
			t.Errorf("Class(%d) = %d", c, got)
		}
	}
}

// P1.1
func TestClassExamples(t *testing.T) {
	for _, x := range []struct{ c, want int }{{32, 1}, {'_', 3}, {'%', 6}, {200, 8}, {256, 0}, {124, 6}, {9, 1}, {13, 1}, {8, 8}, {14, 8}, {127, 8}} {
		if got := Class(x.c); got != x.want {
			t.Errorf("Class(%d) = %d, want %d", x.c, got, x.want)
		}
	}
}

// P1.1
func TestDigitOfEveryCharacterAndBase(t *testing.T) {
	const digits = "0123456789abcdefghijklmnopqrstuvwxyz"
	for base := -3; base <= 40; base++ {
		for c := -300; c < 600; c++ {
			want := -1
			if 0 <= c && c < 128 {
				want = strings.Index(digits, strings.ToLower(string(rune(c))))
			}
			ok := base >= 2 && base <= 36 && want >= 0 && want < base
			if !ok {
				want = 0
			}
			if got, gotOk := Digit(c, base); got != want || gotOk != ok {
				t.Errorf("Digit(%d, %d) = %d, %v, want %d, %v", c, base, got, gotOk, want, ok)
			}
		}
	}
}

// P1.1
func TestDigitExamples(t *testing.T) {
	for _, x := range []struct {
		c, base, want int
		ok            bool
	}{
		{'f', 16, 15, true}, {'F', 16, 15, true}, {'g', 16, 0, false}, {'8', 8, 0, false}, {'7', 8, 7, true},
		{'z', 36, 35, true}, {'Z', 36, 35, true}, {'z', 35, 0, false}, {'0', 2, 0, true}, {'1', 2, 1, true}, {'2', 2, 0, false},
		{'0', 1, 0, false}, {'0', 0, 0, false}, {'0', 37, 0, false}, {'0', math.MinInt, 0, false}, {'0', math.MaxInt, 0, false},
		{math.MinInt, 10, 0, false}, {math.MaxInt, 10, 0, false}, {math.MinInt, math.MaxInt, 0, false},
		{'/', 36, 0, false}, {':', 36, 0, false}, {'@', 36, 0, false}, {'[', 36, 0, false}, {'`', 36, 0, false}, {'{', 36, 0, false},
	} {
		if got, ok := Digit(x.c, x.base); got != x.want || ok != x.ok {
			t.Errorf("Digit(%d, %d) = %d, %v", x.c, x.base, got, ok)
		}
	}
}

// P1.1
func TestDigitOfOtherIntegers(t *testing.T) {
	for _, c := range strangers() {
		if got, ok := Digit(c, 36); got != 0 || ok {
			t.Errorf("Digit(%d, 36) = %d, %v", c, got, ok)
		}
	}
}

func escapeByTheChapter(c int) string {
	const hex = "0123456789abcdef"
	switch {
	case c == 7:
		return `\a`
	case c == 8:
		return `\b`
	case c == 9:
		return `\t`
	case c == 10:
		return `\n`
	case c == 11:
		return `\v`
	case c == 12:
		return `\f`
	case c == 13:
		return `\r`
	case c == 39:
		return `\'`
	case c == 92:
		return `\\`
	case c >= 32 && c <= 126:
		return string([]byte{byte(c)})
	case c < 16:
		return `\x` + hex[c:c+1] + `\`
	}
	return `\x` + hex[c/16:c/16+1] + hex[c%16:c%16+1] + `\`
}

// P1.1
func TestEscapeOfEveryCharacter(t *testing.T) {
	for c := range 256 {
		if got, ok := Escape(c); !ok || got != escapeByTheChapter(c) {
			t.Errorf("Escape(%d) = %q, %v, want %q", c, got, ok, escapeByTheChapter(c))
		}
	}
}

// P1.1
func TestEscapeExamples(t *testing.T) {
	for c, want := range map[int]string{0: `\x0\`, 7: `\a`, 10: `\n`, 13: `\r`, 14: `\xe\`, 16: `\x10\`, 31: `\x1f\`, 32: " ", 34: `"`, 39: `\'`, 92: `\\`, 96: "`", 126: "~", 127: `\x7f\`, 128: `\x80\`, 255: `\xff\`} {
		if got, ok := Escape(c); !ok || got != want {
			t.Errorf("Escape(%d) = %q, %v, want %q", c, got, ok, want)
		}
	}
}

// P1.1
func TestEscapeOfOtherIntegers(t *testing.T) {
	for _, c := range strangers() {
		if got, ok := Escape(c); got != "" || ok {
			t.Errorf("Escape(%d) = %q, %v", c, got, ok)
		}
	}
}

// P1.1
func TestUnescapeOfEveryCharacter(t *testing.T) {
	known := map[int]int{'a': 7, 'b': 8, 't': 9, 'n': 10, 'v': 11, 'f': 12, 'r': 13, '\\': '\\', '\'': '\'', '"': '"', '`': '`'}
	for letter := range 256 {
		want, ok := known[letter]
		if got, gotOk := Unescape(letter); got != want || gotOk != ok {
			t.Errorf("Unescape(%d) = %d, %v, want %d, %v", letter, got, gotOk, want, ok)
		}
	}
}

// P1.1
func TestUnescapeOfOtherIntegers(t *testing.T) {
	for _, letter := range strangers() {
		if got, ok := Unescape(letter); got != 0 || ok {
			t.Errorf("Unescape(%d) = %d, %v", letter, got, ok)
		}
	}
}

// P1.3
func TestEscapesDifferAndAreInverted(t *testing.T) {
	seen := map[string]int{}
	for c := range 256 {
		text, _ := Escape(c)
		if other, ok := seen[text]; ok {
			t.Errorf("%d and %d are both written %q", other, c, text)
		}
		seen[text] = c
		for _, b := range []byte(text) {
			if b < 32 || b > 126 {
				t.Errorf("Escape(%d) contains %d", c, b)
			}
		}
		if len(text) != 2 {
			continue
		}
		if back, ok := Unescape(int(text[1])); !ok || back != c {
			t.Errorf("Unescape(%d) = %d, %v, want %d", text[1], back, ok, c)
		}
	}
}
