// Package chars is layer 1: character classes and character conversion. See shared/doc/01-chars.md.
package chars

import (
	"cmp"
	"slices"
	"strconv"
	"strings"

	"hornbeam/api"
)

// group lists the characters of a class.
type group struct {
	class   int
	members string
}

// groups has no element for ClassOther, which contains the characters that no other class has.
var groups = [7]group{
	{api.ClassLayout, "\t\n\v\f\r "},
	{api.ClassSmall, "abcdefghijklmnopqrstuvwxyz"},
	{api.ClassCapital, "ABCDEFGHIJKLMNOPQRSTUVWXYZ_"},
	{api.ClassDigit, "0123456789"},
	{api.ClassSymbol, "#$&*+-./:<=>?@^~\\"},
	{api.ClassSolo, "!(),;[]{}%|"},
	{api.ClassQuote, "'\"`"},
}

// The characters from firstControl on are written as a backslash and the letter at their place in controlLetters.
const (
	firstControl   = 7
	controlLetters = "abtnvfr"
)

func isChar(c int) bool {
	return 0 <= c && c <= 255
}

// Class returns the class of a character.
func Class(c int) (class int) {
	if !isChar(c) {
		return api.ClassNone
	}
	contains := func(g group) bool {
		return strings.IndexByte(g.members, byte(c)) >= 0
	}
	for _, g := range groups {
		if contains(g) {
			return g.class
		}
	}
	return api.ClassOther
}

// Digit returns the value of a digit in a base.
func Digit(c, base int) (value int, ok bool) {
	if base < 2 || base > 36 {
		return 0, false
	}
	switch {
	case '0' <= c && c <= '9':
		value = c - '0'
	case 'a' <= c && c <= 'z':
		value = c - 'a' + 10
	case 'A' <= c && c <= 'Z':
		value = c - 'A' + 10
	default:
		return 0, false
	}
	if value >= base {
		return 0, false
	}
	return value, true
}

// Escape returns how a character is written within single quotes.
func Escape(c int) (text string, ok bool) {
	switch {
	case !isChar(c):
		return "", false
	case firstControl <= c && c < firstControl+len(controlLetters):
		at := c - firstControl
		return "\\" + controlLetters[at:at+1], true
	case c == '\'' || c == '\\':
		return "\\" + string(rune(c)), true
	case ' ' <= c && c <= '~':
		return string(rune(c)), true
	}
	return "\\x" + strconv.FormatInt(int64(c), 16) + "\\", true
}

// Unescape returns the character that a letter after a backslash denotes.
func Unescape(letter int) (c int, ok bool) {
	switch letter {
	case '\\', '\'', '"', '`':
		return letter, true
	}
	// A letter that is not a character could turn into one when it is cut to a byte.
	if !isChar(letter) {
		return 0, false
	}
	at := strings.IndexByte(controlLetters, byte(letter))
	if at < 0 {
		return 0, false
	}
	return firstControl + at, true
}

// Valid reports whether a conversion table is valid.
func Valid(l []api.Pair) (ok bool) {
	for i, p := range l {
		if !isChar(p.From) || !isChar(p.To) || p.From == p.To {
			return false
		}
		if i > 0 && l[i-1].From >= p.From {
			return false
		}
	}
	return true
}

// position returns the place of the pair for from in a valid table, or the place where it would be inserted.
func position(l []api.Pair, from int) (at int, found bool) {
	return slices.BinarySearchFunc(l, from, func(p api.Pair, from int) int {
		return cmp.Compare(p.From, from)
	})
}

// Convert returns the character to which a conversion table maps a character.
func Convert(l []api.Pair, c int) (to int) {
	if !Valid(l) || !isChar(c) {
		return 0
	}
	at, found := position(l, c)
	if !found {
		return c
	}
	return l[at].To
}

// Set returns the conversion table in which from is mapped to to.
func Set(l []api.Pair, from, to int) (table []api.Pair, e api.Errno) {
	if !Valid(l) || !isChar(from) || !isChar(to) {
		return nil, api.ErrArg
	}
	at, found := position(l, from)
	table = make([]api.Pair, len(l), len(l)+1)
	copy(table, l)
	if found {
		table = slices.Delete(table, at, at+1)
	}
	// A valid table has no pair for a character that is mapped to itself.
	if from != to {
		table = slices.Insert(table, at, api.Pair{From: from, To: to})
	}
	return table, api.OK
}
