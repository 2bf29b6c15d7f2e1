package ints

import (
	"cmp"
	"math/bits"

	"hornbeam/api"
)

// A unary computes the value of a function of one integer, a binary that of a function of two.
type (
	unary  func(a int64) (value int64, e api.Errno)
	binary func(a, b int64) (value int64, e api.Errno)
)

// greatestShift is the greatest number of bits by which an integer is shifted.
const greatestShift = 63

// unaries returns the functions of one integer by their names.
func unaries() map[string]unary {
	return map[string]unary{
		"-":    func(a int64) (int64, api.Errno) { return signed(a > 0, size(a)) },
		"+":    func(a int64) (int64, api.Errno) { return a, api.OK },
		"abs":  func(a int64) (int64, api.Errno) { return signed(false, size(a)) },
		"sign": func(a int64) (int64, api.Errno) { return int64(cmp.Compare(a, 0)), api.OK },
		"\\":   func(a int64) (int64, api.Errno) { return ^a, api.OK },
	}
}

// binaries returns the functions of two integers by their names.
func binaries() map[string]binary {
	return map[string]binary{
		"+":   add,
		"-":   subtract,
		"*":   multiply,
		"//":  divisor(quotient),
		"rem": divisor(total(func(a, b int64) int64 { return a % b })),
		"div": divisor(floorQuotient),
		"mod": divisor(total(modulus)),
		"min": total(func(a, b int64) int64 { return min(a, b) }),
		"max": total(func(a, b int64) int64 { return max(a, b) }),
		">>":  count(total(func(a, b int64) int64 { return a >> b })),
		"<<":  count(shiftLeft),
		"/\\": total(func(a, b int64) int64 { return a & b }),
		"\\/": total(func(a, b int64) int64 { return a | b }),
		"xor": total(func(a, b int64) int64 { return a ^ b }),
		"^":   power,
		"gcd": commonDivisor,
	}
}

// total is the binary of a function that has a value for all integers with which it is called.
func total(f func(a, b int64) int64) binary {
	return func(a, b int64) (int64, api.Errno) {
		return f(a, b), api.OK
	}
}

// divisor lets f be called only with a second argument by which can be divided.
func divisor(f binary) binary {
	return func(a, b int64) (int64, api.Errno) {
		if b == 0 {
			return 0, api.ErrZero
		}
		return f(a, b)
	}
}

// count lets f be called only with a second argument by which can be shifted.
func count(f binary) binary {
	return func(a, b int64) (int64, api.Errno) {
		if b < 0 || b > greatestShift {
			return 0, api.ErrUndef
		}
		return f(a, b)
	}
}

// size returns the absolute value of a, which for the least integer only an unsigned integer can hold.
func size(a int64) uint64 {
	if a < 0 {
		return -uint64(a)
	}
	return uint64(a)
}

// signed returns the integer with an absolute value and a sign.
func signed(negative bool, magnitude uint64) (int64, api.Errno) {
	const sizeOfLeast = 1 << 63
	switch {
	case negative && magnitude <= sizeOfLeast:
		return int64(-magnitude), api.OK
	case magnitude < sizeOfLeast:
		return int64(magnitude), api.OK
	}
	return 0, api.ErrOverflow
}

func add(a, b int64) (int64, api.Errno) {
	sum := a + b
	if (sum < a) != (b < 0) {
		return 0, api.ErrOverflow
	}
	return sum, api.OK
}

func subtract(a, b int64) (int64, api.Errno) {
	difference := a - b
	if (difference > a) != (b < 0) {
		return 0, api.ErrOverflow
	}
	return difference, api.OK
}

func multiply(a, b int64) (int64, api.Errno) {
	high, low := bits.Mul64(size(a), size(b))
	if high != 0 {
		return 0, api.ErrOverflow
	}
	return signed((a < 0) != (b < 0), low)
}

func quotient(a, b int64) (int64, api.Errno) {
	return signed((a < 0) != (b < 0), size(a)/size(b))
}

func floorQuotient(a, b int64) (int64, api.Errno) {
	q, e := quotient(a, b)
	// The remainders differ where rounding down differs from truncation; then b is neither 1 nor -1, and q - 1 is in the range.
	if a%b != modulus(a, b) {
		q--
	}
	return q, e
}

func modulus(a, b int64) int64 {
	r := a % b
	if r != 0 && (r < 0) != (b < 0) {
		r += b
	}
	return r
}

func shiftLeft(a, b int64) (int64, api.Errno) {
	shifted := a << b
	if shifted>>b != a {
		return 0, api.ErrOverflow
	}
	return shifted, api.OK
}

func power(a, b int64) (int64, api.Errno) {
	switch {
	case b < 0:
		return inversePower(a, b)
	case b == 0:
		return 1, api.OK
	}
	root, e := power(a, b/2)
	if e != api.OK {
		return 0, e
	}
	// No square is 2^63; so if the square overflows, the power, which is at least as far from 0, overflows too.
	square, e := multiply(root, root)
	if e != api.OK || b%2 == 0 {
		return square, e
	}
	return multiply(square, a)
}

// inversePower returns a to a power below 0.
func inversePower(a, b int64) (int64, api.Errno) {
	switch {
	case a == 0:
		return 0, api.ErrZero
	case a == 1 || a == -1 && b%2 == 0:
		return 1, api.OK
	case a == -1:
		return -1, api.OK
	}
	return 0, api.ErrUndef
}

func commonDivisor(a, b int64) (int64, api.Errno) {
	m, n := size(a), size(b)
	for n != 0 {
		m, n = n, m%n
	}
	return signed(false, m)
}
