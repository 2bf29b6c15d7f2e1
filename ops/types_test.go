package ops

import (
	"math"
	"slices"
	"strings"
	"testing"

	"hornbeam/api"
)

// letters are the names of the types in the order of their numbers.
func letters() []string {
	return []string{"xfx", "xfy", "yfx", "fy", "fx", "xf", "yf"}
}

// side is the greatest priority of the operands on a side of an operator, by the letter there.
func side(letter string, prec int) int {
	switch letter {
	case "x":
		return prec - 1
	case "y":
		return prec
	}
	return 0
}

// P7.3
func TestSides(t *testing.T) {
	for i, typ := range allTypes() {
		before, after, _ := strings.Cut(letters()[i], "f")
		for prec := 1; prec <= 1200; prec++ {
			for _, name := range []string{"a", ",", "[]", longest() + "x"} {
				left, right := Sides(op(prec, typ, name))
				if left != side(before, prec) || right != side(after, prec) {
					t.Errorf("Sides of %s with %d: %d, %d", letters()[i], prec, left, right)
				}
			}
		}
	}
}

// P7.3
func TestSidesOfNoOperator(t *testing.T) {
	check := func(prec, typ int) {
		t.Helper()
		if left, right := Sides(op(prec, typ, "a")); left != 0 || right != 0 {
			t.Errorf("Sides of %d, %d: %d, %d", prec, typ, left, right)
		}
	}
	for _, typ := range append(allTypes(), notTypes()...) {
		for _, prec := range append(notPriorities(), 0) {
			check(prec, typ)
		}
	}
	for _, typ := range notTypes() {
		for _, prec := range priorities() {
			check(prec, typ)
		}
	}
}

// P7.3
func TestSidesExamples(t *testing.T) {
	for name, want := range map[string][2]int{",": {999, 1000}, "\\+": {0, 900}} {
		i := slices.IndexFunc(Default(), func(o api.Op) bool { return o.Name == name })
		if left, right := Sides(Default()[i]); left != want[0] || right != want[1] {
			t.Errorf("Sides of %s: %d, %d", name, left, right)
		}
	}
}

// P7.6
func TestSidesOfValidOperators(t *testing.T) {
	for _, l := range validTables() {
		for _, o := range l {
			left, right := Sides(o)
			if left < 0 || right < 0 || left > o.Prec || right > o.Prec {
				t.Errorf("Sides of %v: %d, %d", o, left, right)
			}
			if class(o.Type) == 2 && left == o.Prec && right == o.Prec {
				t.Errorf("both Sides of %v: %d", o, left)
			}
		}
	}
}

// P7.3
func TestTypeName(t *testing.T) {
	for i, typ := range allTypes() {
		if name, ok := TypeName(typ); name != letters()[i] || !ok {
			t.Errorf("TypeName(%d) = %q, %v", typ, name, ok)
		}
	}
	for _, typ := range append(notTypes(), 10, 100, -math.MaxInt) {
		if name, ok := TypeName(typ); name != "" || ok {
			t.Errorf("TypeName(%d) = %q, %v", typ, name, ok)
		}
	}
}

// P7.3
func TestTypeOf(t *testing.T) {
	for i, name := range letters() {
		if typ, ok := TypeOf(name); typ != i+1 || !ok {
			t.Errorf("TypeOf(%q) = %d, %v", name, typ, ok)
		}
	}
	for _, name := range []string{"", "f", "x", "XFX", "xfx ", " fy", "yfy", "fyx", "xf\x00", "xfxx", "prefix", tooLong()[2]} {
		if typ, ok := TypeOf(name); typ != 0 || ok {
			t.Errorf("TypeOf(%.200q) = %d, %v", name, typ, ok)
		}
	}
}
