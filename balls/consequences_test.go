package balls

import (
	"testing"

	"hornbeam/api"
	"hornbeam/term"
)

// checkBall checks that a ball is an error term: valid, and with the formal that Formal returns.
func checkBall(t *testing.T, call string, got api.Term) {
	t.Helper()
	formal, ok := Formal(got)
	if !ok || !term.Valid(got) || !equal(got, ball(formal)) {
		t.Errorf("%s: %s has the formal %s, %v", call, text(got), text(formal), ok)
	}
}

// P6.8
func TestBallsAreErrorTerms(t *testing.T) {
	checkBall(t, "Inst", Inst())
	checkBall(t, "Syntax", Syntax(0))
	for _, name := range names() {
		checkBall(t, "Representation", Representation(name))
		checkBall(t, "Evaluation", Evaluation(name))
	}
	for call, m := range makers() {
		for _, culprit := range samples() {
			checkBall(t, call, m.call("list", culprit))
			checkBall(t, call, m.call(longest(), culprit))
		}
	}
}

// P6.8, P6.9: a check passes and has no ball, or its ball is an error term and there is no value.
func TestPassedOrRefused(t *testing.T) {
	for name, f := range allChecks() {
		passed := 0
		for _, u := range samples() {
			switch got := f(u); {
			case !got.ok:
				checkBall(t, name, got.ball)
				if len(got.value) != 0 {
					t.Errorf("%s refuses %s and returns %s", name, text(u), texts(got.value))
				}
			case !isZero(got.ball):
				t.Errorf("%s passes %s with the ball %s", name, text(u), text(got.ball))
			default:
				passed++
			}
		}
		if passed == 0 || passed == len(samples()) {
			t.Errorf("%s passes %d of %d samples", name, passed, len(samples()))
		}
	}
}

// P6.9
func TestKindsThatPass(t *testing.T) {
	always := map[int][]string{api.KindAtom: {"Callable", "Atomic"}, api.KindInt: {"Int", "Atomic"}, api.KindStruct: {"Callable"}}
	for name, f := range allChecks() {
		for _, u := range samples() {
			if ok := f(u).ok; ok && u.Kind == api.KindVar {
				t.Errorf("%s passes %s", name, text(u))
			}
		}
	}
	for _, u := range samples() {
		for _, name := range always[u.Kind] {
			if !allChecks()[name](u).ok {
				t.Errorf("%s refuses %s", name, text(u))
			}
		}
	}
}
