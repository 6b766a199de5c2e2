package value

import (
	"math"
	"testing"
)

// truths are numbers, and the place in a table of truths as which each counts.
func truths() []struct{ n, place int } {
	return []struct{ n, place int }{
		{0, 0}, {1, 1}, {2, 2}, {3, 2}, {4, 2}, {9, 2}, {-1, 2}, {-2, 2}, {256, 2}, {257, 2},
		{1 << 32, 2}, {1<<32 + 1, 2}, {math.MaxInt, 2}, {math.MinInt, 2}, {math.MinInt + 1, 2},
	}
}

func TestAnd(t *testing.T) {
	want := [3][3]int{{0, 0, 0}, {0, 1, 2}, {0, 2, 2}}
	for _, a := range truths() {
		for _, b := range truths() {
			if got := And(a.n, b.n); got != want[a.place][b.place] {
				t.Errorf("%d and %d: %d", a.n, b.n, got)
			}
		}
	}
}

func TestOr(t *testing.T) {
	want := [3][3]int{{0, 1, 2}, {1, 1, 1}, {2, 1, 2}}
	for _, a := range truths() {
		for _, b := range truths() {
			if got := Or(a.n, b.n); got != want[a.place][b.place] {
				t.Errorf("%d or %d: %d", a.n, b.n, got)
			}
		}
	}
}

func TestNot(t *testing.T) {
	want := [3]int{1, 0, 2}
	for _, a := range truths() {
		if got := Not(a.n); got != want[a.place] {
			t.Errorf("not %d: %d", a.n, got)
		}
	}
}
