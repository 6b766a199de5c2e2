package eval

import (
	"math"
	"testing"

	"askance/api"
)

func TestOfTruths(t *testing.T) {
	for n, want := range map[int]int{0: 0, 1: 1, 2: 0, 3: 1, 4: 0, 5: 1, 256: 0, 257: 1, -1: 1, -2: 0, -3: 1, -4: 0, 1 << 32: 0, 1<<32 + 1: 1, math.MaxInt: 1, math.MaxInt - 1: 0, math.MinInt: 0, math.MinInt + 1: 1} {
		for _, s := range []string{"", "x", "123456789"} {
			if got := Of(api.Value{Kind: api.Truth, N: n, S: s}); got != want {
				t.Errorf("%d, %q: %d", n, s, got)
			}
		}
	}
}

func TestOfOthers(t *testing.T) {
	for _, kind := range []int{api.Null, api.Int, api.Text, -1, 4, 5, 7, 259, 3 + 1<<32, math.MaxInt, math.MinInt} {
		for n := -3; n <= 3; n++ {
			if got := Of(api.Value{Kind: kind, N: n}); got != 2 {
				t.Errorf("kind %d, %d: %d", kind, n, got)
			}
		}
	}
	for _, v := range append(goodValues(), badValues()...) {
		if got := Of(v); got != 2 {
			t.Errorf("%+v: %d", v, got)
		}
	}
}

func TestTruth(t *testing.T) {
	for n, want := range map[int]api.Value{0: no(), 1: yes()} {
		if got := Truth(n); got != want {
			t.Errorf("%d: %+v", n, got)
		}
		if got := Of(Truth(n)); got != n {
			t.Errorf("of %d: %d", n, got)
		}
	}
	for _, n := range []int{2, 3, 4, 5, -1, -2, 256, 257, 1 << 32, 1<<32 + 1, math.MaxInt, math.MinInt, math.MinInt + 1} {
		if got := Truth(n); got != (api.Value{}) {
			t.Errorf("%d: %+v", n, got)
		}
		if got := Of(Truth(n)); got != 2 {
			t.Errorf("of %d: %d", n, got)
		}
	}
}
