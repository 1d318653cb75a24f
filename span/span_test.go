package span_test

import (
	"math"
	"testing"

	"testliner/api"
	"testliner/span"
)

func TestWithin(t *testing.T) {
	for i, c := range []struct {
		low, high int
		numbers   []int
		within    bool
	}{
		{1, 3, nil, true},
		{3, 1, nil, true},
		{1, 3, []int{1, 2, 3}, true},
		{1, 3, []int{0}, false},
		{1, 3, []int{2, 4}, false},
		{1, 3, []int{4, 2}, false},
		{3, 1, []int{2}, false},
		{math.MinInt, math.MaxInt, []int{math.MinInt, math.MaxInt}, true},
		{0, 0, []int{math.MinInt}, false},
	} {
		if span.Within(c.low, c.high, c.numbers...) != c.within {
			t.Error(i, c)
		}
	}
}

func TestValid(t *testing.T) {
	to := func(low, high int) api.Span { return api.Span{Low: low, High: high} }
	for i, c := range []struct {
		spans []api.Span
		valid bool
	}{
		{nil, true},
		{[]api.Span{to(-2, 5)}, true},
		{[]api.Span{to(4, 4), to(-2, -2)}, true},
		{[]api.Span{to(-3, 5)}, false},
		{[]api.Span{to(-2, 6)}, false},
		{[]api.Span{to(2, 1)}, false},
		{[]api.Span{to(1, 2), to(2, 1)}, false},
		{[]api.Span{to(math.MaxInt, math.MinInt)}, false},
	} {
		if span.Valid(-2, 5, c.spans...) != c.valid {
			t.Error(i, c)
		}
	}
}
