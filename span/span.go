// Package span tells which numbers and spans are within limits, for all layers.
package span

import "testliner/api"

// Within reports whether all numbers are from low to high.
func Within(low, high int, numbers ...int) bool {
	for _, n := range numbers {
		if n < low || n > high {
			return false
		}
	}
	return true
}

// Valid reports whether all spans are valid from low to high.
func Valid(low, high int, spans ...api.Span) bool {
	for _, s := range spans {
		if !Within(low, high, s.Low, s.High) || s.Low > s.High {
			return false
		}
	}
	return true
}
