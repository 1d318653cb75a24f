// Package reckon has the sums that several layers reckon with: of numbers, of fractions that are rounded up, and of ratios.
package reckon

import "testliner/api"

// Sum returns the sum of all numbers.
func Sum(numbers ...int) int {
	all := 0
	for _, n := range numbers {
		all += n
	}
	return all
}

// Up returns n / by, rounded up, for a by above 0 and an n that is not below 0.
func Up(n, by int) int { return (n + by - 1) / by }

// Lowest returns num / den in lowest terms, for a den above 0 and a num that is not below 0.
func Lowest(num, den int) api.Ratio {
	a, b := num, den
	for b != 0 {
		a, b = b, a%b
	}
	return api.Ratio{Num: num / a, Den: den / a}
}
