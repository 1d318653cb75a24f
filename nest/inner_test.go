package nest

import (
	"testing"

	"testliner/api"
)

// Places end where a loop over them ends, which no function does by now.
func TestPlacesEnd(t *testing.T) {
	c := cutterOf([]api.NestCell{{}}, api.NestGrain, api.NestSheet{Size: api.Size{Long: 3, Wide: 3}})
	for name, places := range map[string]func(func(api.NestPlace) bool){
		"places": places([]int{0, 2}, api.Span{High: 1}, api.Span{High: 1}),
		"right":  c.right(),
	} {
		many := 0
		for range places {
			many++
			if many == 3 {
				break
			}
		}
		if many != 3 {
			t.Error(name, many)
		}
	}
}
