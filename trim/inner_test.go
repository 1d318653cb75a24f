package trim

import (
	"testing"

	"testliner/api"
)

// Patterns end where a loop over them ends, which no function does by now.
func TestPatternsEnd(t *testing.T) {
	m := machine{api.TrimPaper{Wide: 9, Trim: api.Span{Low: 0, High: 9}, Webs: 4}, make([]api.TrimOrder, 3)}
	many := 0
	for range m.patterns() {
		many++
		if many == 5 {
			break
		}
	}
	if many != 5 {
		t.Error(many)
	}
}
