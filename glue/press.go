package glue

import (
	"testliner/api"
	"testliner/reckon"
)

// press is a rule by which the glue of pressed boxes sets.
type press struct{ api.GlueRule }

// time returns how many minutes glue needs in one truth.
func (p press) time(warm, damp int) int {
	return reckon.Up(p.Minutes*(1000-p.Degree*warm+p.Damp*damp), 1000)
}

// times returns how many minutes glue needs in a room: the fewest where it is warm and dry.
func (p press) times(room api.GlueRoom) api.Span {
	return api.Span{Low: p.time(room.Warm.High, room.Damp.Low), High: p.time(room.Warm.Low, room.Damp.High)}
}

// open returns the boxes that surely open, and those that possibly do, if they were pressed for so many minutes.
func (p press) open(rooms []api.GlueRoom, pressed ...int) (surely, possibly []int) {
	for box, minutes := range pressed {
		times := p.times(rooms[box])
		if minutes < times.Low {
			surely = append(surely, box)
		}
		if minutes < times.High {
			possibly = append(possibly, box)
		}
	}
	return surely, possibly
}
