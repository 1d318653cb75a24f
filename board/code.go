package board

import (
	"strconv"
	"strings"

	"testliner/api"
)

// Code returns the code of a board.
func Code(b api.BoardMake) (string, api.Errno) {
	if !formed(b) {
		return "", api.ErrForm
	}
	if !numbered(b, api.MaxBoardPapers, api.MaxBoardKinds) {
		return "", api.ErrRange
	}
	var code strings.Builder
	for place, paper := range b.Papers {
		if place > 0 {
			code.WriteByte('/')
		}
		code.WriteString(strconv.Itoa(paper))
		if kindAt(place) == api.BoardMedium {
			code.WriteByte('a' + byte(b.Flutes[place/2]))
		}
	}
	return code.String(), api.OK
}

// Read returns the board of a code.
func Read(code string) (api.BoardMake, api.Errno) {
	var b api.BoardMake
	// One part more than a board can have is enough to see that there are too many.
	for place, part := range strings.SplitN(code, "/", 2*api.MaxBoardFlutes+2) {
		medium := kindAt(place) == api.BoardMedium
		if len(part) != 1 && !medium || len(part) != 2 && medium {
			return api.BoardMake{}, api.ErrForm
		}
		b.Papers = append(b.Papers, int(part[0])-'0')
		if medium {
			b.Flutes = append(b.Flutes, int(part[1])-'a')
		}
	}
	if !formed(b) || !numbered(b, api.MaxBoardPapers, api.MaxBoardKinds) {
		return api.BoardMake{}, api.ErrForm
	}
	return b, api.OK
}
