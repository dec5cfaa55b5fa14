package lex

import (
	"strings"

	"junction/api"
)

// Place is the place of the byte at an index; the zero place, if the text has no such index.
func Place(src string, at int) api.Pos {
	if at < 0 || at > len(src) {
		return api.Pos{}
	}
	ahead := src[:at]
	return api.Pos{
		Line: strings.Count(ahead, "\n") + 1,
		Col:  at - strings.LastIndexByte(ahead, '\n'),
	}
}

// LineOf is a line of a text, without its end.
func LineOf(src string, line int) string {
	if line < 1 {
		return ""
	}
	for ; line > 1; line-- {
		_, rest, found := strings.Cut(src, "\n")
		if !found {
			return ""
		}
		src = rest
	}
	text, _, ended := strings.Cut(src, "\n")
	if ended {
		text = strings.TrimSuffix(text, "\r")
	}
	return text
}
