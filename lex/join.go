package lex

import (
	"strconv"
	"strings"

	"junction/api"
)

// Join writes tokens with one blank between each two.
func Join(ts []api.Token) (string, api.Errno) {
	for i, t := range ts {
		if !canBeWritten(t, i == len(ts)-1) {
			return "", api.ErrJoin
		}
	}
	var text strings.Builder
	for i, t := range ts {
		if t.Kind == api.TkEnd {
			break
		}
		if i > 0 {
			text.WriteByte(' ')
		}
		text.WriteString(written(t))
		// Asked at each token, so that a long list costs no more room than a text may have.
		if text.Len() > api.MaxSource {
			return "", api.ErrLong
		}
	}
	return text.String(), api.OK
}

func canBeWritten(t api.Token, last bool) bool {
	switch t.Kind {
	case api.TkName:
		return t.Num == 0 && KindOf(t.Text) == api.TkName
	case api.TkNumber:
		return t.Num >= 0 && t.Text == ""
	case api.TkEnd:
		return last && t.Num == 0 && t.Text == ""
	}
	return Word(t.Kind) != "" && t.Num == 0 && t.Text == ""
}

// written is the text of a token that can be written.
func written(t api.Token) string {
	switch t.Kind {
	case api.TkName:
		return t.Text
	case api.TkNumber:
		return strconv.Itoa(int(t.Num))
	}
	return Word(t.Kind)
}
