package lexer

import (
	"strings"

	"ratchet/api"
)

// The signs of comments.
const (
	lineSign  = "//"
	openSign  = "/*"
	closeSign = "*/"
)

// CommentsIn returns the first and the last offsets of all comments; beside an error, the offset of what is wrong.
func CommentsIn(text string) ([]api.Range, int, api.Errno) {
	if e := errorOfText(text); e != api.OK {
		return nil, 0, e
	}
	var comments []api.Range
	// Operators do not matter here: without their kinds each byte of one is a piece of its own.
	for p, e := range (scanner{text: text}).pieces(0) {
		if e != api.OK {
			return nil, p.at, e
		}
		if p.comment {
			comments = append(comments, api.Range{Lo: p.at, Hi: p.at + len(p.text) - 1})
		}
	}
	return comments, 0, api.OK
}

// Stripped returns a text with blanks for its comments; beside an error, the offset of what is wrong.
func Stripped(text string) (string, int, api.Errno) {
	comments, at, e := CommentsIn(text)
	if e != api.OK {
		return "", at, e
	}
	stripped := []byte(text)
	for _, c := range comments {
		for i := c.Lo; i <= c.Hi; i++ {
			// Lines stay, so that places do.
			if stripped[i] != '\n' {
				stripped[i] = ' '
			}
		}
	}
	return string(stripped), 0, api.OK
}

// commentLength is the length of the comment with which a text begins, or 0; beside an error, the offset of what is wrong.
func commentLength(text string) (int, api.Errno) {
	switch {
	case strings.HasPrefix(text, lineSign):
		return lineLength(text)
	case strings.HasPrefix(text, openSign):
		return nestedLength(text)
	}
	return 0, api.OK
}

// lineLength is the length of the comment to the end of a line with which a text begins, or the offset of what is wrong in it.
func lineLength(text string) (int, api.Errno) {
	length := spanOf(text, func(c byte) bool { return isPermitted(c) && c != '\n' })
	return length, errorIf(length < len(text) && text[length] != '\n', api.ErrKind)
}

// nestedLength is the length of the comment, with all comments in it, with which a text begins, or the offset of what is wrong in it.
func nestedLength(text string) (int, api.Errno) {
	depth := 0
	for i := 0; i < len(text); {
		switch {
		case !isPermitted(text[i]):
			return i, api.ErrKind
		case strings.HasPrefix(text[i:], openSign):
			depth++
			i += len(openSign)
		case strings.HasPrefix(text[i:], closeSign):
			depth--
			i += len(closeSign)
		default:
			i++
		}
		if depth == 0 {
			return i, api.OK
		}
	}
	return 0, api.ErrOpen
}
