package tok

import (
	"strings"

	"servitor/api"
	"servitor/q"
)

// gap is how many bytes at the beginning of a text are one blank, newline, tab or remark (0: it begins otherwise); false: a remark without an end.
func gap(text string) (int, bool) {
	switch {
	case text == "":
		return 0, true
	case text[0] == ' ' || text[0] == '\n' || text[0] == '\t':
		return 1, true
	case strings.HasPrefix(text, "//"):
		line, _, _ := strings.Cut(text, "\n")
		return len(line), true
	case strings.HasPrefix(text, "(*"):
		// The * of the beginning is not that of the end, too.
		inner, _, ended := strings.Cut(text[2:], "*)")
		if !ended {
			return 0, false
		}
		return len(inner) + 4, true
	}
	return 0, true
}

// first sign of a text that doesn't begin with what parts signs; it has no place yet.
func first(text string) (api.Tok, api.Errno) {
	switch {
	case text == "":
		return api.Tok{Kind: api.TokEnd}, api.OK
	case isLetter(text[0]):
		return name(text)
	case isDigit(text[0]):
		return number(text)
	}
	long := signLength(text)
	if long == 0 {
		return api.Tok{}, api.ErrForm
	}
	return told(api.TokSign, text[:long]), api.OK
}

// told is a sign of a kind; its text doesn't share the memory of what was read.
func told(kind int, text string) api.Tok {
	return api.Tok{Kind: kind, Text: strings.Clone(text)}
}

// signLength of the longest sign, neither name nor number, that begins a text; 0: there is none.
func signLength(text string) int {
	if len(text) > 1 {
		switch text[:2] {
		case ":=", "<=", ">=", "<>", "..":
			return 2
		}
	}
	switch text[0] {
	case '+', '-', '*', '/', '(', ')', '[', ']', '.', ',', ';', ':', '<', '>', '=':
		return 1
	}
	return 0
}

// name, or word, that begins a text.
func name(text string) (api.Tok, api.Errno) {
	long := run(text, inName)
	if long > api.MaxName {
		return api.Tok{}, api.ErrName
	}
	if Word(text[:long]) {
		return told(api.TokWord, text[:long]), api.OK
	}
	return told(api.TokName, text[:long]), api.OK
}

// number that begins a text.
func number(text string) (api.Tok, api.Errno) {
	base, head := baseOf(text)
	long := head + run(text[head:], func(b byte) bool { return digit(b) < base })
	if long == head || long < len(text) && (inName(text[long]) || text[long] == '#') {
		return api.Tok{}, api.ErrForm
	}
	n, ok := value(text[head:long], base)
	if !ok {
		return api.Tok{}, api.ErrOver
	}
	sign := told(api.TokNum, text[:long])
	sign.N = n
	return sign, api.OK
}

// baseOf a number that begins a text, and how many bytes tell it.
func baseOf(text string) (base int64, head int) {
	switch {
	case strings.HasPrefix(text, "2#"):
		return 2, 2
	case strings.HasPrefix(text, "8#"):
		return 8, 2
	case strings.HasPrefix(text, "16#"):
		return 16, 3
	}
	return 10, 0
}

// value of digits of a base; false: it has no room.
func value(digits string, base int64) (int64, bool) {
	n, ok := int64(0), true
	for i := range len(digits) {
		if n, ok = q.Mul(n, base); !ok {
			return 0, false
		}
		if n, ok = q.Add(n, digit(digits[i])); !ok {
			return 0, false
		}
	}
	return n, true
}

// digit that a byte is; 16, which no base has, of what is none.
func digit(b byte) int64 {
	switch {
	case isDigit(b):
		return int64(b - '0')
	case 'A' <= b && b <= 'F':
		return int64(b-'A') + 10
	}
	return 16
}

// run is how many bytes at the beginning of a text are such ones.
func run(text string, such func(byte) bool) int {
	for i := range len(text) {
		if !such(text[i]) {
			return i
		}
	}
	return len(text)
}

func isDigit(b byte) bool { return '0' <= b && b <= '9' }

func isLetter(b byte) bool { return 'A' <= b && b <= 'Z' || 'a' <= b && b <= 'z' }

// inName: may a name go on with it?
func inName(b byte) bool { return isLetter(b) || isDigit(b) || b == '_' }
