package tok

import (
	"math/big"
	"regexp"
	"slices"
	"strings"
	"testing"

	"servitor/api"
)

// grammar is the chapter's, as patterns; each stands at the beginning.
type grammar struct {
	gaps, name, number, behind, sign *regexp.Regexp
}

func newGrammar() grammar {
	return grammar{
		gaps:   regexp.MustCompile(`^(?s:[ \n\t]|//[^\n]*|\(\*.*?\*\))*`),
		name:   regexp.MustCompile(`^[A-Za-z][A-Za-z0-9_]*`),
		number: regexp.MustCompile(`^(?:(2)#([01]+)|(8)#([0-7]+)|(16)#([0-9A-F]+)|()([0-9]+))`),
		behind: regexp.MustCompile(`^[A-Za-z0-9_#]`),
		sign:   regexp.MustCompile(`^(?::=|<=|>=|<>|\.\.|[+*/()\[\].,;:<>=-])`),
	}
}

// numberOf what the number's pattern found.
func numberOf(found []string) *big.Int {
	for i := 1; i < len(found); i += 2 {
		if found[i+1] != "" {
			base, _ := new(big.Int).SetString("0"+found[i], 10)
			if found[i] == "" {
				base.SetInt64(10)
			}
			n, _ := new(big.Int).SetString(found[i+1], int(base.Int64()))
			return n
		}
	}
	return nil
}

// first sign of a text without gaps ahead, and its error.
func (g grammar) first(text string) (api.Tok, api.Errno) {
	if text == "" {
		return api.Tok{}, api.OK
	}
	if strings.HasPrefix(text, "(*") {
		return api.Tok{}, 5
	}
	if name := g.name.FindString(text); name != "" {
		switch {
		case len(name) > 16:
			return api.Tok{}, 9
		case slices.Contains(words(), name):
			return api.Tok{Kind: 2, Text: name}, 0
		}
		return api.Tok{Kind: 1, Text: name}, 0
	}
	if found := g.number.FindStringSubmatch(text); found != nil {
		n := numberOf(found)
		switch {
		case g.behind.MatchString(text[len(found[0]):]):
			return api.Tok{}, 5
		case !n.IsInt64():
			return api.Tok{}, 2
		}
		return api.Tok{Kind: 3, Text: found[0], N: n.Int64()}, 0
	}
	if sign := g.sign.FindString(text); sign != "" {
		return api.Tok{Kind: 4, Text: sign}, 0
	}
	return api.Tok{}, 5
}

// lex as the chapter has it.
func (g grammar) lex(text string) ([]api.Tok, api.Errno, api.Tok) {
	var signs []api.Tok
	for at := 0; ; {
		at += len(g.gaps.FindString(text[at:]))
		place := placeBehind(text[:at])
		s, e := g.first(text[at:])
		if e != 0 {
			return nil, e, place
		}
		at += len(s.Text)
		s.Line, s.Col = place.Line, place.Col
		signs = append(signs, s)
		if s.Kind == 0 {
			return signs, 0, api.Tok{}
		}
	}
}

// eachText of pieces, up to so many; it says what to do with each.
func eachText(pieces []string, many int, text string, do func(string)) {
	do(text)
	if many == 0 {
		return
	}
	for _, piece := range pieces {
		eachText(pieces, many-1, text+piece, do)
	}
}

// hold what Lex answers against the grammar; the error of both.
func (g grammar) hold(t *testing.T, text string) api.Errno {
	t.Helper()
	signs, e, at := Lex(text)
	want, wantE, wantAt := g.lex(text)
	if !slices.Equal(signs, want) || e != wantE || at != wantAt {
		t.Fatalf("Lex(%q): %v; %d; %v; not %v; %d; %v", text, signs, e, at, want, wantE, wantAt)
	}
	return e
}

// P17.1: each short text of some bytes.
func TestEachShortText(t *testing.T) {
	g := newGrammar()
	for _, c := range []struct {
		bytes string
		many  int
	}{
		{"(*)/\na", 6},
		{"<>=:. ", 5},
		{"01268#9AF", 5},
		{"16#_ag:", 5},
		{"aZ_0.=\xc3", 4},
		{" \n\t\r/(*)aIF_1602#8=<>:.;?-\x80", 3},
	} {
		eachText(strings.Split(c.bytes, ""), c.many, "", func(text string) { g.hold(t, text) })
	}
}

// P17.1: each pair of bytes.
func TestEachPairOfBytes(t *testing.T) {
	g := newGrammar()
	for i := range 256 * 256 {
		g.hold(t, string([]byte{byte(i >> 8), byte(i)}))
	}
}

// P17.1: drawn texts of pieces, good and bad, with nothing between.
func TestDrawnTexts(t *testing.T) {
	g := newGrammar()
	pieces := slices.Concat(signs(), gaps(), words(), []string{"a", "x_1", "abcdefgh", "0", "7", "16#", "2#1", "8#17", "16#AF", "999999999", "9223372036854775807", "_", "#", "?", "(*", "*)", "//", "\r", "\xff", "E", "b"})
	x := uint64(3)
	fine, errors := 0, 0
	for range 40000 {
		text := ""
		for range draw(&x, 12) {
			text += pieces[draw(&x, len(pieces))]
		}
		if g.hold(t, text) == api.OK {
			fine++
		} else {
			errors++
		}
	}
	if fine < 10000 || errors < 10000 {
		t.Error(fine, errors)
	}
}
