package tok

import (
	"slices"
	"strconv"
	"strings"
	"testing"

	"servitor/api"
)

// kindName of a sign's kind, by the document's numbers.
func kindName(kind int) string {
	names := []string{"end", "name", "word", "num", "sign"}
	if kind < 0 || kind >= len(names) {
		return "kind" + strconv.Itoa(kind)
	}
	return names[kind]
}

// plain is a sign but for its place; the number stands there if the sign is one, or has one all the same.
func plain(s api.Tok) string {
	text := kindName(s.Kind)
	if s.Text != "" {
		text += " " + s.Text
	}
	if s.Kind == 3 || s.N != 0 {
		text += " " + strconv.FormatInt(s.N, 10)
	}
	return text
}

// placed is a sign with its place.
func placed(s api.Tok) string {
	return plain(s) + " @" + strconv.Itoa(s.Line) + ":" + strconv.Itoa(s.Col)
}

// all signs as one text.
func all(signs []api.Tok, as func(api.Tok) string) string {
	parts := []string{}
	for _, s := range signs {
		parts = append(parts, as(s))
	}
	return strings.Join(parts, ", ")
}

// short is a text as a message tells it.
func short(text string) string {
	if len(text) > 100 {
		return strconv.Quote(text[:100]) + ".. of " + strconv.Itoa(len(text)) + " bytes"
	}
	return strconv.Quote(text)
}

// tryLex of a text that has these signs, the end not among them.
func tryLex(t *testing.T, text, want string) {
	t.Helper()
	if want != "" {
		want += ", "
	}
	signs, e, at := Lex(text)
	if got := all(signs, plain); e != api.OK || at != (api.Tok{}) || got != want+"end" {
		t.Errorf("Lex(%s): %s; %d; %v; not %s", short(text), short(got), e, at, short(want+"end"))
	}
}

// tryPlaces of a text that has these signs at these places, the end among them.
func tryPlaces(t *testing.T, text, want string) {
	t.Helper()
	signs, e, at := Lex(text)
	if got := all(signs, placed); e != api.OK || at != (api.Tok{}) || got != want {
		t.Errorf("Lex(%s): %s; %d; %v; not %s", short(text), short(got), e, at, short(want))
	}
}

// tryError of a text that has one, at a place; the sign that is told has nothing else.
func tryError(t *testing.T, text string, want api.Errno, line, col int) {
	t.Helper()
	signs, e, at := Lex(text)
	if len(signs) != 0 || e != want || at != (api.Tok{Line: line, Col: col}) {
		t.Errorf("Lex(%s): %d signs; %d; %v; not %d at %d:%d", short(text), len(signs), e, at, want, line, col)
	}
}

// signs of the chapter's list.
func signs() []string {
	return strings.Fields(":= <= >= <> .. + - * / ( ) [ ] . , ; : < > =")
}

// words of the chapter's list.
func words() []string {
	return strings.Fields("PROGRAM END_PROGRAM VAR VAR_INPUT VAR_OUTPUT END_VAR INT BOOL ARRAY OF TRUE FALSE IF THEN ELSIF ELSE END_IF CASE END_CASE FOR TO BY DO END_FOR WHILE END_WHILE REPEAT UNTIL END_REPEAT EXIT RETURN AND OR XOR NOT MOD")
}

// melted are the pairs of signs that are read as others, if nothing is between them, and as what ("" for a remark).
func melted() map[string]string {
	return map[string]string{
		": =":  "sign :=",
		"< =":  "sign <=",
		"> =":  "sign >=",
		"< >":  "sign <>",
		". .":  "sign ..",
		". ..": "sign .., sign .",
		"< >=": "sign <>, sign =",
		"/ /":  "",
	}
}

// P17.1: the names in api stand for the document's numbers.
func TestNumbersInApi(t *testing.T) {
	kinds := []int{api.TokEnd, api.TokName, api.TokWord, api.TokNum, api.TokSign}
	if !slices.Equal(kinds, []int{0, 1, 2, 3, 4}) || api.MaxText != 16384 || api.MaxName != 16 {
		t.Error(kinds, api.MaxText, api.MaxName)
	}
	if api.OK != 0 || api.ErrOver != 2 || api.ErrForm != 5 || api.ErrName != 9 || api.ErrLong != 13 {
		t.Error(api.OK, api.ErrOver, api.ErrForm, api.ErrName, api.ErrLong)
	}
}

// P17.1: the chapter's example.
func TestExample(t *testing.T) {
	tryLex(t, "a:=16#FF;", "name a, sign :=, num 16#FF 255, sign ;")
	tryPlaces(t, "a:=16#FF;", "name a @1:1, sign := @1:2, num 16#FF 255 @1:4, sign ; @1:9, end @1:10")
}

// P17.1: signs whole, as api has them.
func TestSomeSigns(t *testing.T) {
	want := []api.Tok{
		{Kind: api.TokWord, Text: "IF", Line: 1, Col: 1},
		{Kind: api.TokName, Text: "If", Line: 1, Col: 4},
		{Kind: api.TokSign, Text: ">=", Line: 1, Col: 6},
		{Kind: api.TokNum, Text: "007", N: 7, Line: 2, Col: 2},
		{Kind: api.TokEnd, Line: 2, Col: 5},
	}
	got, e, at := Lex("IF If>=\n\t007")
	if !slices.Equal(got, want) || e != api.OK || at != (api.Tok{}) {
		t.Error(got, e, at)
	}
}

// P17.1: each sign of the list alone.
func TestEachSign(t *testing.T) {
	if len(signs()) != 20 {
		t.Error(len(signs()))
	}
	for _, s := range signs() {
		tryLex(t, s, "sign "+s)
		tryPlaces(t, " "+s, "sign "+s+" @1:2, end @1:"+strconv.Itoa(2+len(s)))
	}
}

// P17.1: each pair of signs with nothing between, and with a blank.
func TestEachPairOfSigns(t *testing.T) {
	for _, a := range signs() {
		for _, b := range signs() {
			parted := "sign " + a + ", sign " + b
			tryLex(t, a+" "+b, parted)
			if a+b == "(*" {
				tryError(t, a+b, api.ErrForm, 1, 1)
				continue
			}
			want, melts := melted()[a+" "+b]
			if !melts {
				want = parted
			}
			tryLex(t, a+b, want)
		}
	}
}

// P17.1: the longest that can be, sign by sign from the left.
func TestLongest(t *testing.T) {
	for _, c := range []struct{ text, want string }{
		{":==", "sign :=, sign ="},
		{"::=", "sign :, sign :="},
		{":=:=", "sign :=, sign :="},
		{"=:", "sign =, sign :"},
		{"<=>", "sign <=, sign >"},
		{"<>=", "sign <>, sign ="},
		{"<<>>", "sign <, sign <>, sign >"},
		{">>==", "sign >, sign >=, sign ="},
		{"><", "sign >, sign <"},
		{"=<", "sign =, sign <"},
		{"=>", "sign =, sign >"},
		{"==", "sign =, sign ="},
		{"...", "sign .., sign ."},
		{"....", "sign .., sign .."},
		{".....", "sign .., sign .., sign ."},
		{"*/", "sign *, sign /"},
		{"/*", "sign /, sign *"},
		{"*)", "sign *, sign )"},
		{")*(", "sign ), sign *, sign ("},
		{"**", "sign *, sign *"},
		{"()", "sign (, sign )"},
		{"[..]", "sign [, sign .., sign ]"},
		{"a..b", "name a, sign .., name b"},
		{"a.b", "name a, sign ., name b"},
		{"1..2", "num 1 1, sign .., num 2 2"},
		{"1.2", "num 1 1, sign ., num 2 2"},
		{"-1", "sign -, num 1 1"},
		{"a<b>c<=d>=e<>f=g:=h", "name a, sign <, name b, sign >, name c, sign <=, name d, sign >=, name e, sign <>, name f, sign =, name g, sign :=, name h"},
		{"x:ARRAY[1..3]OF INT;", "name x, sign :, word ARRAY, sign [, num 1 1, sign .., num 3 3, sign ], word OF, word INT, sign ;"},
		{"a(b:=NOT(c))", "name a, sign (, name b, sign :=, word NOT, sign (, name c, sign ), sign )"},
		{"1+2-3*4/5", "num 1 1, sign +, num 2 2, sign -, num 3 3, sign *, num 4 4, sign /, num 5 5"},
	} {
		tryLex(t, c.text, c.want)
	}
}

// P17.1: each sign with a name, a word and a number on both sides, with nothing between.
func TestSignsAmongOthers(t *testing.T) {
	others := map[string]string{"a": "name a", "z_9": "name z_9", "END_IF": "word END_IF", "0": "num 0 0", "16#BEEF": "num 16#BEEF 48879"}
	for _, s := range signs() {
		for a, left := range others {
			for b, right := range others {
				tryLex(t, a+s+b, left+", sign "+s+", "+right)
			}
		}
	}
}

// P17.1: names.
func TestNames(t *testing.T) {
	for _, s := range "ABCDEFGHIJKLMNOPQRSTUVWXYZabcdefghijklmnopqrstuvwxyz" {
		for _, tail := range []string{"", "_", "0", "9", "_0", "__", "Z", "z", string(s), "_9aZ", "0123456789", "_______________"} {
			tryLex(t, string(s)+tail, "name "+string(s)+tail)
		}
	}
	for _, name := range []string{"a", "a1", "a_1", "a_", "A__b", "x2y", "MC_Power", "TON", "a16", "E", "e9", "FF", "abcdefghijklmnop", "A23456789012345_", "q_______________", "END_PROGRAM_____", "PROGRAMPROGRAM16"} {
		tryLex(t, name, "name "+name)
		tryLex(t, name+";"+name, "name "+name+", sign ;, name "+name)
	}
}

// P17.1: a name of 17 bytes and more, however it is followed.
func TestLongNames(t *testing.T) {
	for _, name := range []string{"abcdefghijklmnopq", "A2345678901234567", "q________________", "END_PROGRAM______", strings.Repeat("IF", 9), strings.Repeat("z", 32), strings.Repeat("z", 273), strings.Repeat("z", api.MaxText-3)} {
		for _, tail := range []string{"", " ", ";", "?", "#", "\x80", "\n"} {
			tryError(t, name+tail, api.ErrName, 1, 1)
			tryError(t, "\n "+name+tail, api.ErrName, 2, 2)
		}
		tryLex(t, name[:16], "name "+name[:16])
	}
	tryLex(t, "abcdefghijklmnop qrstuvwxyz", "name abcdefghijklmnop, name qrstuvwxyz")
	tryError(t, "abcdefghijklmnop qrstuvwxyzabcdefgh", api.ErrName, 1, 18)
}

// otherCases of a word: texts that are like it but for great and small letters.
func otherCases(word string) []string {
	other := []string{strings.ToLower(word), word[:1] + strings.ToLower(word[1:])}
	for i := range word {
		if small := strings.ToLower(word[i : i+1]); small != word[i:i+1] {
			other = append(other, word[:i]+small+word[i+1:])
		}
	}
	return other
}

// P17.1: each word, and the words in other letters, which are names.
func TestWordsAsSigns(t *testing.T) {
	for _, w := range words() {
		tryLex(t, w, "word "+w)
		tryLex(t, w+" "+w+";"+w, "word "+w+", word "+w+", sign ;, word "+w)
		for _, other := range otherCases(w) {
			tryLex(t, other, "name "+other)
		}
		for _, longer := range []string{w + "_", w + "S", w + "1", w + w[:1], "a" + w, "Q" + w, w + "_X"} {
			tryLex(t, longer, "name "+longer)
		}
	}
}

// nearWords are texts that are nearly this word.
func nearWords(word string) []string {
	near := append(otherCases(word), word+word, " "+word, word+" ", word+";", "_"+word, strings.ReplaceAll(word, "_", ""), strings.ReplaceAll(word, "_", " "))
	for i := range len(word) + 1 {
		for _, sign := range []string{"_", " ", "\x00", "1", "x", "S", "E", "ä", "\n", "\t"} {
			near = append(near, word[:i]+sign+word[i:])
		}
	}
	for i := range word {
		near = append(near, word[:i], word[i+1:], word[:i]+word[i+1:], word[:i]+"x"+word[i+1:], word[:i]+"X"+word[i+1:])
	}
	return near
}

// P17.2: each of the words, and what is near one.
func TestWord(t *testing.T) {
	if len(words()) != 36 {
		t.Error(len(words()))
	}
	for _, w := range words() {
		if !Word(w) {
			t.Errorf("Word(%q) is false", w)
		}
		for _, near := range nearWords(w) {
			if Word(near) != slices.Contains(words(), near) {
				t.Errorf("Word(%q) is %t", near, Word(near))
			}
		}
	}
}

// P17.2: what is no word.
func TestNoWords(t *testing.T) {
	none := []string{"", " ", "\n", "_", "a", "A", "0", "16#FF", "\x00", "\xff", "TON", "MC_Power", "STRING", "REAL", "STRUCT", "FUNCTION", "END", "ENDIF", "END_ARRAY", "VAR_IN_OUT", "GOTO", "CONTINUE", "DIV", "XNOR", "NAND", "ON", "true", "False", "PROGRAM VAR", "IF,THEN", strings.Repeat("IF", 1000)}
	for _, s := range append(none, signs()...) {
		if Word(s) {
			t.Errorf("Word(%q) is true", s)
		}
	}
}

// P17.1: lines and columns, byte by byte, the end's, too.
func TestPlaces(t *testing.T) {
	for _, c := range []struct{ text, want string }{
		{"", "end @1:1"},
		{" ", "end @1:2"},
		{"\t", "end @1:2"},
		{"\n", "end @2:1"},
		{"\n\n\n", "end @4:1"},
		{"\t\t  \n \t", "end @2:3"},
		{"a", "name a @1:1, end @1:2"},
		{"a\n", "name a @1:1, end @2:1"},
		{"a\nb", "name a @1:1, name b @2:1, end @2:2"},
		{"a\n\nb\n c", "name a @1:1, name b @3:1, name c @4:2, end @4:3"},
		{"\ta\t\tb", "name a @1:2, name b @1:5, end @1:6"},
		{"\n\ta :=\n\t\t12", "name a @2:2, sign := @2:4, num 12 12 @3:3, end @3:5"},
		{"END_IF<=7", "word END_IF @1:1, sign <= @1:7, num 7 7 @1:9, end @1:10"},
		{"....", "sign .. @1:1, sign .. @1:3, end @1:5"},
		{"//", "end @1:3"},
		{"// a", "end @1:5"},
		{"// a\n", "end @2:1"},
		{"//\n//\n//", "end @3:3"},
		{"// a\nb", "name b @2:1, end @2:2"},
		{"a// b\n\n c", "name a @1:1, name c @3:2, end @3:3"},
		{"(**)", "end @1:5"},
		{"(* b *)a", "name a @1:8, end @1:9"},
		{"(*\n*)a", "name a @2:3, end @2:4"},
		{"(*\n\n  \n *) a", "name a @4:5, end @4:6"},
		{"a(*\n\t*)b(**)c\nd", "name a @1:1, name b @2:4, name c @2:9, name d @3:1, end @3:2"},
		{"(* \xc3\xa4 *)a", "name a @1:9, end @1:10"},
		{"// \xc3\xa4\r\n a", "name a @2:2, end @2:3"},
		{"a:=16#FF;// x\n (* y\n *) END_IF<=7", "name a @1:1, sign := @1:2, num 16#FF 255 @1:4, sign ; @1:9, word END_IF @3:5, sign <= @3:11, num 7 7 @3:13, end @3:14"},
	} {
		tryPlaces(t, c.text, c.want)
	}
}

// P17.1: an error's place is where the sign begins.
func TestPlacesOfErrors(t *testing.T) {
	for _, bad := range badPieces() {
		for _, c := range []struct {
			ahead     string
			line, col int
		}{
			{"", 1, 1}, {" ", 1, 2}, {"\t\t", 1, 3}, {"\n", 2, 1}, {"\n\n  ", 3, 3}, {"// x\n", 2, 1}, {"(* x *)", 1, 8}, {"(*\n\n*) \t", 3, 5}, {"a ", 1, 3}, {"IF;", 1, 4}, {"x := 16#FF;\n\ty <=", 2, 6}, {"..", 1, 3}, {"// (*\n(* // *)", 2, 9},
		} {
			tryError(t, c.ahead+bad.text, bad.e, c.line, c.col)
		}
	}
}

// bad is a piece of a text in which no sign can be read, and its error.
type bad struct {
	text string
	e    api.Errno
}

func badPieces() []bad {
	return []bad{
		{"?", api.ErrForm}, {"_", api.ErrForm}, {"_a", api.ErrForm}, {"#", api.ErrForm}, {"#1", api.ErrForm}, {"\r", api.ErrForm}, {"\x00", api.ErrForm}, {"\xc3\xa4", api.ErrForm}, {"\"a\"", api.ErrForm}, {"'a'", api.ErrForm}, {"{x}", api.ErrForm},
		{"12a", api.ErrForm}, {"1_000", api.ErrForm}, {"2#", api.ErrForm}, {"8#8", api.ErrForm}, {"16#g", api.ErrForm}, {"10#5", api.ErrForm}, {"2#12", api.ErrForm}, {"9223372036854775808x", api.ErrForm},
		{"9223372036854775808", api.ErrOver}, {"16#8000000000000000", api.ErrOver},
		{"abcdefghijklmnopq", api.ErrName},
		{"(*", api.ErrForm}, {"(* x", api.ErrForm}, {"(*)", api.ErrForm},
	}
}

// P17.1: of two errors the first one is told.
func TestFirstError(t *testing.T) {
	for _, first := range badPieces() {
		for _, second := range badPieces() {
			if strings.HasPrefix(first.text, "(*") && strings.Contains(second.text, "*)") {
				continue // the second one ends the first one's remark
			}
			tryError(t, first.text+"\n"+second.text, first.e, 1, 1)
			tryError(t, "a := 1;\n "+first.text+" ;\n"+second.text+" // x", first.e, 2, 2)
		}
	}
}

// begins says which kind of sign a byte begins, written out: n a name, d a number, s a sign, b a blank, - none.
func begins(b byte) byte {
	for _, c := range []struct {
		bytes string
		kind  byte
	}{
		{"ABCDEFGHIJKLMNOPQRSTUVWXYZabcdefghijklmnopqrstuvwxyz", 'n'}, {"0123456789", 'd'}, {"+-*/()[].,;:<>=", 's'}, {"\x20\x0a\x09", 'b'},
	} {
		if strings.Contains(c.bytes, string([]byte{b})) {
			return c.kind
		}
	}
	return '-'
}

// P17.1: each of the 256 bytes alone.
func TestEachByte(t *testing.T) {
	many := map[byte]int{}
	for i := range 256 {
		text := string([]byte{byte(i)})
		kind := begins(byte(i))
		many[kind]++
		switch kind {
		case 'n':
			tryLex(t, text, "name "+text)
		case 'd':
			tryLex(t, text, "num "+text+" "+text)
		case 's':
			tryLex(t, text, "sign "+text)
		case 'b':
			tryLex(t, text, "")
		default:
			tryError(t, text, api.ErrForm, 1, 1)
		}
	}
	if many['n'] != 52 || many['d'] != 10 || many['s'] != 15 || many['b'] != 3 || many['-'] != 176 {
		t.Error(many)
	}
}

// P17.1: each byte that begins no sign behind other signs, and among them.
func TestEachBadByteBehindSigns(t *testing.T) {
	for i := range 256 {
		text := string([]byte{byte(i)})
		if begins(byte(i)) != '-' {
			continue
		}
		for _, s := range append(signs(), "a ", "IF ", "12 ", "16#AF\t", "(* x *)", "a..b;") {
			tryError(t, s+text, api.ErrForm, 1, 1+len(s))
			tryError(t, s+text+s, api.ErrForm, 1, 1+len(s))
			tryError(t, "\n"+s+"\n"+text+" a", api.ErrForm, 3, 1)
		}
		if text != "_" {
			tryError(t, "a"+text, api.ErrForm, 1, 2)
			tryError(t, "END_IF"+text, api.ErrForm, 1, 7)
		}
		tryError(t, text+text, api.ErrForm, 1, 1)
		tryLex(t, "//"+text+"\na", "name a")
		tryLex(t, "(*"+text+"*)a", "name a")
	}
	tryLex(t, "a_ IF_", "name a_, name IF_")
}

// P17.1: texts of just MaxText bytes.
func TestLongestTexts(t *testing.T) {
	most := api.MaxText
	tryPlaces(t, strings.Repeat(" ", most), "end @1:16385")
	tryPlaces(t, strings.Repeat("\n", most), "end @16385:1")
	tryPlaces(t, strings.Repeat(" ", most-1)+"a", "name a @1:16384, end @1:16385")
	tryPlaces(t, strings.Repeat("\n", most-1)+"a", "name a @16384:1, end @16384:2")
	tryPlaces(t, "//"+strings.Repeat("?", most-2), "end @1:16385")
	tryPlaces(t, "(*"+strings.Repeat("?", most-4)+"*)", "end @1:16385")
	tryPlaces(t, strings.Repeat("(**)", most/4), "end @1:16385")
	tryLex(t, strings.Repeat(";", most), strings.Repeat("sign ;, ", most-1)+"sign ;")
	tryLex(t, strings.Repeat("a ", most/2), strings.Repeat("name a, ", most/2-1)+"name a")
	tryLex(t, strings.Repeat("0", most), "num "+strings.Repeat("0", most)+" 0")
	tryLex(t, "2#"+strings.Repeat("0", most-3)+"1", "num 2#"+strings.Repeat("0", most-3)+"1 1")
	tryError(t, strings.Repeat("9", most), api.ErrOver, 1, 1)
	tryError(t, strings.Repeat("9", most-1)+"A", api.ErrForm, 1, 1)
	tryError(t, strings.Repeat("a", most), api.ErrName, 1, 1)
	tryError(t, "(*"+strings.Repeat("?", most-2), api.ErrForm, 1, 1)
	tryError(t, strings.Repeat("\n", most-1)+"?", api.ErrForm, most, 1)
}

// P17.1: of a text that is too long that is told, whatever is in it.
func TestTooLongTexts(t *testing.T) {
	for _, piece := range []string{" ", "\n", ";", "a", "a ", "0", "9 ", "?", "\x00", "\xff", "// x\n", "//", "(**)", "(*", "12a ", "abcdefghijklmnopq ", "9223372036854775808 ", "IF a THEN b := 1; END_IF;\n"} {
		text := strings.Repeat(piece, 1<<20/len(piece))
		for _, long := range []int{api.MaxText + 1, api.MaxText + 2, 2 * api.MaxText, 1 << 16, len(text)} {
			tryError(t, text[:long], api.ErrLong, 1, 1)
		}
		tryError(t, "\n\n"+text[:api.MaxText-1], api.ErrLong, 1, 1)
	}
}

// Rule 3 of the document's 'Rules that hold everywhere': what is answered is new memory, its spare room, too.
func TestSignsAreNew(t *testing.T) {
	const want = "name a, sign :=, num 16#FF 255, sign ;, word END_IF, end"
	first, _, _ := Lex("a:=16#FF; END_IF")
	second, _, _ := Lex("a:=16#FF; END_IF")
	for i := range first[:cap(first)] {
		first[:cap(first)][i] = api.Tok{Kind: 9, Text: "other", N: 9, Line: 9, Col: 9}
	}
	third, _, _ := Lex("a:=16#FF; END_IF")
	if all(second, plain) != want || all(third, plain) != want {
		t.Error(all(second, plain), all(third, plain))
	}
}

// Rule 4 of the document's 'Rules that hold everywhere': the same text answers the same, whatever was read before, errors, too.
func TestNothingIsKept(t *testing.T) {
	for range 3 {
		tryPlaces(t, "\n IF a", "word IF @2:2, name a @2:5, end @2:6")
		for _, bad := range badPieces() {
			tryError(t, "\n "+bad.text, bad.e, 2, 2)
			tryPlaces(t, "b", "name b @1:1, end @1:2")
		}
	}
}
