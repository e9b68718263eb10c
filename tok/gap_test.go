package tok

import (
	"strings"
	"testing"

	"servitor/api"
)

// P17.1: what parts signs.
func TestGaps(t *testing.T) {
	for _, c := range []struct{ text, want string }{
		{"", ""}, {" ", ""}, {"\t", ""}, {"\n", ""}, {" \t\n\n\t  ", ""},
		{"a b", "name a, name b"}, {"a\tb", "name a, name b"}, {"a\nb", "name a, name b"},
		{"//", ""}, {"//\n", ""}, {"// a", ""}, {"//a\nb", "name b"}, {"a//b", "name a"}, {"a//b\nc", "name a, name c"}, {"1//2\n3", "num 1 1, num 3 3"},
		{"///", ""}, {"////\na", "name a"}, {"// // a\nb", "name b"}, {"//\n//\n/", "sign /"}, {"/ /", "sign /, sign /"}, {"/\n/a", "sign /, sign /, name a"}, {"/(**)/", "sign /, sign /"},
		{"// (*\na", "name a"}, {"// (* b\na *)", "name a, sign *, sign )"}, {"// *)\na", "name a"}, {"// \\\na", "name a"}, {"// a\ra\nb", "name b"},
		{"(**)", ""}, {"(***)", ""}, {"(****)", ""}, {"(*)*)", ""}, {"(*))*)", ""}, {"(* *)", ""}, {"(*(*)", ""}, {"(*/*)", ""}, {"(*\n*)", ""}, {"(*\n\n\n*)a", "name a"},
		{"a(**)b", "name a, name b"}, {"1(**)2", "num 1 1, num 2 2"}, {":(**)=", "sign :, sign ="}, {"<(*>*)>", "sign <, sign >"}, {".(*\n*).", "sign ., sign ."},
		{"(* a *) b (* c *) d", "name b, name d"}, {"(* a *)*)", "sign *, sign )"}, {"(**)*)", "sign *, sign )"}, {"(***)*)", "sign *, sign )"},
		{"(* (* *)", ""}, {"(* (* a *) b *)", "name b, sign *, sign )"}, {"(* // *) a", "name a"}, {"(* // *) a // *)\nb", "name a, name b"}, {"(*//\n*)a", "name a"},
		{"( *)", "sign (, sign *, sign )"}, {"(\n*a", "sign (, sign *, name a"}, {"((**)", "sign ("}, {"((**))", "sign (, sign )"}, {"*(**)*", "sign *, sign *"}, {"* )", "sign *, sign )"},
		{"(* * ) * *)", ""}, {"(* ?#_\"\x00\xff\r ' *)a", "name a"}, {"// ?#_\"\x00\xff\r ' \na", "name a"},
		{"(**)(**)//\n(**)\t//", ""}, {"(*12a*)//99999999999999999999\n//abcdefghijklmnopqrs", ""},
	} {
		tryLex(t, c.text, c.want)
	}
}

// P17.1: a remark (* that has no end is an error where it begins, whatever is in it.
func TestEndlessRemarks(t *testing.T) {
	for _, text := range []string{"(*", "(*)", "(* ", "(* *", "(* )", "(* * )", "(*\n\n", "(* (*", "(* // ", "(* a := 1; ?", "(**", "(***", "(*(", "(* *\n)", "(* 12a abcdefghijklmnopqrstu 9223372036854775808"} {
		tryError(t, text, api.ErrForm, 1, 1)
		tryError(t, "a; "+text, api.ErrForm, 1, 4)
		tryError(t, "(* *)\n\t"+text, api.ErrForm, 2, 2)
		tryError(t, "// x\n//\n("+text, api.ErrForm, 3, 2)
		tryLex(t, "//"+text[:strings.Index(text+"\n", "\n")]+"\na", "name a")
		tryLex(t, text+"*)a", "name a")
	}
}

// P17.1: what looks like a blank, and is none.
func TestNoGaps(t *testing.T) {
	for _, text := range []string{"\r", "\v", "\f", "\x00", "\x1f", "\x7f", "\xa0", "\xc2\xa0", "\xe2\x80\x83", "\xef\xbb\xbf", "\\", "\x85", "\b"} {
		tryError(t, text, api.ErrForm, 1, 1)
		tryError(t, "a "+text+" b", api.ErrForm, 1, 3)
		tryError(t, ";"+text+"\n;", api.ErrForm, 1, 2)
	}
}

// mixed goes on from a number to the next one of a row that looks like chance, and is none.
func mixed(x uint64) uint64 { return x*6364136223846793005 + 1442695040888963407 }

// draw goes on in such a row, and tells a number below many.
func draw(x *uint64, many int) int {
	*x = mixed(*x)
	return int(*x >> 33 % uint64(many))
}

// gaps that part signs.
func gaps() []string {
	return []string{
		" ", "\t", "\n", "  ", "\n\n", "\t \n", " \n\t", "//\n", "// x := 1; ?\n", "// (*\n", "// *)\n", "///\n", "//\t\n\n", "(**)", "(***)", "(*)*)", "(* x := 1; *)", "(*\n*)", "(* \n\n\t \n*)", "(* (* *)", "(* // *)", "(*//\n*)", "(* \"?#_\x00\xff\r *)", "// \xc3\xa4\r\n",
	}
}

// drawnSigns are texts of signs, with what is told of them.
func drawnSigns(x *uint64, many int) (texts, want []string) {
	for range many {
		switch draw(x, 4) {
		case 0:
			s := signs()[draw(x, len(signs()))]
			texts, want = append(texts, s), append(want, "sign "+s)
		case 1:
			w := words()[draw(x, len(words()))]
			texts, want = append(texts, w), append(want, "word "+w)
		case 2:
			names := []string{"a", "B", "x_1", "if", "Mod", "END_", "abcdefghijklmnop", "F", "A0", "MC_Power"}
			s := names[draw(x, len(names))]
			texts, want = append(texts, s), append(want, "name "+s)
		case 3:
			numbers := []string{"0 0", "7 7", "007 7", "16 16", "2#101 5", "8#17 15", "16#AF 175", "9223372036854775807 9223372036854775807", "16#7FFFFFFFFFFFFFFF 9223372036854775807"}
			s := numbers[draw(x, len(numbers))]
			text, _, _ := strings.Cut(s, " ")
			texts, want = append(texts, text), append(want, "num "+s)
		}
	}
	return texts, want
}

// inWords: is a byte one of those that names, words and numbers are made of?
func inWords(b byte) bool { return begins(b) == 'n' || begins(b) == 'd' || b == '_' }

// needs: do two signs need something between them?
func needs(a, b string) bool {
	_, melts := melted()[a+" "+b]
	return melts || a+b == "(*" || inWords(a[len(a)-1]) && inWords(b[0])
}

// drawnGap between two signs (an empty one: the beginning, the end): from none, where none is needed, to three.
func drawnGap(x *uint64, a, b string) string {
	gap := ""
	for range draw(x, 4) {
		gap += gaps()[draw(x, len(gaps()))]
	}
	if gap == "" && a != "" && b != "" && needs(a, b) {
		gap = gaps()[draw(x, len(gaps()))]
	}
	if a == "/" && strings.HasPrefix(gap, "/") {
		// The sign would be the beginning of the remark.
		gap = " " + gap
	}
	return gap
}

// written out with drawn gaps; and each sign's place, by which its row begins.
func written(x *uint64, texts []string) (text string, places []api.Tok) {
	last := ""
	for _, s := range texts {
		text += drawnGap(x, last, s)
		places = append(places, placeBehind(text))
		text += s
		last = s
	}
	text += drawnGap(x, last, "")
	if draw(x, 3) == 0 && last != "/" {
		text += "// the end"
	}
	return text, append(places, placeBehind(text))
}

// placeBehind a text.
func placeBehind(text string) api.Tok {
	return api.Tok{Line: 1 + strings.Count(text, "\n"), Col: len(text) - strings.LastIndex(text, "\n")}
}

// P17.3: drawn signs with other blanks, newlines, tabs and remarks between them are the same signs, but for their places (P17.1: which are where they stand).
func TestDrawnGaps(t *testing.T) {
	x := uint64(17)
	for range 1500 {
		texts, want := drawnSigns(&x, draw(&x, 40))
		for range 5 {
			text, places := written(&x, texts)
			tryLex(t, text, strings.Join(want, ", "))
			signs, _, _ := Lex(text)
			if len(signs) != len(places) {
				t.Fatalf("Lex(%q): %d signs, not %d", text, len(signs), len(places))
			}
			for i, s := range signs {
				if (api.Tok{Line: s.Line, Col: s.Col}) != places[i] {
					t.Fatalf("Lex(%q): sign %d is %s, not at %d:%d", text, i, placed(s), places[i].Line, places[i].Col)
				}
			}
		}
	}
}

// P17.1: drawn signs, and then what has an error: nothing of them is told, but where the error is.
func TestDrawnErrors(t *testing.T) {
	x := uint64(71)
	for _, bad := range badPieces() {
		for range 100 {
			texts, _ := drawnSigns(&x, draw(&x, 20))
			text, _ := written(&x, texts)
			text += "\n" + strings.Repeat(" ", draw(&x, 5))
			at := placeBehind(text)
			tryError(t, text+bad.text, bad.e, at.Line, at.Col)
			if !strings.HasPrefix(bad.text, "(*") {
				behind, _ := written(&x, texts)
				tryError(t, text+bad.text+" "+behind, bad.e, at.Line, at.Col)
			}
		}
	}
}

// P17.3: texts written out that are unlike in their gaps alone.
func TestOtherGaps(t *testing.T) {
	for _, texts := range [][]string{
		{"a:=16#FF;", "a := 16#FF ;", "\n\ta\n:=\n16#FF\n;\n", "a(* b *):=(**)16#FF(*;*);// c", "//\na//:=\n:=//\n16#FF//1\n;//"},
		{"PROGRAM p VAR a:INT:=-3;END_VAR a:=a+1;END_PROGRAM", "PROGRAM p\nVAR\n\ta : INT := - 3; // at first\nEND_VAR\n\ta := a + 1; (* once\n\tmore *)\nEND_PROGRAM\n", "PROGRAM(**)p(**)VAR(**)a(**):(**)INT(**):=(**)-(**)3(**);(**)END_VAR(**)a(**):=(**)a(**)+(**)1(**);(**)END_PROGRAM(**)"},
		{"x[1]<=y.z AND NOT(b)", "x [ 1 ] <= y . z AND NOT ( b )", "x[1]\n<=y.z\nAND NOT\t(b)(* ) *)", "x//[\n[1]<=y.(**)z(*.*)AND//OR\nNOT(b)"},
		{"ARRAY[0..9]OF BOOL", "ARRAY [ 0 .. 9 ] OF BOOL", "ARRAY\n[0(*.*)..(*.*)9]\nOF//\nBOOL"},
		{"", " ", "\n", "\t", "//", "(**)", " // a\n\t(* b *)\n"},
	} {
		first, e, _ := Lex(texts[0])
		if e != api.OK {
			t.Errorf("Lex(%q): %d", texts[0], e)
		}
		for _, text := range texts {
			signs, e, at := Lex(text)
			if all(signs, plain) != all(first, plain) || e != api.OK || at != (api.Tok{}) {
				t.Errorf("Lex(%q): %s; %d; %v; not %s", text, all(signs, plain), e, at, all(first, plain))
			}
		}
	}
}
