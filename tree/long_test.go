package tree

import (
	"strconv"
	"strings"
	"testing"

	"servitor/api"
)

// nest is a part that counts, around what stands between its texts; the @ is ahead of the sign that is told if it is one too many.
type nest struct{ begin, end string }

func statementNests() []nest {
	return []nest{
		{"@IF a THEN ", "END_IF; "}, {"@IF a THEN ELSIF c THEN ", "ELSE END_IF; "}, {"@IF a THEN ELSE ", "END_IF; "},
		{"@CASE a OF 1: ", "END_CASE; "}, {"@CASE a OF 1: -2: ", "3: END_CASE; "}, {"@CASE a OF ELSE ", "END_CASE; "},
		{"@FOR a := 1 TO 2 DO ", "END_FOR; "}, {"@WHILE a DO ", "END_WHILE; "}, {"@REPEAT ", "UNTIL a END_REPEAT; "},
	}
}

func exprNests() []nest {
	return []nest{
		{"@(", ")"}, {"a@[", "]"}, {"@- ", ""}, {"@NOT ", ""},
		{"@(b OR c + ", ")"}, {"@(", " - c * d.e)"}, {"a@[b < ", "]"}, {"a@[", " AND c]"},
	}
}

// innermost statements: an @ ahead of the sign that is told if they are one too many.
func innermosts() []string {
	return []string{"@EXIT; ", "@RETURN; ", "@x := 1; ", "@x(); ", "@x(y := 1); ", "@IF a THEN END_IF; ", "@CASE a OF END_CASE; ", "@CASE a OF 1: END_CASE; ", "@FOR a := 1 TO 2 DO END_FOR; ", "@WHILE a DO END_WHILE; ", "@REPEAT UNTIL a END_REPEAT; "}
}

// nested parts, the first one outside, around a text; the @ of the part of this number (from 1 on) is kept.
func nested(parts []nest, kept int, inner string) string {
	var begin, end string
	for i, part := range parts {
		text := part.begin
		if i+1 != kept {
			text = strings.Replace(text, "@", "", 1)
		}
		begin += text
		end = part.end + end
	}
	return begin + inner + end
}

// tryNested parts: they are fine, or, if there are more than 32, the 33rd is told.
func tryNested(t *testing.T, parts []nest, inner string) {
	t.Helper()
	marked := wrapped(nested(parts, 33, inner))
	if len(parts) > 32 {
		tryError(t, marked, api.ErrLong)
	} else {
		parsed(t, marked)
	}
}

// repeated so many times.
func repeated(part nest, many int) []nest {
	var list []nest
	for range many {
		list = append(list, part)
	}
	return list
}

// P18.1: statements within one another, each kind by itself, with each kind as the innermost one.
func TestDeepStatements(t *testing.T) {
	for _, part := range statementNests() {
		for _, inner := range innermosts() {
			for many := range 36 {
				last := nest{inner, ""}
				tryNested(t, append(repeated(part, many), last), "")
			}
		}
		tryNested(t, repeated(part, 32), "")
		tryNested(t, repeated(part, 33), "")
		tryNested(t, repeated(part, 200), "")
	}
}

// assigned is an assignment, around its value.
func assigned() nest { return nest{"@x := ", "; "} }

// P18.1: expressions within one another, each kind by itself: the statement that they stand in counts, too.
func TestDeepExpressions(t *testing.T) {
	for _, part := range exprNests() {
		for _, inner := range []string{"1", "TRUE", "b", "b.c", "1 + 2", "b AND c"} {
			for many := range 36 {
				tryNested(t, append([]nest{assigned()}, repeated(part, many)...), inner)
			}
		}
		tryNested(t, append([]nest{assigned()}, repeated(part, 500)...), "1")
	}
}

// P18.1: mixed parts within one another.
func TestDeepMixed(t *testing.T) {
	w := &writer{x: 7}
	statements, exprs := statementNests(), exprNests()
	for range 3000 {
		many := 28 + w.draw(8)
		ahead := w.draw(many)
		var parts []nest
		for range ahead {
			parts = append(parts, statements[w.draw(len(statements))])
		}
		parts = append(parts, assigned())
		for len(parts) < many {
			parts = append(parts, exprs[w.draw(len(exprs))])
		}
		tryNested(t, parts, "1")
	}
}

// holders are statements around an expression that is within them.
func holders() []nest {
	return []nest{
		{"@x := ", "; "}, {"@x := b + ", " * c; "}, {"@IF ", " THEN END_IF; "}, {"@IF a THEN ELSIF ", " THEN END_IF; "}, {"@CASE ", " OF END_CASE; "},
		{"@FOR x := ", " TO 1 DO END_FOR; "}, {"@FOR x := 1 TO ", " DO END_FOR; "}, {"@FOR x := 1 TO 2 BY ", " DO END_FOR; "}, {"@WHILE ", " DO END_WHILE; "}, {"@REPEAT UNTIL ", " END_REPEAT; "},
		{"@x(y := ", "); "}, {"@x(y := 1, z := ", "); "},
	}
}

// P18.1: wherever an expression stands, the statements around it count.
func TestDeepInEachPlace(t *testing.T) {
	for _, holder := range holders() {
		for _, part := range exprNests() {
			for _, around := range []int{0, 1, 15, 30, 31} {
				parts := append(repeated(statementNests()[around%9], around), holder)
				for len(parts) < 31 {
					parts = append(parts, part)
				}
				for range 3 {
					tryNested(t, parts, "1")
					parts = append(parts, part)
				}
			}
		}
	}
}

// P18.1: the index of a target counts, at its sign [.
func TestDeepTargets(t *testing.T) {
	target := []nest{{"@", ""}, {"x@[", "] := 1; "}}
	for around := range 34 {
		tryNested(t, append(repeated(statementNests()[around%9], around), target...), "1")
	}
	for many := range 34 {
		tryNested(t, append(target, repeated(exprNests()[many%8], many)...), "1")
	}
}

// P18.1: what has ended doesn't count any more, and what stands side by side isn't within one another.
func TestWideIsNotDeep(t *testing.T) {
	for _, part := range statementNests() {
		one := nested(repeated(part, 31), 0, "EXIT; ")
		parsed(t, wrapped(strings.Repeat(one, 5)))
		parsed(t, wrapped(nested([]nest{part}, 0, strings.Repeat("x := (1); ", 100))))
		parsed(t, wrapped(strings.Repeat(nested([]nest{part}, 0, ""), 100)))
		tryError(t, wrapped(one+nested(repeated(part, 32), 0, "@EXIT; ")), api.ErrLong)
	}
	for _, part := range exprNests() {
		one := nested(repeated(part, 31), 0, "1")
		parsed(t, wrapped(strings.Repeat("x := "+one+"; ", 5)))
		parsed(t, wrapped("x := ("+nested(repeated(part, 30), 0, "1")+") OR ("+nested(repeated(part, 30), 0, "1")+");"))
		parsed(t, wrapped("x := "+strings.Repeat("("+nested([]nest{part}, 0, "1")+") + ", 100)+"1;"))
		parsed(t, wrapped("x(y := "+one+", z := "+one+");"))
		parsed(t, wrapped("FOR x := "+one+" TO "+one+" BY "+one+" DO x[1] := 1; END_FOR;"))
		tryError(t, wrapped("x := "+one+"; y := "+nested(append(repeated(part, 31), nest{"@(", ")"}), 32, "1")+";"), api.ErrLong)
	}
}

// P18.1: what is none of the parts that count may stand within 32 of them: operations of two, calls' inputs, fields, labels.
func TestWhatDoesNotCount(t *testing.T) {
	for _, inner := range []string{"x := 1;", "x := a OR b XOR c AND d < e + f * g;", "x(y := 1, z := 2 + a.b);", "EXIT;"} {
		parsed(t, wrapped(nested(repeated(statementNests()[0], 31), 0, inner)))
	}
	parsed(t, wrapped(nested(repeated(statementNests()[0], 31), 0, "CASE a OF -1..-2, -3: END_CASE; ")))
	for _, op := range []string{" + ", " * ", " AND ", " OR ", " XOR ", " - ", " MOD "} {
		parsed(t, wrapped("x := a"+strings.Repeat(op+"b", 2000)+";"))
	}
	parsed(t, wrapped("x := "+strings.Repeat("(1) + -(2) * ", 500)+"1;"))
	parsed(t, wrapped("x("+strings.Repeat("y := (1), ", 500)+"z := NOT 1);"))
	parsed(t, wrapped("IF a THEN "+strings.Repeat("ELSIF b THEN EXIT; ", 500)+"END_IF;"))
	parsed(t, wrapped("CASE a OF "+strings.Repeat("1, -2: EXIT; ", 500)+"END_CASE;"))
}

// listed are so many names, from this number on.
func listed(from, many int) string {
	var names []string
	for i := range many {
		names = append(names, "v"+strconv.Itoa(from+i))
	}
	return strings.Join(names, ", ")
}

// P18.1: 64 variables and more, in one list.
func TestManyInOneList(t *testing.T) {
	for _, word := range []string{"VAR", "VAR_INPUT", "VAR_OUTPUT"} {
		for _, kind := range []string{"INT", "BOOL := TRUE", "ARRAY[1..2] OF INT", "TON"} {
			p := parsed(t, wrapped(word+" "+listed(1, 64)+" : "+kind+"; END_VAR"))
			if len(p.Vars) != 64 || p.Vars[63].Name != "v64" {
				t.Error(p.Vars)
			}
			for _, many := range []int{1, 2, 40} {
				tryError(t, wrapped(word+" "+listed(1, 64)+", @"+listed(65, many)+" : "+kind+"; END_VAR"), api.ErrLong)
			}
		}
	}
	tryError(t, "PROGRAM p VAR "+listed(1, 64)+",\n\n @a", api.ErrLong)
	tryError(t, "PROGRAM p VAR "+strings.Repeat("a, ", 64)+"@a : X", api.ErrLong)
}

// P18.1: 64 variables and more, in several lists and sections.
func TestManyInSections(t *testing.T) {
	words := []string{"VAR ", "VAR_INPUT ", "VAR_OUTPUT "}
	for _, many := range []int{1, 2, 3, 7, 16, 32, 63} {
		for sections := range 2 {
			text := "VAR "
			count := 0
			for at := 0; count < 64; at++ {
				if sections == 1 {
					text += "END_VAR " + words[at%3]
				}
				more := min(many, 64-count)
				text += listed(count+1, more) + " : INT := 2; "
				count += more
			}
			p := parsed(t, wrapped(text+"END_VAR"))
			if len(p.Vars) != 64 {
				t.Error(p.Vars)
			}
			parsed(t, wrapped(text+"END_VAR VAR END_VAR VAR_INPUT END_VAR x := 1;"))
			tryError(t, wrapped(text+"@a : INT; END_VAR"), api.ErrLong)
			tryError(t, wrapped(text+"@a, b : INT; END_VAR"), api.ErrLong)
			tryError(t, wrapped(text+"END_VAR VAR_OUTPUT @a : INT; END_VAR"), api.ErrLong)
			tryError(t, wrapped(text+"END_VAR VAR END_VAR VAR @a, b : X; END_VAR"), api.ErrLong)
		}
	}
	tryError(t, wrapped("VAR "+listed(1, 63)+" : INT; a, @b : INT; END_VAR"), api.ErrLong)
	parsed(t, wrapped("VAR "+listed(1, 63)+" : INT; a : INT; END_VAR"))
}

// P18.1: where one more would be too many, and what stands there doesn't fit, ErrLong is told.
func TestLongFirst(t *testing.T) {
	full := "VAR " + listed(1, 64)
	for _, sign := range otherSigns() {
		tryError(t, "PROGRAM p "+full+", @"+sign, api.ErrLong)
		if sign != "END_VAR" {
			tryError(t, "PROGRAM p "+full+" : INT; @"+sign, api.ErrLong)
			tryError(t, "PROGRAM p "+full+" : INT; END_VAR VAR_INPUT @"+sign, api.ErrLong)
		}
		if sign != "END_FOR" {
			tryError(t, "PROGRAM p "+strings.Repeat("FOR a := 1 TO 2 DO ", 32)+"@"+sign, api.ErrLong)
		}
	}
	tryError(t, "PROGRAM p "+full+", @", api.ErrLong)
	tryError(t, "PROGRAM p "+full+" : INT; @", api.ErrLong)
	tryError(t, "PROGRAM p "+strings.Repeat("IF a THEN ", 32)+"@", api.ErrLong)
}

// P18.1: with less than that, what doesn't fit is ErrForm; so it is where nothing too many could begin.
func TestFormBelowTheLimits(t *testing.T) {
	nearly := "VAR " + listed(1, 63)
	full := "VAR " + listed(1, 64)
	for _, marked := range []string{
		nearly + ", @5", nearly + ", @", nearly + " : INT; @5", nearly + " : INT; @",
		full + " @v65", full + " @5", full + " : INT @v65", full + " : INT; END_VAR @5", full + " : INT; END_VAR @",
		strings.Repeat("IF a THEN ", 31) + "@5", strings.Repeat("IF a THEN ", 31) + "@", strings.Repeat("IF a THEN ", 31) + "@END_PROGRAM",
		strings.Repeat("IF a THEN ", 32) + "END_IF; @5", strings.Repeat("IF a THEN ", 32) + "END_IF @IF", strings.Repeat("IF a THEN ", 31) + "IF @IF", strings.Repeat("IF a THEN ", 31) + "IF @THEN",
		"x := " + strings.Repeat("(", 31) + "@)", "x := " + strings.Repeat("(", 31) + "@", "x := " + strings.Repeat("- ", 31) + "@;", "x := " + strings.Repeat("(", 31) + "1 @[", "x := " + strings.Repeat("(", 31) + "1 @(", "x := " + strings.Repeat("(", 31) + "1 @NOT", "x := " + strings.Repeat("(", 31) + "a @(", "x := " + strings.Repeat("a[", 31) + "a.b @[",
	} {
		tryError(t, "PROGRAM p "+marked, api.ErrForm)
	}
}
