package tree

import (
	"strings"
	"testing"

	"servitor/api"
	"servitor/tok"
)

// P18.1: what the grammar has none of, at the first sign that doesn't fit.
func TestForm(t *testing.T) {
	for _, marked := range []string{
		"@", " \n @", "@p", "@END_PROGRAM", "@VAR", "@a := 1;", "@;", "@5", "PROGRAM@", "PROGRAM @END_PROGRAM", "PROGRAM @IF", "PROGRAM @1", "PROGRAM @PROGRAM p",
		"PROGRAM p@", "PROGRAM p\n\n@", "PROGRAM p @;", "PROGRAM p @PROGRAM", "PROGRAM p @END_VAR", "PROGRAM p @THEN", "PROGRAM p @5 := a;", "PROGRAM p @(a) := 1;", "PROGRAM p @-a := 1;", "PROGRAM p @TRUE := 1;",
		"PROGRAM p END_PROGRAM @x", "PROGRAM p END_PROGRAM @;", "PROGRAM p END_PROGRAM @END_PROGRAM", "PROGRAM p END_PROGRAM\n@PROGRAM p END_PROGRAM", "PROGRAM p END_PROGRAM (* *) @5",
		"PROGRAM p a := 1; @VAR b : INT; END_VAR END_PROGRAM", "PROGRAM p VAR @VAR", "PROGRAM p VAR @; END_VAR", "PROGRAM p VAR a@; END_VAR", "PROGRAM p VAR a @INT; END_VAR", "PROGRAM p VAR a, @: INT; END_VAR", "PROGRAM p VAR a @b : INT;", "PROGRAM p VAR @, a : INT;", "PROGRAM p VAR a : @; END_VAR", "PROGRAM p VAR a : @5;", "PROGRAM p VAR a : @TRUE;", "PROGRAM p VAR a : @OF INT;", "PROGRAM p VAR a : INT @END_VAR", "PROGRAM p VAR a : INT; @;", "PROGRAM p VAR a : INT @= 5;", "PROGRAM p VAR a : INT @: INT;", "PROGRAM p VAR @INT : INT;", "PROGRAM p VAR a@[1] : INT;",
		"PROGRAM p VAR a : INT := @; END_VAR", "PROGRAM p VAR a : INT := - @- 1;", "PROGRAM p VAR a : INT := -@TRUE;", "PROGRAM p VAR a : INT := @+ 1;", "PROGRAM p VAR a : INT := @b;", "PROGRAM p VAR a : INT := 1 @+ 1;", "PROGRAM p VAR a : INT := @(1);", "PROGRAM p VAR a : BOOL := @NOT TRUE;", "PROGRAM p VAR a : BOOL := TRUE @FALSE;", "PROGRAM p VAR a : TON := @;", "PROGRAM p VAR a : TON := -@;", "PROGRAM p VAR a : BOOL := -@;", "PROGRAM p VAR a : TON @INT;", "PROGRAM p VAR a : TON@(IN := TRUE);",
		"PROGRAM p VAR a : ARRAY @OF INT;", "PROGRAM p VAR a : ARRAY @(1..2) OF INT;", "PROGRAM p VAR a : ARRAY[@] OF INT;", "PROGRAM p VAR a : ARRAY[@..2] OF INT;", "PROGRAM p VAR a : ARRAY[1@] OF INT;", "PROGRAM p VAR a : ARRAY[1@.2] OF INT;", "PROGRAM p VAR a : ARRAY[1..@] OF INT;", "PROGRAM p VAR a : ARRAY[@-1..2] OF INT;", "PROGRAM p VAR a : ARRAY[1..@-2] OF INT;", "PROGRAM p VAR a : ARRAY[1..2@, 1..2] OF INT;", "PROGRAM p VAR a : ARRAY[1..2@..3] OF INT;", "PROGRAM p VAR a : ARRAY[@b..2] OF INT;", "PROGRAM p VAR a : ARRAY[1..2] @INT;", "PROGRAM p VAR a : ARRAY[1..2] OF @TON;", "PROGRAM p VAR a : ARRAY[1..2] OF @ARRAY[1..2] OF INT;", "PROGRAM p VAR a : ARRAY[1..2] OF @;", "PROGRAM p VAR a : ARRAY[1..2] OF INT := @[1, 2];", "PROGRAM p VAR a : ARRAY[1..2] OF INT := @;",
		"PROGRAM p a @= 1;", "PROGRAM p a @;", "PROGRAM p a@.b := 1;", "PROGRAM p a[1]@[2] := 1;", "PROGRAM p a[1]@(b := 1);", "PROGRAM p a[1]@.b := 1;", "PROGRAM p a[@] := 1;", "PROGRAM p a := @;", "PROGRAM p a := 1 @END_PROGRAM", "PROGRAM p a := b @:= 1;", "PROGRAM p @; a := 1;", "PROGRAM p a := 1;@; END_PROGRAM", "PROGRAM p a@, b := 1;", "PROGRAM p @[1] := 1;",
		"PROGRAM p t(@1);", "PROGRAM p t(a@);", "PROGRAM p t(a @= 1);", "PROGRAM p t(a := @);", "PROGRAM p t(a := 1@;", "PROGRAM p t(a := 1, @);", "PROGRAM p t(@, a := 1);", "PROGRAM p t(a := 1 @b := 2);", "PROGRAM p t() @END_PROGRAM", "PROGRAM p t()@();", "PROGRAM p t() @:= 1;", "PROGRAM p t(a@[1] := 2);", "PROGRAM p t(@TRUE := 2);", "PROGRAM p t(a@.b := 2);",
		"PROGRAM p x := a@(b := 1);", "PROGRAM p x := a.b@[1];", "PROGRAM p x := a.b@.c;", "PROGRAM p x := a[1]@.b;", "PROGRAM p x := a[1]@[2];", "PROGRAM p x := a.@;", "PROGRAM p x := a.@1;", "PROGRAM p x := a.@IF;", "PROGRAM p x := a[1@;", "PROGRAM p x := a[@];", "PROGRAM p x := a[1@, 2];", "PROGRAM p x := a[1@..2];", "PROGRAM p x := 1@.5;", "PROGRAM p x := 1 @2;", "PROGRAM p x := a @b;", "PROGRAM p x := @* 2;", "PROGRAM p x := @+ 2;", "PROGRAM p x := 1 + @+ 2;", "PROGRAM p x := 1 + @;", "PROGRAM p x := 1 * @/ 2;", "PROGRAM p x := (1@;", "PROGRAM p x := (@);", "PROGRAM p x := 1@);", "PROGRAM p x := ((1)@;", "PROGRAM p x := (1@, 2);", "PROGRAM p x := a @NOT b;", "PROGRAM p x := a AND @OR b;", "PROGRAM p x := NOT @;", "PROGRAM p x := - @;", "PROGRAM p x := @AND b;", "PROGRAM p x := TRUE @TRUE;", "PROGRAM p x := TRUE@[1];", "PROGRAM p x := 1@[1];", "PROGRAM p x := (a)@[1];", "PROGRAM p x := (a)@.b;", "PROGRAM p x := @INT;", "PROGRAM p x := a = @= b;", "PROGRAM p x := a < @> b;", "PROGRAM p x := a < b @> c;", "PROGRAM p x := a = b @= c;", "PROGRAM p x := a < b + c @<= d;", "PROGRAM p x := (a < b @< c);", "PROGRAM p x := y[a < b @< c];", "PROGRAM p x := a < b AND c < d @< e;",
		"PROGRAM p IF @THEN", "PROGRAM p IF a @END_IF;", "PROGRAM p IF a THEN END_IF @END_PROGRAM", "PROGRAM p IF a THEN @END_PROGRAM", "PROGRAM p IF a THEN ELSIF @THEN", "PROGRAM p IF a THEN ELSE @ELSE END_IF;", "PROGRAM p IF a THEN ELSE @ELSIF b THEN END_IF;", "PROGRAM p IF a THEN ELSE @THEN END_IF;", "PROGRAM p IF a THEN @END_WHILE;", "PROGRAM p IF a @DO", "PROGRAM p IF a THEN @;", "PROGRAM p @ELSE", "PROGRAM p @END_IF;", "PROGRAM p IF a THEN @VAR", "PROGRAM p IF a @:= 1",
		"PROGRAM p CASE @OF", "PROGRAM p CASE a @1:", "PROGRAM p CASE a OF @a: END_CASE;", "PROGRAM p CASE a OF @a := 1; END_CASE;", "PROGRAM p CASE a OF @EXIT; END_CASE;", "PROGRAM p CASE a OF 1 @EXIT;", "PROGRAM p CASE a OF 1, @: END_CASE;", "PROGRAM p CASE a OF @: END_CASE;", "PROGRAM p CASE a OF -@: END_CASE;", "PROGRAM p CASE a OF -@-1:", "PROGRAM p CASE a OF 1..@: END_CASE;", "PROGRAM p CASE a OF 1..2@..3: END_CASE;", "PROGRAM p CASE a OF 1@+ 1: END_CASE;", "PROGRAM p CASE a OF @+1: END_CASE;", "PROGRAM p CASE a OF @TRUE: END_CASE;", "PROGRAM p CASE a OF @(1): END_CASE;", "PROGRAM p CASE a OF 1 @:= b;", "PROGRAM p CASE a OF 1: @: END_CASE;", "PROGRAM p CASE a OF ELSE @1: END_CASE;", "PROGRAM p CASE a OF ELSE @-1: END_CASE;", "PROGRAM p CASE a OF ELSE @ELSE END_CASE;", "PROGRAM p CASE a OF 1: @END_IF;", "PROGRAM p CASE a OF END_CASE @END_PROGRAM", "PROGRAM p CASE a OF 1: IF b THEN @2: END_IF;", "PROGRAM p CASE a OF 1: IF b THEN @-2: END_IF;", "PROGRAM p CASE a OF 1: @ELSIF", "PROGRAM p @1: EXIT;",
		"PROGRAM p FOR @1 := 1 TO 2 DO", "PROGRAM p FOR a@[1] := 1 TO 2 DO", "PROGRAM p FOR a @= 1 TO 2 DO", "PROGRAM p FOR a := @TO 2 DO", "PROGRAM p FOR a := 1 @DO", "PROGRAM p FOR a := 1 @BY 2 TO 3 DO", "PROGRAM p FOR a := 1 TO @DO", "PROGRAM p FOR a := 1 TO 2 @END_FOR;", "PROGRAM p FOR a := 1 TO 2 BY @DO", "PROGRAM p FOR a := 1 TO 2 BY 3 @BY 4 DO", "PROGRAM p FOR a := 1 TO 2 DO @END_WHILE;", "PROGRAM p FOR a := 1 TO 2 DO END_FOR @END_FOR;", "PROGRAM p FOR a := 1@..2 DO", "PROGRAM p @END_FOR;",
		"PROGRAM p WHILE @DO", "PROGRAM p WHILE a @THEN", "PROGRAM p WHILE a DO @END_IF;", "PROGRAM p WHILE a DO END_WHILE @a := 1;", "PROGRAM p WHILE a DO @UNTIL", "PROGRAM p @END_WHILE;", "PROGRAM p @DO",
		"PROGRAM p REPEAT @END_REPEAT;", "PROGRAM p REPEAT UNTIL @END_REPEAT;", "PROGRAM p REPEAT UNTIL a@; END_REPEAT;", "PROGRAM p REPEAT UNTIL a @DO", "PROGRAM p REPEAT a := 1 @UNTIL a END_REPEAT;", "PROGRAM p REPEAT UNTIL a END_REPEAT @END_PROGRAM", "PROGRAM p @UNTIL", "PROGRAM p REPEAT @END_PROGRAM",
		"PROGRAM p EXIT @END_PROGRAM", "PROGRAM p EXIT @a;", "PROGRAM p RETURN @1;", "PROGRAM p RETURN@();", "PROGRAM p EXIT @RETURN;", "PROGRAM p EXIT;@;",
	} {
		tryError(t, marked, api.ErrForm)
	}
}

// P18.1: a type's name that is no block's.
func TestNameOfType(t *testing.T) {
	for _, name := range []string{"X", "a", "p", "int", "Bool", "ton", "Ton", "TON1", "TON_", "T0N", "TN", "TONN", "SFC", "CTUD", "RTRIG", "R_TRIg", "MC_POWER", "MC_Powe", "MC_Power_", "MC_MoveSuperimpo", "REAL", "STRING", "Q", "IN", "MC_", "Axis"} {
		for _, behind := range []string{"; END_VAR END_PROGRAM", " := 1; END_VAR END_PROGRAM", " := TRUE;", "", ";", " IF", "[1]", " : X", " Y"} {
			tryError(t, "PROGRAM p VAR a : @"+name+behind, api.ErrName)
			tryError(t, "PROGRAM p\nVAR_INPUT b : TON; c : INT; END_VAR VAR_OUTPUT d, e :\n @"+name+behind, api.ErrName)
		}
	}
}

// P18.1: the type's name may be that of a variable, a field's and an input's any.
func TestNamesElsewhere(t *testing.T) {
	for name := range blockKinds() {
		parsed(t, "PROGRAM "+name+" VAR "+name+" : INT; END_VAR "+name+" := "+name+"."+name+" + "+name+"["+name+"]; "+name+"("+name+" := 1); FOR "+name+" := 1 TO 2 DO END_FOR; END_PROGRAM")
	}
	parsed(t, "PROGRAM X VAR X : INT; END_VAR Y := Z.W; V(U := T); END_PROGRAM")
}

// P18.1: values that may not be, told at the first sign of the type.
func TestValuesThatMayNotBe(t *testing.T) {
	numbers := []string{"0", "1", "5", "-1", "- 5", "-0", "16#FF"}
	truths := []string{"TRUE", "FALSE"}
	bad := map[string][]string{"INT": truths, "BOOL": numbers}
	for name := range blockKinds() {
		bad[name] = append(truths, numbers...)
	}
	for _, kind := range []string{"ARRAY[1..2] OF INT", "ARRAY[0..255] OF BOOL", "ARRAY [ 7 .. 7 ]\nOF INT"} {
		bad[kind] = append(truths, numbers...)
	}
	for kind, values := range bad {
		for _, value := range values {
			for _, behind := range []string{"; END_VAR END_PROGRAM", ";", "", " + 1;", ", 2;", " X", "; b : X; END_VAR", " ] ;", "; END_VAR END_PROGRAM x"} {
				tryError(t, "PROGRAM p VAR a : @"+kind+" := "+value+behind, api.ErrArg)
				tryError(t, "PROGRAM p\nVAR_INPUT c : INT := 1;\nb, a\n:\n\n @"+kind+"\n:=\n"+value+behind, api.ErrArg)
			}
		}
	}
}

// P18.1: bounds that may not be, told at the upper one.
func TestBoundsThatMayNotBe(t *testing.T) {
	for _, bounds := range []string{"1..@0", "3..@2", "255..@254", "255..@0", "256..@255", "0..@256", "1..@256", "255..@256", "256..@256", "256..@257", "300..@2", "9223372036854775807..@0", "0..@9223372036854775807", "9223372036854775807..@9223372036854775807", "16#100..@16#FF", "0 .. @16#100", "1\n..\n@2#0", "2147483648..@4294967296"} {
		for _, behind := range []string{"] OF INT; END_VAR END_PROGRAM", "] OF BOOL;", "]", "", " ..", "] OF TON;", "] OF INT := 1;", "] X", "] OF X"} {
			tryError(t, "PROGRAM p VAR a : ARRAY["+bounds+behind, api.ErrArg)
			tryError(t, "PROGRAM p VAR b : ARRAY[0..255] OF INT; END_VAR\nVAR_OUTPUT c, d : ARRAY [ "+bounds+behind, api.ErrArg)
		}
	}
	for _, bounds := range []string{"0..0", "0..255", "255..255", "254..255", "1..1", "16#FF..255", "0..1", "100..200"} {
		parsed(t, "PROGRAM p VAR a : ARRAY["+bounds+"] OF INT; END_VAR END_PROGRAM")
	}
}

// P18.1: of several errors the first one.
func TestFirstError(t *testing.T) {
	for _, c := range []struct {
		marked string
		e      api.Errno
	}{
		{"PROGRAM p VAR a : @X; b : Y; END_VAR END_PROGRAM x", api.ErrName},
		{"PROGRAM p VAR a : INT := 1; b : @INT := TRUE; c : X; END_VAR", api.ErrArg},
		{"PROGRAM p VAR a : @BOOL := 1; c : ARRAY[2..1] OF INT;", api.ErrArg},
		{"PROGRAM p VAR c : ARRAY[2..@1] OF INT; a : BOOL := 1;", api.ErrArg},
		{"PROGRAM p VAR a @a : X;", api.ErrForm},
		{"PROGRAM p VAR a : INT @5; b : X;", api.ErrForm},
		{"PROGRAM p VAR a : @X; END_VAR a = 1;", api.ErrName},
		{"PROGRAM p VAR " + listed(1, 64) + " : @X; a : INT;", api.ErrName},
		{"PROGRAM p VAR " + listed(1, 64) + " : @INT := FALSE; a : INT;", api.ErrArg},
		{"PROGRAM p VAR " + listed(1, 64) + ", @a : X; a : INT;", api.ErrLong},
		{"PROGRAM p VAR a : @X; " + listed(1, 64) + " : INT;", api.ErrName},
		{"PROGRAM p a := @; x := " + strings.Repeat("(", 40), api.ErrForm},
		{"PROGRAM p x := " + strings.Repeat("(", 31) + "@(; a = 1", api.ErrLong},
		{"PROGRAM p VAR a : @X; END_VAR x := " + strings.Repeat("(", 40), api.ErrName},
	} {
		tryError(t, c.marked, c.e)
	}
}

// P18.1: tok's errors are told as they are, at their places, wherever what else is wrong stands.
func TestErrorsOfTok(t *testing.T) {
	for _, c := range []struct {
		marked string
		e      api.Errno
	}{
		{"@?", api.ErrForm}, {"PROGRAM p a := 1 @# END_PROGRAM", api.ErrForm}, {"PROGRAM p\n@(* END_PROGRAM", api.ErrForm}, {"PROGRAM p a := @2#2; END_PROGRAM", api.ErrForm}, {"PROGRAM p a := @1x; END_PROGRAM", api.ErrForm}, {"PROGRAM p @\xff END_PROGRAM", api.ErrForm}, {"PROGRAM p@\r END_PROGRAM", api.ErrForm},
		{"PROGRAM p a := @9223372036854775808; END_PROGRAM", api.ErrOver}, {"PROGRAM p VAR a : INT := -@9223372036854775808; END_VAR END_PROGRAM", api.ErrOver}, {"PROGRAM p VAR a : ARRAY[0..@99999999999999999999] OF INT; END_VAR END_PROGRAM", api.ErrOver},
		{"PROGRAM @abcdefghijklmnopq END_PROGRAM", api.ErrName}, {"PROGRAM p VAR a : @MC_MoveSuperimposed; END_VAR END_PROGRAM", api.ErrName}, {"PROGRAM p @END_PROGRAM_______", api.ErrName},
		{"x y z\n\n @?", api.ErrForm}, {"PROGRAM p VAR a : X; b : INT := TRUE; END_VAR @9223372036854775808", api.ErrOver}, {"PROGRAM p END_PROGRAM @?", api.ErrForm}, {"PROGRAM p x := " + strings.Repeat("(", 99) + "@abcdefghijklmnopq", api.ErrName},
	} {
		tryError(t, c.marked, c.e)
		text := strings.Replace(c.marked, "@", "", 1)
		_, e, at := tok.Lex(text)
		tryFails(t, text, e, at.Line, at.Col)
	}
}

// P18.1: texts of just MaxText bytes, and longer ones.
func TestLongTexts(t *testing.T) {
	const least = "PROGRAM p END_PROGRAM"
	tryTree(t, least+strings.Repeat(" ", api.MaxText-len(least)), "p () {}")
	for _, long := range []int{api.MaxText + 1, api.MaxText + 2, 1 << 20} {
		tryFails(t, least+strings.Repeat(" ", long-len(least)), api.ErrLong, 1, 1)
		tryFails(t, strings.Repeat("\n", long-len(least))+least, api.ErrLong, 1, 1)
		tryFails(t, strings.Repeat("?", long), api.ErrLong, 1, 1)
	}
	ahead, behind := "PROGRAM p x := a", "; END_PROGRAM"
	many := (api.MaxText - len(ahead+behind)) / 2
	p := parsed(t, ahead+strings.Repeat("-b", many)+behind)
	x := p.Body[0].Val
	for range many {
		if x.Op != api.ExSub || x.Sub[1].Op != api.ExVar {
			t.Fatal(x.Op)
		}
		x = x.Sub[0]
	}
	if x.Name != "a" || !Same(p, p) {
		t.Error(x)
	}
	p = parsed(t, "PROGRAM p "+strings.Repeat("a();", 4000)+"END_PROGRAM")
	if len(p.Body) != 4000 {
		t.Error(len(p.Body))
	}
	tryError(t, "PROGRAM p "+strings.Repeat("a();", 4000)+"@)", api.ErrForm)
}

// P18.1, and rule 1 of the document's 'Rules that hold everywhere': drawn bytes are no programs, and no call panics.
func TestDrawnBytes(t *testing.T) {
	w := &writer{x: 5}
	bytes := "aPZ_019 \n\t()[]{}:=<>.,;+-*/#?'\"\x00\xff"
	for range 20000 {
		var text strings.Builder
		for range w.draw(30) {
			text.WriteByte(bytes[w.draw(len(bytes))])
		}
		p, e, at := Parse(text.String())
		if e == api.OK || !isNone(p) || at.Line < 1 || at.Col < 1 || at.Kind != 0 || at.Text != "" || at.N != 0 {
			t.Fatalf("%q: %v, %d, %v", text.String(), p, e, at)
		}
	}
}

// Rule 4 of the document's 'Rules that hold everywhere': the same text answers the same, whatever was read before.
func TestNothingIsKept(t *testing.T) {
	full := fullRow()
	for range 3 {
		tryTree(t, full.text, full.tree)
		tryError(t, "PROGRAM p x := "+strings.Repeat("(", 31)+"@(", api.ErrLong)
		tryTree(t, full.text, full.tree)
		tryError(t, "PROGRAM p VAR "+listed(1, 64)+", @a", api.ErrLong)
		tryError(t, "PROGRAM p VAR a : @X", api.ErrName)
	}
}
