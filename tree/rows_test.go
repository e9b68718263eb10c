package tree

// row is a program's text and its tree.
type row struct{ text, tree string }

// blockKinds are the kinds of blocks by their names, by the document's numbers.
func blockKinds() map[string]int {
	return map[string]int{
		"TON": 10, "TOF": 11, "TP": 12, "CTU": 13, "CTD": 14, "R_TRIG": 15, "F_TRIG": 16, "SR": 17, "RS": 18,
		"MC_Power": 20, "MC_Home": 21, "MC_Stop": 22, "MC_Halt": 23, "MC_MoveAbsolute": 24, "MC_MoveRelative": 25, "MC_MoveAdditive": 26, "MC_MoveVelocity": 27, "MC_GearIn": 28, "MC_Reset": 29, "MC_SetPosition": 30, "MC_SetOverride": 31,
	}
}

// varRows: sections, names, types and values.
func varRows() []row {
	return []row{
		{"PROGRAM p END_PROGRAM", "p () {}"},
		{"PROGRAM a_LongName_of_16 END_PROGRAM", "a_LongName_of_16 () {}"},
		{wrapped("VAR END_VAR"), "p () {}"},
		{wrapped("VAR_INPUT END_VAR"), "p () {}"},
		{wrapped("VAR_OUTPUT END_VAR"), "p () {}"},
		{wrapped("VAR END_VAR VAR END_VAR VAR_OUTPUT END_VAR VAR_INPUT END_VAR VAR_OUTPUT END_VAR"), "p () {}"},
		{wrapped("VAR a : INT; END_VAR"), "p (a 0:1=0) {}"},
		{wrapped("VAR_INPUT a : INT; END_VAR"), "p (a 1:1=0) {}"},
		{wrapped("VAR_OUTPUT a : INT; END_VAR"), "p (a 2:1=0) {}"},
		{wrapped("VAR a : INT; END_VAR VAR_INPUT b : BOOL; END_VAR VAR_OUTPUT c : INT; END_VAR VAR END_VAR VAR d : BOOL; END_VAR"), "p (a 0:1=0, b 1:2=0, c 2:1=0, d 0:2=0) {}"},
		{wrapped("VAR a, b : INT; END_VAR"), "p (a 0:1=0, b 0:1=0) {}"},
		{wrapped("VAR a : BOOL; b : INT; END_VAR"), "p (a 0:2=0, b 0:1=0) {}"},
		{wrapped("VAR_INPUT a, b, c : BOOL := TRUE; d : INT := 4; e, f : TON; END_VAR"), "p (a 1:2=1, b 1:2=1, c 1:2=1, d 1:1=4, e 1:10=0, f 1:10=0) {}"},
		{wrapped("VAR a, a : INT; a : BOOL; p : INT; END_VAR"), "p (a 0:1=0, a 0:1=0, a 0:2=0, p 0:1=0) {}"},
		{wrapped("VAR a : INT := 0; b : INT := 7; c : INT := -7; d : INT := -0; END_VAR"), "p (a 0:1=0, b 0:1=7, c 0:1=-7, d 0:1=0) {}"},
		{wrapped("VAR a : INT := 16#FF; b : INT := 9223372036854775807; c : INT := - 16#7FFFFFFFFFFFFFFF; END_VAR"), "p (a 0:1=255, b 0:1=9223372036854775807, c 0:1=-9223372036854775807) {}"},
		{wrapped("VAR a : BOOL := TRUE; b : BOOL := FALSE; END_VAR"), "p (a 0:2=1, b 0:2=0) {}"},
		{wrapped("VAR a : ARRAY[1..3] OF INT; END_VAR"), "p (a 0:1[true 1 3]=0) {}"},
		{wrapped("VAR a : ARRAY[0..255] OF BOOL; END_VAR"), "p (a 0:2[true 0 255]=0) {}"},
		{wrapped("VAR_OUTPUT a, b : ARRAY[0..0] OF BOOL; c : INT := 1; d : ARRAY[255..255] OF INT; e : ARRAY[7..7] OF INT; END_VAR"), "p (a 2:2[true 0 0]=0, b 2:2[true 0 0]=0, c 2:1=1, d 2:1[true 255 255]=0, e 2:1[true 7 7]=0) {}"},
		{wrapped("VAR a : ARRAY[254..16#FF] OF INT; b : INT; END_VAR"), "p (a 0:1[true 254 255]=0, b 0:1=0) {}"},
		{wrapped("VAR TON : TON; a : SR; END_VAR TON();"), "p (TON 0:10=0, a 0:17=0) {call TON(: )}"},
	}
}

// stmtRows: each kind of statement.
func stmtRows() []row {
	var rows []row
	for _, c := range []row{
		{"a := 1;", "assign a 1"},
		{"a := b; b := a;", "assign a b; assign b a"},
		{"a[1] := 2;", "assign a[1] 2"},
		{"a[b] := c[d];", "assign a[b] c[d]"},
		{"a[b[c] + 1] := d[e[f]];", "assign a[(+ b[c] 1)] d[e[f]]"},
		{"t();", "call t(: )"},
		{"t(IN := TRUE);", "call t(IN: T1)"},
		{"t(IN := a OR b, PT := 5);", "call t(IN, PT: (OR a b), 5)"},
		{"t(x := (1), x := 2, TON := t.Q);", "call t(x, x, TON: 1, 2, t.Q)"},
		{"IF a THEN END_IF;", "if a {}"},
		{"IF a THEN b := 1; END_IF;", "if a {assign b 1}"},
		{"IF a THEN b := 1; c := 2; EXIT; END_IF;", "if a {assign b 1; assign c 2; exit}"},
		{"IF a THEN ELSE END_IF;", "if a {} {}"},
		{"IF a THEN EXIT; ELSE RETURN; EXIT; END_IF;", "if a {exit} {return; exit}"},
		{"IF a THEN ELSIF b THEN END_IF;", "if a, b {} {}"},
		{"IF a THEN EXIT; ELSIF b THEN RETURN; END_IF;", "if a, b {exit} {return}"},
		{"IF a THEN ELSIF b THEN ELSIF c THEN END_IF;", "if a, b, c {} {} {}"},
		{"IF a THEN x(); ELSIF b = 1 THEN y(); z(); ELSIF NOT c THEN EXIT; END_IF;", "if a, (= b 1), (not c) {call x(: )} {call y(: ); call z(: )} {exit}"},
		{"IF a THEN ELSIF b THEN ELSE END_IF;", "if a, b {} {} {}"},
		{"IF a THEN EXIT; ELSIF b THEN ELSIF c THEN RETURN; ELSE x := 1; END_IF;", "if a, b, c {exit} {} {return} {assign x 1}"},
		{"CASE a OF END_CASE;", "case a"},
		{"CASE a + 1 OF ELSE END_CASE;", "case (+ a 1) {}"},
		{"CASE a OF ELSE EXIT; RETURN; END_CASE;", "case a {exit; return}"},
		{"CASE a OF 1: END_CASE;", "case a <1 1> {}"},
		{"CASE a OF 1: EXIT; b := 2; END_CASE;", "case a <1 1> {exit; assign b 2}"},
		{"CASE a OF -1: END_CASE;", "case a <-1 -1> {}"},
		{"CASE a OF 1..3: END_CASE;", "case a <1 3> {}"},
		{"CASE a OF -5..-2: END_CASE;", "case a <-5 -2> {}"},
		{"CASE a OF -5..2: END_CASE;", "case a <-5 2> {}"},
		{"CASE a OF 5..-2: END_CASE;", "case a <5 -2> {}"},
		{"CASE a OF 1, 3: END_CASE;", "case a <1 1 3 3> {}"},
		{"CASE a OF 1, 3..5, -7, -9..-8, 16#10..16#20, 0, -0: EXIT; END_CASE;", "case a <1 1 3 5 -7 -7 -9 -8 16 32 0 0 0 0> {exit}"},
		{"CASE a OF 1: 2: END_CASE;", "case a <1 1> <2 2> {} {}"},
		{"CASE a OF 1: EXIT; -2: RETURN; END_CASE;", "case a <1 1> <-2 -2> {exit} {return}"},
		{"CASE a OF 1: EXIT; 2, 3: -4: b := -1; b := 1; 5..6: ELSE RETURN; END_CASE;", "case a <1 1> <2 2 3 3> <-4 -4> <5 6> {exit} {} {assign b (neg 1); assign b 1} {} {return}"},
		{"CASE a OF 9223372036854775807, -9223372036854775807..0: ELSE END_CASE;", "case a <9223372036854775807 9223372036854775807 -9223372036854775807 0> {} {}"},
		{"FOR a := 1 TO 3 DO END_FOR;", "for a 1, 3, 1 {}"},
		{"FOR a := 1 TO 3 BY 2 DO END_FOR;", "for a 1, 3, 2 {}"},
		{"FOR a := b + 1 TO c[2] BY -d DO EXIT; RETURN; END_FOR;", "for a (+ b 1), c[2], (neg d) {exit; return}"},
		{"WHILE a DO END_WHILE;", "while a {}"},
		{"WHILE a < b DO EXIT; a := 1; END_WHILE;", "while (< a b) {exit; assign a 1}"},
		{"REPEAT UNTIL a END_REPEAT;", "repeat a {}"},
		{"REPEAT EXIT; a := 1; UNTIL a OR b END_REPEAT;", "repeat (OR a b) {exit; assign a 1}"},
		{"EXIT;", "exit"},
		{"RETURN;", "return"},
		{"EXIT; EXIT; RETURN; t();", "exit; exit; return; call t(: )"},
		{"IF a THEN WHILE b DO REPEAT FOR c := 1 TO 2 DO CASE d OF 1: IF e THEN EXIT; END_IF; END_CASE; END_FOR; UNTIL f END_REPEAT; END_WHILE; ELSE CASE g OF ELSE RETURN; END_CASE; END_IF; x := 1;",
			"if a {while b {repeat f {for c 1, 2, 1 {case d <1 1> {if e {exit}}}}}} {case g {return}}; assign x 1"},
	} {
		rows = append(rows, row{wrapped(c.text), "p () {" + c.tree + "}"})
	}
	return rows
}

// exprRows: expressions where one stands.
func exprRows() []row {
	var rows []row
	for _, c := range []row{
		{"0", "0"}, {"007", "7"}, {"2#101", "5"}, {"9223372036854775807", "9223372036854775807"},
		{"TRUE", "T1"}, {"FALSE", "T0"}, {"b", "b"}, {"TON", "TON"}, {"b[1]", "b[1]"}, {"b.Q", "b.Q"}, {"b.b", "b.b"}, {"b.TON", "b.TON"},
		{"(1)", "1"}, {"((TRUE))", "T1"}, {"(((b)))", "b"}, {"(b[(1)])", "b[1]"}, {"(b.c)", "b.c"}, {"(-1)", "(neg 1)"},
		{"-1", "(neg 1)"}, {"- -1", "(neg (neg 1))"}, {"-(-(-b))", "(neg (neg (neg b)))"}, {"-b[-1]", "(neg b[(neg 1)])"}, {"-b.c", "(neg b.c)"}, {"-TRUE", "(neg T1)"},
		{"NOT b", "(not b)"}, {"NOT NOT FALSE", "(not (not T0))"}, {"NOT -NOT - 1", "(not (neg (not (neg 1))))"}, {"NOT(b OR c)", "(not (OR b c))"}, {"NOT b.Q", "(not b.Q)"}, {"NOT 5", "(not 5)"},
		{"1 + 2", "(+ 1 2)"}, {"1-2", "(- 1 2)"}, {"1 - -2", "(- 1 (neg 2))"}, {"-1-1", "(- (neg 1) 1)"}, {"-(1-1)", "(neg (- 1 1))"}, {"1 - - - 2", "(- 1 (neg (neg 2)))"},
		{"a + b * c", "(+ a (* b c))"}, {"a * b + c", "(+ (* a b) c)"}, {"(a + b) * c", "(* (+ a b) c)"}, {"a * (b + c)", "(* a (+ b c))"}, {"a - b - c", "(- (- a b) c)"}, {"a - (b - c)", "(- a (- b c))"}, {"a / b * c MOD d", "(MOD (* (/ a b) c) d)"}, {"a MOD b + c / d", "(+ (MOD a b) (/ c d))"},
		{"a < b", "(< a b)"}, {"a < b AND c >= d", "(AND (< a b) (>= c d))"}, {"(a < b) < c", "(< (< a b) c)"}, {"a < (b < c)", "(< a (< b c))"}, {"a + 1 <> b - 1", "(<> (+ a 1) (- b 1))"}, {"NOT a = b", "(= (not a) b)"}, {"NOT (a = b)", "(not (= a b))"}, {"a = NOT b", "(= a (not b))"}, {"a <= -b", "(<= a (neg b))"},
		{"a OR b XOR c AND d", "(OR a (XOR b (AND c d)))"}, {"a AND b XOR c OR d", "(OR (XOR (AND a b) c) d)"}, {"a OR b OR c", "(OR (OR a b) c)"}, {"a OR (b OR c)", "(OR a (OR b c))"}, {"a XOR b XOR c", "(XOR (XOR a b) c)"}, {"a AND b AND c AND d", "(AND (AND (AND a b) c) d)"}, {"(a OR b) AND c", "(AND (OR a b) c)"},
		{"1 - 2 - -b * 3 < 4 AND NOT t.Q OR l[a]", "(OR (AND (< (- (- 1 2) (* (neg b) 3)) 4) (not t.Q)) l[a])"},
		{"a[b < c OR d] + e", "(+ a[(OR (< b c) d)] e)"},
	} {
		rows = append(rows, row{wrapped("a := " + c.text + ";"), "p () {assign a " + c.tree + "}"})
	}
	return rows
}

// fullRow: a program with all in it.
func fullRow() row {
	return row{
		"PROGRAM full VAR a, b : INT := -2; l : ARRAY[1..3] OF BOOL; t : TON; END_VAR VAR_INPUT c : BOOL := TRUE; END_VAR a := a * -(b + 1) < 2 AND NOT l[a] OR t.Q; t(IN := c, PT := 5); IF c THEN EXIT; ELSIF a = 1 THEN ELSE t(); END_IF; CASE a OF 1, -3..5: RETURN; 7: ELSE b := 2; END_CASE; FOR a := 1 TO 3 BY 2 DO END_FOR; WHILE c DO l[1] := c; END_WHILE; REPEAT UNTIL c END_REPEAT; END_PROGRAM",
		"full (a 0:1=-2, b 0:1=-2, l 0:2[true 1 3]=0, t 0:10=0, c 1:2=1) {assign a (OR (AND (< (* a (neg (+ b 1))) 2) (not l[a])) t.Q); call t(IN, PT: c, 5); if c, (= a 1) {exit} {} {call t(: )}; case a <1 1 -3 5> <7 7> {return} {} {assign b 2}; for a 1, 3, 2 {}; while c {assign l[1] c}; repeat c {}}",
	}
}

// rows of all that is written out.
func rows() []row {
	all := append(varRows(), stmtRows()...)
	all = append(all, exprRows()...)
	return append(all, fullRow())
}
