package tree

import "servitor/api"

// Levels of operations of two, the loosest first; behind the last one stand operations of one.
const (
	levelOr = iota
	levelXor
	levelAnd
	levelCompare
	levelSum
	levelTerm
	levelUnary
)

// operation of two that a sign tells, and its level; 0: it tells none.
func operation(sign string) (op, level int) {
	switch sign {
	case "OR":
		return api.ExOr, levelOr
	case "XOR":
		return api.ExXor, levelXor
	case "AND":
		return api.ExAnd, levelAnd
	case "=":
		return api.ExEq, levelCompare
	case "<>":
		return api.ExNe, levelCompare
	case "<":
		return api.ExLt, levelCompare
	case ">":
		return api.ExGt, levelCompare
	case "<=":
		return api.ExLe, levelCompare
	case ">=":
		return api.ExGe, levelCompare
	case "+":
		return api.ExAdd, levelSum
	case "-":
		return api.ExSub, levelSum
	case "*":
		return api.ExMul, levelTerm
	case "/":
		return api.ExDiv, levelTerm
	case "MOD":
		return api.ExMod, levelTerm
	}
	return 0, 0
}

func (r *reader) expression() api.Expr { return r.operations(levelOr) }

// operations of a level, from the left.
func (r *reader) operations(level int) api.Expr {
	if level == levelUnary {
		return r.unary()
	}
	left := r.operations(level + 1)
	for {
		op, its := operation(r.head())
		if op == 0 || its != level {
			return left
		}
		line := r.pass().Line
		right := r.operations(level + 1)
		left = api.Expr{Op: op, Sub: []api.Expr{left, right}, Line: line}
		// A comparison stands alone.
		if level == levelCompare {
			return left
		}
	}
}

func (r *reader) unary() api.Expr {
	switch r.head() {
	case "-":
		return r.ofOne(api.ExNeg)
	case "NOT":
		return r.ofOne(api.ExNot)
	}
	return r.factor()
}

// ofOne is an operation of one number or truth, whose sign is the next one.
func (r *reader) ofOne(op int) api.Expr {
	r.enter()
	line := r.pass().Line
	x := api.Expr{Op: op, Sub: []api.Expr{r.unary()}, Line: line}
	r.leave()
	return x
}

func (r *reader) factor() api.Expr {
	line := r.next().Line
	switch r.head() {
	case "(":
		return r.inner("(", ")")
	case aName:
		return r.read()
	case "TRUE":
		r.pass()
		return api.Expr{Op: api.ExBool, N: 1, Line: line}
	case "FALSE":
		r.pass()
		return api.Expr{Op: api.ExBool, Line: line}
	}
	return api.Expr{Op: api.ExNum, N: r.need(aNumber).N, Line: line}
}

// inner expression, between two signs.
func (r *reader) inner(begin, end string) api.Expr {
	r.enter()
	r.need(begin)
	x := r.expression()
	r.need(end)
	r.leave()
	return x
}

// place that may be assigned to: a name, and an index if it has one.
func (r *reader) place() api.Expr {
	name := r.need(aName)
	x := api.Expr{Op: api.ExVar, Name: name.Text, Line: name.Line}
	if r.head() == "[" {
		x.Op = api.ExIndex
		x.Sub = []api.Expr{r.inner("[", "]")}
	}
	return x
}

// read is a place, or a field.
func (r *reader) read() api.Expr {
	x := r.place()
	if x.Op == api.ExVar && r.take(".") {
		x.Op = api.ExField
		x.Field = r.need(aName).Text
	}
	return x
}
