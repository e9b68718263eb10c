package show

import (
	"math"

	"servitor/api"
	"servitor/std"
	"servitor/tok"
)

// rightProgram: could some text be read as it?
func rightProgram(p api.Program) bool {
	return isName(p.Name) && len(p.Vars) <= api.MaxVars && all(p.Vars, rightVar) && rightBlock(p.Body)
}

// all of a list are right.
func all[T any](list []T, right func(T) bool) bool {
	for _, item := range list {
		if !right(item) {
			return false
		}
	}
	return true
}

// isName: is a text just one name, and no word?
func isName(text string) bool {
	signs, _, _ := tok.Lex(text)
	// The end is a sign, too.
	return len(signs) == 2 && signs[0].Kind == api.TokName && signs[0].Text == text
}

// signed numbers stand behind a - if they are below 0: the least one of 64 bits has no number to stand there.
func signed(n int64) bool { return n != math.MinInt64 }

func rightVar(v api.Var) bool {
	return isName(v.Name) && sectionWord(v.Section) != "" && rightType(v)
}

// rightType of a variable, with bounds and a value that it may have.
func rightType(v api.Var) bool {
	switch {
	case v.Array:
		return plainType(v.Type) != "" && 0 <= v.Lo && v.Lo <= v.Hi && v.Hi <= api.MaxBound && v.Init == 0
	case v.Lo != 0 || v.Hi != 0:
		return false
	case v.Type == api.Int:
		return signed(v.Init)
	case v.Type == api.Bool:
		return v.Init == 0 || v.Init == 1
	}
	return std.Name(v.Type) != "" && v.Init == 0
}

func rightBlock(body []api.Stmt) bool { return all(body, rightStmt) }

// parts of a statement: how many there are of each.
type parts struct{ name, to, val, conds, labels, fields, blocks int }

func partsOf(s api.Stmt) parts {
	has := parts{conds: len(s.Conds), labels: len(s.Labels), fields: len(s.Fields), blocks: len(s.Blocks)}
	if s.Name != "" {
		has.name = 1
	}
	if !missing(s.To) {
		has.to = 1
	}
	if !missing(s.Val) {
		has.val = 1
	}
	return has
}

// rightStmt has the parts of its kind, and each is right.
func rightStmt(s api.Stmt) bool {
	has := partsOf(s)
	return rightParts(s.Op, has) &&
		(has.name == 0 || isName(s.Name)) && (has.to == 0 || rightPlace(s.To)) && (has.val == 0 || rightExpr(s.Val)) &&
		all(s.Conds, rightExpr) && all(s.Labels, rightLabels) && all(s.Fields, isName) && all(s.Blocks, rightBlock)
}

// rightParts: are these the parts that a kind of statement has?
func rightParts(kind int, has parts) bool {
	switch kind {
	case api.StAssign:
		return has == parts{to: 1, val: 1}
	case api.StIf:
		return has.conds > 0 && withElse(has, parts{conds: has.conds, blocks: has.conds})
	case api.StCase:
		return withElse(has, parts{val: 1, labels: has.labels, blocks: has.labels})
	case api.StFor:
		return has == parts{name: 1, conds: 3, blocks: 1}
	case api.StWhile, api.StRepeat:
		return has == parts{val: 1, blocks: 1}
	case api.StExit, api.StReturn:
		return has == parts{}
	case api.StCall:
		return has == parts{name: 1, conds: has.conds, fields: has.conds}
	}
	return false
}

// withElse: are these the parts that are asked for, or one block more?
func withElse(has, asked parts) bool {
	more := asked
	more.blocks++
	return has == asked || has == more
}

// rightLabels of a block: pairs of numbers, at least one.
func rightLabels(bounds []int64) bool {
	return len(bounds) > 0 && len(bounds)%2 == 0 && all(bounds, signed)
}

// missing: an expression that isn't there.
func missing(x api.Expr) bool {
	return x.Op == 0 && x.N == 0 && x.Name == "" && x.Field == "" && len(x.Sub) == 0
}

// rightPlace may be assigned to.
func rightPlace(x api.Expr) bool {
	return (x.Op == api.ExVar || x.Op == api.ExIndex) && rightExpr(x)
}

// shape of the expressions of a kind: the greatest number, whether there is a name and a field, and how many expressions are in them.
type shape struct {
	most        int64
	name, field bool
	subs        int
}

// shapeOf a kind of expression; of what is none it is false.
func shapeOf(op int) (shape, bool) {
	switch op {
	case api.ExNum:
		return shape{most: math.MaxInt64}, true
	case api.ExBool:
		return shape{most: 1}, true
	case api.ExVar:
		return shape{name: true}, true
	case api.ExIndex:
		return shape{name: true, subs: 1}, true
	case api.ExField:
		return shape{name: true, field: true}, true
	case api.ExNeg, api.ExNot:
		return shape{subs: 1}, true
	}
	if signOfTwo(op) == "" {
		return shape{}, false
	}
	return shape{subs: 2}, true
}

func rightExpr(x api.Expr) bool {
	its, ok := shapeOf(x.Op)
	return ok && 0 <= x.N && x.N <= its.most && rightName(x.Name, its.name) && rightName(x.Field, its.field) &&
		len(x.Sub) == its.subs && all(x.Sub, rightExpr)
}

// rightName is a name where there is one, else empty.
func rightName(text string, there bool) bool {
	if there {
		return isName(text)
	}
	return text == ""
}
