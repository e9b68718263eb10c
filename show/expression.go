package show

import "servitor/api"

// around an expression stand these texts.
func (w *writer) around(ahead string, x api.Expr, behind string) {
	w.put(ahead)
	w.expression(x)
	w.put(behind)
}

func (w *writer) expression(x api.Expr) {
	switch x.Op {
	case api.ExNum:
		w.put(decimal(x.N))
	case api.ExBool:
		w.put(truth(x.N))
	case api.ExVar:
		w.put(x.Name)
	case api.ExIndex:
		w.around(x.Name+"[", x.Sub[0], "]")
	case api.ExField:
		w.put(x.Name, ".", x.Field)
	case api.ExNeg:
		w.around("(-", x.Sub[0], ")")
	case api.ExNot:
		w.around("(NOT ", x.Sub[0], ")")
	default:
		w.around("(", x.Sub[0], " "+signOfTwo(x.Op)+" ")
		w.around("", x.Sub[1], ")")
	}
}

// signOfTwo is the sign of an operation of two; of all others it is empty.
func signOfTwo(op int) string {
	switch op {
	case api.ExAdd:
		return "+"
	case api.ExSub:
		return "-"
	case api.ExMul:
		return "*"
	case api.ExDiv:
		return "/"
	case api.ExMod:
		return "MOD"
	case api.ExEq:
		return "="
	case api.ExNe:
		return "<>"
	case api.ExLt:
		return "<"
	case api.ExGt:
		return ">"
	case api.ExLe:
		return "<="
	case api.ExGe:
		return ">="
	case api.ExAnd:
		return "AND"
	case api.ExXor:
		return "XOR"
	case api.ExOr:
		return "OR"
	}
	return ""
}
