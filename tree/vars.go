package tree

import (
	"servitor/api"
	"servitor/std"
)

// sections of variables, as many as there are.
func (r *reader) sections() {
	for {
		switch {
		case r.take("VAR"):
			r.section(api.Inner)
		case r.take("VAR_INPUT"):
			r.section(api.Input)
		case r.take("VAR_OUTPUT"):
			r.section(api.Output)
		default:
			return
		}
	}
}

// section behind its first word.
func (r *reader) section(kind int) {
	for !r.take("END_VAR") {
		first := len(r.vars)
		for more := true; more; more = r.take(",") {
			r.variable(kind)
		}
		r.need(":")
		r.typed(r.vars[first:])
		r.need(";")
	}
}

// variable of a section, by its name.
func (r *reader) variable(section int) {
	// This is told ahead of a sign that is no name.
	if len(r.vars) == api.MaxVars {
		fail(api.ErrLong, r.next())
	}
	name := r.need(aName)
	r.vars = append(r.vars, api.Var{Name: name.Text, Section: section, Line: name.Line})
}

// typed are these variables by the type, and the value, that follow.
func (r *reader) typed(vars []api.Var) {
	begin := r.next()
	like := r.kind()
	if r.take(":=") {
		n, kind := r.value()
		if like.Array || like.Type != kind {
			fail(api.ErrArg, begin)
		}
		like.Init = n
	}
	for i := range vars {
		v := &vars[i]
		v.Type, v.Array, v.Lo, v.Hi, v.Init = like.Type, like.Array, like.Lo, like.Hi, like.Init
	}
}

// kind of a variable: a type, and the bounds of an array.
func (r *reader) kind() api.Var {
	switch r.head() {
	case "ARRAY":
		return r.array()
	case aName:
		return api.Var{Type: r.blockKind()}
	}
	return api.Var{Type: r.plain()}
}

// plain type.
func (r *reader) plain() int {
	if r.take("INT") {
		return api.Int
	}
	r.need("BOOL")
	return api.Bool
}

// blockKind by its name.
func (r *reader) blockKind() int {
	name := r.need(aName)
	kind := std.Kind(name.Text)
	if kind == 0 {
		fail(api.ErrName, name)
	}
	return kind
}

func (r *reader) array() api.Var {
	r.need("ARRAY")
	r.need("[")
	lo := r.need(aNumber)
	r.need("..")
	hi := r.need(aNumber)
	if hi.N < lo.N || hi.N > api.MaxBound {
		fail(api.ErrArg, hi)
	}
	r.need("]")
	r.need("OF")
	return api.Var{Type: r.plain(), Array: true, Lo: lo.N, Hi: hi.N}
}

// value at first, and the type that it is of.
func (r *reader) value() (int64, int) {
	switch {
	case r.take("TRUE"):
		return 1, api.Bool
	case r.take("FALSE"):
		return 0, api.Bool
	}
	return r.signed(), api.Int
}

// signed number: one below 0 behind a -.
func (r *reader) signed() int64 {
	if r.take("-") {
		return -r.need(aNumber).N
	}
	return r.need(aNumber).N
}
