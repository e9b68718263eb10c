package tree

import (
	"slices"

	"servitor/api"
)

// What stands for all signs of a kind; no word and no other sign is written so.
const (
	aName   = "name"
	aNumber = "number"
	theEnd  = "end"
)

// misfit is what a reader panics with: an error, and what has its place alone.
type misfit struct {
	e  api.Errno
	at api.Tok
}

// fail at a sign.
func fail(e api.Errno, at api.Tok) {
	panic(misfit{e: e, at: api.Tok{Line: at.Line, Col: at.Col}})
}

// reader of a program: the signs that are left (the end is the last one), the variables so far, and how many parts it is within.
type reader struct {
	signs []api.Tok
	vars  []api.Var
	deep  int
}

// next sign, which stays the next one.
func (r *reader) next() api.Tok { return r.signs[0] }

// head is what the next sign is: a word or sign as it is written, or what stands for its kind.
func (r *reader) head() string {
	switch r.next().Kind {
	case api.TokName:
		return aName
	case api.TokNum:
		return aNumber
	case api.TokEnd:
		return theEnd
	}
	return r.next().Text
}

// pass over the next sign.
func (r *reader) pass() api.Tok {
	sign := r.next()
	r.signs = r.signs[1:]
	return sign
}

// take the next sign, if it is this one.
func (r *reader) take(what string) bool {
	if r.head() != what {
		return false
	}
	r.pass()
	return true
}

// need this sign as the next one.
func (r *reader) need(what string) api.Tok {
	if r.head() != what {
		fail(api.ErrForm, r.next())
	}
	return r.pass()
}

// enter a part that begins with the next sign, and counts as one within another; leave ends it.
func (r *reader) enter() {
	if r.deep == api.MaxDeep {
		fail(api.ErrLong, r.next())
	}
	r.deep++
}

func (r *reader) leave() { r.deep-- }

// program, up to the end.
func (r *reader) program() api.Program {
	r.need("PROGRAM")
	name := r.need(aName).Text
	r.sections()
	body := r.block("END_PROGRAM")
	r.need("END_PROGRAM")
	r.need(theEnd)
	return api.Program{Name: name, Vars: r.vars, Body: body}
}

// block of statements, up to one of these signs.
func (r *reader) block(ends ...string) []api.Stmt {
	var body []api.Stmt
	for !slices.Contains(ends, r.head()) {
		body = append(body, r.statement())
	}
	return body
}
