package tree

import "servitor/api"

// statement, its ; too.
func (r *reader) statement() api.Stmt {
	// This is told ahead of a sign that begins no statement.
	r.enter()
	line := r.next().Line
	s := r.bare()
	r.need(";")
	r.leave()
	s.Line = line
	return s
}

// bare statement: without its ; and its line.
func (r *reader) bare() api.Stmt {
	switch {
	case r.head() == aName:
		return r.named()
	case r.take("IF"):
		return r.choice()
	case r.take("CASE"):
		return r.cases()
	case r.take("FOR"):
		return r.count()
	case r.take("WHILE"):
		return r.while()
	case r.take("REPEAT"):
		return r.repeat()
	case r.take("EXIT"):
		return api.Stmt{Op: api.StExit}
	}
	r.need("RETURN")
	return api.Stmt{Op: api.StReturn}
}

// named is a statement that begins with a name: an assignment, or a call.
func (r *reader) named() api.Stmt {
	to := r.place()
	if to.Op == api.ExVar && r.take("(") {
		return r.call(to.Name)
	}
	r.need(":=")
	return api.Stmt{Op: api.StAssign, To: to, Val: r.expression()}
}

// call of a block behind its (.
func (r *reader) call(name string) api.Stmt {
	s := api.Stmt{Op: api.StCall, Name: name}
	if r.take(")") {
		return s
	}
	for more := true; more; more = r.take(",") {
		s.Fields = append(s.Fields, r.need(aName).Text)
		r.need(":=")
		s.Conds = append(s.Conds, r.expression())
	}
	r.need(")")
	return s
}

// choice behind its IF.
func (r *reader) choice() api.Stmt {
	s := api.Stmt{Op: api.StIf}
	for more := true; more; more = r.take("ELSIF") {
		s.Conds = append(s.Conds, r.expression())
		r.need("THEN")
		s.Blocks = append(s.Blocks, r.block("ELSIF", "ELSE", "END_IF"))
	}
	if r.take("ELSE") {
		s.Blocks = append(s.Blocks, r.block("END_IF"))
	}
	r.need("END_IF")
	return s
}

// cases behind their CASE.
func (r *reader) cases() api.Stmt {
	s := api.Stmt{Op: api.StCase, Val: r.expression()}
	r.need("OF")
	for r.head() == aNumber || r.head() == "-" {
		s.Labels = append(s.Labels, r.labels())
		s.Blocks = append(s.Blocks, r.block(aNumber, "-", "ELSE", "END_CASE"))
	}
	if r.take("ELSE") {
		s.Blocks = append(s.Blocks, r.block("END_CASE"))
	}
	r.need("END_CASE")
	return s
}

// labels of a block, and the sign behind them: the least and the greatest number of each, by and by.
func (r *reader) labels() []int64 {
	var bounds []int64
	for more := true; more; more = r.take(",") {
		least := r.signed()
		greatest := least
		if r.take("..") {
			greatest = r.signed()
		}
		bounds = append(bounds, least, greatest)
	}
	r.need(":")
	return bounds
}

// count is a statement behind its FOR.
func (r *reader) count() api.Stmt {
	name := r.need(aName).Text
	r.need(":=")
	from := r.expression()
	r.need("TO")
	to := r.expression()
	by := api.Expr{Op: api.ExNum, N: 1}
	given := r.take("BY")
	if given {
		by = r.expression()
	}
	do := r.need("DO")
	if !given {
		by.Line = do.Line
	}
	body := r.block("END_FOR")
	r.need("END_FOR")
	return api.Stmt{Op: api.StFor, Name: name, Conds: []api.Expr{from, to, by}, Blocks: [][]api.Stmt{body}}
}

// while is a statement behind its WHILE.
func (r *reader) while() api.Stmt {
	s := api.Stmt{Op: api.StWhile, Val: r.expression()}
	r.need("DO")
	s.Blocks = [][]api.Stmt{r.block("END_WHILE")}
	r.need("END_WHILE")
	return s
}

// repeat is a statement behind its REPEAT.
func (r *reader) repeat() api.Stmt {
	s := api.Stmt{Op: api.StRepeat, Blocks: [][]api.Stmt{r.block("UNTIL")}}
	r.need("UNTIL")
	s.Val = r.expression()
	r.need("END_REPEAT")
	return s
}
