package show

import "servitor/api"

// block of statements, each on lines of its own.
func (w *writer) block(body []api.Stmt) {
	for _, s := range body {
		w.statement(s)
	}
}

func (w *writer) statement(s api.Stmt) {
	switch s.Op {
	case api.StAssign:
		w.expression(s.To)
		w.around(" := ", s.Val, ";\n")
	case api.StIf:
		w.choice(s)
	case api.StCase:
		w.cases(s)
	case api.StFor:
		w.count(s)
	case api.StWhile:
		w.around("WHILE ", s.Val, " DO\n")
		w.block(s.Blocks[0])
		w.put("END_WHILE;\n")
	case api.StRepeat:
		w.put("REPEAT\n")
		w.block(s.Blocks[0])
		w.around("UNTIL ", s.Val, " END_REPEAT;\n")
	case api.StExit:
		w.put("EXIT;\n")
	case api.StReturn:
		w.put("RETURN;\n")
	case api.StCall:
		w.call(s)
	}
}

func (w *writer) choice(s api.Stmt) {
	word := "IF "
	for i, x := range s.Conds {
		w.around(word, x, " THEN\n")
		w.block(s.Blocks[i])
		word = "ELSIF "
	}
	w.otherwise(s.Blocks[len(s.Conds):])
	w.put("END_IF;\n")
}

func (w *writer) cases(s api.Stmt) {
	w.around("CASE ", s.Val, " OF\n")
	for i, bounds := range s.Labels {
		w.labels(bounds)
		w.block(s.Blocks[i])
	}
	w.otherwise(s.Blocks[len(s.Labels):])
	w.put("END_CASE;\n")
}

// otherwise is what an ELSE leads to, if there is one.
func (w *writer) otherwise(blocks [][]api.Stmt) {
	for _, body := range blocks {
		w.put("ELSE\n")
		w.block(body)
	}
}

// labels of a block, on a line of their own.
func (w *writer) labels(bounds []int64) {
	for i := 0; i < len(bounds); i += 2 {
		if i > 0 {
			w.put(", ")
		}
		least, greatest := bounds[i], bounds[i+1]
		w.put(decimal(least))
		if greatest != least {
			w.put("..", decimal(greatest))
		}
	}
	w.put(":\n")
}

func (w *writer) count(s api.Stmt) {
	w.put("FOR ", s.Name)
	w.around(" := ", s.Conds[0], "")
	w.around(" TO ", s.Conds[1], "")
	w.around(" BY ", s.Conds[2], " DO\n")
	w.block(s.Blocks[0])
	w.put("END_FOR;\n")
}

func (w *writer) call(s api.Stmt) {
	w.put(s.Name, "(")
	for i, x := range s.Conds {
		if i > 0 {
			w.put(", ")
		}
		w.around(s.Fields[i]+" := ", x, "")
	}
	w.put(");\n")
}
