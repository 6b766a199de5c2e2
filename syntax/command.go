package syntax

import "askance/api"

// commands are those of the whole text, and whether it is of their form.
func (r *reader) commands() ([]api.Stmt, bool) {
	var l []api.Stmt
	for r.word != "" {
		l = append(l, r.command())
		r.want(";")
	}
	return l, !r.wrong
}

func (r *reader) command() api.Stmt {
	switch {
	case r.skip("create"):
		return r.create()
	case r.skip("drop"):
		return r.drop()
	case r.skip("insert"):
		return r.insert()
	case r.skip("delete"):
		return r.delete()
	case r.skip("update"):
		return r.update()
	case r.skip("select"):
		return r.query()
	}
	r.fail()
	return api.Stmt{}
}

// begun is a command of which nothing is said yet but its kind.
func begun(kind int) api.Stmt {
	return api.Stmt{Kind: kind, N: -1}
}

func (r *reader) create() api.Stmt {
	if r.skip("table") {
		return r.createTable()
	}
	r.want("index")
	return r.createIndex()
}

func (r *reader) createTable() api.Stmt {
	s := begun(api.Create)
	s.Name = r.name()
	s.Cols = inBrackets(r, r.column)
	return s
}

func (r *reader) column() api.Col {
	name := r.name()
	kind := r.columnType()
	return api.Col{Name: name, Type: kind, Must: r.skip("must")}
}

func (r *reader) columnType() int {
	if r.skip("int") {
		return api.Int
	}
	r.want("text")
	return api.Text
}

func (r *reader) createIndex() api.Stmt {
	s := begun(api.Mark)
	s.Name = r.name()
	r.want("on")
	s.Table = r.name()
	r.want("(")
	s.Col = r.name()
	r.want(")")
	return s
}

func (r *reader) drop() api.Stmt {
	s := begun(api.Drop)
	r.want("table")
	s.Name = r.name()
	return s
}

func (r *reader) insert() api.Stmt {
	s := begun(api.Insert)
	r.want("into")
	s.Table = r.name()
	r.want("values")
	s.Rows = list(r, r.row)
	return s
}

func (r *reader) row() []api.Expr {
	return inBrackets(r, r.expression)
}

func (r *reader) delete() api.Stmt {
	s := begun(api.Delete)
	r.want("from")
	s.Table = r.name()
	s.Where = r.where()
	return s
}

func (r *reader) where() api.Expr {
	if r.skip("where") {
		return r.expression()
	}
	return api.Expr{}
}

func (r *reader) update() api.Stmt {
	s := begun(api.Update)
	s.Table = r.name()
	r.want("set")
	s.Sets = list(r, r.change)
	s.Where = r.where()
	return s
}

func (r *reader) change() api.Set {
	col := r.name()
	r.want("=")
	return api.Set{Col: col, E: r.expression()}
}

func (r *reader) query() api.Stmt {
	s := begun(api.Select)
	if !r.skip("*") {
		s.Out = list(r, r.expression)
	}
	r.want("from")
	s.From = list(r, r.name)
	s.Where = r.where()
	if r.skip("order") {
		r.want("by")
		s.Order = []api.Expr{r.expression()}
		s.Down = r.skip("desc")
	}
	if r.skip("limit") {
		s.N = r.number()
	}
	return s
}
