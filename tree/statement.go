package tree

import "junction/api"

// blockIf reads a word and its block, which may be left out together.
func (r *reader) blockIf(word int) []api.Stmt {
	if !r.takeIf(word) {
		return nil
	}
	return r.block(nil)
}

// block reads statements in braces and answers the list with them behind it.
func (r *reader) block(list []api.Stmt) []api.Stmt {
	r.take(api.TkOpen)
	for !r.takeIf(api.TkClose) {
		list = r.statement(list)
	}
	return list
}

func (r *reader) statement(list []api.Stmt) []api.Stmt {
	first := r.take(api.TkName, api.TkReset, api.TkRun, api.TkStop, api.TkCount, api.TkClear, api.TkIf)
	switch first.Kind {
	case api.TkName:
		return append(list, r.assignment(first))
	case api.TkIf:
		return r.choice(first, list)
	}
	return append(list, r.command(first))
}

func (r *reader) assignment(name api.Token) api.Stmt {
	r.take(api.TkSet)
	s := api.Stmt{Kind: api.StSet, Name: name.Text, Expr: r.expression(), At: name.At}
	r.take(api.TkSemi)
	return s
}

// command leans on api's order: the words from reset to clear stand as their statements do.
func (r *reader) command(word api.Token) api.Stmt {
	s := api.Stmt{Kind: word.Kind - api.TkReset + api.StReset, Name: r.name(), At: word.At}
	r.take(api.TkSemi)
	return s
}

// choice reads the rest of an if. An if behind its else is within it, and ends with the same brace.
func (r *reader) choice(word api.Token, list []api.Stmt) []api.Stmt {
	if r.ifs == api.MaxBlocks {
		giveUp(api.ErrDeep, word)
	}
	r.ifs++
	list = append(list, api.Stmt{Kind: api.StIf, Expr: r.expression(), At: word.At})
	list = r.block(list)
	if r.takeIf(api.TkElse) {
		list = append(list, api.Stmt{Kind: api.StElse, At: r.lastPlace()})
		if r.sees(api.TkIf) {
			list = r.choice(r.take(api.TkIf), list)
		} else {
			list = r.block(list)
		}
	}
	r.ifs--
	return append(list, api.Stmt{Kind: api.StEnd, At: r.lastPlace()})
}
