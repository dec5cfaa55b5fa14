package code

import "junction/api"

// body writes the code of a sound list of statements.
func (w *writer) body(l []api.Stmt) {
	for _, s := range l {
		switch s.Kind {
		case api.StSet:
			w.expression(s.Expr)
			w.put(api.InStore, int32(s.Ix))
		case api.StIf:
			w.expression(s.Expr)
			w.await(w.jump(api.InIf))
		case api.StElse:
			// The if goes to the place behind this jump, so it lands when that is written.
			over := w.jump(api.InJump)
			w.land()
			w.await(over)
		case api.StEnd:
			w.land()
		default:
			w.put(acts[s.Kind], int32(s.Ix))
		}
	}
}

// acts holds the instruction of each statement that is just one, at its kind's number.
var acts = [...]int{
	api.StReset: api.InReset,
	api.StZero:  api.InZero,
	api.StRun:   api.InRun,
	api.StStop:  api.InStop,
	api.StCount: api.InCount,
	api.StClear: api.InClear,
}
