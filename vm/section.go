package vm

// section is what is kept while one is run.
type section struct {
	stack  []int32
	place  int // of the next instruction
	ended  bool
	picked int // the Id of a slot
}

// run runs the section that begins at a place, and tells the Id of the slot that it picks. Nothing here looks whether what an instruction asks for is there: should it not be, the section ends. In an image that is verified it always is.
func (v *Machine) run(entry int) (picked int) {
	defer func() {
		if recover() != nil {
			picked = none
		}
	}()
	v.work = section{stack: v.work.stack[:0], place: entry, picked: none}
	does := instructions()
	for !v.work.ended {
		in := v.image.code[v.work.place]
		v.work.place++
		v.steps++
		does[in.Op](v, in)
	}
	return v.work.picked
}

// put lays a word on the stack.
func (v *Machine) put(word int32) {
	v.work.stack = append(v.work.stack, word)
	v.high = max(v.high, len(v.work.stack))
}

// top is the topmost word.
func (v *Machine) top() int32 { return v.work.stack[len(v.work.stack)-1] }

// take takes the topmost word off the stack.
func (v *Machine) take() int32 {
	word := v.top()
	v.work.stack = v.work.stack[:len(v.work.stack)-1]
	return word
}
