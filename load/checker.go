package load

import (
	"junction/api"
	"junction/rom"
)

// checker goes once over an image's code. It gives up by a panic with the fault, from wherever that is found; the call catches it.
type checker struct {
	image    *api.Image
	sections []section
	contents []*content // by place: what is on the stack ahead of it, from when something leads there until it is looked at
	done     shelf
	heights  []int // by place: how high the stack is ahead of it
}

func newChecker(m *api.Image) *checker { return &checker{image: m} }

func giveUp(e api.Errno, at int) { panic(api.Fault{Code: e, At: api.Pos{Col: at}}) }

func (c *checker) all() {
	if !rom.Formed(*c.image) {
		giveUp(api.ErrRom, 0)
	}
	c.sections = sectionsOf(c.image)
	c.contents, c.heights = make([]*content, len(c.image.Code)), make([]int, len(c.image.Code))
	for _, s := range c.sections {
		c.contents[s.from] = c.done.copyOf(&content{})
		for p := s.from; p < s.to; p++ {
			c.place(s, p)
		}
	}
}

func (c *checker) place(s section, p int) {
	in, now := c.image.Code[p], c.contents[p]
	if now == nil {
		giveUp(api.ErrDead, p)
	}
	c.contents[p], c.heights[p] = nil, now.height
	c.standing(s, p, in)
	c.stack(p, in.Op, now)
	c.leaving(s, p, in)
	kept := goesOn(in.Op) && c.bring(p, p+1, now)
	if jumps(in.Op) {
		c.jump(p, in, now)
	}
	if !kept {
		c.done.put(now)
	}
}

// jump brings to the place that a jump names what is on the stack where it jumps.
func (c *checker) jump(p int, in api.Instr, now *content) {
	jumped := c.done.copyOf(now)
	if keepsTruth(in.Op) {
		jumped.put(truth)
	}
	if !c.bring(p, int(in.Arg), jumped) {
		c.done.put(jumped)
	}
}

// standing looks whether an instruction may stand in its section, and whether what its Arg names is there.
func (c *checker) standing(s section, p int, in api.Instr) {
	picks := in.Op == api.InPick
	if picks && !s.tick {
		giveUp(api.ErrPick, p)
	}
	if int(in.Arg) >= room(c.image, in.Op) || picks && int(in.Arg) == s.slot {
		giveUp(api.ErrIndex, p)
	}
}

// stack does to a stack's content what an instruction does where it goes on.
func (c *checker) stack(p, op int, now *content) {
	e := effectOf(op)
	if now.height < e.takes {
		giveUp(api.ErrStack, p)
	}
	if !now.holds(e.takes, e.of) {
		giveUp(api.ErrSort, p)
	}
	for range e.takes {
		now.take()
	}
	if e.puts != nothing {
		if now.height >= c.image.Depth {
			giveUp(api.ErrStack, p)
		}
		now.put(e.puts)
	}
	if ends(op) && now.height > 0 {
		giveUp(api.ErrStack, p)
	}
}

// leaving looks whether an instruction stays in its section, and goes forward.
func (c *checker) leaving(s section, p int, in api.Instr) {
	if jumps(in.Op) && (int(in.Arg) <= p || !s.has(int(in.Arg))) {
		giveUp(api.ErrJump, p)
	}
	if goesOn(in.Op) && !s.has(p+1) {
		giveUp(api.ErrEnd, p)
	}
}

// bring leads from the place p to another one, to which all ways must bring the same. It answers whether what is brought is kept there.
func (c *checker) bring(p, to int, brought *content) bool {
	there := c.contents[to]
	if there == nil {
		c.contents[to] = brought
		return true
	}
	if *there != *brought {
		giveUp(api.ErrJoin2, p)
	}
	return false
}

// heightsFrom is the heights of the section that begins at a place, of an image that has been looked at.
func (c *checker) heightsFrom(entry int) []int {
	for _, s := range c.sections {
		if s.from == entry {
			return c.heightsOf(s)
		}
	}
	giveUp(api.ErrIndex, 0)
	return nil
}

func (c *checker) heightsOf(s section) []int {
	list := make([]int, len(c.heights))
	for p := range list {
		list[p] = -1
		if s.has(p) {
			list[p] = c.heights[p]
		}
	}
	return list
}
