package station

import (
	"junction/api"
	"junction/bank"
)

// chip is the flash. What lines have done on it stands beside its bytes: a crash takes the line ahead back, and to play each line's acts at once would copy the whole flash each time.
type chip struct {
	bytes []byte    // as they were ahead of the acts; none, if the station has no flash
	acts  []api.Act // those of the line ahead are the last ones
	older int       // the steps of the acts ahead of these
	steps int       // of all acts
}

func (c *chip) hasFlash() bool { return len(c.bytes) > 0 }

// now is what the flash holds, in new memory.
func (c *chip) now() []byte { return c.cut(c.steps-c.older, 0) }

// cut is what it holds if the power fails behind n steps of the line ahead. Acts of a bank can be done, so that nothing but the lack of a flash is refused.
func (c *chip) cut(n int, torn byte) []byte {
	b, _ := bank.Play(c.bytes, c.acts, c.older+n, torn)
	return b
}

// turn makes another line the line ahead, one that has done these acts.
func (c *chip) turn(acts []api.Act) {
	if c.steps > len(c.bytes) {
		*c = chip{bytes: c.now()}
	}
	c.older = c.steps
	c.steps += bank.Steps(acts)
	c.acts = append(c.acts, acts...)
}
