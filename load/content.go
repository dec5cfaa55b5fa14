package load

// maxDepth is the greatest Depth that an image may have.
const maxDepth = 1<<16 - 1

// kind is what a word on the stack is, or what an instruction asks of the words that it takes.
type kind int

const (
	nothing kind = iota
	number
	truth
	alike // whichever, but all of them the same
)

// content is what is on the stack, as far as it can be told ahead of the first tick. The bits from the height on are 0, so that two contents are the same if they are equal as values.
type content struct {
	height int
	truths [(maxDepth + 63) / 64]uint64 // a bit a word, the lowest word's first; 1: a truth
}

// kindOf is the kind of a word, counted from the lowest one.
func (c *content) kindOf(word int) kind {
	if c.truths[word/64]>>(word%64)&1 == 1 {
		return truth
	}
	return number
}

func (c *content) put(k kind) {
	if k == truth {
		c.truths[c.height/64] |= 1 << (c.height % 64)
	}
	c.height++
}

func (c *content) take() {
	c.height--
	c.truths[c.height/64] &^= 1 << (c.height % 64)
}

// holds tells whether so many words, the topmost ones, are of a kind.
func (c *content) holds(count int, of kind) bool {
	if of == alike {
		of = c.kindOf(c.height - 1)
	}
	for i := c.height - count; i < c.height; i++ {
		if c.kindOf(i) != of {
			return false
		}
	}
	return true
}

// shelf has the contents that are done with, for their memory, which is much: there may be one for each jump.
type shelf []*content

func (s *shelf) put(c *content) { *s = append(*s, c) }

func (s *shelf) copyOf(c *content) *content {
	last := len(*s) - 1
	if last < 0 {
		fresh := *c
		return &fresh
	}
	again := (*s)[last]
	*s = (*s)[:last]
	*again = *c
	return again
}
