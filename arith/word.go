package arith

// word is a word of a plan: its methods are the operators of expressions.
type word int32

// truth is a truth as a word.
func truth(b bool) word {
	if b {
		return 1
	}
	return 0
}

func (a word) negated() word { return -a }

func (a word) not() word { return truth(a == 0) }

func (a word) abs() word {
	if a < 0 {
		return -a
	}
	return a
}

func (a word) plus(b word) word { return a + b }

func (a word) minus(b word) word { return a - b }

func (a word) times(b word) word { return a * b }

// over leans on Go's own rule that the least word divided by -1 is the least word.
func (a word) over(b word) word {
	if b == 0 {
		return 0
	}
	return a / b
}

func (a word) rest(b word) word {
	if b == 0 {
		return 0
	}
	return a % b
}

func (a word) lesser(b word) word { return min(a, b) }

func (a word) greater(b word) word { return max(a, b) }

func (a word) equal(b word) word { return truth(a == b) }

func (a word) unequal(b word) word { return truth(a != b) }

func (a word) below(b word) word { return truth(a < b) }

func (a word) atMost(b word) word { return truth(a <= b) }

func (a word) above(b word) word { return truth(a > b) }

func (a word) atLeast(b word) word { return truth(a >= b) }

func (a word) and(b word) word { return truth(a != 0 && b != 0) }

func (a word) or(b word) word { return truth(a != 0 || b != 0) }
