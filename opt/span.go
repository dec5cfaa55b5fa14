package opt

import (
	"math"

	"junction/api"
	"junction/arith"
)

// span is a range of words. It counts in whole numbers of 64 bits, so that no sum or product of words wraps.
type span struct{ lo, hi int64 }

func full() span { return span{math.MinInt32, math.MaxInt32} }

func only(w int32) span { return span{int64(w), int64(w)} }

func (s span) single() bool { return s.lo == s.hi }

func (s span) has(n int64) bool { return s.lo <= n && n <= s.hi }

// isWord tells whether both ends are words.
func (s span) isWord() bool { return s.lo >= math.MinInt32 && s.hi <= math.MaxInt32 }

// rangeOf is the range of an expression.
func rangeOf(e []api.Node, k *api.Known) span {
	return walk(e, func(n api.Node, operands []span) span {
		switch len(operands) {
		case 1:
			return spanOfOne(n.Op, operands[0])
		case 2:
			return spanOfTwo(n.Op, operands[0], operands[1])
		}
		return spanOfLeaf(n, k)
	})
}

func spanOfLeaf(n api.Node, k *api.Known) span {
	switch n.Op {
	case api.OpInt, api.OpBool:
		return only(n.Val)
	case api.OpVar:
		if isIn(k.Has, int(n.Val)) {
			return only(k.Vals[n.Val])
		}
		return full()
	case api.OpElapsed, api.OpTimer, api.OpCounter:
		return span{0, math.MaxInt32}
	case api.OpGreen, api.OpRed:
		if k.Steady {
			is := isIn(k.Green, int(n.Val)) == (n.Op == api.OpGreen)
			return verdict(is, !is)
		}
	}
	return verdict(false, false)
}

func isIn(mask uint64, i int) bool { return mask>>i&1 == 1 }

// verdict is the range of a truth that is known to be true, or known to be false, or neither.
func verdict(yes, no bool) span {
	switch {
	case yes:
		return only(1)
	case no:
		return only(0)
	}
	return span{0, 1}
}

func spanOfOne(op int, a span) span {
	if a.single() {
		w, _ := arith.Unary(op, int32(a.lo))
		return only(w)
	}
	switch op {
	case api.OpNeg:
		return opposite(a)
	case api.OpAbs:
		return distance(a)
	}
	return verdict(false, !a.has(0))
}

// opposite knows that the least word has none but itself.
func opposite(a span) span {
	if a.lo == math.MinInt32 {
		return full()
	}
	return span{-a.hi, -a.lo}
}

func distance(a span) span {
	switch {
	case a.lo >= 0:
		return a
	case a.lo == math.MinInt32 || a.hi <= 0:
		return opposite(a)
	}
	return span{0, max(-a.lo, a.hi)}
}

func spanOfTwo(op int, a, b span) span {
	if a.single() && b.single() {
		w, _ := arith.Binary(op, int32(a.lo), int32(b.lo))
		return only(w)
	}
	switch op {
	case api.OpAdd:
		return words(a.lo+b.lo, a.hi+b.hi)
	case api.OpSub:
		return words(a.lo-b.hi, a.hi-b.lo)
	case api.OpMul:
		return words(a.lo*b.lo, a.lo*b.hi, a.hi*b.lo, a.hi*b.hi)
	case api.OpDiv:
		return quotient(a, b)
	case api.OpRem:
		return remainder(a, b)
	case api.OpMin:
		return span{min(a.lo, b.lo), min(a.hi, b.hi)}
	case api.OpMax:
		return span{max(a.lo, b.lo), max(a.hi, b.hi)}
	}
	return spanOfTruth(op, a, b)
}

// words is the range over some numbers: all words, if one of them wraps.
func words(first int64, others ...int64) span {
	s := span{first, first}
	for _, n := range others {
		s = span{min(s.lo, n), max(s.hi, n)}
	}
	if !s.isWord() {
		return full()
	}
	return s
}

func quotient(a, b span) span {
	switch {
	case b == only(0):
		return b
	case b.single():
		// The least word by -1 alone is no word.
		return words(a.lo/b.lo, a.hi/b.lo)
	case a.lo >= 0 && b.lo >= 0:
		return span{0, a.hi}
	case a.lo == math.MinInt32:
		return full()
	}
	most := max(-a.lo, a.hi)
	return span{-most, most}
}

func remainder(a, b span) span {
	if b == only(0) {
		return b
	}
	most := int64(math.MaxInt32)
	if b.single() {
		most = greatestRemainder(b.lo)
	}
	switch {
	case a.lo >= 0:
		return span{0, min(a.hi, most)}
	case a.hi <= 0:
		return span{max(a.lo, -most), 0}
	}
	return span{max(a.lo, -most), min(a.hi, most)}
}

// greatestRemainder is that by a number that is not 0.
func greatestRemainder(n int64) int64 { return max(n, -n) - 1 }

func spanOfTruth(op int, a, b span) span {
	apart := a.hi < b.lo || b.hi < a.lo
	switch op {
	case api.OpEq:
		return verdict(false, apart)
	case api.OpNe:
		return verdict(apart, false)
	case api.OpLt:
		return verdict(a.hi < b.lo, a.lo >= b.hi)
	case api.OpLe:
		return verdict(a.hi <= b.lo, a.lo > b.hi)
	case api.OpGt:
		return spanOfTruth(api.OpLt, b, a)
	case api.OpGe:
		return spanOfTruth(api.OpLe, b, a)
	case api.OpAnd:
		return verdict(!a.has(0) && !b.has(0), a == only(0) || b == only(0))
	}
	return verdict(!a.has(0) || !b.has(0), a == only(0) && b == only(0))
}
