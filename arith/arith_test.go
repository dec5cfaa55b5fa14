package arith_test

import (
	"math"
	"math/big"
	"testing"

	"junction/api"
	"junction/arith"
)

const least, greatest = math.MinInt32, math.MaxInt32

// edgeWords: the words at which operators change what they do.
var edgeWords = []int32{least, least + 1, -65537, -65536, -46341, -9, -8, -7, -3, -2, -1, 0, 1, 2, 3, 7, 8, 9, 46340, 46341, 65535, 65536, 65537, 1 << 30, greatest - 1, greatest}

var binaryOps = []int{api.OpAdd, api.OpSub, api.OpMul, api.OpDiv, api.OpRem, api.OpMin, api.OpMax, api.OpEq, api.OpNe, api.OpLt, api.OpLe, api.OpGt, api.OpGe, api.OpAnd, api.OpOr}

var unaryOps = []int{api.OpNeg, api.OpNot, api.OpAbs}

var leafOps = []int{api.OpInt, api.OpBool, api.OpName, api.OpElapsed, api.OpGreen, api.OpRed, api.OpVar, api.OpTimer, api.OpCounter, api.OpDet}

// askedOps: all numbers near the operators', and some far away whose low bits are an operator's.
func askedOps() []int {
	list := []int{math.MinInt, math.MinInt32, math.MaxInt32, math.MaxInt, 1<<32 + api.OpNeg, 1<<32 + api.OpAdd, -1<<32 + api.OpAdd, 256 + api.OpInt}
	for op := -300; op <= 600; op++ {
		list = append(list, op)
	}
	return list
}

// operands: how many operands the chapter gives each operator.
func operands() map[int]int {
	m := map[int]int{}
	for n, ops := range [][]int{leafOps, unaryOps, binaryOps} {
		for _, op := range ops {
			m[op] = n
		}
	}
	return m
}

// P1.1
func TestArity(t *testing.T) {
	known := operands()
	if len(known) != 28 {
		t.Fatalf("%d operators in the test's own lists", len(known))
	}
	for _, op := range askedOps() {
		want, ok := known[op]
		if !ok {
			want = -1
		}
		if n := arith.Arity(op); n != want {
			t.Errorf("Arity(%d) = %d, want %d", op, n, want)
		}
	}
}

// wrapped: a whole number of any size, taken into the words.
func wrapped(n *big.Int) int32 {
	low := new(big.Int).And(n, big.NewInt(math.MaxUint32))
	return int32(uint32(low.Uint64()))
}

// meant: what the chapter's table says, worked out in whole numbers of any size.
func meant(op int, a, b int32) int32 {
	x, y, z := big.NewInt(int64(a)), big.NewInt(int64(b)), new(big.Int)
	truths := map[int]bool{
		api.OpEq: x.Cmp(y) == 0, api.OpNe: x.Cmp(y) != 0, api.OpLt: x.Cmp(y) < 0,
		api.OpLe: x.Cmp(y) <= 0, api.OpGt: x.Cmp(y) > 0, api.OpGe: x.Cmp(y) >= 0,
		api.OpAnd: a != 0 && b != 0, api.OpOr: a != 0 || b != 0,
	}
	if is, ok := truths[op]; ok {
		if is {
			return 1
		}
		return 0
	}
	switch op {
	case api.OpAdd:
		return wrapped(z.Add(x, y))
	case api.OpSub:
		return wrapped(z.Sub(x, y))
	case api.OpMul:
		return wrapped(z.Mul(x, y))
	case api.OpMin:
		return int32(math.Min(float64(a), float64(b)))
	case api.OpMax:
		return int32(math.Max(float64(a), float64(b)))
	}
	if b == 0 {
		return 0
	}
	if op == api.OpDiv {
		return wrapped(z.Quo(x, y))
	}
	return wrapped(z.Rem(x, y))
}

// P1.2
func TestBinaryMeaning(t *testing.T) {
	for _, op := range binaryOps {
		for _, a := range edgeWords {
			for _, b := range edgeWords {
				n, e := arith.Binary(op, a, b)
				if want := meant(op, a, b); n != want || e != api.OK {
					t.Errorf("Binary(%d, %d, %d) = %d, %d, want %d", op, a, b, n, e, want)
				}
			}
		}
	}
}

// P1.2
func TestBinaryExamples(t *testing.T) {
	for _, c := range []struct {
		op         int
		a, b, want int32
	}{
		{api.OpAdd, greatest, 1, least},
		{api.OpSub, least, 1, greatest},
		{api.OpSub, 3, 5, -2},
		{api.OpMul, 65536, 65536, 0},
		{api.OpMul, 65537, 65535, -1},
		{api.OpDiv, -7, 2, -3},
		{api.OpDiv, 7, -2, -3},
		{api.OpRem, -7, 2, -1},
		{api.OpRem, 7, -2, 1},
		{api.OpDiv, least, -1, least},
		{api.OpRem, least, -1, 0},
		{api.OpDiv, 5, 0, 0},
		{api.OpRem, 5, 0, 0},
		{api.OpMin, least, greatest, least},
		{api.OpMax, least, greatest, greatest},
		{api.OpLt, least, greatest, 1},
		{api.OpGt, -1, 1, 0},
		{api.OpEq, 7, 7, 1},
		{api.OpNe, 7, 7, 0},
		{api.OpLe, 7, 7, 1},
		{api.OpGe, 7, 8, 0},
		{api.OpAnd, -3, 8, 1},
		{api.OpAnd, 1, 2, 1},
		{api.OpOr, 0, -3, 1},
		{api.OpOr, 0, 0, 0},
	} {
		if n, e := arith.Binary(c.op, c.a, c.b); n != c.want || e != api.OK {
			t.Errorf("Binary(%d, %d, %d) = %d, %d, want %d", c.op, c.a, c.b, n, e, c.want)
		}
	}
}

// P1.2: what the chapter says of a remainder, in its own words.
func TestRemainder(t *testing.T) {
	for _, a := range edgeWords {
		for _, b := range edgeWords {
			if b == 0 {
				continue
			}
			q, _ := arith.Binary(api.OpDiv, a, b)
			r, _ := arith.Binary(api.OpRem, a, b)
			if r != a-b*q {
				t.Errorf("%d rem %d = %d with the quotient %d", a, b, r, q)
			}
			if r != 0 && (r < 0) != (a < 0) {
				t.Errorf("%d rem %d = %d: not of the sign of %d", a, b, r, a)
			}
			if math.Abs(float64(r)) >= math.Abs(float64(b)) {
				t.Errorf("%d rem %d = %d: not nearer to 0 than %d", a, b, r, b)
			}
		}
	}
}

// P1.2 and P1.3: every number that is no operator of that arity is refused, at all words.
func TestWrongOperators(t *testing.T) {
	for _, op := range askedOps() {
		for _, a := range []int32{least, 0, 6, greatest} {
			n, e := arith.Binary(op, a, 3)
			if two := arith.Arity(op) == 2; two != (e == api.OK) || !two && (n != 0 || e != api.ErrOp) {
				t.Errorf("Binary(%d, %d, 3) = %d, %d", op, a, n, e)
			}
			n, e = arith.Unary(op, a)
			if one := arith.Arity(op) == 1; one != (e == api.OK) || !one && (n != 0 || e != api.ErrOp) {
				t.Errorf("Unary(%d, %d) = %d, %d", op, a, n, e)
			}
		}
	}
}

// P1.3
func TestUnary(t *testing.T) {
	for _, c := range []struct {
		a, neg, not, abs int32
	}{
		{0, 0, 1, 0},
		{1, -1, 0, 1},
		{-1, 1, 0, 1},
		{5, -5, 0, 5},
		{-5, 5, 0, 5},
		{256, -256, 0, 256},
		{greatest, -greatest, 0, greatest},
		{least + 1, greatest, 0, greatest},
		{least, least, 0, least},
	} {
		for op, want := range map[int]int32{api.OpNeg: c.neg, api.OpNot: c.not, api.OpAbs: c.abs} {
			if n, e := arith.Unary(op, c.a); n != want || e != api.OK {
				t.Errorf("Unary(%d, %d) = %d, %d, want %d", op, c.a, n, e, want)
			}
		}
	}
}

// P1.3: OpNeg is OpSub from 0, OpAbs is the word or its OpNeg.
func TestUnaryAgreesWithBinary(t *testing.T) {
	for _, a := range edgeWords {
		neg, _ := arith.Unary(api.OpNeg, a)
		abs, _ := arith.Unary(api.OpAbs, a)
		if sub, _ := arith.Binary(api.OpSub, 0, a); neg != sub {
			t.Errorf("OpNeg of %d is %d, 0 - %d is %d", a, neg, a, sub)
		}
		if a >= 0 && abs != a || a < 0 && abs != neg {
			t.Errorf("OpAbs of %d is %d", a, abs)
		}
	}
}
