package code

import (
	"strconv"

	"junction/api"
)

// linesOf lists a formed image.
func linesOf(m api.Image) []string {
	lines := []string{"image " + m.Name + ": " + decimal(len(m.Slots)) + " slots, " + decimal(len(m.Code)) + " instructions, " +
		decimal(len(m.Pool)) + " constants, depth " + decimal(m.Depth)}
	for i, s := range m.Slots {
		lines = append(lines, "slot "+decimal(i)+": id "+decimal(s.Id)+", green "+decimal(s.Green)+
			", enter "+decimal(s.Enter)+", tick "+decimal(s.Tick)+", leave "+decimal(s.Leave))
	}
	for i, word := range m.Pool {
		lines = append(lines, "constant "+decimal(i)+": "+decimal(word))
	}
	for i, in := range m.Code {
		lines = append(lines, decimal(i)+": "+textOf(in))
	}
	return lines
}

// decimal writes a number of whatever kind. A mask has no sign.
func decimal[N int | int32 | uint64](n N) string {
	if n < 0 {
		return strconv.FormatInt(int64(n), 10)
	}
	return strconv.FormatUint(uint64(n), 10)
}

// textOf is an instruction as a word and its Arg. What no formed image has is told too, with a ? in the word's place.
func textOf(in api.Instr) string {
	word, arg := wordOf(in.Op), decimal(in.Arg)
	switch {
	case word == "" || alone(in.Op) && in.Arg != 0:
		return "? " + decimal(in.Op) + " " + arg
	case alone(in.Op):
		return word
	}
	return word + " " + arg
}

// alone tells whether the instructions of that number have no Arg.
func alone(op int) bool { return op <= api.InEnd || op == api.InElapsed }

// wordOf is the word for the instructions of a number; "", if it is no instruction's.
func wordOf(op int) string {
	switch {
	case 0 <= op && op < len(operators):
		return operators[op]
	case api.InEnd <= op && op-api.InEnd < len(others):
		return others[op-api.InEnd]
	}
	return ""
}

// operators holds the word for each operator, at its number; no instruction has the numbers between.
var operators = [...]string{
	api.OpNeg: "neg", "not", "abs",
	api.OpAdd: "add", "sub", "mul", "div", "rem", "min", "max",
	api.OpEq: "eq", "ne", "lt", "le", "gt", "ge",
	api.OpAnd: "and", "or",
}

// others holds the words for all other instructions, from that of InEnd on.
var others = [...]string{
	"end", "const", "small", "truth", "elapsed", "var", "timer", "counter", "det", "green", "red",
	"store", "reset", "zero", "run", "stop", "count", "clear", "if", "jump", "andjump", "orjump", "pick",
}
