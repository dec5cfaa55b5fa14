package driver

import (
	"strconv"

	"junction/api"
)

// phases are the words for the layers that refuse anything, by their numbers.
var phases = [...]string{
	1: "arith", 2: "lex", 3: "tree", 5: "check", 6: "safety", 7: "heads", 8: "sim",
	10: "rom", 11: "code", 12: "load", 14: "driver", 15: "watch", 16: "bank", 17: "wire", 18: "timetable", 19: "station",
}

// Phase is the word for the layer that refuses.
func Phase(f api.Fault) string {
	switch {
	case f.Code == api.OK:
		return "ok"
	case words(f.Code) == "":
		return "unknown"
	}
	return phases[f.Code/10]
}

// Report is a refusal in words.
func Report(f api.Fault) string {
	if f.Code == api.OK {
		return "ok"
	}
	text := words(f.Code)
	if text == "" {
		text = "error " + strconv.Itoa(int(f.Code))
	}
	text = Phase(f) + ": " + text
	if f.At == (api.Pos{}) {
		return text
	}
	return strconv.Itoa(f.At.Line) + ":" + strconv.Itoa(f.At.Col) + ": " + text
}

// words are those of a refusal; none of a number that no refusal has. The table stands in here, as it is too great for one of the package's own.
func words(code api.Errno) string {
	table := [...]string{
		api.ErrOp: "no such operator", api.ErrNumber: "no number", api.ErrMember: "no such member",

		api.ErrLong: "too long", api.ErrByte: "a byte that begins nothing", api.ErrForm: "a number of a wrong form",
		api.ErrBig: "a number too great", api.ErrName: "a name too long", api.ErrJoin: "a token that cannot be written",

		api.ErrToken: "a token that cannot stand here", api.ErrDeep: "nested too deeply",
		api.ErrNodes: "an expression too long", api.ErrTree: "not well formed",

		api.ErrTwice: "declared twice", api.ErrUnknown: "not declared", api.ErrKind: "a name of another kind",
		api.ErrType: "a number and a truth confused", api.ErrRange: "a number out of its range", api.ErrMany: "too many",
		api.ErrStart: "not just one start", api.ErrPair: "a pair that may not be", api.ErrSelf: "a stage that goes to itself",
		api.ErrSize: "too large with its conditions put in",

		api.ErrClash: "groups in conflict", api.ErrShort: "an intergreen shorter than the amber", api.ErrMin: "a minimum too short",
		api.ErrAmber: "an amber too short", api.ErrLead: "a lead too long", api.ErrTrap: "a stage without a way out",
		api.ErrNever: "a group that is never green", api.ErrSlow: "a move too long",

		api.ErrTables: "tables not sound", api.ErrHeads: "heads not of the tables",

		api.ErrTyped: "a typed plan not sound", api.ErrState: "a state not of the plan", api.ErrExpr: "an expression not of the plan",

		api.ErrRom: "an image not well formed", api.ErrMagic: "no image", api.ErrVersion: "another version", api.ErrCut: "cut off",
		api.ErrRest: "bytes left over", api.ErrSum: "a wrong sum", api.ErrField: "a field out of its range", api.ErrHex: "no hex records",

		api.ErrFull: "full",

		api.ErrOpcode: "no instruction", api.ErrJump: "a wrong jump", api.ErrStack: "a wrong stack", api.ErrJoin2: "paths that meet unlike",
		api.ErrIndex: "a wrong index", api.ErrEnd: "no end", api.ErrDead: "never reached", api.ErrSection: "wrong sections",
		api.ErrPick: "a pick out of place", api.ErrSort: "an operand of the wrong sort",

		api.ErrTrace: "no trace", api.ErrInputs: "no inputs",

		api.ErrEntry: "an entry not of the tables",

		api.ErrDisk: "no flash", api.ErrSlot: "no such slot", api.ErrEmpty: "an empty slot", api.ErrSpace: "no room",
		api.ErrData: "data that cannot be kept", api.ErrInUse: "in use", api.ErrAct: "an act that cannot be done", api.ErrWorn: "worn out",

		api.ErrFrame: "no frame", api.ErrSum16: "a wrong sum", api.ErrStuff: "not stuffed", api.ErrMsg: "no message", api.ErrQueue: "a full queue",

		api.ErrTableSource: "too long", api.ErrTableLine: "a line that is none", api.ErrTableDate: "no date",
		api.ErrTableClock: "no time of day", api.ErrTableDay: "no such kind of day", api.ErrTableTwice: "twice",
		api.ErrTableOrder: "out of order", api.ErrTableFull: "too many", api.ErrTableLack: "something is missing",
		api.ErrTableWhen: "outside the calendar",

		api.ErrScript: "no command", api.ErrArg: "a wrong argument", api.ErrOff: "off", api.ErrUpload: "a wrong upload", api.ErrRefused: "refused",
	}
	if code < 0 || int(code) >= len(table) {
		return ""
	}
	return table[code]
}
