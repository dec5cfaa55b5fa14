package driver_test

import (
	"fmt"
	"math"
	"strconv"
	"strings"
	"testing"

	"junction/api"
	"junction/arith"
	"junction/driver"
)

// wordTable is the chapter's, a line for each Code.
const wordTable = `10 no such operator
11 no number
12 no such member
20 too long
21 a byte that begins nothing
22 a number of a wrong form
23 a number too great
24 a name too long
25 a token that cannot be written
30 a token that cannot stand here
31 nested too deeply
32 an expression too long
33 not well formed
50 declared twice
51 not declared
52 a name of another kind
53 a number and a truth confused
54 a number out of its range
55 too many
56 not just one start
57 a pair that may not be
58 a stage that goes to itself
59 too large with its conditions put in
60 groups in conflict
61 an intergreen shorter than the amber
62 a minimum too short
63 an amber too short
64 a lead too long
65 a stage without a way out
66 a group that is never green
67 a move too long
70 tables not sound
71 heads not of the tables
80 a typed plan not sound
81 a state not of the plan
82 an expression not of the plan
100 an image not well formed
101 no image
102 another version
103 cut off
104 bytes left over
105 a wrong sum
106 a field out of its range
107 no hex records
110 full
120 no instruction
121 a wrong jump
122 a wrong stack
123 paths that meet unlike
124 a wrong index
125 no end
126 never reached
127 wrong sections
128 a pick out of place
129 an operand of the wrong sort
140 no trace
141 no inputs
150 an entry not of the tables
160 no flash
161 no such slot
162 an empty slot
163 no room
164 data that cannot be kept
165 in use
166 an act that cannot be done
167 worn out
170 no frame
171 a wrong sum
172 not stuffed
173 no message
174 a full queue
180 too long
181 a line that is none
182 no date
183 no time of day
184 no such kind of day
185 twice
186 out of order
187 too many
188 something is missing
189 outside the calendar
190 no command
191 a wrong argument
192 off
193 a wrong upload
194 refused`

// layerTable is that of P14.5.
const layerTable = "1 arith, 2 lex, 3 tree, 5 check, 6 safety, 7 heads, 8 sim, 10 rom, 11 code, 12 load, 14 driver, 15 watch, 16 bank, 17 wire, 18 timetable, 19 station"

// numbered reads lines of a number and a text.
func numbered(text, between string) map[int]string {
	all := map[int]string{}
	for line := range strings.SplitSeq(text, between) {
		number, rest, _ := strings.Cut(line, " ")
		n, err := strconv.Atoi(number)
		if err != nil || all[n] != "" {
			panic(line)
		}
		all[n] = rest
	}
	return all
}

// P14.5, P14.6: every Code of the table, and every other one near it, with no place.
func TestEveryCode(t *testing.T) {
	t.Parallel()
	words, layers := numbered(wordTable, "\n"), numbered(layerTable, ", ")
	if len(words) != 86 {
		t.Fatalf("%d words", len(words))
	}
	for code := -3000; code < 3000; code++ {
		phase := "unknown"
		report := fmt.Sprintf("unknown: error %d", code)
		if text := words[code]; text != "" {
			phase = layers[code/10]
			report = phase + ": " + text
		}
		if code == 0 {
			phase, report = "ok", "ok"
		}
		f := api.Fault{Code: api.Errno(code)}
		if p, text := driver.Phase(f), driver.Report(f); p != phase || text != report {
			t.Errorf("%d: %q, %q, want %q, %q", code, p, text, phase, report)
		}
	}
}

// P14.5, P14.6: Codes that are none, also those that a shorter number would take for one.
func TestFarCodes(t *testing.T) {
	t.Parallel()
	for _, code := range []int{math.MinInt, math.MinInt + 53, math.MaxInt, 1<<32 + 53, 1<<31 + 53, 1<<16 + 53, 1<<8 + 53, -1 << 32, 53 - 1<<32, -53} {
		f := api.Fault{Code: api.Errno(code), At: at(1, 2)}
		if p, text := driver.Phase(f), driver.Report(f); p != "unknown" || text != fmt.Sprintf("1:2: unknown: error %d", code) {
			t.Errorf("%d: %q, %q", code, p, text)
		}
	}
}

// P14.6: the place goes ahead, if it is one: one number of it is enough. Its numbers are written as arith writes words, those beyond likewise. P14.5: the place is nothing to Phase.
func TestReportedPlaces(t *testing.T) {
	t.Parallel()
	numbers := []int{0, 1, -1, 7, 10, 14, 99, -100, 65536, math.MaxInt32, math.MinInt32, math.MaxInt32 + 1, math.MinInt32 - 1, 1 << 40, math.MaxInt, math.MinInt}
	for _, line := range numbers {
		for _, col := range numbers {
			place := fmt.Sprintf("%d:%d: ", line, col)
			if line == 0 && col == 0 {
				place = ""
			}
			if int(int32(line)) == line && int(int32(col)) == col && place != "" {
				place = arith.Text(int32(line)) + ":" + arith.Text(int32(col)) + ": "
			}
			for code, want := range map[api.Errno]string{api.OK: "ok", api.ErrType: place + "check: a number and a truth confused", 9999: place + "unknown: error 9999"} {
				f := fault(code, line, col)
				if text := driver.Report(f); text != want {
					t.Errorf("%v: %q, want %q", f, text, want)
				}
				if driver.Phase(f) != driver.Phase(api.Fault{Code: code}) {
					t.Errorf("%v: %q", f, driver.Phase(f))
				}
			}
		}
	}
}
