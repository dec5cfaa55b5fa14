package station

import (
	"strconv"
	"strings"

	"junction/api"
)

// lamps are those of the groups, of which some may be stuck.
type lamps struct {
	stuck [api.MaxGroups]byte // the letter of a group that is stuck, else 0
}

func (l *lamps) stick(group int, letter byte) { l.stuck[group] = letter }

func (l *lamps) free() { l.stuck = [api.MaxGroups]byte{} }

// shown is what lamps show that are told these letters.
func (l *lamps) shown(told string) string {
	letters := []byte(told)
	for group := range letters {
		if l.stuck[group] != 0 {
			letters[group] = l.stuck[group]
		}
	}
	return string(letters)
}

// noStage is that of a tick in which no stage is steady.
const noStage = -1

// picture is what is seen in a tick.
type picture struct {
	lamps string // a letter a group; none, if all is dark
	stage int
}

func (p picture) String() string {
	letters, stage := p.lamps, strconv.Itoa(p.stage)
	if letters == "" {
		letters = "*"
	}
	if p.stage == noStage {
		stage = "-"
	}
	return letters + " " + stage
}

// trace gathers the pictures of ticks in a row, a line for each stretch of equal ones.
type trace struct {
	lines       strings.Builder
	first, next int // the ticks of the stretch that is going on: none, if they are equal
	now         picture
}

func (t *trace) add(tick int, p picture) {
	if p != t.now {
		t.end()
	}
	if t.first == t.next {
		t.first, t.now = tick, p
	}
	t.next = tick + 1
}

// end tells the stretch that is going on.
func (t *trace) end() {
	if t.first == t.next {
		return
	}
	if t.lines.Len() > 0 {
		t.lines.WriteByte('\n')
	}
	t.lines.WriteString(strconv.Itoa(t.first))
	if last := t.next - 1; last > t.first {
		t.lines.WriteString("-" + strconv.Itoa(last))
	}
	t.lines.WriteString(" " + t.now.String())
	t.first = t.next
}

func (t *trace) text() string {
	t.end()
	return t.lines.String()
}
