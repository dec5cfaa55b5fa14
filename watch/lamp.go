package watch

// The letters of the aspects.
const (
	red   = 'r'
	lead  = 'l'
	green = 'g'
	amber = 'a'
)

func isLetter(b byte) bool { return b == red || b == lead || b == green || b == amber }

// lamp is what a group shows, and all that has to be known of what it has shown before. The zero lamp is ahead of tick 0.
type lamp struct {
	letter byte // 0 ahead of tick 0
	long   int  // the ticks of the letter's stretch so far
	free   int  // the tick behind the last one at which it was green; 0, if it never was: all are taken to have been green at tick -1
}

// turn is a lamp's way from the tick before to this one.
type turn struct {
	tick     int
	was, now lamp
}

// show lets a lamp show the letter of the next tick.
func (l *lamp) show(tick int, letter byte) turn {
	was := *l
	if letter == l.letter {
		l.long++
	} else {
		l.letter, l.long = letter, 1
	}
	if letter == green {
		l.free = tick + 1
	}
	return turn{tick: tick, was: was, now: *l}
}

// isAway tells whether a lamp shows another letter than red; ahead of tick 0 it shows none.
func (l lamp) isAway() bool { return isLetter(l.letter) && l.letter != red }

// leavesRed is false at tick 0.
func (t turn) leavesRed() bool { return t.was.letter == red && t.now.letter != red }

// isShort tells whether a stretch of the letter ended too early.
func (t turn) isShort(letter byte, least int) bool {
	return t.was.letter == letter && t.now.letter != letter && t.was.long < least
}

// isOver tells whether a stretch of the letter is too long from this tick on: it is told but once.
func (t turn) isOver(letter byte, most int) bool {
	return t.now.letter == letter && t.now.long == most+1
}
