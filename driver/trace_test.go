package driver_test

import (
	"fmt"
	"math"
	"math/rand"
	"slices"
	"strings"
	"testing"

	"junction/api"
	"junction/driver"
)

// checkTrace asks for the text of entries, and for the entries of that text.
func checkTrace(t *testing.T, list []api.Entry, want string) {
	t.Helper()
	text, errno := driver.Trace(list)
	if text != want || errno != api.OK {
		t.Errorf("Trace(%.200v): %.200q, %d, want %.200q", list, text, errno, want)
	}
	again, errno := driver.Retrace(want)
	if errno != api.OK || !slices.Equal(again, list) {
		t.Errorf("Retrace(%.200q): %.200v, %d, want %.200v", want, again, errno, list)
	}
}

func checkNoTrace(t *testing.T, text string) {
	t.Helper()
	if list, errno := driver.Retrace(text); errno != api.ErrTrace || len(list) != 0 {
		t.Errorf("Retrace(%.200q): %.200v, %d", text, list, errno)
	}
}

func checkUntold(t *testing.T, list []api.Entry) {
	t.Helper()
	if text, errno := driver.Trace(list); errno != api.ErrTrace || text != "" {
		t.Errorf("Trace(%.200v): %.200q, %d", list, text, errno)
	}
}

// entries are made of heads and stages in turn.
func entries(parts ...any) []api.Entry {
	var list []api.Entry
	for i := 0; i < len(parts); i += 2 {
		list = append(list, api.Entry{Heads: parts[i].(string), Stage: parts[i+1].(int)})
	}
	return list
}

// repeated are equal entries.
func repeated(count int, heads string, stage int) []api.Entry {
	return slices.Repeat(entries(heads, stage), count)
}

// P14.8, P14.9: stretches of one tick and of more, with no letters and with no stage.
func TestTraces(t *testing.T) {
	t.Parallel()
	checkTrace(t, nil, "")
	checkTrace(t, []api.Entry{}, "")
	checkTrace(t, entries("", -1, "", -1, "", 0), "0-1 . -\n2 . 0\n")
	checkTrace(t, entries("r", -1, "r", -1, "g", 255), "0-1 r -\n2 g 255\n")
	checkTrace(t, entries("rlga", 10), "0 rlga 10\n")
	// Lines that differ in heads alone, in stage alone; the same again, but not at once.
	checkTrace(t, entries("r", 1, "g", 1, "g", 2, "r", 1, "", 1, "r", 1), "0 r 1\n1 g 1\n2 g 2\n3 r 1\n4 . 1\n5 r 1\n")
	checkTrace(t, slices.Concat(repeated(9, "a", 7), repeated(2, "aa", 7), repeated(90, "a", 77), repeated(1, "a", 7)), "0-8 a 7\n9-10 aa 7\n11-100 a 77\n101 a 7\n")
	list, f := driver.Play(smallPlan, make([]uint64, 12))
	if f != (api.Fault{}) {
		t.Fatal(f)
	}
	checkTrace(t, list, "0-7 rrr -\n8-9 lrr -\n10-11 grr 0\n")
}

// P14.8: which entries can be told, and which cannot, wherever they stand.
func TestTellable(t *testing.T) {
	t.Parallel()
	for stage := -300; stage <= 600; stage++ {
		text := fmt.Sprintf("0 r %d\n", stage)
		switch {
		case stage == -1:
			checkTrace(t, entries("r", stage), "0 r -\n")
			checkNoTrace(t, text)
		case 0 <= stage && stage <= 255:
			checkTrace(t, entries("r", stage), text)
		default:
			checkUntold(t, entries("r", stage))
			checkNoTrace(t, text)
		}
	}
	for _, stage := range []int{math.MinInt, math.MaxInt, 1 << 32, 1<<32 + 5, 1<<32 - 1, 256 + 1<<40} {
		checkUntold(t, entries("r", stage))
		checkNoTrace(t, fmt.Sprintf("0 r %d\n", stage))
	}
	for b := range 256 {
		for _, heads := range []string{string([]byte{byte(b)}), "rr" + string([]byte{byte(b)}), string([]byte{byte(b)}) + "g"} {
			if strings.IndexByte("rlga", byte(b)) >= 0 {
				checkTrace(t, entries(heads, 0), "0 "+heads+" 0\n")
				continue
			}
			checkUntold(t, entries(heads, 0))
			checkUntold(t, entries("r", 0, "r", 0, heads, 0))
			if heads != "." {
				checkNoTrace(t, "0 "+heads+" 0\n")
			}
		}
	}
	for count := range 70 {
		heads := strings.Repeat("rg", 50)[:count]
		switch {
		case count == 0:
		case count <= 64:
			checkTrace(t, entries(heads, -1), "0 "+heads+" -\n")
		default:
			checkUntold(t, entries(heads, -1))
			checkNoTrace(t, "0 "+heads+" -\n")
		}
	}
	checkUntold(t, entries(strings.Repeat("r", 1<<20), 0))
	checkUntold(t, entries("r", 0, "r", 256, "r", 0))
}

// P14.8, P14.9: MaxTicks ticks and one more, as one stretch, as many, and by their last line alone.
func TestMostTicks(t *testing.T) {
	t.Parallel()
	checkTrace(t, repeated(65536, "r", 0), "0-65535 r 0\n")
	checkTrace(t, append(repeated(65535, "r", 0), api.Entry{Heads: "g"}), "0-65534 r 0\n65535 g 0\n")
	checkUntold(t, repeated(65537, "r", 0))
	checkUntold(t, append(repeated(65536, "r", 0), api.Entry{Heads: "g"}))
	checkNoTrace(t, "0-65536 r 0\n")
	checkNoTrace(t, "0-65535 r 0\n65536 g 0\n")
	checkNoTrace(t, "0-65534 r 0\n65535-65536 g 0\n")
	var list []api.Entry
	var b strings.Builder
	for i := range 65537 {
		list = append(list, api.Entry{Heads: "rg"[i%2 : i%2+1], Stage: i % 256})
		fmt.Fprintf(&b, "%d %c %d\n", i, "rg"[i%2], i%256)
	}
	text := b.String()
	checkUntold(t, list)
	checkNoTrace(t, text)
	checkTrace(t, list[:65536], text[:strings.LastIndex(text[:len(text)-1], "\n")+1])
}

// P14.9: each way in which a text is no trace.
func TestNoTraces(t *testing.T) {
	t.Parallel()
	for _, text := range []string{
		// The byte 10.
		"0 r -", "0 r 0", "0 r -\n1 g 0", "\n", "0 r -\n\n", "\n0 r -\n", "0 r -\n\n1 g -\n", "0 r -\r\n", "0 r -\n1 g 0\x00", "0 r -\n ",
		// Needless zeros and other numbers.
		"00 r -\n", "0 r 00\n", "0 r 01\n", "0-01 r -\n", "00-1 r -\n", "0 r -\n01 g -\n", "0 r -0\n", "0 r +1\n", "+0 r 1\n", "-0 r 1\n", "0-+1 r 1\n", "0x0 r 1\n", "0 r 1.0\n", "0 r 1e1\n", "0 r 1_0\n", "0 r ٣\n",
		// Two lines that could be one.
		"0 r -\n1 r -\n", "0-1 r 5\n2-3 r 5\n", "0 . -\n1 . -\n", "0 g 0\n1 r 0\n2 r 0\n",
		// A stretch of one tick, of none, or of fewer.
		"0-0 r -\n", "0 g 1\n1-1 r -\n", "0-1 g 1\n2-1 r -\n", "0 g 1\n1-0 r -\n", "1-0 r -\n",
		// A gap, an overlap, a first tick that is not 0.
		"1 r -\n", "1-2 r -\n", "0 r -\n2 g 0\n", "0-2 r -\n4 g 0\n", "0-2 r -\n2 g 0\n", "0 r -\n0 g 0\n", "0-5 r -\n3-9 g 0\n", "65536 r -\n", "4294967296 r -\n",
		// Far beyond what ticks there may be.
		"0-2147483647 r 0\n", "0-2147483648 r 0\n", "0-4294967297 r 0\n", "0-9223372036854775807 r 0\n", "0-18446744073709551616 r 0\n", "0-99999999999999999999999 r 0\n", "0 r 4294967296\n", "0 r 18446744073709551616\n",
		// Blanks.
		" 0 r -\n", "0  r -\n", "0 r  -\n", "0 r - \n", "0\tr\t-\n", "0 r-\n", "0r -\n", "0r-\n", "0 r\n", "0\n", "0 \n", "0 r \n", " r -\n", "0  -\n", "0  0\n",
		// Heads and stages.
		"0 R 0\n", "0 .. 0\n", "0 r. 0\n", "0 .r 0\n", "0 . .\n", "0 - r\n", "0 r --\n", "0 r -1\n", "0 r 256\n", "0 r r\n", "0 0 r\n", "0 r 0 0\n", "0 rx 0\n", "0 é 0\n",
		// Dashes.
		"0- r 0\n", "-1 r 0\n", "0--1 r 0\n", "0-1-2 r 0\n", "0-1- r 0\n", "- r 0\n", "-0-1 r 0\n",
	} {
		checkNoTrace(t, text)
		checkNoTrace(t, text+"1 gg 9\n")
		if want, errno := modelRetrace(text); errno != api.ErrTrace {
			t.Errorf("%q: the second way reads %v", text, want)
		}
	}
}

// checkRetrace holds Retrace against the second way, and asks whether Trace writes the text again.
func checkRetrace(t *testing.T, text string) bool {
	t.Helper()
	want, errnoWant := modelRetrace(text)
	list, errno := driver.Retrace(text)
	if errno != errnoWant || !slices.Equal(list, want) {
		t.Fatalf("Retrace(%q): %v, %d, want %v, %d", text, list, errno, want, errnoWant)
	}
	if errno != api.OK {
		return false
	}
	if again, errno := driver.Trace(list); errno != api.OK || again != text {
		t.Fatalf("Trace of Retrace(%q): %q, %d", text, again, errno)
	}
	return true
}

// P14.9: all short texts of some bytes.
func TestShortTraces(t *testing.T) {
	t.Parallel()
	count := 0
	var grow func(text string, left int)
	grow = func(text string, left int) {
		if checkRetrace(t, text) {
			count++
		}
		if left > 0 {
			for _, b := range "01-. r\n" {
				grow(text+string(b), left-1)
			}
		}
	}
	grow("", 6)
	// Behind a first line, all that could follow.
	for _, first := range []string{"0 r -\n1", "0-1 . 0\n2", "0-1", "0-", "0 r "} {
		grow(first, 5)
	}
	if count < 20 {
		t.Errorf("only %d traces", count)
	}
}

// P14.8, P14.9: runs and texts at random, also with something changed in them, against the second way.
func TestTracesAtRandom(t *testing.T) {
	t.Parallel()
	r := rand.New(rand.NewSource(148))
	kept, lost := 0, 0
	for range 8000 {
		list := anyEntries(r)
		text, errno := modelTrace(list)
		if errno != api.OK {
			t.Fatal(errno)
		}
		checkTrace(t, list, text)
		for range pick(r, 1, 1, 2, 3) {
			text = smudged(r, text, "0", "1", "9", "-", " ", ".", "r", "g", "\n", "\n\n", "- ", "-\n", "00", "255", "x", "\x00")
		}
		if checkRetrace(t, text) {
			kept++
		} else {
			lost++
		}
		if len(list) > 0 {
			list[r.Intn(len(list))] = api.Entry{Heads: pick(r, "", "r", "x", "rG", strings.Repeat("l", 65)), Stage: pick(r, -2, -1, 0, 255, 256)}
		}
		want, errnoWant := modelTrace(list)
		if text, errno := driver.Trace(list); text != want || errno != errnoWant {
			t.Fatalf("Trace(%v): %q, %d, want %q, %d", list, text, errno, want, errnoWant)
		}
	}
	if kept < 300 || lost < 2000 {
		t.Errorf("%d traces kept, %d lost", kept, lost)
	}
}
