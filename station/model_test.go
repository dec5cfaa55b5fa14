package station_test

import (
	"bytes"
	"encoding/hex"
	"fmt"
	"regexp"
	"strconv"
	"strings"
	"time"

	"junction/api"
	"junction/bank"
	"junction/driver"
	"junction/heads"
	"junction/load"
	"junction/rom"
	"junction/timetable"
	"junction/vm"
	"junction/watch"
	"junction/wire"
)

// model is the station a second way: word by word as the chapter has it, asking the bank, the loader and the timetable anew in each tick.
type model struct {
	flash, before []byte // now, and ahead of the line ahead
	acts          []api.Act
	now           time.Time
	stuck         map[int]byte

	bank    *bank.Bank
	ticks   int
	mode    string
	slot    int
	data    []byte
	image   api.Image
	machine *vm.Machine
	heads   api.Heads
	monitor *watch.Monitor
	alarms  []api.Alarm
	kept    string

	end   *wire.End
	begun *api.Msg
	come  []byte

	block string // "put", "hex" or ""
	into  int
	lines []string

	run []modelTick // the ticks of the last line
}

// modelTick is what a tick of the model has shown and done.
type modelTick struct {
	lamps   string
	stage   int
	mode    string
	began   bool // a plan has begun to run
	cleared bool // a plan's clearing has ended
	tables  api.Tables
}

func newModel() *model {
	return &model{now: time.Date(2000, 1, 1, 0, 0, 0, 0, time.UTC), stuck: map[int]byte{}, mode: "dark"}
}

var (
	modelWords = regexp.MustCompile(`[^ \t\r\n]+`)
	modelN     = regexp.MustCompile(`^[0-9]{1,9}$`)
	modelHex   = regexp.MustCompile(`^(-|[0-9a-fA-F]+)$`)
	modelDate  = regexp.MustCompile(`^[0-9]{4}-[0-9]{2}-[0-9]{2}$`)
	modelClock = regexp.MustCompile(`^([01][0-9]|2[0-3]):[0-5][0-9]$`)
)

func (m *model) do(line string) (string, api.Errno) {
	m.run = nil
	if len(line) > 65536 {
		return driver.Report(api.Fault{Code: api.ErrLong}), api.ErrLong
	}
	text, _, _ := strings.Cut(line, "#")
	words := modelWords.FindAllString(text, -1)
	if m.block == "" && len(words) == 0 {
		return "", api.OK
	}
	if m.block != "" && (len(words) != 1 || words[0] != ".") {
		m.lines = append(m.lines, line+"\n")
		return "", api.OK
	}
	before := m.flash
	answer, f := m.obey(words)
	var acts []api.Act
	if m.bank != nil {
		acts = m.bank.Acts()
		m.flash, _ = bank.Play(m.flash, acts, bank.Steps(acts), 0)
	}
	if f.Code != api.ErrScript && f.Code != api.ErrArg {
		m.before, m.acts = before, acts
	}
	if f.Code != api.OK {
		return driver.Report(f), f.Code
	}
	return answer, api.OK
}

func fail(e api.Errno) (string, api.Fault) { return "", api.Fault{Code: e} }

func okOr(e api.Errno) (string, api.Fault) { return "ok", api.Fault{Code: e} }

func modelFaultOf(slot int, data []byte) api.Fault {
	if slot <= 7 {
		_, f := load.Load(data)
		return f
	}
	_, f := timetable.Parse(string(data))
	return f
}

func (m *model) endBlock() (string, api.Fault) {
	kind, text := m.block, strings.Join(m.lines, "")
	m.block, m.lines = "", nil
	if len(text) > 65536 {
		return fail(api.ErrLong)
	}
	data, f := []byte(text), api.Fault{}
	switch {
	case kind == "hex":
		if data, f = rom.FromHex(text); f.Code == api.OK {
			f = modelFaultOf(m.into, data)
		}
	case m.into <= 7:
		data, f = driver.Compile(text)
	default:
		f = modelFaultOf(8, data)
	}
	if f.Code != api.OK {
		return "", f
	}
	return okOr(m.bank.Put(m.into, data))
}

func (m *model) obey(words []string) (string, api.Fault) {
	if m.block != "" {
		return m.endBlock()
	}
	need, ok := commands[words[0]]
	if !ok || len(words) < need || len(words) > need && words[0] != "run" {
		return fail(api.ErrScript)
	}
	if !m.formed(words) {
		return fail(api.ErrArg)
	}
	n, slot := 0, 0
	if len(words) > 1 {
		n, _ = strconv.Atoi(words[1])
		slot = n
	}
	on := m.bank != nil
	switch words[0] {
	case "flash":
		if on {
			return fail(api.ErrArg)
		}
		b, e := bank.Blank(n)
		if e == api.OK {
			m.flash = b
		}
		return okOr(e)
	case "clock":
		m.now, _ = time.Parse("2006-01-02 15:04", words[1]+" "+words[2])
		return okOr(api.OK)
	case "stick":
		m.stuck[n] = words[2][0]
		return okOr(api.OK)
	case "free":
		m.stuck = map[int]byte{}
		return okOr(api.OK)
	case "show":
		return m.show(), api.Fault{}
	case "power":
		return m.power(words[1])
	}
	if !on {
		return fail(api.ErrOff)
	}
	switch words[0] {
	case "put", "hex":
		if slot > 8 {
			return fail(api.ErrSlot)
		}
		m.block, m.into = words[0], slot
		return "", api.Fault{}
	case "drop":
		return okOr(m.bank.Drop(slot))
	case "pick":
		if words[1] == "auto" {
			slot = -1
		}
		if slot > 7 {
			return fail(api.ErrSlot)
		}
		return okOr(m.bank.Pick(slot))
	case "run":
		return m.runTicks(words[1:])
	case "bytes":
		b, _ := hex.DecodeString(strings.TrimPrefix(words[1], "-"))
		m.end.Feed(b)
		for _, data := range m.end.Take() {
			b, _ := wire.Pack(m.answer(data))
			m.end.Send(b)
		}
		return toldBytes(m.end.Poll()), api.Fault{}
	case "timeout":
		m.end.Timeout()
		return toldBytes(m.end.Poll()), api.Fault{}
	case "reset":
		if m.mode != "tripped" {
			return fail(api.ErrArg)
		}
		m.mode = "dark"
		return okOr(api.OK)
	case "log":
		var lines []string
		for _, a := range m.alarms {
			lines = append(lines, fmt.Sprint(a.Kind, " ", a.Tick, " ", a.A, " ", a.B))
		}
		if len(lines) == 0 {
			return "none", api.Fault{}
		}
		return strings.Join(lines, "\n"), api.Fault{}
	}
	// A crash.
	torn, _ := strconv.Atoi(words[2])
	m.flash, _ = bank.Play(m.before, m.acts, n, byte(torn))
	m.bank, m.end = nil, nil
	return okOr(api.OK)
}

// formed tells whether all words have their form and their range.
func (m *model) formed(words []string) bool {
	isN := len(words) > 1 && modelN.MatchString(words[1])
	n := 0
	if isN {
		n, _ = strconv.Atoi(words[1])
	}
	switch words[0] {
	case "flash", "put", "hex", "drop":
		return isN
	case "power":
		return words[1] == "on" || words[1] == "off"
	case "pick":
		return isN || words[1] == "auto"
	case "clock":
		at, err := time.Parse("2006-01-02", words[1])
		return modelDate.MatchString(words[1]) && err == nil && at.Year() >= 2000 && at.Year() < 2400 && modelClock.MatchString(words[2])
	case "bytes":
		return modelHex.MatchString(words[1]) && (words[1] == "-" || len(words[1])%2 == 0 && len(words[1]) <= 65536)
	case "stick":
		return isN && n < 64 && (words[2] == "r" || words[2] == "l" || words[2] == "g" || words[2] == "a")
	case "crash":
		torn, _ := strconv.Atoi(words[2])
		return isN && modelN.MatchString(words[2]) && torn < 256
	}
	return true
}

func (m *model) power(word string) (string, api.Fault) {
	on := m.bank != nil
	if word == "off" {
		if !on {
			return fail(api.ErrOff)
		}
		m.bank, m.end = nil, nil
		return okOr(api.OK)
	}
	if on {
		return fail(api.ErrArg)
	}
	if len(m.flash) == 0 {
		return fail(api.ErrOff)
	}
	b, e := bank.Open(m.flash)
	if e != api.OK {
		return fail(e)
	}
	m.bank, m.end, m.begun, m.come = b, wire.NewEnd(), nil, nil
	m.ticks, m.mode, m.alarms = 0, "dark", nil
	return okOr(api.OK)
}

func (m *model) show() string {
	at := m.now.Format("2006-01-02 15:04:05")
	if m.bank == nil {
		return "power off clock " + at
	}
	slots := strings.Trim(strings.ReplaceAll(fmt.Sprint(m.bank.Slots()), " ", ","), "[]")
	if slots == "" {
		slots = "none"
	}
	picked, runs := "auto", "none"
	if p := m.bank.Picked(); p >= 0 {
		picked = strconv.Itoa(p)
	}
	if m.mode == "run" || m.mode == "clear" {
		runs = strconv.Itoa(m.slot)
	}
	return fmt.Sprint("power on slots ", slots, " picked ", picked, " runs ", runs, " mode ", m.mode, " ticks ", m.ticks, " alarms ", len(m.alarms), " clock ", at)
}

// wanted is what step 1 of a tick wants: a slot from 0 to 7 with the image of its bytes, or -1.
func (m *model) wanted() (int, []byte, api.Image) {
	slot := m.bank.Picked()
	if slot == -1 {
		text, e := m.bank.Get(8)
		t, f := timetable.Parse(string(text))
		if e != api.OK || f.Code != api.OK {
			return -1, nil, api.Image{}
		}
		// Seconds, as a Duration has no more than 292 years.
		seconds := m.now.Unix() - time.Date(2000, 1, 1, 0, 0, 0, 0, time.UTC).Unix()
		slot, _ = timetable.At(t, int(seconds/60))
	}
	if slot == api.SlotFlash || slot > 7 {
		return -1, nil, api.Image{}
	}
	data, e := m.bank.Get(slot)
	image, f := load.Load(data)
	if e != api.OK || f.Code != api.OK {
		return -1, nil, api.Image{}
	}
	return slot, data, image
}

func (m *model) tick(bits uint64) modelTick {
	slot, data, image := m.wanted()
	out := modelTick{stage: -1}
	told := ""
	if m.mode == "run" && (slot != m.slot || !bytes.Equal(data, m.data)) {
		m.mode = "clear"
		m.heads = m.machine.State().Heads
	}
	stepping := false
	if m.mode == "clear" {
		if heads.Settled(m.image.Tables, m.heads, 0) {
			m.mode = "dark"
			out.cleared = true
		} else {
			m.heads, _ = heads.Step(m.image.Tables, m.heads, 0)
			told, stepping = heads.Show(m.heads), true
		}
	}
	if !stepping && m.mode == "dark" && slot >= 0 {
		m.slot, m.data, m.image = slot, data, image
		m.machine, _ = vm.New(image)
		m.monitor, _ = watch.New(image.Tables)
		m.mode = "run"
		out.began = true
	}
	if !stepping && m.mode == "run" {
		entry := m.machine.Tick(bits)
		told, out.stage = entry.Heads, entry.Stage
	}
	if m.mode == "run" || m.mode == "clear" {
		shown := []byte(told)
		for g := range shown {
			if x, ok := m.stuck[g]; ok {
				shown[g] = x
			}
		}
		out.lamps = string(shown)
		if a := m.monitor.Feed(out.lamps); a != (api.Alarm{}) {
			m.alarms = append(m.alarms, a)
			m.kept = out.lamps
			m.mode = "tripped"
		}
	}
	if m.mode == "tripped" {
		out.lamps, out.stage = watch.Lamps(m.kept, true, m.ticks), -1
	}
	out.mode, out.tables = m.mode, m.image.Tables
	m.ticks++
	if m.now.Before(time.Date(2399, 12, 31, 23, 59, 59, 0, time.UTC)) {
		m.now = m.now.Add(time.Second)
	}
	return out
}

func (m *model) runTicks(words []string) (string, api.Fault) {
	ins, e := driver.Inputs(strings.Join(words, " "))
	if e != api.OK {
		return fail(e)
	}
	first := m.ticks
	var lines []string
	for i, bits := range ins {
		m.run = append(m.run, m.tick(bits))
		lamps, stage := m.run[i].lamps, strconv.Itoa(m.run[i].stage)
		if lamps == "" {
			lamps = "*"
		}
		if stage == "-1" {
			stage = "-"
		}
		lines = append(lines, lamps+" "+stage)
	}
	var out []string
	for i := 0; i < len(lines); {
		j := i
		for j+1 < len(lines) && lines[j+1] == lines[i] {
			j++
		}
		span := strconv.Itoa(first + i)
		if j > i {
			span += "-" + strconv.Itoa(first+j)
		}
		out = append(out, span+" "+lines[i])
		i = j + 1
	}
	return strings.Join(out, "\n"), api.Fault{}
}

// answer is that to a message of the control room.
func (m *model) answer(data []byte) api.Msg {
	refuse := func(e api.Errno) api.Msg {
		if e == api.OK {
			return api.Msg{Kind: api.MsDone}
		}
		return api.Msg{Kind: api.MsRefuse, Num: uint32(e)}
	}
	msg, e := wire.Unpack(data)
	if e != api.OK || msg.Kind >= 10 {
		return refuse(api.ErrMsg)
	}
	switch msg.Kind {
	case api.MsBegin:
		if msg.Slot > 8 {
			return refuse(api.ErrSlot)
		}
		if msg.Num == 0 || msg.Num > 1048576 {
			return refuse(api.ErrData)
		}
		m.begun, m.come = &msg, nil
		return refuse(api.OK)
	case api.MsPiece:
		if m.begun == nil || int(msg.Num) != len(m.come) || len(m.come)+len(msg.Data) > int(m.begun.Num) {
			return refuse(api.ErrUpload)
		}
		m.come = append(m.come, msg.Data...)
		return refuse(api.OK)
	case api.MsFinish:
		begun := m.begun
		m.begun = nil
		switch {
		case begun == nil || len(m.come) != int(begun.Num) || rom.Sum(m.come) != begun.Sum:
			return refuse(api.ErrUpload)
		case modelFaultOf(begun.Slot, m.come).Code != api.OK:
			return refuse(api.ErrRefused)
		}
		return refuse(m.bank.Put(begun.Slot, m.come))
	case api.MsPick:
		if msg.Slot > 7 && msg.Slot < 255 {
			return refuse(api.ErrSlot)
		}
		if msg.Slot == 255 {
			msg.Slot = -1
		}
		return refuse(m.bank.Pick(msg.Slot))
	case api.MsDrop:
		return refuse(m.bank.Drop(msg.Slot))
	}
	slot := 255
	if m.mode == "run" || m.mode == "clear" {
		slot = m.slot
	}
	return api.Msg{Kind: api.MsTell, Slot: slot, Num: uint32(m.ticks), Sum: uint32(len(m.alarms))}
}
