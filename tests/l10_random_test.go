package tests

import (
	"encoding/binary"
	"fmt"
	"math/rand"
	"slices"
	"testing"

	"loop.example/g00718/impl"
)

// numsRule encodes integers as the chapter states it.
func numsRule(list ...int) []byte {
	var out []byte
	for _, n := range list {
		out = binary.AppendUvarint(out, uint64(n))
	}
	return out
}

// taskNums are the integers that a task is encoded as.
func taskNums(task impl.Task) []int {
	out := []int{task.Id, task.Prio, task.Need.Cpu, task.Need.Mem, task.Need.Pods, len(task.Want)}
	for _, l := range task.Want {
		out = append(out, l.Key, l.Val)
	}
	return slices.Concat(out, []int{len(task.Tols)}, task.Tols)
}

// taskBytesRule and eventBytesRule encode values that are not valid as well.
func taskBytesRule(task impl.Task) []byte { return numsRule(taskNums(task)...) }

func eventBytesRule(e impl.Event) []byte {
	flags := byte(0)
	if e.Works {
		flags |= 1
	}
	if e.Keep {
		flags |= 2
	}
	out := slices.Concat([]byte{byte(e.Kind)}, numsRule(e.Who, e.N), []byte{flags})
	if e.Kind == impl.EvTask {
		out = append(out, taskBytesRule(e.Task)...)
	}
	return out
}

func recordRule(body []byte) []byte {
	sum := 0
	for _, b := range body {
		sum += int(b)
	}
	return slices.Concat([]byte{byte(len(body))}, body, []byte{byte(sum % 256)})
}

// scan reads data in a second way. Once something cannot be read, it is broken.
type scan struct {
	rest   []byte
	broken bool
}

func scanOf(data []byte, at int) *scan {
	if at < 0 || at > len(data) {
		return &scan{broken: true}
	}
	return &scan{rest: data[at:]}
}

func (s *scan) num() int {
	n, length := binary.Uvarint(s.rest)
	if s.broken || length <= 0 || n > greatest || len(numsRule(int(n))) != length {
		s.broken = true
		return 0
	}
	s.rest = s.rest[length:]
	return int(n)
}

func (s *scan) octet() byte {
	if s.broken || len(s.rest) == 0 {
		s.broken = true
		return 0
	}
	b := s.rest[0]
	s.rest = s.rest[1:]
	return b
}

func (s *scan) task() impl.Task {
	out := impl.Task{Id: s.num(), Prio: s.num()}
	out.Need.Cpu, out.Need.Mem, out.Need.Pods = s.num(), s.num(), s.num()
	for number := s.num(); number > 0 && !s.broken; number-- {
		out.Want = append(out.Want, impl.Lab{Key: s.num(), Val: s.num()})
	}
	for number := s.num(); number > 0 && !s.broken; number-- {
		out.Tols = append(out.Tols, s.num())
	}
	s.broken = s.broken || !impl.TaskOk(out)
	return out
}

func (s *scan) event() impl.Event {
	out := impl.Event{Kind: int(s.octet()), Who: s.num(), N: s.num()}
	flags := s.octet()
	out.Works, out.Keep = flags&1 > 0, flags&2 > 0
	if out.Kind == impl.EvTask {
		out.Task = s.task()
	}
	s.broken = s.broken || flags > 3 || !isEvent(out) || len(s.rest) > 0
	return out
}

// journalRule returns the events of the intact records and the number of their
// bytes.
func journalRule(data []byte) ([]impl.Event, int) {
	var out []impl.Event
	at := 0
	for len(out) < impl.MaxEvents && at < len(data) {
		length := int(data[at])
		if at+length+2 > len(data) {
			break
		}
		record := data[at : at+length+2]
		s := scanOf(record[1:length+1], 0)
		e := s.event()
		if s.broken || string(record) != string(recordRule(record[1:length+1])) {
			break
		}
		out, at = append(out, e), at+len(record)
	}
	return out, at
}

func wantJournalRule(t *testing.T, data []byte) int {
	t.Helper()
	list, at := journalRule(data)
	wantRead(t, "by the rule", data, at, list...)
	return at
}

// wantReadingRules compares NumRead, TaskRead and EventRead with the rules, and
// returns what was read.
func wantReadingRules(t *testing.T, data []byte, at int) string {
	t.Helper()
	text := ""
	s := scanOf(data, at)
	if n := s.num(); s.broken {
		wantNoNum(t, data, at)
	} else {
		wantNum(t, data, at, n, len(data)-len(s.rest))
		text += "an integer "
	}
	s = scanOf(data, at)
	if task := s.task(); s.broken {
		wantNoTask(t, "by the rule", data, at)
	} else {
		wantTask(t, data, at, task, len(data)-len(s.rest))
		text += "a task "
	}
	s = scanOf(data, 0)
	if e := s.event(); s.broken {
		wantNoEvent(t, "by the rule", data)
	} else {
		wantEvent(t, data, e)
		text += "an event "
	}
	return text
}

// number is in 0..greatest, with each number of bits as likely as any other.
func (l luck) number() int { return l.Intn(1 << (1 + l.Intn(32))) }

// some bytes, of which many have the highest bit.
func (l luck) some(number int) []byte {
	out := make([]byte, number)
	for at := range out {
		out[at] = byte(l.oneOf(0, 1, l.Intn(10), 127, 128, 255, l.Intn(256), 128+l.Intn(128)))
	}
	return out
}

// keys is a strictly increasing list of any length that is allowed.
func (l luck) keys() []int { return sorted(l.Perm(10), l.Intn(impl.MaxMarks+1)) }

// validTask has any fields that a valid task may have.
func (l luck) validTask() impl.Task {
	amount := func() int { return l.oneOf(0, 1, 127, 128, 16383, 16384, most, l.Intn(most+1), l.Intn(300)) }
	out := impl.Task{Id: l.oneOf(1, impl.MaxId, 1+l.Intn(impl.MaxId)), Prio: l.Intn(10), Need: amounts(amount(), amount(), amount()), Tols: l.keys()}
	for _, key := range l.keys() {
		out.Want = append(out.Want, impl.Lab{Key: key, Val: l.Intn(10)})
	}
	return out
}

func (l luck) validEvent(kind int) impl.Event {
	out := impl.Event{Kind: kind}
	switch kind {
	case impl.EvTick:
		out.N = l.oneOf(1, 1000, 127, 128, 1+l.Intn(1000))
	case impl.EvTry, impl.EvCrash, impl.EvStep:
		out.Who = 1 + l.Intn(impl.MaxReplicas)
	case impl.EvTask:
		out.Task = l.validTask()
	case impl.EvCancel, impl.EvFail:
		out.N = 1 + l.Intn(impl.MaxId)
	case impl.EvMsg:
		out.N, out.Works, out.Keep = l.Intn(impl.MaxMsgs), l.Intn(2) == 0, l.Intn(2) == 0
	case impl.EvLose:
		out.N = l.Intn(impl.MaxMsgs)
	}
	return out
}

// events are valid ones of every kind. Many do something in the world, one after
// the other.
func (l luck) events(w impl.World, number int) []impl.Event {
	var out []impl.Event
	for len(out) < number {
		e := l.event(w)
		if l.Intn(4) == 0 || !isEvent(e) {
			e = l.validEvent(1 + l.Intn(impl.EvFail))
		}
		out = append(out, e)
		w, _ = impl.WorldDo(w, e)
	}
	return out
}

// spoiled returns a copy of data in which something is wrong, mostly.
func (l luck) spoiled(data []byte) []byte {
	out, at := slices.Clone(data), l.Intn(len(data)+1)
	to := byte(l.oneOf(0, 1, 4, 127, 128, 255, l.Intn(256)))
	switch l.Intn(5) {
	case 0:
		return slices.Insert(out, at, to)
	case 1:
		return out[:at]
	case 2:
		return slices.Delete(out, at, min(at+1+l.Intn(3), len(out)))
	case 3:
		return append(out, l.some(1+l.Intn(4))...)
	}
	if at < len(out) {
		out[at] = byte(l.oneOf(int(to), int(out[at])+1, int(out[at])-1, int(out[at])^128))
	}
	return out
}

// Promise 14, first part: integers, at any offset and with any bytes before and
// behind them.
func TestNumbersAreReadAgain(t *testing.T) {
	seen := cases{}
	for seed := range int64(20000) {
		l := luck{rand.New(rand.NewSource(seed))}
		n := l.number()
		one := impl.NumBytes(n)
		wantBytes(t, fmt.Sprint(n), one, numsRule(n)...)
		before, behind := l.some(l.Intn(12)), l.some(l.Intn(12))
		wantNum(t, slices.Concat(before, one, behind), len(before), n, len(before)+len(one))
		wantNum(t, slices.Concat(before, one), len(before), n, len(before)+len(one))
		wantNum(t, slices.Concat(one, behind), 0, n, len(one))
		seen[fmt.Sprint("bytes: ", len(one))]++
		if t.Failed() {
			return
		}
	}
	seen.want(t, "bytes: 1", "bytes: 2", "bytes: 3", "bytes: 4", "bytes: 5")
}

// All data of up to two bytes, and of three where the first two go on.
func TestNumReadOfShortData(t *testing.T) {
	for a := range 256 {
		wantReadingRules(t, []byte{byte(a)}, 0)
		for b := range 256 {
			wantReadingRules(t, []byte{byte(a), byte(b)}, 0)
			if a%16 == 15 && b > 127 {
				for c := range 256 {
					wantReadingRules(t, []byte{byte(a), byte(b), byte(c)}, 0)
				}
			}
		}
	}
}

// Promise 14, second part.
func TestTasksAndEventsAreReadAgain(t *testing.T) {
	seen := cases{}
	for seed := range int64(5000) {
		l := luck{rand.New(rand.NewSource(seed))}
		task := l.validTask()
		one := impl.TaskBytes(task)
		wantBytes(t, fmt.Sprintf("%+v", task), one, taskBytesRule(task)...)
		before, behind := l.some(l.Intn(12)), l.some(l.Intn(12))
		wantTask(t, slices.Concat(before, one, behind), len(before), task, len(before)+len(one))
		wantTask(t, slices.Concat(before, one), len(before), task, len(before)+len(one))
		seen[fmt.Sprint("labels: ", len(task.Want))]++
		seen[fmt.Sprint("Tols: ", len(task.Tols))]++
		e := l.validEvent(1 + l.Intn(impl.EvFail))
		if !impl.EventOk(e) {
			t.Fatalf("the event %+v is not valid", e)
		}
		data := impl.EventBytes(e)
		wantBytes(t, fmt.Sprintf("%+v", e), data, eventBytesRule(e)...)
		wantEvent(t, data, e)
		seen[fmt.Sprint("kind: ", e.Kind)]++
		seen[fmt.Sprintf("Works %v, Keep %v", e.Works, e.Keep)]++
		if t.Failed() {
			return
		}
	}
	for number := range impl.MaxMarks + 1 {
		seen.want(t, fmt.Sprint("labels: ", number), fmt.Sprint("Tols: ", number))
	}
	for kind := impl.EvTick; kind <= impl.EvFail; kind++ {
		seen.want(t, fmt.Sprint("kind: ", kind))
	}
	seen.want(t, "Works true, Keep false", "Works false, Keep true", "Works true, Keep true", "Works false, Keep false")
}

// Whatever the bytes are, what is read is what they encode, and nothing panics.
func TestReadingsOfAnyBytes(t *testing.T) {
	seen := cases{}
	for seed := range int64(20000) {
		l := luck{rand.New(rand.NewSource(seed))}
		data := l.some(l.Intn(16))
		switch seed % 4 {
		case 0:
			data = l.spoiled(impl.TaskBytes(l.validTask()))
		case 1:
			data = l.spoiled(impl.EventBytes(l.validEvent(1 + l.Intn(impl.EvFail))))
		case 2:
			data = l.spoiled(l.spoiled(numsRule(l.number(), l.number(), l.number())))
		}
		for _, at := range append(offsets(len(data)), 0, l.Intn(len(data)+1)) {
			seen[wantReadingRules(t, data, at)]++
		}
		wantJournalRule(t, data)
		if t.Failed() {
			return
		}
	}
	seen.want(t, "", "an integer ", "an integer a task ", "an integer an event ", "an event ")
}

// Each byte of a task's and of an event's bytes has each other value once.
func TestReadingsWithEveryByteExchanged(t *testing.T) {
	for _, task := range bytesOfTasks() {
		for _, data := range [][]byte{impl.TaskBytes(task), impl.EventBytes(newTask(task))} {
			for at := range data {
				for b := range 256 {
					wantReadingRules(t, changed(data, at, byte(b)), 0)
				}
			}
		}
		if t.Failed() {
			return
		}
	}
}

// wantPrefix expects exactly the events of the records that are complete.
func wantPrefix(t *testing.T, data []byte, list []impl.Event) (int, int) {
	t.Helper()
	number, at := 0, 0
	for number < len(list) && at+len(eventBytesRule(list[number]))+2 <= len(data) {
		at += len(eventBytesRule(list[number])) + 2
		number++
	}
	wantRead(t, "a prefix", data, at, list[:number]...)
	return number, at
}

// Promise 14, third part.
func TestEveryPrefixOfAJournal(t *testing.T) {
	seen := cases{}
	for seed := range int64(200) {
		l := luck{rand.New(rand.NewSource(seed))}
		w := l.world()
		if seed%2 == 0 {
			w = l.begun(t)
		}
		list := l.events(w, l.oneOf(0, 1, 5, 12, 20))
		data := journalOf(t, list...)
		wantRead(t, "the whole journal", data, len(data), list...)
		// The worlds after each number of events, as WorldDo has them.
		worlds := []impl.World{w}
		for _, e := range list {
			next, told := impl.WorldDo(worlds[len(worlds)-1], e)
			worlds = append(worlds, next)
			seen[fmt.Sprintf("the kind %d is done: %v", e.Kind, told.Code == impl.WFine)]++
		}
		for length := range len(data) + 1 {
			number, at := wantPrefix(t, data[:length], list)
			seen[fmt.Sprintf("a part of a record: %v", at < length)]++
			got, cut, ok := impl.WorldCut(w, data[:length])
			if !ok || cut != number {
				t.Errorf("WorldCut executes %d events, %v, want %d", cut, ok, number)
			}
			wantWorld(t, fmt.Sprintf("a prefix of %d bytes", length), got, worlds[number])
		}
		wantCut(t, "the whole journal", w, data, list...)
		if t.Failed() {
			return
		}
	}
	seen.want(t, "a part of a record: true", "a part of a record: false", "the kind 6 is done: true", "the kind 7 is done: true")
	for kind := impl.EvTick; kind <= impl.EvFail; kind++ {
		if seen[fmt.Sprintf("the kind %d is done: true", kind)] == 0 {
			t.Errorf("no event of the kind %d is done", kind)
		}
	}
}

// The same for a journal of MaxEvents, without worlds.
func TestEveryPrefixOfAFullJournal(t *testing.T) {
	l := luck{rand.New(rand.NewSource(1))}
	var list []impl.Event
	for at := range impl.MaxEvents {
		list = append(list, l.validEvent(1+at%impl.EvFail))
	}
	data := journalOf(t, list...)
	for length := range len(data) + 1 {
		wantPrefix(t, data[:length], list)
		if t.Failed() {
			return
		}
	}
	wantRead(t, "with one record more", slices.Concat(data, journalOf(t, tick(5))), len(data), list...)
}

// In a journal that is spoiled anywhere the records before that are read, and no
// others.
func TestSpoiledJournals(t *testing.T) {
	seen := cases{}
	for seed := range int64(6000) {
		l := luck{rand.New(rand.NewSource(seed))}
		var list []impl.Event
		for range 1 + l.Intn(5) {
			list = append(list, l.validEvent(1+l.Intn(impl.EvFail)))
		}
		data := journalOf(t, list...)
		bad := l.spoiled(data)
		at := wantJournalRule(t, bad)
		seen[fmt.Sprintf("all: %v, none: %v, as many bytes: %v", at == len(bad), at == 0, len(bad) == len(data))]++
		if seed%20 == 0 {
			read, _ := journalRule(bad)
			wantCut(t, "a spoiled journal", busyWorld(), bad, read...)
		}
		if t.Failed() {
			return
		}
	}
	seen.want(t, "all: false, none: false, as many bytes: true", "all: false, none: true, as many bytes: true",
		"all: false, none: false, as many bytes: false", "all: false, none: true, as many bytes: false", "all: true, none: false, as many bytes: false")
}

// Each byte of a journal has each other value once: a record that is changed is
// not read, unless its sum fits as well.
func TestJournalReadWithEveryByteExchanged(t *testing.T) {
	list := []impl.Event{deliver(2, true, false), newTask(goodTask()), tick(300), stepBy(4)}
	data := journalOf(t, list...)
	for at := range data {
		for b := range 256 {
			wantJournalRule(t, changed(data, at, byte(b)))
		}
		if other := journalOf(t, list[:1]...); at >= len(other) {
			got, _ := impl.JournalRead(changed(data, at, data[at]+1))
			if len(got) == 0 || len(got) == len(list) {
				t.Errorf("%d events are read where the byte %d is changed", len(got), at)
			}
		}
	}
}
