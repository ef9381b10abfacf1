package tests

import (
	"bytes"
	"encoding/binary"
	"fmt"
	"maps"
	"math"
	"reflect"
	"slices"
	"testing"

	"loop.example/g00718/impl"
)

// greatest is the greatest integer that is encoded.
const greatest = 4294967295

func sameEvent(a impl.Event, b impl.Event) bool {
	return a.Kind == b.Kind && a.Who == b.Who && a.N == b.N && a.Works == b.Works && a.Keep == b.Keep && sameTask(a.Task, b.Task)
}

func wantBytes(t *testing.T, what string, got []byte, want ...byte) {
	t.Helper()
	if !bytes.Equal(got, want) {
		t.Errorf("%s: the bytes are %v, want %v", what, got, want)
	}
}

func wantNum(t *testing.T, data []byte, at int, want int, next int) {
	t.Helper()
	if got, after, ok := impl.NumRead(data, at); !ok || got != want || after != next {
		t.Errorf("NumRead of %v at %d is %d, %d, %v, want %d, %d", few(data), at, got, after, ok, want, next)
	}
}

func wantNoNum(t *testing.T, data []byte, at int) {
	t.Helper()
	if got, after, ok := impl.NumRead(data, at); ok || got != 0 || after != 0 {
		t.Errorf("NumRead of %v at %d is %d, %d, %v", few(data), at, got, after, ok)
	}
}

func wantTask(t *testing.T, data []byte, at int, want impl.Task, next int) {
	t.Helper()
	if got, after, ok := impl.TaskRead(data, at); !ok || !sameTask(got, want) || after != next {
		t.Errorf("TaskRead of %v at %d is %+v, %d, %v, want %+v, %d", few(data), at, got, after, ok, want, next)
	}
}

func wantNoTask(t *testing.T, what string, data []byte, at int) {
	t.Helper()
	if got, after, ok := impl.TaskRead(data, at); ok || !sameTask(got, impl.Task{}) || after != 0 {
		t.Errorf("%s: TaskRead of %v at %d is %+v, %d, %v", what, few(data), at, got, after, ok)
	}
}

func wantEvent(t *testing.T, data []byte, want impl.Event) {
	t.Helper()
	if got, ok := impl.EventRead(data); !ok || !sameEvent(got, want) {
		t.Errorf("EventRead of %v is %+v, %v, want %+v", few(data), got, ok, want)
	}
}

func wantNoEvent(t *testing.T, what string, data []byte) {
	t.Helper()
	if got, ok := impl.EventRead(data); ok || !sameEvent(got, impl.Event{}) {
		t.Errorf("%s: EventRead of %v is %+v, %v", what, few(data), got, ok)
	}
}

// few is the beginning of some data, for a message.
func few(data []byte) []byte { return data[:min(len(data), 400)] }

// journalOf is JournalOf of events that are valid.
func journalOf(t *testing.T, list ...impl.Event) []byte {
	t.Helper()
	data, ok := impl.JournalOf(list)
	if !ok {
		t.Fatalf("JournalOf of %d events returns false", len(list))
	}
	return data
}

func wantRead(t *testing.T, what string, data []byte, at int, want ...impl.Event) {
	t.Helper()
	if got, after := impl.JournalRead(data); after != at || !slices.EqualFunc(got, want, sameEvent) {
		t.Errorf("%s: JournalRead of %v is %+v, %d, want %+v, %d", what, few(data), got, after, want, at)
	}
}

// wantCut compares WorldCut with WorldRun of the events.
func wantCut(t *testing.T, what string, w impl.World, data []byte, list ...impl.Event) {
	t.Helper()
	got, number, ok := impl.WorldCut(w, data)
	want, _, fine := impl.WorldRun(w, list)
	if !ok || !fine || number != len(list) || !sameWorld(got, want) {
		t.Errorf("%s: WorldCut of %s is %s after %d events, %v, want %s after %d", what, worldText(w), worldText(got), number, ok, worldText(want), len(list))
	}
}

func wantNoCut(t *testing.T, what string, w impl.World, data []byte) {
	t.Helper()
	if got, number, ok := impl.WorldCut(w, data); ok || number != 0 || !sameWorld(got, impl.World{}) {
		t.Errorf("%s: WorldCut is %s after %d events, %v", what, worldText(got), number, ok)
	}
}

func TestJournalExamples(t *testing.T) {
	wantBytes(t, "300", impl.NumBytes(300), 0xac, 0x02)
	wantNum(t, []byte{0xac, 0x02}, 0, 300, 2)
	first, second := deliver(2, true, false), tick(5)
	data := journalOf(t, first, second)
	wantBytes(t, "two records of 6 bytes", data, 4, 7, 0, 2, 1, 10, 4, 1, 0, 5, 0, 6)
	wantRead(t, "two records", data, 12, first, second)
	wantRead(t, "the last byte is missing", data[:11], 6, first)
}

func TestNumBytes(t *testing.T) {
	for _, c := range []struct {
		n    int
		want []byte
	}{
		{0, []byte{0}}, {1, []byte{1}}, {127, []byte{127}}, {128, []byte{128, 1}}, {16383, []byte{255, 127}}, {16384, []byte{128, 128, 1}},
		{2097151, []byte{255, 255, 127}}, {2097152, []byte{128, 128, 128, 1}}, {268435455, []byte{255, 255, 255, 127}},
		{268435456, []byte{128, 128, 128, 128, 1}}, {greatest - 1, []byte{254, 255, 255, 255, 15}}, {greatest, []byte{255, 255, 255, 255, 15}},
	} {
		wantBytes(t, fmt.Sprint(c.n), impl.NumBytes(c.n), c.want...)
		wantNum(t, c.want, 0, c.n, len(c.want))
		data := slices.Concat([]byte{128, 0, 255}, c.want, []byte{128, 255})
		wantNum(t, data, 3, c.n, 3+len(c.want))
	}
	for _, n := range []int{math.MinInt, math.MinInt32, -300, -128, -1, greatest + 1, greatest + 2, 1 << 35, math.MaxInt} {
		wantBytes(t, fmt.Sprint(n), impl.NumBytes(n))
	}
}

func TestNumReadOfTooGreatIntegers(t *testing.T) {
	for _, n := range []uint64{greatest + 1, greatest + 2, 1<<33 - 1, 1<<35 - 1, 1 << 35, 1<<42 + 5, math.MaxInt64, 1 << 63, 1<<63 + 7, math.MaxUint64} {
		wantNoNum(t, binary.AppendUvarint(nil, n), 0)
	}
	for last := range 256 {
		data := []byte{128, 130, 128, 128, byte(last)}
		if last > 0 && last < 16 {
			wantNum(t, data, 0, 256+last<<28, 5)
		} else {
			wantNoNum(t, data, 0)
		}
	}
}

func TestNumReadOfLongerEncodings(t *testing.T) {
	for _, n := range []int{0, 1, 127, 128, 300, 16383, 16384, 1 << 20, 1 << 27, 1 << 28, greatest} {
		data := numsRule(n)
		data[len(data)-1] |= 128
		for range 12 {
			data = append(data, 0)
			wantNoNum(t, data, 0)
			wantNoNum(t, append(data, 0), 0)
			wantNoNum(t, append([]byte{1}, data...), 1)
			data[len(data)-1] = 128
			wantNoNum(t, data, 0)
		}
	}
}

// With many bytes that have the highest bit, no bits of an int are left in the end.
func TestNumReadOfManyBytes(t *testing.T) {
	for _, b := range []byte{128, 129, 255} {
		for _, number := range []int{1, 4, 5, 6, 8, 9, 10, 11, 18, 19, 37, 100, 100000} {
			for _, last := range []byte{0, 1, 15, 127} {
				data := bytes.Repeat([]byte{b}, number)
				wantNoNum(t, data, 0)
				wantNoNum(t, data, number-1)
				if data = append(data, last); number > 4 || last == 0 {
					wantNoNum(t, data, 0)
				}
				wantNum(t, data, number, int(last), number+1)
			}
		}
	}
}

func TestNumReadOfCutData(t *testing.T) {
	for _, n := range around(127, 16383, 2097151, 268435455, greatest) {
		data := impl.NumBytes(n)
		for length := range data {
			wantNoNum(t, data[:length], 0)
			wantNoNum(t, append([]byte{5}, data[:length]...), 1)
		}
		for at := range data {
			// What is behind the first byte is an integer as well.
			wantNum(t, data, at, n>>(7*at), len(data))
		}
	}
}

// offsets are in and around data of this length.
func offsets(length int) []int { return around(length, length/2) }

func TestOffsets(t *testing.T) {
	task := goodTask()
	for _, data := range [][]byte{nil, {}, {7}, {7, 0}, impl.TaskBytes(task), slices.Repeat(impl.TaskBytes(task), 3), make([]byte, 1000)} {
		for _, at := range offsets(len(data)) {
			if at >= 0 && at < len(data) {
				wantReadingRules(t, data, at)
				continue
			}
			wantNoNum(t, data, at)
			wantNoTask(t, "an offset outside", data, at)
		}
	}
}

// goodTask has several elements in each list and integers of several lengths.
func goodTask() impl.Task {
	return impl.Task{Id: 41, Prio: 7, Need: amounts(300, 127, 16384), Want: []impl.Lab{{Key: 0, Val: 9}, {Key: 4, Val: 0}}, Tols: []int{1, 8, 9}}
}

// greatestTask has the most and the greatest of everything.
func greatestTask() impl.Task {
	task := impl.Task{Id: impl.MaxId, Prio: 9, Need: even(most), Tols: []int{4, 5, 6, 7, 8, 9}}
	for _, key := range task.Tols {
		task.Want = append(task.Want, impl.Lab{Key: key, Val: 9})
	}
	return task
}

// bytesOfTasks are valid tasks with their bytes.
func bytesOfTasks() map[string]impl.Task {
	return map[string]impl.Task{
		"\x01\x00\x00\x00\x00\x00\x00":                                              {Id: 1},
		"\x63\x09\x00\x00\x01\x00\x00":                                              {Id: 99, Prio: 9, Need: amounts(0, 0, 1)},
		"\x03\x01\xac\x02\x02\x01\x01\x04\x01\x01\x05":                              {Id: 3, Prio: 1, Need: amounts(300, 2, 1), Want: []impl.Lab{{Key: 4, Val: 1}}, Tols: []int{5}},
		"\x02\x00\x01\x02\x03\x00\x02\x00\x09":                                      {Id: 2, Need: amounts(1, 2, 3), Tols: []int{0, 9}},
		"\x02\x00\x01\x02\x03\x02\x00\x07\x09\x00\x00":                              {Id: 2, Need: amounts(1, 2, 3), Want: []impl.Lab{{Key: 0, Val: 7}, {Key: 9, Val: 0}}},
		"\x29\x07\xac\x02\x7f\x80\x80\x01\x02\x00\x09\x04\x00" + "\x03\x01\x08\x09": goodTask(),
		"\x63\x09\xc0\x84\x3d\xc0\x84\x3d\xc0\x84\x3d\x06\x04\x09\x05\x09\x06\x09\x07\x09\x08\x09\x09\x09" + "\x06\x04\x05\x06\x07\x08\x09": greatestTask(),
	}
}

// inOrder has the values in the order of their bytes.
func inOrder[T any](all map[string]T) []T {
	var out []T
	for _, data := range slices.Sorted(maps.Keys(all)) {
		out = append(out, all[data])
	}
	return out
}

func TestTaskBytes(t *testing.T) {
	for data, task := range bytesOfTasks() {
		wantBytes(t, fmt.Sprintf("%+v", task), impl.TaskBytes(task), []byte(data)...)
		wantTask(t, []byte(data), 0, task, len(data))
		whole := slices.Concat([]byte{1, 128, 0}, []byte(data), []byte{9, 128})
		wantTask(t, whole, 3, task, 3+len(data))
		task.Want, task.Tols = append([]impl.Lab{}, task.Want...), append([]int{}, task.Tols...)
		wantBytes(t, "with empty lists", impl.TaskBytes(task), []byte(data)...)
		for length := range data {
			wantNoTask(t, "cut short", []byte(data[:length]), 0)
			wantNoTask(t, "cut short, at an offset", whole[:3+length], 3)
		}
	}
	for _, task := range append(invalidTasks(goodTask()), impl.Task{}, impl.Task{Id: -1}, impl.Task{Id: math.MaxInt}, impl.Task{Id: 1, Prio: math.MinInt}) {
		wantBytes(t, fmt.Sprintf("the invalid %+v", task), impl.TaskBytes(task))
	}
}

// One field is not valid. In the greatest task every number is at its limit: one
// more is too great, or not greater than the one before it.
func TestTaskReadOfInvalidTasks(t *testing.T) {
	for _, good := range []impl.Task{goodTask(), {Id: 1}, greatestTask()} {
		for _, task := range invalidTasks(good) {
			data := taskBytesRule(task)
			wantNoTask(t, "an invalid task", data, 0)
			wantNoTask(t, "an invalid task with bytes behind it", append(data, make([]byte, 40)...), 0)
		}
	}
	data := taskNums(greatestTask())
	for at, n := range data {
		for _, to := range []int{n + 1, most + 1, greatest, greatest + 1} {
			wantNoTask(t, fmt.Sprint(to, " at the place ", at), numsRule(changed(data, at, to)...), 0)
		}
	}
}

func TestTaskReadOfWrongLengths(t *testing.T) {
	task := numsRule(1, 0, 0, 0, 0)
	labs, tols := []int{0, 1, 1, 1, 2, 1, 3, 1, 4, 1, 5, 1, 6, 1, 7, 1}, []int{0, 1, 2, 3, 4, 5, 6, 7, 8, 9}
	for _, number := range []int{7, 8, 10, 127, 128, 255, 256, 65536, 1 << 31, greatest, greatest + 1} {
		wantNoTask(t, "too many labels", slices.Concat(task, numsRule(number), numsRule(labs...), numsRule(tols...)), 0)
		wantNoTask(t, "too many labels and nothing behind", slices.Concat(task, numsRule(number)), 0)
		wantNoTask(t, "too many labels and much behind", slices.Concat(task, numsRule(number), make([]byte, 5000)), 0)
		wantNoTask(t, "too many Tols", slices.Concat(task, numsRule(0, number), numsRule(tols...)), 0)
		wantNoTask(t, "too many Tols and nothing behind", slices.Concat(task, numsRule(0, number)), 0)
		wantNoTask(t, "too many Tols and much behind", slices.Concat(task, numsRule(0, number), make([]byte, 5000)), 0)
	}
	for number := range 7 {
		data := slices.Concat(task, numsRule(number), numsRule(labs[:2*number]...))
		for others := range 7 {
			want := impl.Task{Id: 1, Tols: tols[:others]}
			for key := range number {
				want.Want = append(want.Want, impl.Lab{Key: key, Val: 1})
			}
			whole := slices.Concat(data, numsRule(others), numsRule(tols[:others]...))
			wantTask(t, whole, 0, want, len(whole))
			// Less of them than their number says.
			for missing := range others {
				wantNoTask(t, "missing Tols", slices.Concat(data, numsRule(others), numsRule(tols[:missing]...)), 0)
			}
		}
		for missing := range 2 * number {
			wantNoTask(t, "missing labels", slices.Concat(task, numsRule(number), numsRule(labs[:missing]...)), 0)
		}
	}
}

// A number in one byte more than it needs is not read at any place.
func TestTaskReadOfLongerEncodings(t *testing.T) {
	for _, task := range bytesOfTasks() {
		nums := taskNums(task)
		for at, n := range nums {
			longer := numsRule(n)
			longer[len(longer)-1] |= 128
			wantNoTask(t, "a longer encoding", slices.Concat(numsRule(nums[:at]...), append(longer, 0), numsRule(nums[at+1:]...)), 0)
		}
	}
}

// bytesOfEvents are events of each kind, with their fields at the limits.
func bytesOfEvents() map[string]impl.Event {
	out := map[string]impl.Event{
		"\x01\x00\x01\x00": tick(1), "\x01\x00\x80\x01\x00": tick(128), "\x01\x00\xe8\x07\x00": tick(1000),
		"\x02\x01\x00\x00": tryOf(1), "\x02\x04\x00\x00": tryOf(4),
		"\x03\x01\x00\x00": crashOf(1), "\x03\x04\x00\x00": crashOf(4),
		"\x05\x00\x01\x00": cancel(1), "\x05\x00\x63\x00": cancel(99),
		"\x06\x01\x00\x00": stepBy(1), "\x06\x04\x00\x00": stepBy(4),
		"\x07\x00\x00\x00": deliver(0, false, false), "\x07\x00\x27\x01": deliver(39, true, false),
		"\x07\x00\x27\x02": deliver(39, false, true), "\x07\x00\x00\x03": deliver(0, true, true),
		"\x08\x00\x00\x00": loseOf(0), "\x08\x00\x27\x00": loseOf(39),
		"\x09\x00\x01\x00": failOf(1), "\x09\x00\x63\x00": failOf(99),
	}
	for data, task := range bytesOfTasks() {
		out["\x04\x00\x00\x00"+data] = newTask(task)
	}
	return out
}

func TestEventBytes(t *testing.T) {
	kinds := cases{}
	for data, e := range bytesOfEvents() {
		wantBytes(t, fmt.Sprintf("%+v", e), impl.EventBytes(e), []byte(data)...)
		wantEvent(t, []byte(data), e)
		kinds[fmt.Sprint(e.Kind)]++
		for length := range data {
			wantNoEvent(t, "cut short", []byte(data[:length]))
		}
		for b := range 256 {
			wantNoEvent(t, "a byte behind it", append([]byte(data), byte(b)))
		}
		wantNoEvent(t, "bytes before it", append([]byte{0}, data...))
		wantNoEvent(t, "twice", append([]byte(data), data...))
		wantNoEvent(t, "much behind it", append([]byte(data), make([]byte, 100000)...))
		e.Task.Want, e.Task.Tols = append([]impl.Lab{}, e.Task.Want...), append([]int{}, e.Task.Tols...)
		wantBytes(t, "with empty lists", impl.EventBytes(e), []byte(data)...)
	}
	wantInt(t, "the number of kinds", len(kinds), 9)
	for _, e := range invalidEvents() {
		wantBytes(t, fmt.Sprintf("the invalid %+v", e), impl.EventBytes(e))
	}
	wantBytes(t, "the zero value", impl.EventBytes(impl.Event{}))
}

// Every Kind and every byte of flags, with what a Who or an N may be, and with a
// task's bytes and without.
func TestEventReadOfEveryKind(t *testing.T) {
	read := cases{}
	task := goodTask()
	for kind := range 256 {
		for flags := range 256 {
			if flags > 5 && kind != impl.EvTick && kind != impl.EvMsg && flags != 128 && flags != 255 {
				continue
			}
			for _, who := range []int{0, 1, 4, 5, 128, greatest} {
				for _, n := range []int{0, 1, 39, 40, 99, 100, 1000, 1001, greatest} {
					e := impl.Event{Kind: kind, Who: who, N: n, Works: flags&1 > 0, Keep: flags&2 > 0}
					data := slices.Concat([]byte{byte(kind)}, numsRule(who, n), []byte{byte(flags)})
					wantEventIf(t, data, e, flags < 4 && isEvent(e), read)
					if data = append(data, taskBytesRule(task)...); kind == impl.EvTask {
						e.Task = task
					}
					wantEventIf(t, data, e, kind == impl.EvTask && flags < 4 && isEvent(e), read)
				}
			}
		}
	}
	wantInt(t, "the number of kinds that are read", len(read), 9)
}

func wantEventIf(t *testing.T, data []byte, e impl.Event, ok bool, read cases) {
	t.Helper()
	if !ok {
		wantNoEvent(t, "not valid", data)
		return
	}
	wantEvent(t, data, e)
	read[fmt.Sprint(e.Kind)]++
}

// An event that is not valid is not read from what its bytes would be. Those of a
// task that its kind does not use would be behind it.
func TestEventReadOfInvalidEvents(t *testing.T) {
	for _, e := range invalidEvents() {
		data := eventBytesRule(e)
		if e.Kind != impl.EvTask {
			data = append(data, taskBytesRule(e.Task)...)
		}
		wantNoEvent(t, fmt.Sprintf("%+v", e), data)
	}
	for _, task := range append(invalidTasks(goodTask()), impl.Task{}) {
		wantNoEvent(t, "an invalid task", slices.Concat([]byte{impl.EvTask, 0, 0, 0}, taskBytesRule(task)))
	}
	for _, data := range [][]byte{{1, 128, 0, 5, 0}, {1, 0, 133, 0, 0}, {2, 129, 0, 0, 0}, {2, 1, 128, 0, 0}, {129, 0, 0, 5, 0}, {7, 0, 2, 129, 0}} {
		wantNoEvent(t, "a longer encoding", data)
	}
}

func TestJournalOf(t *testing.T) {
	wantBytes(t, "no events", journalOf(t))
	wantBytes(t, "an empty list", journalOf(t, []impl.Event{}...))
	wantBytes(t, "one event", journalOf(t, tick(1000)), 5, 1, 0, 0xe8, 7, 0, 240)
	all := inOrder(bytesOfEvents())
	var want []byte
	for _, e := range all {
		one := journalOf(t, e)
		wantBytes(t, fmt.Sprintf("%+v", e), one, recordRule(impl.EventBytes(e))...)
		want = append(want, one...)
	}
	data := journalOf(t, all...)
	wantBytes(t, "all events", data, want...)
	wantRead(t, "all events", data, len(data), all...)
	for _, bad := range invalidEvents() {
		for _, at := range []int{0, len(all) / 2, len(all) - 1} {
			wantNoJournal(t, fmt.Sprintf("%+v at %d", bad, at), changed(all, at, bad))
		}
		wantNoJournal(t, fmt.Sprintf("%+v alone", bad), []impl.Event{bad})
	}
}

func wantNoJournal(t *testing.T, what string, list []impl.Event) {
	t.Helper()
	if data, ok := impl.JournalOf(list); ok || len(data) > 0 {
		t.Errorf("%s: JournalOf is %v, %v", what, few(data), ok)
	}
}

func TestJournalsUpToMaxEvents(t *testing.T) {
	for _, e := range []impl.Event{tick(5), newTask(greatestTask())} {
		many := slices.Repeat([]impl.Event{e}, impl.MaxEvents+2)
		for _, number := range []int{impl.MaxEvents - 1, impl.MaxEvents} {
			data := journalOf(t, many[:number]...)
			wantBytes(t, "many events", data, bytes.Repeat(journalOf(t, e), number)...)
			wantRead(t, "many events", data, len(data), many[:number]...)
		}
		wantNoJournal(t, "an event too many", many[:impl.MaxEvents+1])
		wantNoJournal(t, "two events too many", many)
		one := journalOf(t, e)
		for _, number := range []int{impl.MaxEvents + 1, impl.MaxEvents + 2, 2000} {
			data := bytes.Repeat(one, number)
			wantRead(t, "records too many", data, impl.MaxEvents*len(one), many[:impl.MaxEvents]...)
			wantCut(t, "records too many", busyWorld(), data, many[:impl.MaxEvents]...)
		}
	}
	wantNoJournal(t, "many events that are not valid", make([]impl.Event, impl.MaxEvents+1))
}

// brokenRecords are no intact records, each with what is broken.
func brokenRecords() map[string][]byte {
	out := map[string][]byte{
		"the length 0":                    {0},
		"the length 0 with its sum":       {0, 0},
		"the length 0 with another sum":   {0, 4},
		"a length and nothing behind":     {4},
		"the greatest length":             {255, 1, 0, 5, 0, 6},
		"the greatest length and more":    append([]byte{255}, make([]byte, 255)...),
		"a length that is one too great":  {5, 1, 0, 5, 0, 6},
		"a length that is one too small":  {3, 1, 0, 5, 0, 6},
		"another length with a right sum": {3, 1, 0, 5, 6},
		"a sum that is one more":          {4, 1, 0, 5, 0, 7},
		"a sum that is one less":          {4, 1, 0, 5, 0, 5},
		"a sum with the length":           {4, 1, 0, 5, 0, 10},
		"another byte":                    {4, 1, 0, 4, 0, 6},
		"no sum":                          {4, 1, 0, 5, 0},
		"an event's bytes alone":          {1, 0, 5, 0},
	}
	for what, body := range map[string][]byte{
		"no kind": {0, 0, 0, 0}, "the kind 10": {10, 0, 0, 0}, "the kind 255": {255, 0, 0, 0}, "a tick of 0": {1, 0, 0, 0}, "a tick of 1001": {1, 0, 0xe9, 7, 0},
		"flags": {1, 0, 5, 1}, "the flags 4": {7, 0, 2, 4}, "a Who": {1, 1, 5, 0}, "an N": {2, 1, 1, 0}, "a longer encoding": {1, 0, 133, 0, 0},
		"an event cut short": {1, 0, 5}, "an event and a byte": {1, 0, 5, 0, 0}, "two events": {1, 0, 5, 0, 1, 0, 5, 0}, "no task": {4, 0, 0, 0},
		"an invalid task": {4, 0, 0, 0, 0, 0, 0, 0, 0, 0, 0}, "a task cut short": {4, 0, 0, 0, 1, 0, 0, 0, 0, 0}, "one byte": {1},
		"a task behind another kind": {1, 0, 5, 0, 1, 0, 0, 0, 0, 0, 0}, "much": make([]byte, 255), "much behind an event": append([]byte{1, 0, 5, 0}, make([]byte, 251)...),
	} {
		out[what+", with the right sum"] = recordRule(body)
	}
	return out
}

func TestJournalReadOfBrokenRecords(t *testing.T) {
	first, second := []impl.Event{deliver(2, true, false), newTask(goodTask())}, []impl.Event{tick(5), stepBy(1), loseOf(0)}
	intact, more := journalOf(t, first...), journalOf(t, second...)
	worlds := []impl.World{busyWorld(), emptyWorld()}
	for what, broken := range brokenRecords() {
		wantRead(t, what+" alone", broken, 0)
		data := slices.Concat(intact, broken)
		wantRead(t, what+" behind intact records", data, len(intact), first...)
		for _, w := range worlds {
			wantCut(t, what+" alone", w, broken)
			wantCut(t, what+" behind intact records", w, data, first...)
		}
		// A length that is too great may have a part of what follows as its record.
		wantJournalRule(t, slices.Concat(broken, more))
		wantJournalRule(t, slices.Concat(data, more))
		if len(broken) > 0 && int(broken[0])+2 == len(broken) {
			wantRead(t, what+" before intact records", slices.Concat(broken, more), 0)
			wantRead(t, what+" between intact records", slices.Concat(data, more), len(intact), first...)
		}
	}
	for _, data := range [][]byte{nil, {}} {
		wantRead(t, "empty data", data, 0)
		for _, w := range worlds {
			wantCut(t, "empty data", w, data)
		}
	}
	wantRead(t, "intact records", slices.Concat(intact, more), len(intact)+len(more), slices.Concat(first, second)...)
}

// What is behind the last intact record is neither read nor counted.
func TestJournalReadWithMoreBehind(t *testing.T) {
	list := []impl.Event{tick(5), tryOf(1)}
	intact := journalOf(t, list...)
	for b := range 256 {
		wantRead(t, "a byte behind", append(slices.Clone(intact), byte(b)), len(intact), list...)
	}
	for _, length := range []int{1, 2, 255, 256, 100000} {
		for _, b := range []byte{0, 1, 4, 255} {
			data := append(slices.Clone(intact), bytes.Repeat([]byte{b}, length)...)
			wantRead(t, "bytes behind", data, len(intact), list...)
			wantCut(t, "bytes behind", busyWorld(), data, list...)
		}
	}
}

func TestWorldCut(t *testing.T) {
	list := eventsOfAllKinds()
	valid := slices.DeleteFunc(slices.Clone(list), func(e impl.Event) bool { return !isEvent(e) })
	wantInt(t, "the number of valid events", len(valid), len(list))
	data := journalOf(t, list...)
	broken := slices.Clone(data)
	broken[len(broken)-1]++
	for _, w := range append(validWorlds(), restingWorld()) {
		wantCut(t, "all kinds", w, data, list...)
		wantCut(t, "all kinds and a broken record", w, broken, list[:len(list)-1]...)
		wantCut(t, "nothing intact", w, data[1:])
	}
	many := bytes.Repeat(data, impl.MaxEvents/len(list)+2)
	events := slices.Repeat(list, impl.MaxEvents/len(list)+2)[:impl.MaxEvents]
	wantCut(t, "more than MaxEvents records", busyWorld(), many, events...)
	for what, w := range brokenWorlds() {
		for _, data := range [][]byte{nil, {}, data, broken, data[1:], data[:5], many} {
			wantNoCut(t, what, w, data)
		}
	}
}

// readings are all results for the same bytes, offset and world.
type readings struct {
	Num, NumNext   int
	Task           impl.Task
	TaskNext       int
	Event          impl.Event
	Events         []impl.Event
	Consumed       int
	World          impl.World
	Number         int
	NumOk, TaskOk  bool
	EventOk, CutOk bool
}

func readingsOf(w impl.World, data []byte, at int) readings {
	out := readings{}
	out.Num, out.NumNext, out.NumOk = impl.NumRead(data, at)
	out.Task, out.TaskNext, out.TaskOk = impl.TaskRead(data, at)
	out.Event, out.EventOk = impl.EventRead(data)
	out.Events, out.Consumed = impl.JournalRead(data)
	out.World, out.Number, out.CutOk = impl.WorldCut(w, data)
	return out
}

// dataWithMore returns data with what could follow it, to be read if one went
// beyond its end.
func dataWithMore(t *testing.T) map[string][]byte {
	task := goodTask()
	out := map[string][]byte{"\x80": {1}, "\xff\xff": {127}, "": journalOf(t, tick(5)), "\x07": {0, 2, 1}}
	for _, list := range [][]byte{impl.TaskBytes(task), impl.EventBytes(newTask(task)), impl.EventBytes(tick(5)), journalOf(t, newTask(task), tick(5), newTask(greatestTask()))} {
		for length := range len(list) + 1 {
			out[string(list[:length])] = append(slices.Clone(list[length:]), list...)
		}
	}
	return out
}

func TestReadingsChangeNoArgumentAndShareNoMemory(t *testing.T) {
	for text, more := range dataWithMore(t) {
		for _, w := range []impl.World{busyWorld(), emptyWorld(), {}} {
			data := append([]byte(text), more...)[:len(text)]
			given := spaciousWorld(w)
			before := wholeText(reflect.ValueOf(given)) + wholeText(reflect.ValueOf(data))
			for at := range len(text) + 1 {
				got := readingsOf(given, data, at)
				wantOwnMemory(t, "what is read", got, given, data, readingsOf(given, data, at))
				if want := readingsOf(w, slices.Clip([]byte(text)), at); fmt.Sprintf("%+v", got) != fmt.Sprintf("%+v", want) {
					t.Errorf("with more behind %v at %d the results are %+v, and without %+v", data, at, got, want)
				}
			}
			if now := wholeText(reflect.ValueOf(given)) + wholeText(reflect.ValueOf(data)); now != before {
				t.Fatalf("%s was changed to %s", before, now)
			}
		}
		if t.Failed() {
			return
		}
	}
}

// A task in a result belongs to it alone, also if there are several.
func TestReadTasksShareNoMemory(t *testing.T) {
	list := slices.Repeat([]impl.Event{newTask(goodTask())}, 3)
	got, _ := impl.JournalRead(journalOf(t, list...))
	wantOwnMemory(t, "the events of a journal", got, list)
	slices.Reverse(got[0].Task.Tols)
	got[1].Task.Want[0].Key = 9
	if !sameTask(got[2].Task, goodTask()) || got[1].Task.Tols[0] != 1 || got[0].Task.Want[0].Key != 0 {
		t.Errorf("a change of one task was seen in another: %+v", got)
	}
}

type written struct{ Num, Task, Event, Journal []byte }

func writtenOf(n int, task impl.Task, list []impl.Event) written {
	out := written{Num: impl.NumBytes(n), Task: impl.TaskBytes(task), Event: impl.EventBytes(newTask(task))}
	out.Journal, _ = impl.JournalOf(list)
	return out
}

func TestBytesChangeNoArgumentAndShareNoMemory(t *testing.T) {
	for _, task := range append(inOrder(bytesOfTasks()), invalidTasks(goodTask())...) {
		given := spaciousTask(task)
		list := append([]impl.Event{tick(5), newTask(given), tick(6)}, newTask(impl.Task{Id: -7}))[:3]
		before := wholeText(reflect.ValueOf(given)) + wholeText(reflect.ValueOf(list))
		got := writtenOf(task.Need.Cpu, given, list)
		wantOwnMemory(t, "what is written", got, given, list, writtenOf(task.Need.Cpu, given, list))
		want := writtenOf(task.Need.Cpu, task, []impl.Event{tick(5), newTask(task), tick(6)})
		if fmt.Sprint(got) != fmt.Sprint(want) {
			t.Errorf("with more behind the lists of %+v the bytes are %v, and without %v", task, got, want)
		}
		if now := wholeText(reflect.ValueOf(given)) + wholeText(reflect.ValueOf(list)); now != before {
			t.Fatalf("%s was changed to %s", before, now)
		}
	}
}

// Each result can be changed without an effect on the next one.
func TestBytesAreNew(t *testing.T) {
	for range 2 {
		got := writtenOf(300, goodTask(), []impl.Event{tick(5)})
		wantBytes(t, "300", got.Num, 172, 2)
		wantBytes(t, "a task", got.Task, taskBytesRule(goodTask())...)
		wantBytes(t, "an event", got.Event, eventBytesRule(newTask(goodTask()))...)
		wantBytes(t, "a journal", got.Journal, 4, 1, 0, 5, 0, 6)
		for _, data := range [][]byte{got.Num, got.Task, got.Event, got.Journal} {
			clear(data[:cap(data)])
		}
	}
}
