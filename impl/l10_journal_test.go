package impl

import (
	"errors"
	"testing"
)

// panicOf returns the error of a panic, or nil if there is none.
func panicOf(do func()) (err error) {
	defer func() { err, _ = recover().(error) }()
	do()
	return nil
}

// What cannot be read is a panic that says why.
func TestReadersPanic(t *testing.T) {
	task := func(d *decoder) { d.task() }
	number := func(d *decoder) { d.number() }
	for _, c := range []struct {
		what string
		data []byte
		at   int
		read func(d *decoder)
		want error
	}{
		{"a byte", []byte{1}, 0, func(d *decoder) { d.octet() }, nil},
		{"a byte behind the data", []byte{1}, 1, func(d *decoder) { d.octet() }, errEnds},
		{"a byte before the data", []byte{1}, -1, func(d *decoder) { d.octet() }, errEnds},
		{"a part", []byte{1, 2}, 0, func(d *decoder) { d.take(2) }, nil},
		{"no part at the end", []byte{1, 2}, 2, func(d *decoder) { d.take(0) }, nil},
		{"no part behind the end", []byte{1, 2}, 3, func(d *decoder) { d.take(0) }, errEnds},
		{"too long a part", []byte{1, 2}, 0, func(d *decoder) { d.take(3) }, errEnds},
		{"an integer", []byte{128, 1}, 0, number, nil},
		{"an integer that ends with the data", []byte{128}, 0, number, errEnds},
		{"too long an integer", []byte{128, 0}, 0, number, errNum},
		{"too great an integer", []byte{255, 255, 255, 255, 16}, 0, number, errNum},
		{"an integer of many bytes", []byte{129, 129, 129, 129, 129, 1}, 0, number, errNum},
		{"a length", []byte{5}, 0, func(d *decoder) { d.count(5) }, nil},
		{"too great a length", []byte{5}, 0, func(d *decoder) { d.count(4) }, errValue},
		{"a task", []byte{1, 0, 0, 0, 0, 0, 0}, 0, task, nil},
		{"a task of the Id 0", []byte{0, 0, 0, 0, 0, 0, 0}, 0, task, errValue},
		{"a task with too many labels", []byte{1, 0, 0, 0, 0, 7}, 0, task, errValue},
		{"a task with labels that are missing", []byte{1, 0, 0, 0, 0, 6}, 0, task, errEnds},
		{"an event with flags", []byte{1, 0, 1, 4}, 0, func(d *decoder) { d.event() }, errValue},
		{"an event without a task", []byte{4, 0, 0, 0}, 0, func(d *decoder) { d.event() }, errEnds},
		{"an event of no kind", []byte{10, 0, 0, 0}, 0, func(d *decoder) { d.event() }, errValue},
		{"a record", []byte{4, 1, 0, 1, 0, 2}, 0, func(d *decoder) { d.record() }, nil},
		{"a record with a wrong sum", []byte{4, 1, 0, 1, 0, 3}, 0, func(d *decoder) { d.record() }, errValue},
		{"a record without its sum", []byte{4, 1, 0, 1, 0}, 0, func(d *decoder) { d.record() }, errEnds},
		{"an empty record", []byte{0, 0}, 0, func(d *decoder) { d.record() }, errValue},
	} {
		got := panicOf(func() { c.read(&decoder{reader{c.data, c.at}}) })
		if (got == nil) != (c.want == nil) || got != nil && !errors.Is(got, c.want) {
			t.Errorf("%s: the panic is %v, want %v", c.what, got, c.want)
		}
	}
}

// The methods of the reader move the decoder that it is in.
func TestDecoderMovesItsReader(t *testing.T) {
	d := decoder{reader{[]byte{9, 172, 2, 1, 0, 0, 0, 0, 0, 0, 7}, 1}}
	if n := d.number(); n != 300 || d.at != 3 {
		t.Errorf("the integer is %d, and then the offset is %d", n, d.at)
	}
	if task := d.task(); task.Id != 1 || d.at != 10 {
		t.Errorf("the task is %+v, and then the offset is %d", task, d.at)
	}
	if b := d.octet(); b != 7 || d.at != 11 {
		t.Errorf("the byte is %d, and then the offset is %d", b, d.at)
	}
}

// Also a panic that is no error of a reader is recovered, and nothing is left of
// what was read before it.
func TestDecodeRecoversEveryPanic(t *testing.T) {
	for what, read := range map[string]func(d *decoder) []int{
		"an error":            func(d *decoder) []int { d.number(); panic(errValue) },
		"a value":             func(d *decoder) []int { d.number(); panic("not an error") },
		"an index":            func(d *decoder) []int { return []int{[]int{}[d.number()]} },
		"the end of the data": func(d *decoder) []int { return []int{d.number(), d.number(), d.number()} },
	} {
		if got, next, ok := decode([]byte{1, 2}, 0, read); got != nil || next != 0 || ok {
			t.Errorf("with a panic by %s decode returns %v, %d, %v", what, got, next, ok)
		}
	}
	got, next, ok := decode([]byte{1, 2, 3}, 1, func(d *decoder) []int { return []int{d.number(), d.number()} })
	if len(got) != 2 || got[0] != 2 || got[1] != 3 || next != 3 || !ok {
		t.Errorf("without a panic decode returns %v, %d, %v", got, next, ok)
	}
}

func TestSumWrapsAround(t *testing.T) {
	for _, c := range []struct {
		list []byte
		want byte
	}{
		{nil, 0}, {[]byte{7}, 7}, {[]byte{200, 55}, 255}, {[]byte{200, 56}, 0}, {[]byte{255, 255, 255}, 253},
	} {
		if got := sumOf(c.list); got != c.want {
			t.Errorf("the sum of %v is %d, want %d", c.list, got, c.want)
		}
	}
}
