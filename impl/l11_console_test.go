package impl

import (
	"slices"
	"strings"
	"testing"
)

func TestPartsOf(t *testing.T) {
	for _, c := range []struct {
		s       string
		between rune
		want    []string
	}{
		{"", ' ', []string{""}},
		{" ", ' ', []string{"", ""}},
		{"a", ' ', []string{"a"}},
		{"ab  c ", ' ', []string{"ab", "", "c", ""}},
		{" a\nb", ' ', []string{"", "a\nb"}},
		{" a\nb\n", '\n', []string{" a", "b", ""}},
		{"\u00e9 \u4e16\u754c \U0001f600", ' ', []string{"\u00e9", "\u4e16\u754c", "\U0001f600"}},
		{"\xff \xe4\xb8 \x80", ' ', []string{"\xff", "\xe4\xb8", "\x80"}},
		{"\u00a0\u2003", ' ', []string{"\u00a0\u2003"}},
	} {
		if got := partsOf(c.s, c.between); !slices.Equal(got, c.want) {
			t.Errorf("the parts of %q at %q are %q, want %q", c.s, c.between, got, c.want)
		}
	}
}

func TestWordsAdd(t *testing.T) {
	var w words
	if got := w.text(); got != "" {
		t.Errorf("the text of no words is %q", got)
	}
	w.add("a")
	w.add("b", -1)
	w.add("c", 0, 20, 3)
	if got := w.text(); got != "a b -1 c 0 20 3" {
		t.Errorf("the text is %q", got)
	}
}

func TestWordsThatAreMissing(t *testing.T) {
	w := words{"deliver", "x", "18446744073709551617"}
	if w.word(0) != "deliver" || w.word(3) != "" || w.number(1) != 0 || w.number(3) != 0 {
		t.Errorf("%q has the words %q, %q and the numbers %d, %d", w, w.word(0), w.word(3), w.number(1), w.number(3))
	}
	// What is read may be a valid event, with another text.
	for _, w := range []words{{"tick"}, {"task"}, {"task", "1", "2", "3"}, {"task", "1", "0", "0", "0", "0", "5"}} {
		if e := w.event(); EventText(e) == w.text() {
			t.Errorf("%q is read as the event %+v of that text", w, e)
		}
	}
}

// An event with more words would not be read.
func TestMaxWordsAreThoseOfTheLongestText(t *testing.T) {
	task := Task{Id: MaxId, Prio: 9, Need: Res{MaxAmount, MaxAmount, MaxAmount}}
	for mark := range MaxMarks {
		task.Want, task.Tols = append(task.Want, Lab{mark, 9}), append(task.Tols, mark)
	}
	text := EventText(Event{Kind: EvTask, Task: task})
	if got := len(strings.Split(text, " ")); got != maxWords {
		t.Errorf("%q has %d words, want %d", text, got, maxWords)
	}
}

func TestNamesOfKinds(t *testing.T) {
	for kind := EvTick; kind <= EvFail; kind++ {
		if name := eventNames[kind]; name == "" || kindOf(name) != kind {
			t.Errorf("the kind %d has the name %q, which is that of the kind %d", kind, name, kindOf(name))
		}
	}
	for _, name := range []string{"", "Tick", "wait"} {
		if kind := kindOf(name); kind != 0 {
			t.Errorf("%q is the name of the kind %d", name, kind)
		}
	}
}
