package tests

import (
	"fmt"
	"math"
	"reflect"
	"regexp"
	"slices"
	"strings"
	"testing"

	"loop.example/g00718/impl"
)

// short is the beginning of a text, for a message.
func short(s string) string { return s[:min(len(s), 200)] }

func wantText(t *testing.T, what string, got string, want string) {
	t.Helper()
	if got != want {
		t.Errorf("%s: the text is %q, want %q", what, short(got), short(want))
	}
}

func wantEventText(t *testing.T, s string, want impl.Event) {
	t.Helper()
	if got, ok := impl.EventTextRead(s); !ok || !sameEvent(got, want) {
		t.Errorf("EventTextRead of %q is %+v, %v, want %+v", short(s), got, ok, want)
	}
	wantText(t, fmt.Sprintf("EventText of %+v", want), impl.EventText(want), s)
}

func wantNoEventText(t *testing.T, what string, s string) {
	t.Helper()
	if got, ok := impl.EventTextRead(s); ok || !sameEvent(got, impl.Event{}) {
		t.Errorf("%s: EventTextRead of %q is %+v, %v", what, short(s), got, ok)
	}
}

func TestConsoleExamples(t *testing.T) {
	wantEventText(t, "task 3 1 300 2 1 4=1 !5", newTask(impl.Task{Id: 3, Prio: 1, Need: amounts(300, 2, 1), Want: []impl.Lab{{Key: 4, Val: 1}}, Tols: []int{5}}))
	wantText(t, "DidGrow of 7", impl.ToldText(impl.Told{Did: impl.DidGrow, Id: 7}), "0 8 7")
	w, _ := impl.WorldNew([]impl.Pool{poolOf(0, 0, 2, 4)}, impl.ByTasks, 300, 20)
	wantText(t, "a new world", impl.WorldText(w), "now 0 lead 0 msgs 0")
	for script, want := range map[string]string{
		"try 1\ntask 1 0 3 3 1\nstep 1\nstep 1":                                                            "0\n0\n0 8 1\n0 6 1\nnow 0 lead 1 want 1 msgs 1",
		"try 1\ntask 1 0 3 3 1\nstep 1\nstep 1\ndeliver 0 works\nstep 1\nstep 1\ntick 2":                   "0\n0\n0 8 1\n0 6 1\n0\n0 1 1\n0 5 0\n0\nnow 2 lead 1 node 1 0 1@1 msgs 0",
		"try 1\ntask 1 0 3 3 1\nstep 1\nstep 1\ndeliver 0 works\nstep 1\nstep 1\ncancel 1\nstep 1\nstep 2": "0\n0\n0 8 1\n0 6 1\n0\n0 1 1\n0 5 0\n0\n0 9 1\n3\nnow 0 lead 1 node 1 0 cordoned end 1 msgs 0",
	} {
		wantText(t, script, impl.Console(w, script), want)
	}
}

// textsOfTasks are valid tasks with the texts of their events.
func textsOfTasks() map[string]impl.Task {
	return map[string]impl.Task{
		"task 1 0 0 0 0":                           {Id: 1},
		"task 99 9 0 0 1":                          {Id: 99, Prio: 9, Need: amounts(0, 0, 1)},
		"task 10 5 1000000 0 0":                    {Id: 10, Prio: 5, Need: amounts(most, 0, 0)},
		"task 2 0 0 1000000 20":                    {Id: 2, Need: amounts(0, most, 20)},
		"task 2 0 1 2 1000000":                     {Id: 2, Need: amounts(1, 2, most)},
		"task 2 0 1 2 3 0=0":                       {Id: 2, Need: amounts(1, 2, 3), Want: []impl.Lab{{Key: 0, Val: 0}}},
		"task 2 0 1 2 3 9=9":                       {Id: 2, Need: amounts(1, 2, 3), Want: []impl.Lab{{Key: 9, Val: 9}}},
		"task 2 0 1 2 3 !0":                        {Id: 2, Need: amounts(1, 2, 3), Tols: []int{0}},
		"task 2 0 1 2 3 !9":                        {Id: 2, Need: amounts(1, 2, 3), Tols: []int{9}},
		"task 3 1 300 2 1 4=1 !5":                  {Id: 3, Prio: 1, Need: amounts(300, 2, 1), Want: []impl.Lab{{Key: 4, Val: 1}}, Tols: []int{5}},
		"task 41 7 300 127 16384 0=9 4=0 !1 !8 !9": goodTask(),
		"task 5 0 0 0 0 0=1 1=0 2=9 3=0 4=5 9=0":   {Id: 5, Want: []impl.Lab{{Key: 0, Val: 1}, {Key: 1, Val: 0}, {Key: 2, Val: 9}, {Key: 3, Val: 0}, {Key: 4, Val: 5}, {Key: 9, Val: 0}}},
		"task 5 0 0 0 0 !0 !1 !2 !3 !4 !9":         {Id: 5, Tols: []int{0, 1, 2, 3, 4, 9}},
		"task 99 9 1000000 1000000 1000000 4=9 5=9 6=9 7=9 8=9 9=9" + sixTols: greatestTask(),
	}
}

const sixTols = " !4 !5 !6 !7 !8 !9"

// textsOfEvents are events of each kind, with their fields at the limits.
func textsOfEvents() map[string]impl.Event {
	out := map[string]impl.Event{
		"tick 1": tick(1), "tick 10": tick(10), "tick 999": tick(999), "tick 1000": tick(1000),
		"try 1": tryOf(1), "try 4": tryOf(4), "crash 1": crashOf(1), "crash 4": crashOf(4), "step 1": stepBy(1), "step 4": stepBy(4),
		"cancel 1": cancel(1), "cancel 99": cancel(99), "fail 1": failOf(1), "fail 99": failOf(99), "lose 0": loseOf(0), "lose 39": loseOf(39),
		"deliver 0": deliver(0, false, false), "deliver 39": deliver(39, false, false), "deliver 0 works": deliver(0, true, false), "deliver 39 works": deliver(39, true, false),
		"deliver 0 keep": deliver(0, false, true), "deliver 39 keep": deliver(39, false, true), "deliver 0 works keep": deliver(0, true, true), "deliver 39 works keep": deliver(39, true, true),
	}
	for text, task := range textsOfTasks() {
		out[text] = newTask(task)
	}
	return out
}

func TestEventTexts(t *testing.T) {
	kinds := cases{}
	for text, e := range textsOfEvents() {
		wantEventText(t, text, e)
		kinds[fmt.Sprint(e.Kind)]++
		e.Task.Want, e.Task.Tols = append([]impl.Lab{}, e.Task.Want...), append([]int{}, e.Task.Tols...)
		wantText(t, "with empty lists", impl.EventText(e), text)
		for length := range text {
			wantTextRule(t, text[:length])
			wantTextRule(t, text[length+1:])
		}
	}
	wantInt(t, "the number of kinds", len(kinds), 9)
}

func TestEventTextOfInvalidEvents(t *testing.T) {
	all := append(invalidEvents(), impl.Event{})
	for _, task := range append(invalidTasks(goodTask()), impl.Task{}, impl.Task{Id: -1}, impl.Task{Id: math.MaxInt}, impl.Task{Id: 1, Prio: math.MinInt}) {
		all = append(all, newTask(task))
	}
	// A field that the kind does not use.
	for _, e := range textsOfEvents() {
		for _, n := range []int{1, -1, math.MinInt, math.MaxInt} {
			all = append(all, exchanged([]impl.Event{e}, 0, func(e *impl.Event) { e.Who += n })[0], exchanged([]impl.Event{e}, 0, func(e *impl.Event) { e.N += n })[0])
		}
		e.Works = e.Kind != impl.EvMsg
		all = append(all, e)
		e.Works, e.Keep = false, e.Kind != impl.EvMsg
		all = append(all, e)
		if e.Keep = false; e.Kind != impl.EvTask {
			e.Task = goodTask()
			all = append(all, e)
		}
	}
	seen := cases{}
	for _, e := range all {
		if !isEvent(e) {
			wantText(t, fmt.Sprintf("EventText of the invalid %+v", e), impl.EventText(e), "")
			// Its text would be that of a valid one if the field is not in it.
			seen[wantTextRule(t, eventTextRule(e))]++
		}
	}
	seen.want(t, "an event", "no event")
}

// The integers of each kind just beyond their limits.
func TestEventTextReadBeyondTheLimits(t *testing.T) {
	for _, s := range []string{
		"tick 0", "tick 1001", "try 0", "try 5", "crash 0", "crash 5", "step 0", "step 5", "cancel 0", "cancel 100", "fail 0", "fail 100", "lose 40", "deliver 40",
		"deliver 40 works", "deliver 40 keep", "deliver 40 works keep", "task 0 0 0 0 0", "task 100 0 0 0 0", "task 1 10 0 0 0", "task 1 0 1000001 0 0",
		"task 1 0 0 1000001 0", "task 1 0 0 0 1000001", "task 1 0 0 0 0 10=0", "task 1 0 0 0 0 0=10", "task 1 0 0 0 0 !10", "task 1 0 0 0 0 1=1 !10",
	} {
		wantNoEventText(t, "beyond a limit", s)
	}
}

var digits = regexp.MustCompile(`[0-9]+`)

// withNumbers calls do with each of the texts cut in three at each of its numbers.
func withNumbers(t *testing.T, do func(before string, number string, behind string)) {
	t.Helper()
	places := 0
	for text := range textsOfEvents() {
		for _, at := range digits.FindAllStringIndex(text, -1) {
			do(text[:at[0]], text[at[0]:at[1]], text[at[1]:])
			places++
		}
	}
	if places < 100 {
		t.Errorf("there are only %d numbers", places)
	}
}

func TestEventTextReadOfLeadingZeros(t *testing.T) {
	withNumbers(t, func(before string, number string, behind string) {
		for _, zeros := range []string{"0", "00", "000", strings.Repeat("0", 17), strings.Repeat("0", 18), strings.Repeat("0", 19), strings.Repeat("0", 30)} {
			wantNoEventText(t, "leading zeros", before+zeros+number+behind)
			wantNoEventText(t, "only zeros", before+zeros+"0"+behind)
		}
		// 0 itself is a number, which is valid in some places.
		wantTextRule(t, before+"0"+behind)
	})
	for _, s := range []string{"lose 0", "deliver 0", "deliver 0 works keep", "task 1 0 0 0 0", "task 1 0 0 0 0 0=0 !0", "task 1 0 0 0 0 0=0 1=0 !0 !1"} {
		if _, ok := impl.EventTextRead(s); !ok {
			t.Errorf("EventTextRead of %q returns false", s)
		}
	}
}

// Greater than an int are also those that an int would wrap around to the number.
func TestEventTextReadOfTooGreatNumbers(t *testing.T) {
	wrapped := map[string][]string{
		"0": {"4294967296", "18446744073709551616", "36893488147419103232", "340282366920938463463374607431768211456"},
		"1": {"4294967297", "18446744073709551617", "36893488147419103233", "340282366920938463463374607431768211457"},
		"4": {"260", "65540", "4294967300", "18446744073709551620"},
	}
	withNumbers(t, func(before string, number string, behind string) {
		for _, great := range append(wrapped[number], "9223372036854775807", "9223372036854775808", "9223372036854775809", "18446744073709551615", "99999999999999999999", "1"+strings.Repeat("0", 5000)) {
			wantNoEventText(t, "too great a number", before+great+behind)
		}
		for _, n := range around(5, 10, 40, impl.MaxId, 1000, most) {
			wantTextRule(t, before+fmt.Sprint(n)+behind)
		}
	})
}

func TestEventTextReadOfOtherNumbers(t *testing.T) {
	withNumbers(t, func(before string, number string, behind string) {
		for _, sign := range []string{"+", "-", "++", "--", "+-", "\u2212", "\uff0b", "_", "0x", "0b", "0o", "#", "~", "'", "(", "!!", "==", "."} {
			wantNoEventText(t, "a sign ahead of a number", before+sign+number+behind)
		}
		for _, sign := range []string{"+", "-", ".", ".0", "e0", "E1", "_", "_0", "x", "n", "%", ",", ",0", ";", ")", "'", "\u00b2", "\u0660", "\uff10"} {
			wantNoEventText(t, "a sign behind a number", before+number+sign+behind)
		}
		for _, other := range []string{"", "+", "-", "+0", "-0", "x", "five", "NaN", "Inf", "\u0665", "\uff15", "\u2165", "5.0", "1e2", "0x1", "1_0", "true", "-1", "-" + number} {
			wantNoEventText(t, "no number", before+other+behind)
		}
	})
}

// others are signs that are no blank.
func others() []string {
	return []string{"", "  ", "   ", "\t", "\n", "\r", "\r\n", "\v", "\f", "\x00", "\b", "\x1f", "\x7f", "\x80", "\xa0", "\xff", "\xc2", "\u0085", "\u00a0", "\u2003", "\u2028", "\u3000", "\ufeff", ",", "_", "-", ".", "+", "\\ ", " \t", "\t "}
}

func TestEventTextReadOfOtherBlanks(t *testing.T) {
	for text := range textsOfEvents() {
		for at, sign := range text {
			if sign != ' ' {
				continue
			}
			for _, other := range others() {
				wantNoEventText(t, "not a single blank", text[:at]+other+text[at+1:])
			}
		}
		for _, other := range append(others()[1:], " ", " x", "x ", "x", "0 ", " 0") {
			wantNoEventText(t, "something ahead", other+text)
			wantTextRule(t, text+other)
		}
		for _, all := range []string{"\t", "\n", "  ", "\u00a0", ""} {
			wantNoEventText(t, "other blanks everywhere", strings.ReplaceAll(text, " ", all))
		}
		wantNoEventText(t, "twice", text+" "+text)
		wantNoEventText(t, "two lines", text+"\n"+text)
	}
}

func TestEventTextReadOfOtherWords(t *testing.T) {
	seen := cases{}
	extra := []string{"", "5", "0", "00", "1=1", "9=0", "!1", "!9", "works", "keep", "x", "=", "!", "tick", "task", "Works", "WORKS", "work", "workss", "Keep", "kee", "keeps", "works,", "wor ks", "works=1"}
	for text := range textsOfEvents() {
		all := strings.Split(text, " ")
		for at, word := range all {
			seen[wantTextRule(t, strings.Join(slices.Delete(slices.Clone(all), at, at+1), " "))+": a word is missing"]++
			wantTextRule(t, strings.Join(slices.Insert(slices.Clone(all), at, word), " "))
			for _, more := range extra {
				seen[wantTextRule(t, strings.Join(slices.Insert(slices.Clone(all), at, more), " "))+": a word more"]++
				wantTextRule(t, strings.Join(changed(all, at, more), " "))
			}
			for other := range at {
				exchanged := slices.Clone(all)
				exchanged[at], exchanged[other] = all[other], all[at]
				seen[wantTextRule(t, strings.Join(exchanged, " "))+": two words are exchanged"]++
			}
		}
		for _, more := range extra {
			seen[wantTextRule(t, text+" "+more)+": a word behind"]++
		}
	}
	for _, what := range []string{"a word is missing", "a word more", "two words are exchanged", "a word behind"} {
		seen.want(t, "no event: "+what, "an event: "+what)
	}
}

// eventWords are the words of the chapter, each with what has to be around it.
func eventWords() map[string][2]string {
	out := map[string][2]string{"works": {"deliver 3 ", ""}, "keep": {"deliver 3 ", ""}, "task": {"", " 1 0 0 0 0"}}
	for _, name := range []string{"tick", "try", "crash", "cancel", "step", "deliver", "lose", "fail"} {
		out[name] = [2]string{"", " 3"}
	}
	return out
}

func TestEventTextReadOfSimilarWords(t *testing.T) {
	for word, around := range eventWords() {
		if _, ok := impl.EventTextRead(around[0] + word + around[1]); !ok {
			t.Errorf("the word %s is not read", word)
		}
		similar := []string{strings.ToUpper(word), strings.ToTitle(word[:1]) + word[1:], word + "s", word + "5", word + "=", "!" + word, word + word, "\ufeff" + word, word + "\x00", "\xff" + word, word + ":", "\"" + word + "\""}
		for at := range word {
			similar = append(similar, word[:at], word[at+1:], word[:at]+strings.ToUpper(word[at:at+1])+word[at+1:], word[:at]+"\u0301"+word[at:], word[:at]+"\x80"+word[at:])
		}
		similar = append(similar, strings.ReplaceAll(word, "k", "\u212a")+"k", strings.ReplaceAll(word, "s", "\u017f")+"s")
		for _, other := range similar {
			wantNoEventText(t, "not the word "+word, around[0]+other+around[1])
		}
	}
	for _, s := range []string{"tic\u212a 5", "\u017ftep 1", "try1 ", "wait 1", "msg 0", "EvTick 5", "1 5", "tick", "task", "task ", "deliver", "works", "keep", "deliver works", "deliver keep", "0", "5"} {
		wantNoEventText(t, "no event", s)
	}
}

// A word that is no label or no tolerance, alone and among others.
func TestEventTextReadOfOtherMarks(t *testing.T) {
	for _, mark := range []string{
		"4", "41", "=", "4=", "=1", "==", "4==1", "4=1=", "4=1=2", "=4=1", "4=1=1", "!", "!!", "!!5", "5!", "!5!", "!=", "!5=1", "!5=", "4=!1", "!4=1", "4!1", "4=1!", "4=1!5", "!5!6", "!54=1",
		"4= 1", "4 =1", "4 = 1", "! 5", "4:1", "4-1", "4=1,", "4=1,5=1", "4=10", "10=1", "-1=1", "4=-1", "4=+1", "+4=1", "04=1", "4=01", "4=00", "00=1", "!05", "!00", "!10", "!-1", "!+1", "a=1", "1=a",
		"!a", "a", "works", "keep", "4=1 4=1", "4=1 4=2", "5=1 4=1", "!5 !5", "!5 !4", "!5 4=1", "4=1 !5 6=1", "!4 !5 4=1", "4=18446744073709551617", "18446744073709551620=1", "!18446744073709551621",
		"0=1 1=1 2=1 3=1 4=1 5=1 6=1", "!0 !1 !2 !3 !4 !5 !6", "0=1 1=1 2=1 3=1 4=1 5=1 6=1 7=1 8=1 9=1 !0 !1 !2 !3 !4 !5 !6 !7 !8 !9", "0=1 1=1 2=1 3=1 4=1 5=1 !0 !1 !2 !3 !4 !5 !6",
		"4=1\u0301", "4\uff1d1", "\uff015", "\u00a15", "4\xff=1", "\xff!5", "!5\xff", "4=\xff1",
	} {
		wantNoEventText(t, "no label and no tolerance", "task 3 1 300 2 1 "+mark)
		wantNoEventText(t, "behind a label", "task 3 1 300 2 1 3=1 "+mark)
		wantNoEventText(t, "ahead of a tolerance", "task 3 1 300 2 1 "+mark+" !7")
		wantNoEventText(t, "ahead of a label", "task 3 1 300 2 1 "+mark+" 9=1")
		wantTextRule(t, "task 3 1 300 2 "+mark)
	}
	for _, s := range []string{"tick 5 4=1", "tick 5 !5", "try 1 !1", "cancel 7 1=1", "deliver 3 !1", "deliver 3 works 1=1", "4=1", "!5", "4=1 !5"} {
		wantNoEventText(t, "a mark of another event", s)
	}
}

func TestEventTextReadOfWorksAndKeep(t *testing.T) {
	for _, s := range []string{
		"deliver 3 keep works", "deliver 3 works works", "deliver 3 keep keep", "deliver 3 works keep works", "deliver 3 works keep keep", "deliver 3 keep works keep", "deliver 3 works works keep",
		"deliver 3  works", "deliver 3 works  keep", "deliver works 3", "deliver works 3 keep", "deliver keep works", "works deliver 3", "works 3", "deliver 3 workskeep", "deliver 3 works,keep", "deliver 3 works keep 3",
		"deliver 3works", "deliver 3 works ", "deliver 3 ", "lose 0 works", "lose 0 keep", "tick 5 works", "tick 5 keep", "try 1 works", "step 1 keep", "cancel 3 works", "fail 3 works keep", "task 1 0 0 0 0 works", "task 1 0 0 0 0 keep",
	} {
		wantNoEventText(t, "works and keep", s)
	}
}

func TestEventTextReadOfOtherStrings(t *testing.T) {
	for _, s := range []string{
		"", " ", "  ", "\n", "\t", "\x00", "0", "tick", "tick ", " tick", "tick 5\n", "\ntick 5", "tick\n5", "ti\nck 5", "tick 5\n\n", "tick 5\r", "tick 5\x00", "tick 5\ntick 5", "task 1 0 0 0 0\n1=1",
		"task 1 0 0 0", "task 1 0 0 0 ", "task 1 0 0 0 0 ", "task 1 0 0 0 0 0", "task  0 0 0 0", "task 1", "task 1=1", "task !1", "task 1 0 0 0 1=1", "task 1 0 0 0 !1", "try 1 2", "tick 5 5", "lose 1 1",
		"\xff", "\x80\x80", "\xff\xfe", "\xc0\x80", "\xed\xa0\x80", "\xf4\x90\x80\x80", "tick \xff", "tick 5\xff", "tick\xff 5", "tick \xef\xbf\xbd", "\ufffd", "tick\xe2\x80", "\xe2tick 5", "tick \xc2 5", "tick\xc2 5", "tick\xf0\x9f 5",
		"\u4e16\u754c", "\u00e9", "tick \u0665", "\U0001f600", "t\u0131ck 5",
	} {
		wantNoEventText(t, "no event", s)
	}
}

// Strings that are much longer than any text.
func TestReadingsOfHugeStrings(t *testing.T) {
	for _, part := range []string{" ", "0", "1", "x", "\n", "=", "!", "tick 5 ", "tick 5\n", "1=1 ", "!1 ", "0 ", "works ", "\xff", "\u4e16 ", "deliver 3 works keep"} {
		for _, begin := range []string{"", "tick ", "tick 5", "task 1 0 0 0 0 ", "deliver 3 ", "deliver 3 works"} {
			huge := begin + strings.Repeat(part, 1<<20)
			wantNoEventText(t, "a huge string", huge)
			wantText(t, "a huge script", impl.Console(emptyWorld(), huge), "too long")
			wantText(t, "a huge script", impl.Console(impl.World{}, huge), "bad world")
		}
	}
}

// ints are those of every argument that is an int.
func ints() []int { return around(5, 10, 100, 1000, most) }

// withInts sets every int in v to each of ints, one after the other, and calls do.
func withInts(v reflect.Value, do func()) {
	switch v.Kind() {
	case reflect.Struct:
		for at := range v.NumField() {
			withInts(v.Field(at), do)
		}
	case reflect.Slice:
		for at := range v.Len() {
			withInts(v.Index(at), do)
		}
	case reflect.Int:
		before := v.Int()
		for _, n := range ints() {
			v.SetInt(int64(n))
			do()
		}
		v.SetInt(before)
	}
}

func TestEventTextWithAnyIntegers(t *testing.T) {
	seen := cases{}
	for _, e := range textsOfEvents() {
		withInts(reflect.ValueOf(&e).Elem(), func() {
			want := ""
			if isEvent(e) {
				want = eventTextRule(e)
			}
			wantText(t, fmt.Sprintf("%+v", e), impl.EventText(e), want)
			seen[fmt.Sprint("valid: ", isEvent(e))]++
		})
	}
	seen.want(t, "valid: true", "valid: false")
}

func TestWorldTextAndConsoleWithAnyIntegers(t *testing.T) {
	seen := cases{}
	for _, w := range validWorlds()[2:] {
		w = cloneWorld(w)
		withInts(reflect.ValueOf(&w).Elem(), func() {
			text, printed := "", "bad world"
			if impl.WorldOk(w) {
				text = worldTextRule(w)
				printed = "6\n" + text
			}
			wantText(t, "any integers", impl.WorldText(w), text)
			wantText(t, "any integers", impl.Console(w, "fail 98"), printed)
			seen[fmt.Sprint("valid: ", impl.WorldOk(w))]++
		})
	}
	seen.want(t, "valid: true", "valid: false")
}

func TestToldText(t *testing.T) {
	for code := impl.WFine; code <= impl.WOld; code++ {
		for did := impl.DidNothing; did <= impl.DidShrink; did++ {
			for _, id := range ints() {
				want := fmt.Sprint(code)
				if code == 0 && did > 0 {
					want = fmt.Sprintf("0 %d %d", did, id)
				}
				wantText(t, fmt.Sprint(code, did, id), impl.ToldText(impl.Told{Code: code, Did: did, Id: id}), want)
			}
		}
	}
	for text, told := range map[string]impl.Told{
		"0": {}, "0 1 7": {Did: 1, Id: 7}, "0 5 0": {Did: impl.DidPlace}, "0 9 99": {Did: impl.DidShrink, Id: 99}, "3": {Code: impl.WLead, Did: 3}, "7": {Code: impl.WOld, Did: 8, Id: 7}, "1": {Code: impl.WForm, Id: 5},
		"0 -1 0": {Did: -1}, "0 10 0": {Did: 10}, "0 1 -5": {Did: 1, Id: -5}, "-1": {Code: -1, Did: -1, Id: -1}, "8": {Code: 8, Did: 1}, "1000": {Code: 1000},
		"9223372036854775807": {Code: math.MaxInt, Did: 2, Id: 3}, "-9223372036854775808": {Code: math.MinInt, Did: 2, Id: 3},
		"0 9223372036854775807 -9223372036854775808": {Did: math.MaxInt, Id: math.MinInt}, "0 -9223372036854775808 9223372036854775807": {Did: math.MinInt, Id: math.MaxInt},
	} {
		wantText(t, fmt.Sprintf("%+v", told), impl.ToldText(told), text)
	}
	wantText(t, "DidNothing with an Id", impl.ToldText(impl.Told{Id: 7}), "0")
	for _, code := range ints() {
		for _, did := range ints() {
			for _, id := range ints() {
				told := impl.Told{Code: code, Did: did, Id: id}
				wantText(t, fmt.Sprintf("%+v", told), impl.ToldText(told), toldTextRule(told))
			}
		}
	}
}

func TestWorldText(t *testing.T) {
	busy := "now 50 lead 2 node 2 0 node 5 4 node 9 1 cordoned 7@9 11@5 12@5 30@2 want 3 want 20 want 39 end 2 end 9 msgs 5"
	wantText(t, "an empty world", impl.WorldText(emptyWorld()), "now 0 lead 0 msgs 0")
	wantText(t, "a busy world", impl.WorldText(busyWorld()), busy)
	for part, change := range map[string]func(w *impl.World){
		" 7@9 11@5 12@5 30@2":     func(w *impl.World) { w.Cluster.Binds = nil },
		" want 3 want 20":         func(w *impl.World) { w.Wants = w.Wants[2:] },
		" want 3":                 func(w *impl.World) { w.Wants = w.Wants[1:] },
		" want 20":                func(w *impl.World) { w.Wants = slices.Delete(w.Wants, 1, 2) },
		" end 2":                  func(w *impl.World) { w.Ends = w.Ends[1:] },
		" end 2 end 9":            func(w *impl.World) { w.Ends = nil },
		" cordoned":               func(w *impl.World) { nodeAt(w, 9).Cordon = false },
		" 7@9":                    func(w *impl.World) { w.Cluster.Binds = w.Cluster.Binds[1:] },
		" want 3 want 20 want 39": func(w *impl.World) { w.Wants = nil },
	} {
		wantText(t, "without"+part, impl.WorldText(with(busyWorld(), change)), strings.Replace(busy, part, "", 1))
	}
	for number := range impl.MaxMsgs + 1 {
		w := with(busyWorld(), func(w *impl.World) { w.Msgs = slices.Repeat(w.Msgs[:1], number) })
		wantText(t, "messages", impl.WorldText(w), strings.TrimSuffix(busy, "5")+fmt.Sprint(number))
	}
	for _, now := range []int{0, 1, 49, 59} {
		w := with(busyWorld(), func(w *impl.World) { w.Now = now })
		wantText(t, "another time", impl.WorldText(w), strings.Replace(busy, "now 50", fmt.Sprint("now ", now), 1))
	}
}

// The Leader is who holds the lease with its own epoch, not who holds it.
func TestWorldTextOfTheLeader(t *testing.T) {
	for who := 1; who <= impl.MaxReplicas; who++ {
		w := emptyWorld()
		w.Now, w.Lease, w.Epochs[who-1] = 50, leaseOf(who, 3, 51), 3
		wantText(t, "a Leader", impl.WorldText(w), fmt.Sprintf("now 50 lead %d msgs 0", who))
		for what, change := range map[string]func(w *impl.World){
			"expired": func(w *impl.World) { w.Lease.Till = 50 }, "crashed": func(w *impl.World) { w.Epochs[who-1] = 0 }, "old": func(w *impl.World) { w.Lease.Epoch = 4 },
		} {
			wantText(t, what, impl.WorldText(with(w, change)), "now 50 lead 0 msgs 0")
		}
	}
	w := with(emptyWorld(), func(w *impl.World) { w.Now = impl.MaxTime })
	wantText(t, "the last time", impl.WorldText(w), "now 100000 lead 0 msgs 0")
}

// A world with as much of everything as there may be.
func TestWorldTextOfAFullWorld(t *testing.T) {
	want := "now 100000 lead 4"
	for id := 1; id <= impl.MaxNodes; id++ {
		want += fmt.Sprint(" node ", id, " ", nodeAt(&impl.World{Cluster: fullCluster()}, id).Pool)
	}
	for id := 1; id <= impl.MaxTasks; id++ {
		want += fmt.Sprint(" ", id, "@", (id+1)/2)
	}
	for id := 80; id <= 99; id++ {
		want += fmt.Sprint(" want ", id)
	}
	for id := 1; id <= impl.MaxNodes; id++ {
		want += fmt.Sprint(" end ", id)
	}
	wantText(t, "a full world", impl.WorldText(fullWorld()), want+" msgs 40")
	for at := range impl.MaxNodes {
		w := with(fullWorld(), func(w *impl.World) { w.Cluster.Nodes[at].Cordon = true })
		node := fmt.Sprint(" node ", at+1, " ", w.Cluster.Nodes[at].Pool)
		wantText(t, "a cordoned node", impl.WorldText(w), strings.Replace(want, node+" ", node+" cordoned ", 1)+" msgs 40")
	}
}

func TestWorldTextOfInvalidWorlds(t *testing.T) {
	for what, w := range brokenWorlds() {
		wantText(t, what, impl.WorldText(w), "")
	}
	for _, w := range validWorlds() {
		for _, c := range settingChanges() {
			w := with(w, c.change)
			if got := impl.WorldText(w); (got == "") == c.ok || c.ok && got != worldTextRule(w) {
				t.Errorf("%s: WorldText of %s is %q", c.what, worldText(w), got)
			}
		}
	}
}

// wantConsole compares Console with the rule as well.
func wantConsole(t *testing.T, what string, w impl.World, script string, want string) {
	t.Helper()
	wantText(t, what, impl.Console(w, script), want)
	wantText(t, what+", by the rule", consoleRule(w, script), want)
}

// wantPrinted expects what WorldRun returns for the events, and no error.
func wantPrinted(t *testing.T, what string, w impl.World, list ...impl.Event) {
	t.Helper()
	got, told, ok := impl.WorldRun(w, list)
	if !ok {
		t.Fatalf("%s: WorldRun returns false", what)
	}
	var script, want []string
	for at, e := range list {
		script = append(script, impl.EventText(e))
		want = append(want, impl.ToldText(told[at]))
	}
	wantConsole(t, what, w, strings.Join(script, "\n"), strings.Join(append(want, impl.WorldText(got)), "\n"))
}

// Events whose outcome is not WFine are lines like others.
func TestConsoleOfOutcomes(t *testing.T) {
	w := busyWorld()
	wantConsole(t, "a lease of another", w, "try 1", "2\n"+impl.WorldText(w))
	wantConsole(t, "no message", w, "lose 39\nlose 5\ncancel 99", "6\n6\n6\n"+impl.WorldText(w))
	wantConsole(t, "not the Leader", w, "step 1\nstep 3", "3\n3\n"+impl.WorldText(w))
	wantConsole(t, "a task that exists", w, "task 7 0 0 0 0\ntask 8 0 0 0 0\ntask 8 0 0 0 0", "5\n0\n5\n"+impl.WorldText(w))
	wantConsole(t, "an old message", w, "deliver 2 works\ndeliver 1 works keep\ntick 9", "7\n0\n0\n"+strings.Replace(strings.Replace(impl.WorldText(w), "msgs 5", "msgs 4", 1), "now 50", "now 59", 1))
	full := with(fullWorld(), func(w *impl.World) { w.Now, w.Lease.Till = 500, 500 })
	wantConsole(t, "no epoch and no place", full, "try 1\ntask 99 0 0 0 0\ntry 2", "4\n4\n4\n"+impl.WorldText(full))
	for _, w := range append(validWorlds(), restingWorld()) {
		wantPrinted(t, "all kinds", w, eventsOfAllKinds()...)
		for _, e := range eventsOfAllKinds() {
			wantPrinted(t, "one event", w, e)
		}
	}
	codes := cases{}
	for _, told := range strings.Split(impl.Console(busyWorld(), scriptOf(eventsOfAllKinds()...)), "\n") {
		codes[told]++
	}
	for _, code := range []string{"0", "2", "3", "5", "6"} {
		if codes[code] == 0 {
			t.Errorf("no outcome is %s", code)
		}
	}
}

func scriptOf(list ...impl.Event) string {
	var lines []string
	for _, e := range list {
		lines = append(lines, eventTextRule(e))
	}
	return strings.Join(lines, "\n")
}

// scriptOfSize has so many bytes in so many lines.
func scriptOfSize(t *testing.T, size int, lines int) string {
	t.Helper()
	great, small, smaller := newTask(greatestTask()), tick(10), tick(5)
	more, each := size+1-lines*(len(eventTextRule(smaller))+1), len(eventTextRule(great))-len(eventTextRule(smaller))
	list := slices.Concat(slices.Repeat([]impl.Event{great}, more/each), slices.Repeat([]impl.Event{small}, more%each))
	list = append(list, slices.Repeat([]impl.Event{smaller}, lines-len(list))...)
	script := scriptOf(list...)
	if len(script) != size || strings.Count(script, "\n") != lines-1 {
		t.Fatalf("the script has %d bytes in %d lines, want %d in %d", len(script), strings.Count(script, "\n")+1, size, lines)
	}
	return script
}

func TestConsoleUpToMaxScript(t *testing.T) {
	for _, w := range []impl.World{emptyWorld(), busyWorld()} {
		for _, lines := range []int{200, 250, impl.MaxEvents} {
			for _, size := range []int{impl.MaxScript - 1, impl.MaxScript} {
				script := scriptOfSize(t, size, lines)
				got := impl.Console(w, script)
				wantText(t, "a long script", got, consoleRule(w, script))
				wantInt(t, "the number of lines", strings.Count(got, "\n"), lines)
			}
			for _, size := range []int{impl.MaxScript + 1, impl.MaxScript + 2} {
				wantConsole(t, "too many bytes", w, scriptOfSize(t, size, lines), "too long")
			}
			script := scriptOfSize(t, impl.MaxScript, lines)
			wantConsole(t, "a byte more in the last line", w, script+"0", "too long")
			wantConsole(t, "a byte more in the first line", w, " "+script, "too long")
		}
		for _, part := range []string{"x", " ", "\x00", "\xff", "0"} {
			wantConsole(t, "one long line", w, strings.Repeat(part, impl.MaxScript), "bad line 1")
			wantConsole(t, "too long a line", w, strings.Repeat(part, impl.MaxScript+1), "too long")
			wantConsole(t, "a malformed line and too many bytes", w, "tick 5\n"+strings.Repeat(part, impl.MaxScript), "too long")
		}
		// Bytes are counted, not letters.
		wantConsole(t, "letters of two bytes", w, strings.Repeat("\u00e9", impl.MaxScript/2), "bad line 1")
		wantConsole(t, "letters of two bytes and one", w, strings.Repeat("\u00e9", impl.MaxScript/2)+"x", "too long")
	}
}

func TestConsoleUpToMaxEvents(t *testing.T) {
	for _, w := range []impl.World{emptyWorld(), busyWorld()} {
		for _, line := range []string{"tick 5", "tick 1000", "step 2", "deliver 0 works keep", "lose 0"} {
			for _, number := range []int{impl.MaxEvents - 1, impl.MaxEvents} {
				script := strings.TrimSuffix(strings.Repeat(line+"\n", number), "\n")
				got := impl.Console(w, script)
				wantText(t, "many lines", got, consoleRule(w, script))
				wantInt(t, "the number of lines", strings.Count(got, "\n"), number)
				wantConsole(t, "a line too many", w, script+strings.Repeat("\n"+line, impl.MaxEvents+1-number), "too long")
			}
			most := strings.Repeat(line+"\n", impl.MaxEvents)
			wantConsole(t, "a newline behind all lines", w, most, "too long")
			wantConsole(t, "a newline behind all lines but one", w, most[len(line)+1:], "bad line 300")
			wantConsole(t, "a newline ahead", w, "\n"+most[:len(most)-1], "too long")
			wantConsole(t, "many lines too many", w, strings.Repeat(line+"\n", 400), "too long")
		}
		wantConsole(t, "empty lines", w, strings.Repeat("\n", impl.MaxEvents-1), "bad line 1")
		wantConsole(t, "empty lines too many", w, strings.Repeat("\n", impl.MaxEvents), "too long")
		wantConsole(t, "malformed lines too many", w, strings.Repeat("x\n", impl.MaxEvents), "too long")
		wantConsole(t, "as many bytes as there may be, of empty lines", w, strings.Repeat("\n", impl.MaxScript), "too long")
	}
}

func TestConsoleOfMalformedLines(t *testing.T) {
	good := strings.Split(scriptOf(eventsOfAllKinds()...), "\n")
	last := len(good) - 1
	for _, w := range append(validWorlds(), restingWorld()) {
		for _, bad := range []string{"", " ", "tick", "tick 0", "tick 05", "Tick 5", "tick 5 ", " tick 5", "tick  5", "tick 5\r", "lose 40", "x", "\xff", "task 1 0 0 0 0 !5 4=1", "deliver 3 keep works", "tick 18446744073709551621"} {
			for at := range good {
				wantConsole(t, "a malformed line", w, strings.Join(changed(good, at, bad), "\n"), fmt.Sprint("bad line ", at+1))
				for other := range at {
					wantConsole(t, "two malformed lines", w, strings.Join(changed(changed(good, at, bad), other, "y"), "\n"), fmt.Sprint("bad line ", other+1))
				}
			}
			wantConsole(t, "a malformed line alone", w, bad, "bad line 1")
			wantConsole(t, "a malformed line behind all", w, strings.Join(append(slices.Clone(good), bad), "\n"), fmt.Sprint("bad line ", last+2))
			wantConsole(t, "all lines malformed", w, strings.Repeat(bad+"\n", 20), "bad line 1")
		}
		wantConsole(t, "the empty script", w, "", "bad line 1")
		wantConsole(t, "only a newline", w, "\n", "bad line 1")
		wantConsole(t, "a newline at the end", w, strings.Join(good, "\n")+"\n", fmt.Sprint("bad line ", last+2))
		wantConsole(t, "a newline at the beginning", w, "\n"+strings.Join(good, "\n"), "bad line 1")
		wantConsole(t, "an empty line within", w, "tick 5\n\ntick 5", "bad line 2")
		wantConsole(t, "other newlines", w, "tick 5\r\ntick 5", "bad line 1")
		wantConsole(t, "other newlines", w, "tick 5\ntick 5\rtick 5", "bad line 2")
		wantConsole(t, "no newline between", w, "tick 5 tick 5", "bad line 1")
		wantConsole(t, "newlines that are no byte 10", w, "tick 5\u2028tick 5\u0085tick 5", "bad line 1")
	}
	many := slices.Repeat([]string{"tick 5"}, impl.MaxEvents)
	for _, at := range []int{0, 8, 9, 10, 98, 99, 100, impl.MaxEvents / 2, impl.MaxEvents - 2, impl.MaxEvents - 1} {
		wantConsole(t, "a malformed line among many", emptyWorld(), strings.Join(changed(many, at, "tick"), "\n"), fmt.Sprint("bad line ", at+1))
	}
}

func TestConsoleOfInvalidWorlds(t *testing.T) {
	scripts := []string{
		"", "\n", "tick 5", "tick 5\n", "tick", "x\nx", scriptOf(eventsOfAllKinds()...), strings.Repeat("x", impl.MaxScript), strings.Repeat("x", impl.MaxScript+1),
		strings.Repeat("\n", impl.MaxEvents), strings.TrimSuffix(strings.Repeat("tick 5\n", impl.MaxEvents+1), "\n"), scriptOfSize(t, impl.MaxScript+1, 200),
	}
	for what, w := range brokenWorlds() {
		for _, script := range scripts {
			wantConsole(t, what, w, script, "bad world")
		}
	}
}

// Where a list is empty it does not matter whether it is nil.
func TestConsoleWithNilAndEmptyLists(t *testing.T) {
	script := scriptOf(append(eventsOfAllKinds(), newTask(goodTask()), stepBy(2))...)
	for _, w := range append(validWorlds(), restingWorld()) {
		other := emptied(cloneWorld(w))
		wantText(t, "WorldText with empty lists", impl.WorldText(other), impl.WorldText(w))
		wantText(t, "Console with empty lists", impl.Console(other, script), impl.Console(w, script))
	}
	wantText(t, "the zero value with empty lists", impl.WorldText(emptied(impl.World{})), "")
	wantText(t, "the zero value with empty lists", impl.Console(emptied(impl.World{}), script), "bad world")
	zero := impl.Event{Task: impl.Task{Want: []impl.Lab{}, Tols: []int{}}}
	wantText(t, "an event of the zero value with empty lists", impl.EventText(zero), "")
	zero.Kind, zero.N = impl.EvTick, 5
	wantText(t, "a tick with empty lists", impl.EventText(zero), "tick 5")
}

func TestTextsChangeNoArgument(t *testing.T) {
	list := []impl.Event{newTask(spaciousTask(goodTask())), newTask(spaciousTask(impl.Task{Id: 9})), tick(5), newTask(spaciousTask(impl.Task{Id: -9, Want: labsOf([]int{2, 1})}))}
	before := wholeText(reflect.ValueOf(list))
	for at, want := range []string{"task 41 7 300 127 16384 0=9 4=0 !1 !8 !9", "task 9 0 0 0 0", "tick 5", ""} {
		wantText(t, "with more behind the lists", impl.EventText(list[at]), want)
	}
	if now := wholeText(reflect.ValueOf(list)); now != before {
		t.Errorf("%s was changed to %s", before, now)
	}
	worlds := append(validWorlds(), restingWorld())
	for _, w := range brokenWorlds() {
		worlds = append(worlds, w)
	}
	for _, w := range worlds {
		given := spaciousWorld(w)
		before := wholeText(reflect.ValueOf(given))
		wantText(t, "WorldText with more behind the lists", impl.WorldText(given), impl.WorldText(w))
		for _, script := range []string{"", "tick 5\nx", scriptOf(eventsOfAllKinds()...)} {
			wantText(t, "Console with more behind the lists", impl.Console(given, script), impl.Console(w, script))
		}
		if now := wholeText(reflect.ValueOf(given)); now != before {
			t.Fatalf("%s was changed to %s", before, now)
		}
	}
}

// A task that is read belongs to its result alone.
func TestEventsOfTextsShareNoMemory(t *testing.T) {
	for text, want := range textsOfEvents() {
		one, _ := impl.EventTextRead(text)
		other, _ := impl.EventTextRead(text)
		wantOwnMemory(t, text, one, other)
		clear(one.Task.Want)
		clear(one.Task.Tols)
		again, _ := impl.EventTextRead(text)
		if !sameEvent(other, want) || !sameEvent(again, want) {
			t.Errorf("a change of one event was seen in another: %+v and %+v", other, again)
		}
	}
}
