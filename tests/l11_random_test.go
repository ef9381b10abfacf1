package tests

import (
	"fmt"
	"math/rand"
	"regexp"
	"slices"
	"strconv"
	"strings"
	"testing"

	"loop.example/g00718/impl"
)

// names are the first words of the kinds.
var names = map[int]string{
	impl.EvTick: "tick", impl.EvTry: "try", impl.EvCrash: "crash", impl.EvTask: "task", impl.EvCancel: "cancel",
	impl.EvStep: "step", impl.EvMsg: "deliver", impl.EvLose: "lose", impl.EvFail: "fail",
}

// eventTextRule formats events that are not valid as well.
func eventTextRule(e impl.Event) string {
	out := fmt.Sprintf("%s %d", names[e.Kind], e.N)
	switch e.Kind {
	case impl.EvTry, impl.EvCrash, impl.EvStep:
		out = fmt.Sprintf("%s %d", names[e.Kind], e.Who)
	case impl.EvTask:
		need := e.Task.Need
		out = fmt.Sprintf("task %d %d %d %d %d", e.Task.Id, e.Task.Prio, need.Cpu, need.Mem, need.Pods)
	}
	for _, l := range e.Task.Want {
		out += fmt.Sprintf(" %d=%d", l.Key, l.Val)
	}
	for _, tol := range e.Task.Tols {
		out += fmt.Sprintf(" !%d", tol)
	}
	if e.Works {
		out += " works"
	}
	if e.Keep {
		out += " keep"
	}
	return out
}

func toldTextRule(told impl.Told) string {
	if told.Code == 0 && told.Did != 0 {
		return fmt.Sprintf("0 %d %d", told.Did, told.Id)
	}
	return fmt.Sprint(told.Code)
}

func worldTextRule(w impl.World) string {
	out := fmt.Sprintf("now %d lead %d ", w.Now, leaderRule(w))
	for _, n := range w.Cluster.Nodes {
		out += fmt.Sprintf("node %d %d ", n.Id, n.Pool) + map[bool]string{true: "cordoned "}[n.Cordon]
	}
	for _, b := range w.Cluster.Binds {
		out += fmt.Sprintf("%d@%d ", b.Task, b.Node)
	}
	for _, v := range w.Wants {
		out += fmt.Sprintf("want %d ", v.Id)
	}
	for _, id := range w.Ends {
		out += fmt.Sprintf("end %d ", id)
	}
	return out + fmt.Sprintf("msgs %d", len(w.Msgs))
}

// form is that of an event's text: an integer has no leading zeros.
var form = regexp.MustCompile(strings.ReplaceAll(`\A(?:(tick|cancel|lose|fail) (#)|(try|crash|step) (#)|deliver (#)( works)?( keep)?|task (#) (#) (#) (#) (#)((?: #=#)*)((?: !#)*))\z`, "#", "(?:0|[1-9][0-9]*)"))

// textRule returns the event that has the text, in a second way: by its form, and
// by the limits of what the form has.
func textRule(s string) (impl.Event, bool) {
	parts := form.FindStringSubmatch(s)
	if parts == nil {
		return impl.Event{}, false
	}
	fits := true
	number := func(digits string) int {
		n, err := strconv.ParseUint(digits, 10, 62)
		fits = fits && err == nil
		return int(n)
	}
	e := impl.Event{}
	for kind, name := range names {
		if first, _, _ := strings.Cut(s, " "); first == name {
			e.Kind = kind
		}
	}
	switch {
	case parts[1] != "":
		e.N = number(parts[2])
	case parts[3] != "":
		e.Who = number(parts[4])
	case parts[5] != "":
		e.N, e.Works, e.Keep = number(parts[5]), parts[6] != "", parts[7] != ""
	default:
		e.Task = impl.Task{Id: number(parts[8]), Prio: number(parts[9]), Need: amounts(number(parts[10]), number(parts[11]), number(parts[12]))}
		marks := digits.FindAllString(parts[13], -1)
		for at := 0; at < len(marks); at += 2 {
			e.Task.Want = append(e.Task.Want, impl.Lab{Key: number(marks[at]), Val: number(marks[at+1])})
		}
		for _, tol := range digits.FindAllString(parts[14], -1) {
			e.Task.Tols = append(e.Task.Tols, number(tol))
		}
	}
	if !fits || !isEvent(e) {
		return impl.Event{}, false
	}
	return e, true
}

// wantTextRule compares EventTextRead with the rule, and says whether there is an
// event.
func wantTextRule(t *testing.T, s string) string {
	t.Helper()
	e, ok := textRule(s)
	if !ok {
		wantNoEventText(t, "by the rule", s)
		return "no event"
	}
	wantEventText(t, s, e)
	return "an event"
}

func consoleRule(w impl.World, s string) string {
	lines := strings.Split(s, "\n")
	switch {
	case !impl.WorldOk(w):
		return "bad world"
	case len(s) > impl.MaxScript || len(lines) > impl.MaxEvents:
		return "too long"
	}
	out := ""
	for at, line := range lines {
		e, ok := textRule(line)
		if !ok {
			return fmt.Sprint("bad line ", at+1)
		}
		var told impl.Told
		w, told = impl.WorldDo(w, e)
		out += toldTextRule(told) + "\n"
	}
	return out + worldTextRule(w)
}

// The rules themselves: what the stage's examples say.
func TestTextRules(t *testing.T) {
	for text, e := range textsOfEvents() {
		if got, ok := textRule(text); !ok || !sameEvent(got, e) || eventTextRule(e) != text {
			t.Errorf("the rule reads %q as %+v, %v, and has the text %q for it", text, got, ok, eventTextRule(e))
		}
	}
	for _, s := range []string{
		"", "tick", "tick 0", "tick 05", "step 5", "deliver 3 keep works", "deliver 3  works", "task 3 1 300 2", "task 3 1 300 2 1 !5 4=1", "task 3 1 300 2 1 4=", "task 3 1 300 2 1 ", "task 100 1 300 2 1", "lose 0 works", "wait 1",
		"tick 18446744073709551617", "tick 5\n",
	} {
		if e, ok := textRule(s); ok {
			t.Errorf("the rule reads %q as %+v", s, e)
		}
	}
}

// Promise 15, first part.
func TestEventTextsAreReadAgain(t *testing.T) {
	seen := cases{}
	for seed := range int64(20000) {
		l := luck{rand.New(rand.NewSource(seed))}
		e := l.validEvent(1 + int(seed)%impl.EvFail)
		if !impl.EventOk(e) {
			t.Fatalf("the event %+v is not valid", e)
		}
		text := impl.EventText(e)
		wantText(t, fmt.Sprintf("%+v", e), text, eventTextRule(e))
		wantEventText(t, text, e)
		wantEvent(t, impl.EventBytes(e), e)
		seen[fmt.Sprint("kind: ", e.Kind)]++
		seen[fmt.Sprintf("Works %v, Keep %v", e.Works, e.Keep)]++
		seen[fmt.Sprintf("%d labels, %d Tols", len(e.Task.Want), len(e.Task.Tols))]++
		if t.Failed() {
			return
		}
	}
	for kind := impl.EvTick; kind <= impl.EvFail; kind++ {
		seen.want(t, fmt.Sprint("kind: ", kind))
	}
	for number := range impl.MaxMarks + 1 {
		for others := range impl.MaxMarks + 1 {
			seen.want(t, fmt.Sprintf("%d labels, %d Tols", number, others))
		}
	}
	seen.want(t, "Works true, Keep false", "Works false, Keep true", "Works true, Keep true", "Works false, Keep false")
}

// misspelt returns a text in which something is wrong, mostly.
func (l luck) misspelt(text string) string {
	all := strings.Split(text, " ")
	at := l.Intn(len(all))
	numbers := []string{"0", "1", "3", "00", "07", "-1", "+3", "10", "39", "40", "100", "1001", "4294967297", "18446744073709551619", "x", ""}
	others := []string{"works", "keep", "0=0", "3=1", "9=9", "!0", "!7", "!9", "!", "=", "3=", "=3", "tick", "task", "deliver", "try", "lose", "Tick", "ticks"}
	switch l.Intn(8) {
	case 0:
		all[at] = numbers[l.Intn(len(numbers))]
	case 1:
		all = slices.Insert(all, at, numbers[l.Intn(len(numbers))])
	case 2:
		all[at] = others[l.Intn(len(others))]
	case 3:
		all = append(all, others[l.Intn(len(others))])
	case 4:
		all = slices.Delete(all, at, at+1)
	case 5:
		all = append(all[:at], strings.Split(text, " ")[l.Intn(at+1):]...)
	case 6:
		other := l.Intn(len(all))
		all[at], all[other] = all[other], all[at]
	default:
		return string(l.spoiled([]byte(text)))
	}
	return strings.Join(all, " ")
}

// Every text that is taken is the text of its event, and all others are refused.
func TestEventTextReadOfAnyStrings(t *testing.T) {
	seen := cases{}
	for seed := range int64(60000) {
		l := luck{rand.New(rand.NewSource(seed))}
		kind := 1 + int(seed)%impl.EvFail
		text := l.misspelt(impl.EventText(l.validEvent(kind)))
		if l.Intn(4) == 0 {
			text = l.misspelt(text)
		}
		seen[fmt.Sprint(wantTextRule(t, text), " of the kind ", kind)]++
		wantTextRule(t, string(l.some(l.Intn(16))))
		if t.Failed() {
			return
		}
	}
	for kind := impl.EvTick; kind <= impl.EvFail; kind++ {
		seen.want(t, fmt.Sprint("no event of the kind ", kind), fmt.Sprint("an event of the kind ", kind))
	}
}

// Each byte of a text has each other value once, is left out once, and has each
// byte ahead of it once.
func TestEventTextReadWithEveryByteExchanged(t *testing.T) {
	seen := cases{}
	for text := range textsOfEvents() {
		data := []byte(text)
		for at := range data {
			wantTextRule(t, text[:at]+text[at+1:])
			for b := range 256 {
				seen[wantTextRule(t, string(changed(data, at, byte(b))))]++
				seen[wantTextRule(t, string(slices.Insert(slices.Clone(data), at, byte(b))))]++
			}
		}
		for b := range 256 {
			wantTextRule(t, text+string([]byte{byte(b)}))
		}
		if t.Failed() {
			return
		}
	}
	seen.want(t, "an event", "no event")
}

// All integers up to a thousand and more, in the place of each field.
func TestEventTextReadOfAllNumbers(t *testing.T) {
	seen := cases{}
	for n := range 1100 {
		for _, text := range []string{"tick #", "try #", "crash #", "cancel #", "step #", "deliver #", "deliver # works", "deliver # keep", "lose #", "fail #", "task # 0 0 0 0", "task 1 # 0 0 0", "task 1 0 # 0 0", "task 1 0 0 0 0 #=1", "task 1 0 0 0 0 1=#", "task 1 0 0 0 0 !#"} {
			for _, digits := range []string{"%d", "%04d", "%02d", "%+d", "-%d", "%x", "%d.0"} {
				number := fmt.Sprintf(digits, n)
				seen[wantTextRule(t, strings.ReplaceAll(text, "#", number))+" with "+digits]++
			}
		}
	}
	seen.want(t, "an event with %d", "an event with %04d", "no event with %d", "no event with %04d", "no event with %02d")
	if seen["an event with %+d"]+seen["an event with -%d"]+seen["an event with %d.0"] > 0 {
		t.Errorf("numbers that are no integers are read: %v", seen)
	}
}

// Promise 15, second part.
func TestConsolePrintsWhatWorldRunReturns(t *testing.T) {
	seen := cases{}
	for seed := range int64(500) {
		l := luck{rand.New(rand.NewSource(seed))}
		w := l.world()
		if seed%3 == 0 {
			w = l.begun(t)
		}
		wantText(t, "WorldText", impl.WorldText(w), worldTextRule(w))
		list := l.events(w, 1+l.oneOf(0, 1, 5, 30, l.Intn(60)))
		wantPrinted(t, worldText(w), w, list...)
		got, all, _ := impl.WorldRun(w, list)
		for at, told := range all {
			seen[fmt.Sprintf("the kind %d with the code %d", list[at].Kind, told.Code)]++
			seen[fmt.Sprint("the action ", told.Did)]++
		}
		for what, number := range map[string]int{"Leader": impl.Leader(got), "nodes": len(got.Cluster.Nodes), "Binds": len(got.Cluster.Binds), "Wants": len(got.Wants), "Ends": len(got.Ends), "Msgs": len(got.Msgs)} {
			seen[fmt.Sprintf("%s at the end: %d", what, min(number, 2))]++
		}
		if t.Failed() {
			return
		}
	}
	wantAllActions(t, seen)
	wantAllKinds(t, seen)
	for _, what := range []string{"Leader", "nodes", "Binds", "Wants", "Ends", "Msgs"} {
		seen.want(t, what+" at the end: 0", what+" at the end: 1", what+" at the end: 2")
	}
}

// A script in which some lines are misspelt, in valid worlds and others.
func TestConsoleOfAnyScripts(t *testing.T) {
	seen := cases{}
	broken := brokenWorlds()
	for seed := range int64(1500) {
		l := luck{rand.New(rand.NewSource(seed))}
		w := l.world()
		var lines []string
		for range 1 + l.Intn(8) {
			text := impl.EventText(l.validEvent(1 + l.Intn(impl.EvFail)))
			if l.Intn(12) == 0 {
				text = l.misspelt(text)
			}
			lines = append(lines, text)
		}
		script := strings.Join(lines, "\n")
		switch l.Intn(10) {
		case 0:
			script = string(l.spoiled([]byte(script)))
		case 1:
			script = strings.Repeat(script+"\n", l.oneOf(2, 40, 300))
		case 2:
			w = broken["a Want of no pool"]
		}
		want := consoleRule(w, script)
		wantText(t, fmt.Sprintf("Console of %q", short(script)), impl.Console(w, script), want)
		if !strings.HasPrefix(want, "bad") && want != "too long" {
			want = "no error"
		}
		seen[want]++
		if t.Failed() {
			return
		}
	}
	seen.want(t, "bad world", "too long", "bad line 1", "bad line 2", "bad line 3", "no error")
}
