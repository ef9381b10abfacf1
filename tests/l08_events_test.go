package tests

import (
	"fmt"
	"math"
	"reflect"
	"slices"
	"testing"

	"loop.example/g00718/impl"
)

func tick(n int) impl.Event { return impl.Event{Kind: impl.EvTick, N: n} }

func tryOf(who int) impl.Event { return impl.Event{Kind: impl.EvTry, Who: who} }

func crashOf(who int) impl.Event { return impl.Event{Kind: impl.EvCrash, Who: who} }

func stepBy(who int) impl.Event { return impl.Event{Kind: impl.EvStep, Who: who} }

func newTask(task impl.Task) impl.Event { return impl.Event{Kind: impl.EvTask, Task: task} }

func cancel(id int) impl.Event { return impl.Event{Kind: impl.EvCancel, N: id} }

func loseOf(at int) impl.Event { return impl.Event{Kind: impl.EvLose, N: at} }

func failOf(id int) impl.Event { return impl.Event{Kind: impl.EvFail, N: id} }

func deliver(at int, works bool, keep bool) impl.Event {
	return impl.Event{Kind: impl.EvMsg, N: at, Works: works, Keep: keep}
}

func wantDo(t *testing.T, what string, w impl.World, e impl.Event, told impl.Told, change func(w *impl.World)) {
	t.Helper()
	if !impl.WorldOk(w) {
		t.Fatalf("%s: WorldOk of %s is false", what, worldText(w))
	}
	got, is := impl.WorldDo(w, e)
	wantTold(t, what, is, told)
	wantWorld(t, what, got, with(w, change))
}

// wantFine expects an event that does nothing else than the change.
func wantFine(t *testing.T, what string, w impl.World, e impl.Event, change func(w *impl.World)) {
	t.Helper()
	wantDo(t, what, w, e, impl.Told{}, change)
}

func wantUnchanged(t *testing.T, what string, w impl.World, e impl.Event, code int) {
	t.Helper()
	wantDo(t, what, w, e, impl.Told{Code: code}, func(w *impl.World) {})
}

func wantOutcomes(t *testing.T, what string, got []impl.Told, want ...impl.Told) {
	t.Helper()
	if !slices.Equal(got, want) {
		t.Errorf("the outcomes of %s are %+v, want %+v", what, got, want)
	}
}

// The example: a pool grows for a task, and shrinks when it is cancelled.
func TestWorldExample(t *testing.T) {
	w, _ := impl.WorldNew([]impl.Pool{poolOf(0, 0, 2, 4)}, impl.ByTasks, 300, 20)
	begin := []impl.Event{tryOf(1), newTask(taskOf(1, 0, even(3)))}
	step, arrive := stepBy(1), deliver(0, true, false)
	w, told, ok := impl.WorldRun(w, begin)
	if wantOutcomes(t, "the begin", told, impl.Told{}, impl.Told{}); !ok {
		t.Fatal("WorldRun returns false")
	}
	got, told, _ := impl.WorldRun(w, []impl.Event{step, step, step, arrive, step, step, step})
	wantOutcomes(t, "the steps", told, impl.Told{Did: impl.DidGrow, Id: 1}, impl.Told{Did: impl.DidAsk, Id: 1}, impl.Told{}, impl.Told{},
		impl.Told{Did: impl.DidJoin, Id: 1}, impl.Told{Did: impl.DidPlace}, impl.Told{})
	calm, rounds := impl.Calm(w, 1)
	wantInt(t, "the number of repetitions", rounds, 5)
	wantWorld(t, "Calm", calm, got)
	wantBinds(t, "what is bound", calm.Cluster.Binds, impl.Bind{Task: 1, Node: 1})
	got, told, _ = impl.WorldRun(got, []impl.Event{cancel(1), step, step, step, arrive, step, step})
	wantOutcomes(t, "the cancellation", told, impl.Told{}, impl.Told{Did: impl.DidShrink, Id: 1}, impl.Told{Did: impl.DidEnd, Id: 1}, impl.Told{}, impl.Told{},
		impl.Told{Did: impl.DidLose, Id: 1}, impl.Told{})
	wantInt(t, "the number of nodes", len(got.Cluster.Nodes), 0)
	wantInt(t, "the state of the machine", impl.ProvState(got.Prov, 1), impl.InstGone)
}

func TestTicksUpToMaxTime(t *testing.T) {
	for _, now := range []int{0, 1, 50, impl.MaxTime - 1000, impl.MaxTime - 999, impl.MaxTime - 1, impl.MaxTime} {
		for _, n := range []int{1, 2, 999, 1000} {
			w := with(busyWorld(), func(w *impl.World) { w.Now = now })
			wantFine(t, fmt.Sprint(n, " after ", now), w, tick(n), func(w *impl.World) { w.Now = min(now+n, impl.MaxTime) })
		}
	}
}

func TestTries(t *testing.T) {
	w := busyWorld()
	got := func(who int, epoch int, till int) func(w *impl.World) {
		return func(w *impl.World) { w.Lease, w.Epochs[who-1] = leaseOf(who, epoch, till), epoch }
	}
	wantFine(t, "the Leader again", w, tryOf(2), got(2, 7, 70))
	for _, who := range []int{1, 3, 4} {
		wantUnchanged(t, "while another is Leader", w, tryOf(who), impl.WHeld)
		// At Till and behind it. The epoch of the old Leader is kept.
		for _, now := range []int{60, 61, impl.MaxTime} {
			w := with(w, func(w *impl.World) { w.Now = now })
			wantFine(t, "when it has expired", w, tryOf(who), got(who, 8, now+20))
		}
		last := with(w, func(w *impl.World) { w.Now = 59 })
		wantUnchanged(t, "just before it expires", last, tryOf(who), impl.WHeld)
	}
	wantFine(t, "its own that has expired", with(w, func(w *impl.World) { w.Now = 60 }), tryOf(2), got(2, 8, 80))
	crashed := with(w, func(w *impl.World) { w.Epochs[1] = 0 })
	wantFine(t, "after a crash", crashed, tryOf(2), got(2, 7, 70))
	wantUnchanged(t, "after the crash of another", crashed, tryOf(1), impl.WHeld)
	wantFine(t, "a free lease", emptyWorld(), tryOf(3), got(3, 1, 20))
	for _, length := range []int{1, longest} {
		w := with(w, func(w *impl.World) { w.Span = length })
		wantFine(t, "another Span", w, tryOf(2), got(2, 7, 50+length))
	}
}

func TestTriesAtTheLastEpoch(t *testing.T) {
	full := with(fullWorld(), func(w *impl.World) { w.Lease.Till, w.Now = 500, 499 })
	wantFine(t, "the last epoch again", full, tryOf(4), func(w *impl.World) { w.Lease.Till = 499 + longest })
	// WHeld while another has it, WFull when it has expired.
	wantUnchanged(t, "the last epoch of another", full, tryOf(1), impl.WHeld)
	full.Now = 500
	for who := 1; who <= impl.MaxReplicas; who++ {
		wantUnchanged(t, "an epoch too many", full, tryOf(who), impl.WFull)
	}
	almost := with(busyWorld(), func(w *impl.World) { w.Lease.Epoch, w.Now = impl.MaxEpoch-1, 60 })
	wantFine(t, "the last epoch", almost, tryOf(1), func(w *impl.World) { w.Lease, w.Epochs[0] = leaseOf(1, impl.MaxEpoch, 80), impl.MaxEpoch })
}

func TestCrashes(t *testing.T) {
	for _, w := range validWorlds() {
		for who := 1; who <= impl.MaxReplicas; who++ {
			wantFine(t, fmt.Sprint("the crash of ", who), w, crashOf(who), func(w *impl.World) { w.Epochs[who-1] = 0 })
		}
	}
}

func TestTasksComeAndGo(t *testing.T) {
	w := busyWorld()
	for _, task := range []impl.Task{{Id: 1}, {Id: impl.MaxId}, {Id: 50, Prio: 9, Need: amounts(most, 0, 1), Want: labsOf([]int{0, 9}), Tols: []int{1, 2}}} {
		wantFine(t, "a task", w, newTask(task), func(w *impl.World) { addTask(w, task) })
	}
	for _, task := range w.Cluster.Tasks {
		wantUnchanged(t, "an Id again", w, newTask(impl.Task{Id: task.Id}), impl.WTwice)
		wantFine(t, "a cancellation", w, cancel(task.Id), func(w *impl.World) { w.Cluster, _ = impl.TaskDrop(w.Cluster, task.Id) })
	}
	for _, id := range []int{1, 2, 5, 50, impl.MaxId} {
		wantUnchanged(t, "a cancellation of nothing", w, cancel(id), impl.WNone)
	}
	full := fullWorld()
	wantUnchanged(t, "a task too many", full, newTask(impl.Task{Id: 31}), impl.WFull)
	// WTwice comes before WFull.
	wantUnchanged(t, "an Id again and a task too many", full, newTask(impl.Task{Id: 30}), impl.WTwice)
	less := with(full, func(w *impl.World) { w.Cluster, _ = impl.TaskDrop(w.Cluster, 1) })
	wantFine(t, "as many tasks as possible", less, newTask(impl.Task{Id: 31}), func(w *impl.World) { addTask(w, impl.Task{Id: 31}) })
}

func TestStepsAsEvents(t *testing.T) {
	worlds := append(validWorlds(), restingWorld())
	for _, a := range abilities() {
		worlds = append(worlds, with(restingWorld(), func(w *impl.World) { a.add(w, 10) }))
	}
	for _, w := range worlds {
		for who := 1; who <= impl.MaxReplicas; who++ {
			got, told := impl.WorldDo(w, stepBy(who))
			want, same := impl.StepOf(w, who)
			wantTold(t, "EvStep", told, same)
			wantWorld(t, "EvStep", got, want)
			if who != impl.Leader(w) {
				wantUnchanged(t, "EvStep of another", w, stepBy(who), impl.WLead)
			}
		}
	}
}

// delivery is a message, the code of its delivery and what it does beside that it
// is removed.
type delivery struct {
	m    impl.Msg
	code int
	do   func(w *impl.World, works bool)
}

// deliveries are about the provider of deliveryWorld.
func deliveries() []delivery {
	nothing := func(w *impl.World, works bool) {}
	seen := func(epoch int) func(w *impl.World, works bool) {
		return func(w *impl.World, works bool) { w.Prov.Seen = epoch }
	}
	created := func(epoch int, id int, pool int) delivery {
		return delivery{creationOf(epoch, id, pool), impl.WFine, func(w *impl.World, works bool) {
			w.Prov.Seen = epoch
			addInst(w, id, pool, stateOf(works))
		}}
	}
	ended := func(epoch int, id int) delivery {
		return delivery{terminationOf(epoch, id), impl.WFine, func(w *impl.World, works bool) {
			w.Prov.Seen = epoch
			at := slices.IndexFunc(w.Prov.Insts, func(i impl.Inst) bool { return i.Id == id })
			w.Prov.Insts[at].State = impl.InstGone
		}}
	}
	return []delivery{
		created(5, 1, 4), created(7, 20, 0), created(5, 39, 3), ended(5, 3), ended(6, 50), ended(5, 5),
		{creationOf(5, 3, 2), impl.WFine, seen(5)}, {creationOf(6, 5, 0), impl.WFine, seen(6)}, {terminationOf(7, 90), impl.WFine, seen(7)},
		{creationOf(4, 20, 0), impl.WOld, nothing}, {creationOf(1, 3, 1), impl.WOld, nothing}, {terminationOf(4, 3), impl.WOld, nothing},
		// Of what does not exist: WOld comes first.
		{terminationOf(4, 4), impl.WOld, nothing}, {terminationOf(5, 4), impl.WNone, nothing}, {terminationOf(7, 91), impl.WNone, nothing},
	}
}

// deliveryWorld has few machines, of which 3 and 50 are up, and has heard of the
// epoch 5.
func deliveryWorld(list ...impl.Msg) impl.World {
	w := emptyWorld()
	w.Next, w.Lease, w.Epochs, w.Prov, w.Msgs = impl.MaxId+1, leaseOf(3, 7, 30), []int{0, 2, 7, 5}, provOf(5, fewInsts()...), list
	return w
}

func TestDeliveries(t *testing.T) {
	for _, d := range deliveries() {
		for at := range 3 {
			w := deliveryWorld(slices.Insert(otherMsgs(2), at, d.m)...)
			for _, works := range []bool{true, false} {
				what := fmt.Sprintf("%+v at %d, %v", d.m, at, works)
				wantDo(t, what, w, deliver(at, works, false), impl.Told{Code: d.code}, func(w *impl.World) {
					d.do(w, works)
					w.Msgs = slices.Delete(w.Msgs, at, at+1)
				})
				wantDo(t, what+", kept", w, deliver(at, works, true), impl.Told{Code: d.code}, func(w *impl.World) { d.do(w, works) })
			}
		}
	}
}

func TestDeliveriesToAFullProvider(t *testing.T) {
	w := deliveryWorld(creationOf(7, 90, 0), creationOf(5, 2, 0), creationOf(4, 90, 0), terminationOf(7, 90), terminationOf(6, 4))
	w.Prov = provOf(5, manyInsts(impl.MaxInsts)...)
	for at, code := range []int{impl.WFull, impl.WFine, impl.WOld, impl.WNone, impl.WFine} {
		for _, keep := range []bool{false, true} {
			wantDo(t, fmt.Sprint("the message ", at), w, deliver(at, true, keep), impl.Told{Code: code}, func(w *impl.World) {
				if code == impl.WFine {
					w.Prov.Seen = w.Msgs[at].Epoch
				}
				if at == 4 {
					w.Prov.Insts[2].State = impl.InstGone
				}
				if !keep {
					w.Msgs = slices.Delete(w.Msgs, at, at+1)
				}
			})
		}
	}
	w.Prov.Insts = w.Prov.Insts[:impl.MaxInsts-1]
	wantFine(t, "the last machine", w, deliver(0, true, false), func(w *impl.World) {
		w.Prov.Seen, w.Msgs = 7, w.Msgs[1:]
		addInst(w, 90, 0, impl.InstUp)
	})
}

func TestMessagesThatDoNotExist(t *testing.T) {
	for _, number := range []int{0, 1, 5, impl.MaxMsgs - 1, impl.MaxMsgs} {
		w := deliveryWorld(slices.Repeat([]impl.Msg{terminationOf(6, 3)}, number)...)
		for at := range impl.MaxMsgs {
			if at < number {
				wantFine(t, "EvLose", w, loseOf(at), func(w *impl.World) { w.Msgs = w.Msgs[1:] })
				continue
			}
			wantUnchanged(t, "EvLose", w, loseOf(at), impl.WNone)
			for flags := range 4 {
				wantUnchanged(t, "EvMsg", w, deliver(at, flags&1 > 0, flags&2 > 0), impl.WNone)
			}
		}
	}
}

// Each of several messages; the others stay in their order.
func TestLostMessages(t *testing.T) {
	w := busyWorld()
	for at := range w.Msgs {
		wantFine(t, "EvLose", w, loseOf(at), func(w *impl.World) { w.Msgs = slices.Delete(w.Msgs, at, at+1) })
	}
	wantUnchanged(t, "EvLose", w, loseOf(len(w.Msgs)), impl.WNone)
}

func TestFailures(t *testing.T) {
	w := busyWorld()
	for at, i := range w.Prov.Insts {
		if i.State == impl.InstGone {
			wantUnchanged(t, "the failure of what is gone", w, failOf(i.Id), impl.WNone)
			continue
		}
		wantFine(t, "a failure", w, failOf(i.Id), func(w *impl.World) { w.Prov.Insts[at].State = impl.InstGone })
	}
	for _, id := range []int{1, 4, 20, 40, impl.MaxId} {
		wantUnchanged(t, "the failure of nothing", w, failOf(id), impl.WNone)
	}
}

// invalidEvents are not valid in one field each, except for those of no kind.
func invalidEvents() []impl.Event {
	var out []impl.Event
	good := []impl.Event{
		tick(1), tick(1000), tryOf(1), tryOf(4), crashOf(1), newTask(impl.Task{Id: 1}), cancel(1), cancel(12), stepBy(2), deliver(0, true, false), deliver(1, false, true),
		loseOf(0), loseOf(39), failOf(2), failOf(99),
	}
	for _, e := range append(good, impl.Event{}) {
		var all []impl.Event
		change := func(set func(e *impl.Event)) { all = append(all, exchanged([]impl.Event{e}, 0, set)...) }
		for _, n := range []int{math.MinInt, -1, 0, 1, 40, 100, 1001, math.MaxInt} {
			change(func(e *impl.Event) { e.N = n })
			change(func(e *impl.Event) { e.Who = n })
			change(func(e *impl.Event) { e.Kind = n })
		}
		change(func(e *impl.Event) { e.Works = true })
		change(func(e *impl.Event) { e.Keep = true })
		for _, task := range eventTasks() {
			change(func(e *impl.Event) { e.Task = task })
		}
		out = append(out, slices.DeleteFunc(all, isEvent)...)
	}
	return out
}

func TestInvalidEvents(t *testing.T) {
	for _, w := range []impl.World{emptyWorld(), busyWorld(), restingWorld(), fullWorld()} {
		for _, e := range invalidEvents() {
			wantUnchanged(t, fmt.Sprintf("%+v", e), w, e, impl.WForm)
		}
	}
}

// eventsOfAllKinds have many codes in busyWorld.
func eventsOfAllKinds() []impl.Event {
	return []impl.Event{
		tick(10), tryOf(1), tryOf(2), crashOf(2), newTask(impl.Task{Id: 50}), newTask(impl.Task{Id: 7}), cancel(7), cancel(8), stepBy(2), stepBy(1), deliver(0, true, false),
		deliver(1, true, true), deliver(2, false, false), deliver(9, true, false), loseOf(1), loseOf(9), failOf(2), failOf(3),
	}
}

// WForm of the world comes before every other code.
func TestEventsInInvalidWorlds(t *testing.T) {
	for what, w := range brokenWorlds() {
		for _, e := range append(eventsOfAllKinds(), impl.Event{}, tick(0), stepBy(9)) {
			got, told := impl.WorldDo(w, e)
			wantTold(t, what, told, impl.Told{Code: impl.WForm})
			wantWorld(t, what, got, impl.World{})
		}
		for _, list := range [][]impl.Event{nil, {}, eventsOfAllKinds()} {
			wantNoRun(t, what, w, list)
		}
		for who := range impl.MaxReplicas + 2 {
			got, rounds := impl.Calm(w, who)
			wantInt(t, "the number of repetitions with "+what, rounds, 0)
			wantWorld(t, what, got, impl.World{})
		}
	}
}

func wantNoRun(t *testing.T, what string, w impl.World, list []impl.Event) {
	t.Helper()
	got, told, ok := impl.WorldRun(w, list)
	if ok || len(told) > 0 || !sameWorld(got, impl.World{}) {
		t.Errorf("%s: WorldRun of %d events is %s, %+v, %v", what, len(list), worldText(got), told, ok)
	}
}

// wantRun compares WorldRun with WorldDo of each event.
func wantRun(t *testing.T, what string, w impl.World, list []impl.Event) {
	t.Helper()
	got, all, ok := impl.WorldRun(w, list)
	want := w
	var outcomes []impl.Told
	for _, e := range list {
		var told impl.Told
		want, told = impl.WorldDo(want, e)
		outcomes = append(outcomes, told)
	}
	if !ok {
		t.Errorf("%s: WorldRun of %d events returns false", what, len(list))
	}
	wantOutcomes(t, what, all, outcomes...)
	wantWorld(t, what, got, want)
}

func TestWorldRun(t *testing.T) {
	for _, w := range append(validWorlds(), restingWorld()) {
		list := eventsOfAllKinds()
		wantRun(t, "no events", w, nil)
		wantRun(t, "no events", w, []impl.Event{})
		for at := range list {
			wantRun(t, "one event", w, list[at:at+1])
		}
		wantRun(t, "all events", w, list)
		slices.Reverse(list)
		wantRun(t, "all events in reverse", w, append(list, tick(0), stepBy(1), impl.Event{}, stepBy(2)))
		many := slices.Repeat(list, impl.MaxEvents/len(list)+1)
		for _, number := range []int{impl.MaxEvents - 1, impl.MaxEvents} {
			wantRun(t, fmt.Sprint(number, " events"), w, many[:number])
		}
		wantNoRun(t, "an event too many", w, many[:impl.MaxEvents+1])
		wantNoRun(t, "many events that are not valid", w, make([]impl.Event, 10000))
		wantRun(t, "events that are not valid", w, make([]impl.Event, impl.MaxEvents))
	}
}

// calmRule repeats what the chapter says.
func calmRule(w impl.World, who int) (impl.World, int) {
	for round := 1; round <= 1000; round++ {
		var told impl.Told
		w, told = impl.StepOf(w, who)
		if told == (impl.Told{}) && len(w.Msgs) == 0 {
			return w, round
		}
		for range len(w.Msgs) {
			w, _ = impl.WorldDo(w, deliver(0, true, false))
		}
	}
	return w, 1000
}

func wantCalm(t *testing.T, what string, w impl.World, rounds int) impl.World {
	t.Helper()
	got, number := impl.Calm(w, 1)
	want, same := calmRule(w, 1)
	wantInt(t, "the number of repetitions, "+what, number, rounds)
	wantInt(t, "the number of repetitions by the rule, "+what, same, rounds)
	wantWorld(t, what, got, want)
	return got
}

func TestCalmOfOthers(t *testing.T) {
	for _, w := range append(validWorlds(), restingWorld()) {
		leader := impl.Leader(w)
		for _, who := range append(whosAtTheBounds(), 3) {
			got, rounds := impl.Calm(w, who)
			if who == leader && who > 0 {
				want, same := calmRule(w, who)
				wantInt(t, "the number of repetitions", rounds, same)
				wantWorld(t, "Calm", got, want)
				continue
			}
			wantInt(t, fmt.Sprint("the number of repetitions by ", who), rounds, 0)
			wantWorld(t, fmt.Sprint("Calm by ", who), got, impl.World{})
		}
	}
}

func TestCalmOfEachAbility(t *testing.T) {
	wantCalm(t, "at rest", restingWorld(), 1)
	for did, rounds := range map[int]int{
		// A node that joins is not used, and is removed again: by DidShrink, DidEnd
		// and DidLose.
		impl.DidJoin: 5, impl.DidGiveUp: 2, impl.DidLose: 2, impl.DidOrphan: 2, impl.DidPlace: 2, impl.DidAsk: 6, impl.DidEnd: 3, impl.DidGrow: 5, impl.DidShrink: 4,
	} {
		w := with(restingWorld(), func(w *impl.World) { abilityOf(did).add(w, 10) })
		got := wantCalm(t, fmt.Sprint("the action ", did), w, rounds)
		wantCalm(t, fmt.Sprint("after the action ", did), got, 1)
	}
}

// A step that does nothing is not the end as long as there are messages.
func TestCalmWithMessages(t *testing.T) {
	w := with(restingWorld(), func(w *impl.World) { abilityOf(impl.DidEnd).add(w, 10); addMsg(w, terminationOf(3, 10)) })
	got := wantCalm(t, "a termination on its way", w, 3)
	wantInt(t, "the number of nodes", len(got.Cluster.Nodes), 0)
	w = with(restingWorld(), func(w *impl.World) {
		w.Msgs = []impl.Msg{terminationOf(1, 80), creationOf(2, 81, 4), terminationOf(3, 81)}
	})
	got = wantCalm(t, "only messages", w, 2)
	wantInt(t, "the state of a machine that came and went", impl.ProvState(got.Prov, 81), impl.InstGone)
	wantInt(t, "Seen", got.Prov.Seen, 3)
	// In the other order the machine is left, and is no one's.
	slices.Reverse(w.Msgs)
	w.Msgs[0].Epoch, w.Msgs[1].Epoch = 2, 3
	got = wantCalm(t, "the messages in reverse", w, 3)
	wantInt(t, "the state of a machine that was no one's", impl.ProvState(got.Prov, 81), impl.InstGone)
	// What a leader before sent has no effect.
	w.Msgs = []impl.Msg{terminationOf(3, 80), creationOf(2, 81, 4)}
	w.Prov = provOf(3)
	got = wantCalm(t, "an old message", w, 2)
	wantInt(t, "the number of machines", len(got.Prov.Insts), 0)
}

// A Want for which no machine can be created any more is asked for until Calm
// gives up.
func TestCalmWithoutRest(t *testing.T) {
	w := with(restingWorld(), func(w *impl.World) {
		w.Prov = provOf(2, manyInsts(impl.MaxInsts)...)
		for at := range w.Prov.Insts {
			w.Prov.Insts[at].State = impl.InstGone
		}
		abilityOf(impl.DidGrow).add(w, 10)
	})
	got := wantCalm(t, "a full provider", w, 1000)
	if want := []impl.Want{{Id: 90, Pool: 1}}; !slices.Equal(got.Wants, want) || len(got.Msgs) > 0 || got.Next != 91 {
		t.Errorf("the world is %s", worldText(got))
	}
	w.Prov.Insts = w.Prov.Insts[1:]
	wantCalm(t, "the last machine", w, 5)
}

// A Want that cannot join is no reason to go on.
func TestCalmWithAWantThatIsLeft(t *testing.T) {
	w := with(restingWorld(), func(w *impl.World) {
		abilityOf(impl.DidJoin).add(w, 10)
		fillNodes(w, impl.MaxNodes)
	})
	got := wantCalm(t, "a full cluster", w, 1)
	wantWorld(t, "a full cluster", got, w)
}

// Where a list is empty it does not matter whether it is nil. Epochs are never
// empty in a valid world.
func TestWorldsWithNilAndEmptyLists(t *testing.T) {
	for _, w := range append(validWorlds(), restingWorld()) {
		for _, e := range append(eventsOfAllKinds(), newTask(impl.Task{Id: 50, Want: []impl.Lab{}, Tols: []int{}}), stepBy(4)) {
			one, told := impl.WorldDo(w, e)
			other, same := impl.WorldDo(emptied(cloneWorld(w)), e)
			wantTold(t, "with empty lists", same, told)
			wantWorld(t, "with empty lists", other, one)
			e.Task.Want, e.Task.Tols = append([]impl.Lab{}, e.Task.Want...), append([]int{}, e.Task.Tols...)
			again, same := impl.WorldDo(w, e)
			wantTold(t, "with empty lists of a task", same, told)
			wantWorld(t, "with empty lists of a task", again, one)
		}
	}
	one, ok := impl.WorldNew(nil, impl.ByTasks, 300, 20)
	other, same := impl.WorldNew([]impl.Pool{}, impl.ByTasks, 300, 20)
	wantWorld(t, "WorldNew without pools", one, other)
	if !ok || !same {
		t.Error("WorldNew without pools returns false")
	}
	for _, epochs := range [][]int{nil, {}, {0}, {0, 0, 0}} {
		w := emptyWorld()
		w.Epochs = epochs
		if impl.WorldOk(w) {
			t.Errorf("WorldOk accepts the Epochs %v", epochs)
		}
	}
}

// spaciousWorld returns a copy in which every list has spare capacity, with
// elements that would be seen if they were read.
func spaciousWorld(w impl.World) impl.World {
	w.Epochs = append(slices.Clone(w.Epochs), -1, 9)[:len(w.Epochs)]
	w.Pools = spaciousPools(w.Pools)
	w.Cluster = spacious(w.Cluster)
	w.Wants = append(slices.Clone(w.Wants), impl.Want{Id: 98}, impl.Want{Id: -1})[:len(w.Wants)]
	w.Ends = append(slices.Clone(w.Ends), 98, -1)[:len(w.Ends)]
	w.Prov = spaciousProv(w.Prov)
	w.Msgs = append(slices.Clone(w.Msgs), terminationOf(1, 98), impl.Msg{Id: -1})[:len(w.Msgs)]
	return w
}

// worldResults are all results for one world.
type worldResults struct {
	Worlds   []impl.World
	Outcomes [][]impl.Told
	Oks      []bool
	Numbers  []int
}

func (r *worldResults) add(w impl.World, told ...impl.Told) {
	r.Worlds = append(r.Worlds, w)
	r.Outcomes = append(r.Outcomes, told)
}

func worldResultsOf(w impl.World, list []impl.Event) worldResults {
	r := worldResults{Oks: []bool{impl.WorldOk(w), impl.WorldSafe(w)}, Numbers: []int{impl.Leader(w)}}
	for _, e := range list {
		r.Oks = append(r.Oks, impl.EventOk(e))
		got, told := impl.WorldDo(w, e)
		r.add(got, told)
	}
	for who := range impl.MaxReplicas + 2 {
		got, told := impl.StepOf(w, who)
		r.add(got, told)
		got, rounds := impl.Calm(w, who)
		r.add(got)
		r.Numbers = append(r.Numbers, rounds)
	}
	got, all, ok := impl.WorldRun(w, list)
	r.add(got, all...)
	none, _, fine := impl.WorldRun(w, nil)
	r.add(none)
	begin, good := impl.WorldNew(w.Pools, w.Kind, w.Limit, w.Span)
	r.add(begin)
	r.Oks = append(r.Oks, ok, fine, good)
	return r
}

func TestWorldsChangeNoArgumentAndShareNoMemory(t *testing.T) {
	worlds := append(validWorlds(), restingWorld())
	for _, a := range abilities() {
		worlds = append(worlds, with(restingWorld(), func(w *impl.World) {
			w.Pools = append(w.Pools, goodPool())
			// Every task is bound, so that the action of the ability comes first.
			w.Cluster, _ = impl.TaskDrop(sample(), 3)
			w.Cluster, _ = impl.TaskDrop(w.Cluster, 40)
			for _, n := range w.Cluster.Nodes {
				addInst(w, n.Id, n.Pool, impl.InstUp)
			}
			a.add(w, 50)
		}))
	}
	for _, w := range brokenWorlds() {
		worlds = append(worlds, w)
	}
	list := append(eventsOfAllKinds(), newTask(spaciousTask(impl.Task{Id: 51, Want: labsOf([]int{1, 2}), Tols: []int{3}})), tick(0))
	for _, w := range worlds {
		given := spaciousWorld(w)
		before := wholeText(reflect.ValueOf(given)) + wholeText(reflect.ValueOf(list))
		got := worldResultsOf(given, list)
		if now := wholeText(reflect.ValueOf(given)) + wholeText(reflect.ValueOf(list)); now != before {
			t.Fatalf("%s was changed to %s", before, now)
		}
		wantOwnMemory(t, "the results of "+worldText(w), got, given, list)
		// The same without spare capacity: nothing behind a list is read.
		if plain := worldResultsOf(w, list); fmt.Sprintf("%+v", got) != fmt.Sprintf("%+v", plain) {
			t.Errorf("the results depend on what is behind the lists of %s", worldText(w))
		}
		if t.Failed() {
			return
		}
	}
}
