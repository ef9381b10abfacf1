package tests

import (
	"fmt"
	"math"
	"reflect"
	"slices"
	"testing"

	"loop.example/g00718/impl"
)

// restingWorld has nothing to do for its Leader, which is the replica 1 with the
// epoch 3. What is added to it in the pool 3, which is not listed, is not
// scaled; a task that wants the label 2 is only for a node of the pool 1.
func restingWorld() impl.World {
	large := poolOf(1, 0, 20, 8)
	large.Shape.Labs, large.Shape.Taints = []impl.Lab{{Key: 2, Val: 2}}, []int{6}
	return impl.World{
		Now: 5, Span: 20, Kind: impl.ByTasks, Limit: 300, Next: 90,
		Lease: leaseOf(1, 3, 20), Epochs: []int{3, 0, 2, 0}, Prov: provOf(2),
		Pools: []impl.Pool{poolOf(0, 0, 20, 4), large},
	}
}

func addNode(w *impl.World, n impl.Node) {
	w.Cluster.Nodes = append(w.Cluster.Nodes, n)
	slices.SortFunc(w.Cluster.Nodes, func(a impl.Node, b impl.Node) int { return a.Id - b.Id })
}

func addInst(w *impl.World, id int, pool int, state int) {
	w.Prov.Insts = append(w.Prov.Insts, instOf(id, pool, state))
	slices.SortFunc(w.Prov.Insts, func(a impl.Inst, b impl.Inst) int { return a.Id - b.Id })
}

func addWant(w *impl.World, id int, pool int) {
	w.Wants = append(w.Wants, impl.Want{Id: id, Pool: pool})
	slices.SortFunc(w.Wants, func(a impl.Want, b impl.Want) int { return a.Id - b.Id })
}

func addEnd(w *impl.World, id int) {
	w.Ends = append(w.Ends, id)
	slices.Sort(w.Ends)
}

func addBind(w *impl.World, task int, node int) {
	w.Cluster.Binds = append(w.Cluster.Binds, impl.Bind{Task: task, Node: node})
	slices.SortFunc(w.Cluster.Binds, func(a impl.Bind, b impl.Bind) int { return a.Task - b.Task })
}

func addMsg(w *impl.World, m impl.Msg) { w.Msgs = append(w.Msgs, m) }

func addTask(w *impl.World, task impl.Task) { w.Cluster.Tasks = append(w.Cluster.Tasks, task) }

// addUpNode adds a node of the pool 3 whose machine is up.
func addUpNode(w *impl.World, id int) {
	addNode(w, impl.Node{Id: id, Pool: 3, Cap: even(2)})
	addInst(w, id, 3, impl.InstUp)
}

func dropWant(w *impl.World, id int) {
	w.Wants = slices.DeleteFunc(w.Wants, func(v impl.Want) bool { return v.Id == id })
}

func dropNode(w *impl.World, id int) {
	w.Cluster.Nodes = slices.DeleteFunc(w.Cluster.Nodes, func(n impl.Node) bool { return n.Id == id })
	w.Cluster.Binds = slices.DeleteFunc(w.Cluster.Binds, func(b impl.Bind) bool { return b.Node == id })
	w.Ends = slices.DeleteFunc(w.Ends, func(end int) bool { return end == id })
}

func nodeAt(w *impl.World, id int) *impl.Node {
	return &w.Cluster.Nodes[slices.IndexFunc(w.Cluster.Nodes, func(n impl.Node) bool { return n.Id == id })]
}

// ability is what makes an action possible, with an Id that is its own, and what
// the action then does.
type ability struct {
	did int
	add func(w *impl.World, id int)
	do  func(w *impl.World, id int)
}

// told is what a step says that did it.
func (a ability) told(id int) impl.Told {
	switch a.did {
	case impl.DidPlace:
		id = 0
	case impl.DidGrow:
		id = 90
	}
	return impl.Told{Did: a.did, Id: id}
}

// sends reports whether the action needs a message.
func (a ability) sends() bool {
	return a.did == impl.DidOrphan || a.did == impl.DidAsk || a.did == impl.DidEnd
}

// message is the one that the action sends.
func (a ability) message(id int) impl.Msg {
	if a.did == impl.DidAsk {
		return creationOf(3, id, 1)
	}
	return terminationOf(3, id)
}

// scales reports whether the action is only possible without Wants and Ends.
func (a ability) scales() bool { return a.did == impl.DidGrow || a.did == impl.DidShrink }

// abilities are in the order in which the chapter lists the actions.
func abilities() []ability {
	sendIt := func(did int) func(w *impl.World, id int) {
		return func(w *impl.World, id int) { addMsg(w, ability{did: did}.message(id)) }
	}
	return []ability{
		{impl.DidJoin, func(w *impl.World, id int) { addWant(w, id, 0); addInst(w, id, 0, impl.InstUp) },
			func(w *impl.World, id int) { dropWant(w, id); addNode(w, nodesIn(id, 4, 0)[0]) }},
		{impl.DidGiveUp, func(w *impl.World, id int) { addWant(w, id, 1); addInst(w, id, 1, impl.InstGone) }, dropWant},
		{impl.DidLose, func(w *impl.World, id int) { addNode(w, nodesIn(id, 2, 3)[0]); addInst(w, id, 3, impl.InstGone) }, dropNode},
		{impl.DidOrphan, func(w *impl.World, id int) { addInst(w, id, 2, impl.InstUp) }, sendIt(impl.DidOrphan)},
		{impl.DidPlace, func(w *impl.World, id int) {
			addUpNode(w, id)
			nodeAt(w, id).Labs = []impl.Lab{{Key: 4, Val: id / 10}}
			addTask(w, impl.Task{Id: id, Need: even(1), Want: []impl.Lab{{Key: 4, Val: id / 10}}})
		}, func(w *impl.World, id int) { addBind(w, id, id) }},
		{impl.DidAsk, func(w *impl.World, id int) { addWant(w, id, 1) }, sendIt(impl.DidAsk)},
		{impl.DidEnd, func(w *impl.World, id int) { addUpNode(w, id); nodeAt(w, id).Cordon = true; addEnd(w, id) }, sendIt(impl.DidEnd)},
		{impl.DidGrow, func(w *impl.World, id int) {
			addTask(w, impl.Task{Id: id, Need: even(5), Want: []impl.Lab{{Key: 2, Val: 2}}, Tols: []int{6}})
		}, func(w *impl.World, id int) { addWant(w, 90, 1); w.Next = 91 }},
		{impl.DidShrink, func(w *impl.World, id int) { addUpNode(w, id); nodeAt(w, id).Pool = 1 },
			func(w *impl.World, id int) { nodeAt(w, id).Cordon = true; addEnd(w, id) }},
	}
}

func abilityOf(did int) ability { return abilities()[did-impl.DidJoin] }

func wantStepOf(t *testing.T, what string, w impl.World, told impl.Told, do func(w *impl.World)) {
	t.Helper()
	if !impl.WorldOk(w) {
		t.Fatalf("%s: WorldOk of %s is false", what, worldText(w))
	}
	got, is := impl.StepOf(w, 1)
	wantTold(t, what, is, told)
	wantWorld(t, what, got, with(w, do))
}

// wantAbility expects the action of an ability.
func wantAbility(t *testing.T, what string, w impl.World, a ability, id int) {
	t.Helper()
	wantStepOf(t, fmt.Sprintf("%d with the Id %d, %s", a.did, id, what), w, a.told(id), func(w *impl.World) { a.do(w, id) })
}

func wantNoStep(t *testing.T, what string, w impl.World) {
	t.Helper()
	wantStepOf(t, what, w, impl.Told{}, func(w *impl.World) {})
}

func TestStepsAlone(t *testing.T) {
	wantNoStep(t, "at rest", restingWorld())
	for at, a := range abilities() {
		wantInt(t, "the action", a.did, impl.DidJoin+at)
		for _, id := range []int{1, 10, 89} {
			w := with(restingWorld(), func(w *impl.World) { a.add(w, id) })
			wantAbility(t, "alone", w, a, id)
		}
	}
}

// Both Ids are tried for both actions: the Id does not decide between them.
func TestStepsOfTwoAbilities(t *testing.T) {
	all := abilities()
	for at, a := range all {
		for _, b := range all[at+1:] {
			for _, ids := range [][2]int{{10, 20}, {20, 10}} {
				w := with(restingWorld(), func(w *impl.World) { a.add(w, ids[0]); b.add(w, ids[1]) })
				wantAbility(t, fmt.Sprint("before ", b.did), w, a, ids[0])
				w = with(restingWorld(), func(w *impl.World) { b.add(w, ids[1]); a.add(w, ids[0]) })
				wantAbility(t, fmt.Sprint("before ", b.did), w, a, ids[0])
			}
		}
	}
}

// All at once, one after the other. No machine is added or removed as long as
// there are Wants and Ends.
func TestStepsOfAllAbilities(t *testing.T) {
	w := restingWorld()
	for _, a := range abilities() {
		a.add(&w, 95-10*a.did)
	}
	for _, a := range abilities()[:impl.DidEnd] {
		wantAbility(t, "of all", w, a, 95-10*a.did)
		w, _ = impl.StepOf(w, 1)
	}
	wantNoStep(t, "with all messages on their way", w)
}

func TestStepsOfSeveralCandidates(t *testing.T) {
	for _, a := range abilities() {
		if a.did == impl.DidPlace {
			continue
		}
		for _, ids := range [][]int{{10, 20, 30}, {30, 20, 10}, {20, 10, 30}} {
			w := restingWorld()
			for _, id := range ids {
				a.add(&w, id)
			}
			wantAbility(t, fmt.Sprint("the first of ", ids), w, a, 10)
		}
	}
	// All tasks are placed at once.
	w, place := restingWorld(), abilityOf(impl.DidPlace)
	for _, id := range []int{30, 10, 20} {
		place.add(&w, id)
	}
	wantStepOf(t, "three tasks", w, place.told(0), func(w *impl.World) {
		for _, id := range []int{10, 20, 30} {
			place.do(w, id)
		}
	})
}

// The first candidate is not one for some reason, so that a later one is taken.
func TestStepsOfALaterCandidate(t *testing.T) {
	upWant := func(w *impl.World, id int) { addWant(w, id, 0); addInst(w, id, 0, impl.InstUp) }
	full := func(w *impl.World, id int) { upWant(w, id); fillNodes(w, impl.MaxNodes) }
	onItsWay := func(did int) func(w *impl.World, id int) {
		return func(w *impl.World, id int) {
			abilityOf(did).add(w, id)
			addMsg(w, abilityOf(did).message(id))
		}
	}
	upNode := func(w *impl.World, id int) { addUpNode(w, id) }
	pinned := func(w *impl.World, id int) {
		addUpNode(w, id)
		addTask(w, impl.Task{Id: id, Need: even(2), Tols: []int{9}})
		*nodeAt(w, id) = impl.Node{Id: id, Pool: 1, Cap: even(9), Taints: []int{9}}
		addBind(w, id, id)
	}
	for _, c := range []struct {
		did   int
		what  string
		first func(w *impl.World, id int)
	}{
		{impl.DidJoin, "without a machine", abilityOf(impl.DidAsk).add},
		{impl.DidJoin, "gone", abilityOf(impl.DidGiveUp).add},
		{impl.DidGiveUp, "without a machine", abilityOf(impl.DidAsk).add},
		{impl.DidGiveUp, "up without a place", full},
		{impl.DidLose, "up", upNode},
		{impl.DidOrphan, "a node", upNode},
		{impl.DidOrphan, "a Want", full},
		{impl.DidOrphan, "gone", func(w *impl.World, id int) { addInst(w, id, 2, impl.InstGone) }},
		{impl.DidOrphan, "on its way", onItsWay(impl.DidOrphan)},
		{impl.DidAsk, "on its way", onItsWay(impl.DidAsk)},
		{impl.DidAsk, "up without a place", full},
		{impl.DidEnd, "on its way", onItsWay(impl.DidEnd)},
		{impl.DidShrink, "of a pool that is not listed", upNode},
		{impl.DidShrink, "used by a task that cannot move", pinned},
	} {
		w := with(restingWorld(), func(w *impl.World) { c.first(w, 10); abilityOf(c.did).add(w, 20); abilityOf(c.did).add(w, 30) })
		wantAbility(t, "the first is "+c.what, w, abilityOf(c.did), 20)
	}
}

// fillNodes adds nodes of the pool 3 behind all others, until there are as many.
func fillNodes(w *impl.World, number int) {
	for id := 60; len(w.Cluster.Nodes) < number; id++ {
		addUpNode(w, id)
	}
}

func TestStepJoinsUpToMaxNodes(t *testing.T) {
	join, giveUp := abilityOf(impl.DidJoin), abilityOf(impl.DidGiveUp)
	for number := range impl.MaxNodes + 1 {
		w := with(restingWorld(), func(w *impl.World) { join.add(w, 10); join.add(w, 20); fillNodes(w, number) })
		if number < impl.MaxNodes {
			wantAbility(t, fmt.Sprint("with ", number, " nodes"), w, join, 10)
			continue
		}
		wantNoStep(t, "with MaxNodes nodes", w)
		giveUp.add(&w, 30)
		wantAbility(t, "with MaxNodes nodes", w, giveUp, 30)
	}
	// A node makes room when it is lost.
	w := with(restingWorld(), func(w *impl.World) {
		abilityOf(impl.DidLose).add(w, 30)
		join.add(w, 10)
		fillNodes(w, impl.MaxNodes)
	})
	wantAbility(t, "of a full cluster", w, abilityOf(impl.DidLose), 30)
	w, _ = impl.StepOf(w, 1)
	wantAbility(t, "when there is room", w, join, 10)
}

func TestStepJoinsTheShapeOfThePool(t *testing.T) {
	w := with(restingWorld(), func(w *impl.World) {
		w.Pools[1] = goodPool()
		addWant(w, 10, 2)
		// The Want decides about the pool, not the machine.
		addInst(w, 10, 4, impl.InstUp)
	})
	got, told := impl.StepOf(w, 1)
	wantTold(t, "a Want of the second pool", told, impl.Told{Did: impl.DidJoin, Id: 10})
	n, _ := impl.PoolNode(goodPool(), 10)
	if len(got.Cluster.Nodes) != 1 || !reflect.DeepEqual(got.Cluster.Nodes[0], n) || len(got.Wants) != 0 {
		t.Errorf("the node is %+v, want %+v", got.Cluster.Nodes, n)
	}
}

// Neither what is on a node nor that it is being terminated keeps it.
func TestStepLosesANode(t *testing.T) {
	for _, state := range []int{0, impl.InstGone} {
		w := with(busyWorld(), func(w *impl.World) {
			w.Wants, w.Lease, w.Epochs = nil, leaseOf(1, 7, 60), []int{7, 0, 0, 0}
			w.Prov.Insts = []impl.Inst{instOf(2, 0, impl.InstUp), instOf(9, 1, impl.InstUp)}
			if state != 0 {
				addInst(w, 5, 4, state)
			}
		})
		wantStepOf(t, "the node 5", w, impl.Told{Did: impl.DidLose, Id: 5}, func(w *impl.World) { dropNode(w, 5) })
		w.Prov.Insts[0].State = impl.InstGone
		wantStepOf(t, "the node 2", w, impl.Told{Did: impl.DidLose, Id: 2}, func(w *impl.World) { dropNode(w, 2) })
		w.Prov.Insts = nil
		for _, id := range []int{2, 5, 9} {
			wantStepOf(t, "all nodes", w, impl.Told{Did: impl.DidLose, Id: id}, func(w *impl.World) { dropNode(w, id) })
			w, _ = impl.StepOf(w, 1)
		}
	}
}

func TestStepOrphansByTheIdAlone(t *testing.T) {
	for _, pool := range []int{0, 1, 3, 4} {
		w := with(restingWorld(), func(w *impl.World) {
			addNode(w, nodesIn(10, 2, 3)[0])
			addInst(w, 10, pool, impl.InstUp)
		})
		wantNoStep(t, "a node whose machine is of any pool", w)
	}
}

// senders are the abilities whose actions need a message.
func senders() []ability {
	return slices.DeleteFunc(abilities(), func(a ability) bool { return !a.sends() })
}

// otherMsgs are messages that do not prevent any.
func otherMsgs(number int) []impl.Msg {
	var out []impl.Msg
	for at := range number {
		out = append(out, terminationOf(1+at%3, 80+at%5))
	}
	return out
}

func TestStepSendsUpToMaxMsgs(t *testing.T) {
	for _, a := range senders() {
		for number := range impl.MaxMsgs + 1 {
			w := with(restingWorld(), func(w *impl.World) { a.add(w, 10); a.add(w, 20); w.Msgs = otherMsgs(number) })
			if number < impl.MaxMsgs {
				wantAbility(t, fmt.Sprint("with ", number, " messages"), w, a, 10)
				continue
			}
			wantNoStep(t, fmt.Sprint(a.did, " with MaxMsgs messages"), w)
		}
	}
}

func TestStepSendsNothingTwice(t *testing.T) {
	for _, a := range senders() {
		same := a.message(10)
		for _, c := range []struct {
			what string
			sent bool
			m    impl.Msg
		}{
			{"the same", false, same},
			{"the Epoch before", true, impl.Msg{Kind: same.Kind, Epoch: 2, Id: 10, Pool: same.Pool}},
			{"the first Epoch", true, impl.Msg{Kind: same.Kind, Epoch: 1, Id: 10, Pool: same.Pool}},
			{"the Id before", true, impl.Msg{Kind: same.Kind, Epoch: 3, Id: 9, Pool: same.Pool}},
			{"the Id behind", true, impl.Msg{Kind: same.Kind, Epoch: 3, Id: 11, Pool: same.Pool}},
			{"the other Kind", true, impl.Msg{Kind: impl.ActGrow + impl.ActShrink - same.Kind, Epoch: 3, Id: 10}},
		} {
			for _, others := range [][2]int{{0, 0}, {3, 0}, {0, 3}, {2, 2}} {
				w := with(restingWorld(), func(w *impl.World) {
					a.add(w, 10)
					w.Msgs = slices.Concat(otherMsgs(others[0]), []impl.Msg{c.m}, otherMsgs(others[1]))
				})
				if c.sent {
					wantAbility(t, c.what, w, a, 10)
				} else {
					wantNoStep(t, fmt.Sprint(a.did, " with ", c.what), w)
				}
			}
		}
	}
	// The Pool does not matter.
	w := with(restingWorld(), func(w *impl.World) { addWant(w, 10, 1); addMsg(w, creationOf(3, 10, 0)) })
	wantNoStep(t, "a creation in another pool", w)
}

// Where an action cannot send the next one of the list is executed, if it is
// possible.
func TestStepsAfterAMessageThatCannotBeSent(t *testing.T) {
	for _, a := range senders() {
		for _, b := range abilities()[a.did:] {
			// Neither Wants nor Ends are left, so that the cluster is not scaled.
			prevented := b.scales() && a.did != impl.DidOrphan
			w := with(restingWorld(), func(w *impl.World) { a.add(w, 10); b.add(w, 20); addMsg(w, a.message(10)) })
			full := with(restingWorld(), func(w *impl.World) { a.add(w, 10); b.add(w, 20); w.Msgs = otherMsgs(impl.MaxMsgs) })
			what := fmt.Sprint(b.did, " after ", a.did)
			if prevented {
				wantNoStep(t, what, w)
			} else {
				wantAbility(t, what, w, b, 20)
			}
			if prevented || b.sends() {
				wantNoStep(t, what+" with MaxMsgs messages", full)
			} else {
				wantAbility(t, what+" with MaxMsgs messages", full, b, 20)
			}
		}
	}
}

// A Want and one of Ends whose message is on its way, and a Want that cannot
// join.
func TestStepScalesWithoutWantsAndEnds(t *testing.T) {
	for _, did := range []int{impl.DidGrow, impl.DidShrink} {
		a := abilityOf(did)
		ready := with(restingWorld(), func(w *impl.World) { a.add(w, 50) })
		wantAbility(t, "with neither", ready, a, 50)
		for _, begun := range []ability{abilityOf(impl.DidAsk), abilityOf(impl.DidEnd)} {
			for _, id := range []int{10, 70} {
				wantNoStep(t, fmt.Sprint(did, " after ", begun.did), with(ready, func(w *impl.World) {
					begun.add(w, id)
					addMsg(w, begun.message(id))
				}))
			}
		}
	}
	grow := abilityOf(impl.DidGrow)
	wantNoStep(t, "with a Want that cannot join", with(restingWorld(), func(w *impl.World) {
		grow.add(w, 50)
		abilityOf(impl.DidJoin).add(w, 10)
		fillNodes(w, impl.MaxNodes)
	}))
	// Messages alone do not prevent it.
	wantAbility(t, "with messages", with(restingWorld(), func(w *impl.World) { grow.add(w, 50); w.Msgs = otherMsgs(7) }), grow, 50)
}

func TestStepGrowsUpToTheLastId(t *testing.T) {
	grow, shrink := abilityOf(impl.DidGrow), abilityOf(impl.DidShrink)
	for _, next := range []int{1, 2, 50, impl.MaxId - 1, impl.MaxId} {
		w := with(restingWorld(), func(w *impl.World) { grow.add(w, 10); w.Next = next })
		told := impl.Told{Did: impl.DidGrow, Id: next}
		wantStepOf(t, fmt.Sprint("with Next ", next), w, told, func(w *impl.World) { addWant(w, next, 1); w.Next = next + 1 })
	}
	w := with(restingWorld(), func(w *impl.World) { grow.add(w, 10); w.Next = impl.MaxId + 1 })
	wantNoStep(t, "without an Id", w)
	shrink.add(&w, impl.MaxId)
	wantAbility(t, "without an Id", w, shrink, impl.MaxId)
	// Without nodes and machines there is nothing to do for the first Id either.
	wantNoStep(t, "with Next 1", with(restingWorld(), func(w *impl.World) { w.Next = 1 }))
}

// The Kind, the Limit and the Pools of the world are those of the plan.
func TestStepScalesByThePlan(t *testing.T) {
	w := with(restingWorld(), func(w *impl.World) {
		w.Pools = []impl.Pool{withPrio(poolOf(0, 0, 1, 4), 9), poolOf(1, 0, 1, 9), withPrio(poolOf(2, 0, 1, 6), 1)}
		w.Cluster.Tasks = tasksOf(3, 3, 3)
	})
	for kind, pool := range map[int]int{impl.ByTasks: 1, impl.ByShare: 1, impl.ByPrio: 0} {
		w.Kind = kind
		wantStepOf(t, fmt.Sprint("by ", kind), w, impl.Told{Did: impl.DidGrow, Id: 90}, func(w *impl.World) { addWant(w, 90, pool); w.Next = 91 })
	}
	w.Pools[2].Min = 1
	wantStepOf(t, "below Min", w, impl.Told{Did: impl.DidGrow, Id: 90}, func(w *impl.World) { addWant(w, 90, 2); w.Next = 91 })
	// A share of exactly 500 is not below the limit.
	w = with(restingWorld(), func(w *impl.World) {
		w.Limit, w.Cluster.Tasks = 500, tasksOf(1)
		addUpNode(w, 10)
		addUpNode(w, 20)
		nodeAt(w, 10).Pool, nodeAt(w, 20).Pool = 1, 1
		addBind(w, 1, 10)
		nodeAt(w, 20).Cordon = true
	})
	wantAbility(t, "the empty node", w, abilityOf(impl.DidShrink), 20)
	w.Cluster.Nodes[1].Pool = 3
	wantNoStep(t, "at the limit", w)
	w.Limit, w.Cluster.Nodes[1].Cordon = 501, false
	wantStepOf(t, "below the limit", w, impl.Told{Did: impl.DidShrink, Id: 10}, func(w *impl.World) {
		nodeAt(w, 10).Cordon = true
		w.Cluster.Binds = []impl.Bind{{Task: 1, Node: 20}}
		addEnd(w, 10)
	})
	w.Pools[1].Min = 1
	wantNoStep(t, "at Min", w)
}

func TestStepPlacesWhatItCan(t *testing.T) {
	w := with(restingWorld(), func(w *impl.World) {
		addUpNode(w, 10)
		w.Pools = nil
		w.Cluster.Tasks = tasksOf(3, 2, 1)
	})
	wantStepOf(t, "one of three tasks", w, impl.Told{Did: impl.DidPlace}, func(w *impl.World) { addBind(w, 2, 10) })
	w, _ = impl.StepOf(w, 1)
	wantNoStep(t, "the tasks that are left", w)
	// With the machine gone the node is lost first.
	w = with(restingWorld(), func(w *impl.World) { abilityOf(impl.DidLose).add(w, 10); w.Cluster.Tasks = tasksOf(1) })
	wantAbility(t, "before a task is placed on it", w, abilityOf(impl.DidLose), 10)
}

func TestStepOfOthers(t *testing.T) {
	for _, w := range append(validWorlds(), restingWorld()) {
		leader := impl.Leader(w)
		for _, who := range append(whosAtTheBounds(), 3) {
			got, told := impl.StepOf(w, who)
			switch {
			case who < 1 || who > impl.MaxReplicas:
				wantTold(t, fmt.Sprint("StepOf ", who), told, impl.Told{Code: impl.WForm})
				wantWorld(t, fmt.Sprint("StepOf ", who), got, impl.World{})
			case who != leader:
				wantTold(t, fmt.Sprint("StepOf ", who), told, impl.Told{Code: impl.WLead})
				wantWorld(t, fmt.Sprint("StepOf ", who), got, w)
			default:
				wantInt(t, fmt.Sprint("the code of StepOf ", who), told.Code, impl.WFine)
			}
		}
	}
	// With every ability there is something to be done, but not by others.
	w := restingWorld()
	for _, a := range abilities() {
		a.add(&w, 10*a.did-9)
		for who := 2; who <= impl.MaxReplicas; who++ {
			got, told := impl.StepOf(w, who)
			wantTold(t, "StepOf of another replica", told, impl.Told{Code: impl.WLead})
			wantWorld(t, "StepOf of another replica", got, w)
		}
	}
	for what, late := range map[string]impl.World{
		"at Till":     with(w, func(w *impl.World) { w.Now = 20 }),
		"after Till":  with(w, func(w *impl.World) { w.Now = 21 }),
		"crashed":     with(w, func(w *impl.World) { w.Epochs[0] = 0 }),
		"superseded":  with(w, func(w *impl.World) { w.Lease.Who, w.Epochs[1] = 2, 3 }),
		"a new epoch": with(w, func(w *impl.World) { w.Lease.Epoch = 4 }),
	} {
		got, told := impl.StepOf(late, 1)
		wantTold(t, what, told, impl.Told{Code: impl.WLead})
		wantWorld(t, what, got, late)
	}
}

// brokenWorlds are not valid for one reason each. Most have a Leader, which is
// the replica 2, and something to do.
func brokenWorlds() map[string]impl.World {
	out := map[string]impl.World{"the zero value": {}}
	add := func(what string, change func(w *impl.World)) { out[what] = with(busyWorld(), change) }
	for _, c := range settingChanges() {
		if !c.ok {
			add(c.what, c.change)
		}
	}
	add("no Next", func(w *impl.World) { w.Next = 0 })
	add("too great a Next", func(w *impl.World) { w.Next = impl.MaxId + 2 })
	add("the greatest Next", func(w *impl.World) { w.Next = math.MaxInt })
	add("the least Next", func(w *impl.World) { w.Next = math.MinInt })
	add("Next not behind a Want", func(w *impl.World) { w.Next = 39 })
	add("an invalid lease", func(w *impl.World) { w.Lease.Till = 2*impl.MaxTime + 1 })
	add("no Epochs", func(w *impl.World) { w.Epochs = nil })
	add("an Epoch too few", func(w *impl.World) { w.Epochs = w.Epochs[:3] })
	add("an Epoch too many", func(w *impl.World) { w.Epochs = append(w.Epochs, 0) })
	add("too great an Epoch", func(w *impl.World) { w.Epochs[3] = 8 })
	add("an invalid pool", func(w *impl.World) { w.Pools[3].Max = -1 })
	add("an invalid cluster", func(w *impl.World) { w.Cluster.Binds[0].Node = 5 })
	add("equal Wants", func(w *impl.World) { w.Wants[2] = w.Wants[1] })
	add("a Want of no pool", func(w *impl.World) { w.Wants[2].Pool = 3 })
	add("a Want that is a node", func(w *impl.World) { w.Wants[0].Id = 2 })
	add("one of Ends that is no node", func(w *impl.World) { w.Ends[1] = 10 })
	add("an invalid provider", func(w *impl.World) { w.Prov.Insts[5].State = 3 })
	add("too great a Seen", func(w *impl.World) { w.Prov.Seen = 8 })
	add("an instance that was not given", func(w *impl.World) { w.Prov.Insts[5].Id = 40 })
	add("too many messages", func(w *impl.World) { w.Msgs = slices.Repeat(w.Msgs[:1], impl.MaxMsgs+1) })
	add("an invalid message", func(w *impl.World) { w.Msgs[4].Pool = 1 })
	add("a message of an epoch to come", func(w *impl.World) { w.Msgs[4].Epoch = 8 })
	add("a message about an Id that was not given", func(w *impl.World) { w.Msgs[4].Id = 40 })
	return out
}

// WForm comes before WLead.
func TestStepOfInvalidWorlds(t *testing.T) {
	for what, w := range brokenWorlds() {
		for _, who := range append(whosAtTheBounds(), 3) {
			got, told := impl.StepOf(w, who)
			wantTold(t, what, told, impl.Told{Code: impl.WForm})
			wantWorld(t, what, got, impl.World{})
		}
		if impl.WorldOk(w) || impl.WorldSafe(w) || impl.Leader(w) != 0 {
			t.Errorf("a world with %s is accepted", what)
		}
	}
}
