package tests

import (
	"fmt"
	"math"
	"reflect"
	"slices"
	"testing"

	"loop.example/g00718/impl"
)

func worldText(w impl.World) string { return fmt.Sprintf("%+v", w) }

// sameWorld takes a nil list and an empty one for the same. The copies are left
// with the fields that are no lists.
func sameWorld(a impl.World, b impl.World) bool {
	same := slices.Equal(a.Epochs, b.Epochs) && slices.EqualFunc(a.Pools, b.Pools, samePool) && sameCluster(a.Cluster, b.Cluster) &&
		slices.Equal(a.Wants, b.Wants) && slices.Equal(a.Ends, b.Ends) && sameProv(a.Prov, b.Prov) && slices.Equal(a.Msgs, b.Msgs)
	for _, w := range []*impl.World{&a, &b} {
		w.Epochs, w.Pools, w.Cluster, w.Wants, w.Ends, w.Prov, w.Msgs = nil, nil, impl.Cluster{}, nil, nil, impl.Prov{}, nil
	}
	return same && reflect.DeepEqual(a, b)
}

func samePool(a impl.Pool, b impl.Pool) bool {
	shapes := sameNode(a.Shape, b.Shape)
	a.Shape, b.Shape = impl.Node{}, impl.Node{}
	return shapes && reflect.DeepEqual(a, b)
}

func sameCluster(a impl.Cluster, b impl.Cluster) bool {
	return slices.EqualFunc(a.Tasks, b.Tasks, sameTask) && slices.EqualFunc(a.Nodes, b.Nodes, sameNode) && slices.Equal(a.Binds, b.Binds)
}

func sameTask(a impl.Task, b impl.Task) bool {
	return a.Id == b.Id && a.Prio == b.Prio && a.Need == b.Need && slices.Equal(a.Want, b.Want) && slices.Equal(a.Tols, b.Tols)
}

func sameNode(a impl.Node, b impl.Node) bool {
	return a.Id == b.Id && a.Pool == b.Pool && a.Cap == b.Cap && slices.Equal(a.Labs, b.Labs) && slices.Equal(a.Taints, b.Taints) && a.Cordon == b.Cordon
}

func wantWorld(t *testing.T, what string, got impl.World, want impl.World) {
	t.Helper()
	if !sameWorld(got, want) {
		t.Errorf("%s: the world is %s, want %s", what, worldText(got), worldText(want))
	}
}

func wantTold(t *testing.T, what string, got impl.Told, want impl.Told) {
	t.Helper()
	if got != want {
		t.Errorf("%s: the outcome is %+v, want %+v", what, got, want)
	}
}

// cloneWorld copies every list, so that a test may change the copy.
func cloneWorld(w impl.World) impl.World {
	w.Epochs, w.Wants, w.Ends = slices.Clone(w.Epochs), slices.Clone(w.Wants), slices.Clone(w.Ends)
	w.Msgs, w.Prov.Insts = slices.Clone(w.Msgs), slices.Clone(w.Prov.Insts)
	w.Pools = slices.Clone(w.Pools)
	for at := range w.Pools {
		w.Pools[at].Shape = cloneNode(w.Pools[at].Shape)
	}
	c := &w.Cluster
	c.Tasks, c.Nodes, c.Binds = slices.Clone(c.Tasks), slices.Clone(c.Nodes), slices.Clone(c.Binds)
	for at := range c.Tasks {
		c.Tasks[at].Want, c.Tasks[at].Tols = slices.Clone(c.Tasks[at].Want), slices.Clone(c.Tasks[at].Tols)
	}
	for at := range c.Nodes {
		c.Nodes[at] = cloneNode(c.Nodes[at])
	}
	return w
}

func cloneNode(n impl.Node) impl.Node {
	n.Labs, n.Taints = slices.Clone(n.Labs), slices.Clone(n.Taints)
	return n
}

// with returns a copy of a world with a change.
func with(w impl.World, change func(w *impl.World)) impl.World {
	w = cloneWorld(w)
	change(&w)
	return w
}

// emptyWorld is a world with nothing but what WorldOk asks for.
func emptyWorld() impl.World {
	return impl.World{Span: 20, Kind: impl.ByTasks, Limit: 300, Next: 1, Epochs: make([]int, impl.MaxReplicas)}
}

// busyWorld has several elements in every list. Its greatest Ids are one less
// than Next, and its greatest Epochs are that of the lease. Node 9 is being
// terminated, and so is node 2.
func busyWorld() impl.World {
	return impl.World{
		Now: 50, Span: 20, Kind: impl.ByShare, Limit: 400, Next: 40,
		Lease: leaseOf(2, 7, 60), Epochs: []int{3, 7, 0, 7},
		Pools:   []impl.Pool{poolOf(0, 0, 4, 4), withPrio(poolOf(1, 1, 9, 8), 5), goodPool(), poolOf(4, 0, 20, 6)},
		Cluster: sample(),
		Wants:   []impl.Want{{Id: 3, Pool: 4}, {Id: 20, Pool: 0}, {Id: 39, Pool: 1}},
		Ends:    []int{2, 9},
		Prov: provOf(6, instOf(2, 0, impl.InstUp), instOf(3, 4, impl.InstGone), instOf(5, 4, impl.InstUp), instOf(9, 1, impl.InstUp),
			instOf(11, 3, impl.InstUp), instOf(39, 1, impl.InstUp)),
		Msgs: []impl.Msg{creationOf(7, 20, 0), terminationOf(6, 9), terminationOf(5, 2), creationOf(7, 39, 1), terminationOf(7, 39)},
	}
}

// fullWorld has as much of everything as there may be.
func fullWorld() impl.World {
	w := emptyWorld()
	w.Now, w.Span, w.Kind, w.Limit, w.Next = impl.MaxTime, longest, impl.ByPrio, 1001, impl.MaxId+1
	w.Lease, w.Epochs = leaseOf(impl.MaxReplicas, impl.MaxEpoch, 2*impl.MaxTime), slices.Repeat([]int{impl.MaxEpoch}, impl.MaxReplicas)
	w.Pools, w.Cluster = fivePools(), fullCluster()
	for id := 1; id <= impl.MaxNodes; id++ {
		w.Ends = append(w.Ends, id)
		w.Wants = append(w.Wants, impl.Want{Id: impl.MaxId - impl.MaxNodes + id, Pool: id % impl.MaxPools})
	}
	w.Prov = provOf(impl.MaxEpoch, manyInsts(impl.MaxInsts)...)
	w.Msgs = slices.Repeat([]impl.Msg{creationOf(impl.MaxEpoch, impl.MaxId, 4)}, impl.MaxMsgs)
	return w
}

// emptied has an empty list where another world has none.
func emptied(w impl.World) impl.World {
	orEmpty(&w.Pools)
	orEmpty(&w.Cluster.Tasks)
	orEmpty(&w.Cluster.Nodes)
	orEmpty(&w.Cluster.Binds)
	orEmpty(&w.Wants)
	orEmpty(&w.Ends)
	orEmpty(&w.Prov.Insts)
	orEmpty(&w.Msgs)
	return w
}

func orEmpty[T any](list *[]T) {
	if len(*list) == 0 {
		*list = []T{}
	}
}

func validWorlds() []impl.World {
	bound := emptyWorld()
	bound.Next, bound.Cluster = impl.MaxId+1, sample()
	return []impl.World{emptyWorld(), emptied(emptyWorld()), busyWorld(), emptied(busyWorld()), fullWorld(), bound}
}

// worldChange is a change of a world, and whether the world is still valid.
type worldChange struct {
	what   string
	ok     bool
	change func(w *impl.World)
}

// about names changes to several values of one field.
func about(name string, values []int, ok func(int) bool, set func(w *impl.World, to int)) []worldChange {
	var out []worldChange
	for _, to := range values {
		out = append(out, worldChange{fmt.Sprint(name, " ", to), ok(to), func(w *impl.World) { set(w, to) }})
	}
	return out
}

// between returns whether a number is in least..greatest.
func between(least int, greatest int) func(int) bool {
	return func(n int) bool { return n >= least && n <= greatest }
}

// around has the limits, their neighbours and the greatest integers.
func around(limits ...int) []int {
	out := []int{math.MinInt, -1, 0, 1, math.MaxInt}
	for _, limit := range limits {
		out = append(out, limit-1, limit, limit+1)
	}
	return out
}

func settingChanges() []worldChange {
	return slices.Concat(
		about("Now", around(impl.MaxTime), between(0, impl.MaxTime), func(w *impl.World, to int) { w.Now = to }),
		about("Span", around(longest), between(1, longest), func(w *impl.World, to int) { w.Span = to }),
		about("Kind", around(impl.ByPrio), between(impl.ByTasks, impl.ByPrio), func(w *impl.World, to int) { w.Kind = to }),
		about("Limit", around(1001), between(0, 1001), func(w *impl.World, to int) { w.Limit = to }),
	)
}

func wantChanges(t *testing.T, w impl.World, list []worldChange) {
	t.Helper()
	if !impl.WorldOk(w) {
		t.Fatalf("WorldOk of %s is false", worldText(w))
	}
	for _, c := range list {
		if got := with(w, c.change); impl.WorldOk(got) != c.ok {
			t.Errorf("%s: WorldOk of %s is %v", c.what, worldText(got), !c.ok)
		}
	}
}

func TestWorldOk(t *testing.T) {
	for _, w := range validWorlds() {
		if !impl.WorldOk(w) {
			t.Errorf("WorldOk of %s is false", worldText(w))
		}
	}
	if impl.WorldOk(impl.World{}) {
		t.Error("WorldOk accepts the zero value")
	}
}

func TestWorldOkOfSettings(t *testing.T) {
	for _, w := range validWorlds() {
		wantChanges(t, w, settingChanges())
	}
	setNext := func(w *impl.World, to int) { w.Next = to }
	wantChanges(t, emptyWorld(), about("Next", around(impl.MaxId), between(1, impl.MaxId+1), setNext))
	wantChanges(t, busyWorld(), about("Next", around(40, impl.MaxId), between(40, impl.MaxId+1), setNext))
}

// What the chapters before say is not valid is not valid in a world.
func TestWorldOkOfItsParts(t *testing.T) {
	w := with(emptyWorld(), func(w *impl.World) { w.Next = impl.MaxId + 1 })
	for _, l := range leasesAtTheBounds() {
		w.Lease = l
		if impl.WorldOk(w) != isLease(l) {
			t.Errorf("WorldOk with the lease %+v is %v", l, !isLease(l))
		}
	}
	w.Lease = leaseOf(1, impl.MaxEpoch, 9)
	for _, list := range [][]impl.Pool{nil, {}, fivePools(), {goodPool()}} {
		w.Pools = list
		if !impl.WorldOk(w) {
			t.Errorf("WorldOk with the pools %+v is false", list)
		}
	}
	for what, list := range invalidPoolLists() {
		w.Pools = list
		if impl.WorldOk(w) {
			t.Errorf("WorldOk accepts pools with %s", what)
		}
	}
	w.Pools = nil
	for _, c := range validClusters() {
		w.Cluster = c
		if !impl.WorldOk(w) {
			t.Errorf("WorldOk with the cluster %s is false", textOf(c))
		}
	}
	for what, c := range brokenClusters() {
		w.Cluster = c
		if impl.WorldOk(w) {
			t.Errorf("WorldOk accepts a cluster with %s", what)
		}
	}
	w.Cluster = impl.Cluster{}
	withProv := func(p impl.Prov) bool {
		return impl.WorldOk(with(w, func(w *impl.World) { w.Prov = p }))
	}
	wantValidity(t, "WorldOk with a provider", withProv, validProvs(), invalidProvs())
}

func TestWorldOkOfEpochs(t *testing.T) {
	var list []worldChange
	for number := range 2*impl.MaxReplicas + 1 {
		list = append(list, worldChange{fmt.Sprint(number, " Epochs"), number == impl.MaxReplicas, func(w *impl.World) { w.Epochs = make([]int, number) }})
	}
	list = append(list, worldChange{"no Epochs", false, func(w *impl.World) { w.Epochs = nil }})
	wantChanges(t, busyWorld(), list)
	wantChanges(t, emptyWorld(), list)
	for at := range impl.MaxReplicas {
		set := func(w *impl.World, to int) { w.Epochs[at] = to }
		name := fmt.Sprint("the Epoch of ", at+1)
		wantChanges(t, busyWorld(), about(name, around(7, impl.MaxEpoch), between(0, 7), set))
		wantChanges(t, fullWorld(), about(name, around(7, impl.MaxEpoch), between(0, impl.MaxEpoch), set))
		// Without a lease there was no epoch yet.
		wantChanges(t, emptyWorld(), about(name, around(impl.MaxEpoch), between(0, 0), set))
	}
}

func TestWorldOkOfSeen(t *testing.T) {
	set := func(w *impl.World, to int) { w.Prov.Seen = to }
	wantChanges(t, busyWorld(), about("Seen", around(7, impl.MaxEpoch), between(0, 7), set))
	wantChanges(t, fullWorld(), about("Seen", around(7, impl.MaxEpoch), between(0, impl.MaxEpoch), set))
	wantChanges(t, emptyWorld(), about("Seen", around(impl.MaxEpoch), between(0, 0), set))
	// Also where the provider has instances, and a lower lease.
	lower := with(busyWorld(), func(w *impl.World) { w.Lease.Epoch, w.Epochs, w.Msgs, w.Prov.Seen = 3, make([]int, 4), nil, 3 })
	wantChanges(t, lower, about("Seen", around(3), between(0, 3), set))
}

// wantsOf returns Wants of the pools 0, 1, 4 by turns, with the Ids from first
// on.
func wantsOf(first int, number int) []impl.Want {
	var out []impl.Want
	for at := range number {
		out = append(out, impl.Want{Id: first + at, Pool: []int{0, 1, 4}[at%3]})
	}
	return out
}

// setWants returns a change to these Wants.
func setWants(what string, ok bool, list ...impl.Want) worldChange {
	return worldChange{what, ok, func(w *impl.World) { w.Wants = slices.Clone(list) }}
}

func TestWorldOkOfWants(t *testing.T) {
	list := []worldChange{
		setWants("none", true),
		setWants("one that is not greater", false, impl.Want{Id: 3}, impl.Want{Id: 20}, impl.Want{Id: 20}),
		setWants("two equal ones first", false, impl.Want{Id: 3}, impl.Want{Id: 3}, impl.Want{Id: 20}),
		setWants("one Id of two pools", false, impl.Want{Id: 3}, impl.Want{Id: 3, Pool: 1}),
		setWants("decreasing", false, impl.Want{Id: 20}, impl.Want{Id: 3}),
		setWants("decreasing at last", false, impl.Want{Id: 3}, impl.Want{Id: 39}, impl.Want{Id: 20}),
		setWants("increasing", true, impl.Want{Id: 3}, impl.Want{Id: 4}, impl.Want{Id: 6}),
	}
	for number := range impl.MaxNodes + 3 {
		list = append(list, setWants(fmt.Sprint("number ", number), number <= impl.MaxNodes, wantsOf(12, number)...))
	}
	list = append(list, worldChange{"a thousand", false, func(w *impl.World) { w.Wants = make([]impl.Want, 1000) }})
	for _, n := range []int{1, 3, impl.MaxNodes} {
		first := []impl.Want{{Id: 0}, {Id: -1}, {Id: math.MinInt}}
		for _, v := range first {
			list = append(list, setWants(fmt.Sprint("first of ", n, " ", v), false, append([]impl.Want{v}, wantsOf(12, n-1)...)...))
		}
		for _, id := range []int{38, 39, 40, impl.MaxId, math.MaxInt} {
			list = append(list, setWants(fmt.Sprint("last of ", n, " ", id), id < 40, append(wantsOf(12, n-1), impl.Want{Id: id})...))
		}
		// The world has the pools 0, 1, 2 and 4.
		for _, pool := range []int{math.MinInt, -1, 0, 1, 2, 3, 4, 5, math.MaxInt} {
			ok := pool >= 0 && pool < 5 && pool != 3
			list = append(list,
				setWants(fmt.Sprint("pool of the last of ", n, " ", pool), ok, append(wantsOf(12, n-1), impl.Want{Id: 39, Pool: pool})...),
				setWants(fmt.Sprint("pool of the first of ", n, " ", pool), ok, append([]impl.Want{{Id: 1, Pool: pool}}, wantsOf(12, n-1)...)...))
		}
		// The world has the nodes 2, 5 and 9.
		for id := 1; id <= 10; id++ {
			list = append(list, setWants(fmt.Sprint("first of ", n, " ", id), id != 2 && id != 5 && id != 9, append([]impl.Want{{Id: id}}, wantsOf(12, n-1)...)...))
		}
	}
	wantChanges(t, busyWorld(), list)
	late := with(busyWorld(), func(w *impl.World) {
		w.Cluster.Nodes = append(w.Cluster.Nodes, impl.Node{Id: 38})
	})
	wantChanges(t, late, []worldChange{
		setWants("the last is a node", false, append(wantsOf(12, 5), impl.Want{Id: 38})...),
		setWants("next to a node", true, append(wantsOf(12, 5), impl.Want{Id: 37}, impl.Want{Id: 39})...),
	})
}

func TestWorldOkOfEnds(t *testing.T) {
	set := func(ok bool, ids ...int) worldChange {
		return worldChange{fmt.Sprint("Ends ", ids), ok, func(w *impl.World) { w.Ends = slices.Clone(ids) }}
	}
	list := []worldChange{
		set(true), set(true, 2), set(true, 5), set(true, 9), set(true, 2, 5), set(true, 5, 9), set(true, 2, 5, 9),
		set(false, 2, 2), set(false, 2, 5, 5), set(false, 2, 2, 5), set(false, 5, 2), set(false, 9, 5), set(false, 2, 9, 5),
		set(false, make([]int, 1000)...), set(false, 2, 5, 9, 9),
	}
	for _, id := range []int{math.MinInt, -1, 0, 1, 3, 4, 8, 10, 20, 38, 39, 40, 41, math.MaxInt} {
		list = append(list, set(false, id), set(false, 2, id), set(false, 2, 5, 9, id), set(false, id, 2, 5, 9), set(false, 2, id, 9))
	}
	wantChanges(t, busyWorld(), list)
	// The greatest Id is Next - 1.
	last := with(busyWorld(), func(w *impl.World) {
		w.Cluster.Nodes = append(w.Cluster.Nodes, impl.Node{Id: 38}, impl.Node{Id: 39})
		w.Wants = nil
	})
	wantChanges(t, last, []worldChange{set(true, 39), set(true, 2, 9, 39), set(true, 38, 39), set(false, 40), set(false, 2, 9, 39, 40), set(false, 38, 40)})
	all := fullWorld().Ends
	wantChanges(t, fullWorld(), []worldChange{
		set(true, all...), set(true, all[1:]...), set(false, append(slices.Clone(all), 21)...), set(false, append(slices.Clone(all), 20)...),
		set(false, append(slices.Clone(all[:19]), 21)...), set(false, append([]int{0}, all...)...),
	})
}

func TestWorldOkOfMsgs(t *testing.T) {
	set := func(what string, ok bool, list ...impl.Msg) worldChange {
		return worldChange{what, ok, func(w *impl.World) { w.Msgs = slices.Clone(list) }}
	}
	m := terminationOf(7, 9)
	var list []worldChange
	for _, number := range []int{0, 1, impl.MaxMsgs - 1, impl.MaxMsgs, impl.MaxMsgs + 1, 1000} {
		// They may be equal, and in any order.
		list = append(list, set(fmt.Sprint("number ", number), number <= impl.MaxMsgs, slices.Repeat([]impl.Msg{m}, number)...))
	}
	for _, before := range [][]impl.Msg{nil, {m, creationOf(7, 39, 2)}, slices.Repeat([]impl.Msg{m}, impl.MaxMsgs-1)} {
		at := fmt.Sprint(" behind ", len(before))
		for _, wrong := range append(invalidMsgs(m), invalidMsgs(creationOf(7, 9, 2))...) {
			list = append(list, set(fmt.Sprintf("%+v%s", wrong, at), false, append(slices.Clone(before), wrong)...))
			list = append(list, set(fmt.Sprintf("%+v before %d", wrong, len(before)), false, append([]impl.Msg{wrong}, before...)...))
		}
		for _, n := range []int{0, 1, 6, 7, 8, impl.MaxEpoch} {
			for _, kind := range []impl.Msg{creationOf(n, 9, 2), terminationOf(n, 9)} {
				list = append(list, set(fmt.Sprintf("%+v%s", kind, at), n >= 1 && n <= 7, append(slices.Clone(before), kind)...))
			}
		}
		for _, id := range []int{0, 1, 20, 38, 39, 40, impl.MaxId} {
			for _, kind := range []impl.Msg{creationOf(7, id, 3), terminationOf(7, id)} {
				list = append(list, set(fmt.Sprintf("%+v%s", kind, at), id >= 1 && id < 40, append(slices.Clone(before), kind)...))
				list = append(list, set(fmt.Sprintf("%+v before %d", kind, len(before)), id >= 1 && id < 40, append([]impl.Msg{kind}, before...)...))
			}
		}
	}
	wantChanges(t, busyWorld(), list)
}

// Ids of nodes and instances: those of Wants, Ends and messages are above.
func TestWorldOkOfIds(t *testing.T) {
	setNodes := func(w *impl.World, to int) { w.Cluster.Nodes = append(w.Cluster.Nodes, impl.Node{Id: to}) }
	setInsts := func(w *impl.World, to int) { w.Prov.Insts = append(w.Prov.Insts, instOf(to, 1, impl.InstGone)) }
	bare := with(busyWorld(), func(w *impl.World) {
		w.Wants, w.Ends, w.Msgs, w.Prov, w.Cluster = nil, nil, nil, impl.Prov{}, impl.Cluster{}
	})
	few := with(bare, func(w *impl.World) { w.Cluster, w.Prov = sample(), provOf(0, fewInsts()[:2]...) })
	for _, next := range []int{1, 2, 40, impl.MaxId, impl.MaxId + 1} {
		for _, add := range []func(*impl.World, int){setNodes, setInsts} {
			bare.Next = next
			wantChanges(t, bare, about("the only Id", around(next), between(1, next-1), add))
			if few.Next = next; next >= 40 {
				wantChanges(t, few, about("the last Id", around(next), between(10, next-1), add))
			}
		}
	}
}

func TestWorldNew(t *testing.T) {
	for _, list := range [][]impl.Pool{nil, {}, fivePools(), {goodPool()}} {
		for _, kind := range allKinds() {
			for _, limit := range []int{0, 300, 1001} {
				for _, length := range []int{1, 20, longest} {
					got, ok := impl.WorldNew(list, kind, limit, length)
					want := impl.World{Span: length, Kind: kind, Limit: limit, Next: 1, Epochs: []int{0, 0, 0, 0}, Pools: list}
					wantWorld(t, "WorldNew", got, want)
					if !ok || !impl.WorldOk(got) || !impl.WorldSafe(got) || impl.Leader(got) != 0 {
						t.Errorf("WorldNew(%+v, %d, %d, %d) is %s, %v", list, kind, limit, length, worldText(got), ok)
					}
				}
			}
		}
	}
}

func TestWorldNewOfInvalid(t *testing.T) {
	wantNoWorld := func(list []impl.Pool, kind int, limit int, length int) {
		t.Helper()
		got, ok := impl.WorldNew(list, kind, limit, length)
		if ok || !sameWorld(got, impl.World{}) {
			t.Errorf("WorldNew(%+v, %d, %d, %d) is %s, %v", list, kind, limit, length, worldText(got), ok)
		}
	}
	for _, list := range invalidPoolLists() {
		wantNoWorld(list, impl.ByTasks, 300, 20)
	}
	for _, kind := range otherKinds() {
		wantNoWorld(fivePools(), kind, 300, 20)
	}
	for _, limit := range []int{math.MinInt, -1, 1002, math.MaxInt} {
		wantNoWorld(fivePools(), impl.ByTasks, limit, 20)
	}
	for _, length := range []int{math.MinInt, -1, 0, longest + 1, math.MaxInt} {
		wantNoWorld(fivePools(), impl.ByTasks, 300, length)
		wantNoWorld(nil, impl.ByTasks, 300, length)
	}
}

func TestLeader(t *testing.T) {
	w := busyWorld()
	wantInt(t, "the Leader", impl.Leader(w), 2)
	for _, c := range []struct {
		what   string
		leader int
		change func(w *impl.World)
	}{
		{"the lease of the replica before", 0, func(w *impl.World) { w.Lease.Who = 1 }},
		{"the lease of the replica behind", 0, func(w *impl.World) { w.Lease.Who = 3 }},
		{"the lease of one with the same epoch", 4, func(w *impl.World) { w.Lease.Who = 4 }},
		{"an epoch more in the lease", 0, func(w *impl.World) { w.Lease.Epoch = 8 }},
		{"the epoch of the replica one less", 0, func(w *impl.World) { w.Epochs[1] = 6 }},
		{"no epoch of the replica", 0, func(w *impl.World) { w.Epochs[1] = 0 }},
		{"the epochs of others", 2, func(w *impl.World) { w.Epochs = []int{0, 7, 7, 7} }},
		{"Till one more than Now", 2, func(w *impl.World) { w.Lease.Till = 51 }},
		{"Till equal to Now", 0, func(w *impl.World) { w.Lease.Till = 50 }},
		{"Till one less than Now", 0, func(w *impl.World) { w.Lease.Till = 49 }},
		{"Now one less than Till", 2, func(w *impl.World) { w.Now = 59 }},
		{"Now equal to Till", 0, func(w *impl.World) { w.Now = 60 }},
		{"Now one more than Till", 0, func(w *impl.World) { w.Now = 61 }},
		{"no lease", 0, func(w *impl.World) { *w = emptyWorld() }},
		{"everything full", 4, func(w *impl.World) { *w = fullWorld() }},
		{"an invalid world", 0, func(w *impl.World) { w.Next = 39 }},
		{"an Epoch of another that is not valid", 0, func(w *impl.World) { w.Epochs[0] = 8 }},
		{"no Epochs", 0, func(w *impl.World) { w.Epochs = nil }},
		{"the zero value", 0, func(w *impl.World) { *w = impl.World{} }},
	} {
		wantInt(t, "the Leader with "+c.what, impl.Leader(with(w, c.change)), c.leader)
	}
	for who := 1; who <= impl.MaxReplicas; who++ {
		led := with(w, func(w *impl.World) { w.Lease.Who, w.Epochs[who-1] = who, 7 })
		wantInt(t, "the Leader", impl.Leader(led), who)
		after, told := impl.WorldDo(led, impl.Event{Kind: impl.EvCrash, Who: who})
		wantTold(t, "EvCrash", told, impl.Told{})
		wantInt(t, "the Leader after its crash", impl.Leader(after), 0)
		after, _ = impl.WorldDo(led, impl.Event{Kind: impl.EvCrash, Who: who%impl.MaxReplicas + 1})
		wantInt(t, "the Leader after the crash of another", impl.Leader(after), who)
		// It may have its own lease again, with the same epoch.
		back, told := impl.WorldDo(with(led, func(w *impl.World) { w.Epochs[who-1] = 0 }), impl.Event{Kind: impl.EvTry, Who: who})
		wantTold(t, "EvTry after a crash", told, impl.Told{})
		wantInt(t, "the Leader that is back", impl.Leader(back), who)
		wantInt(t, "the epoch of the Leader that is back", back.Lease.Epoch, 7)
	}
}

func TestWorldSafe(t *testing.T) {
	safe := with(busyWorld(), func(w *impl.World) { w.Prov.Insts = slices.Delete(w.Prov.Insts, 4, 5) })
	for _, c := range []struct {
		what   string
		ok     bool
		change func(w *impl.World)
	}{
		{"as it is", true, func(w *impl.World) {}},
		{"an empty world", true, func(w *impl.World) { *w = emptyWorld() }},
		{"an invalid world", false, func(w *impl.World) { w.Next = 39 }},
		{"the zero value", false, func(w *impl.World) { *w = impl.World{} }},
		// Pool 0 has the node 2 and the Want 20, pool 1 the node 9 and the Want 39,
		// pool 4 the node 5 and the Want 3.
		{"as many of the first pool as there may be", true, func(w *impl.World) { w.Pools[0].Max = 2 }},
		{"one of the first pool too many", false, func(w *impl.World) { w.Pools[0].Max = 1 }},
		{"as many of the last pool as there may be", true, func(w *impl.World) { w.Pools[3].Max = 2 }},
		{"one of the last pool too many", false, func(w *impl.World) { w.Pools[3].Max = 1 }},
		{"a node alone of the last pool", true, func(w *impl.World) { w.Pools[3].Max, w.Wants = 1, w.Wants[1:] }},
		{"a node alone is too much", false, func(w *impl.World) { w.Pools[3].Max, w.Wants = 0, w.Wants[1:] }},
		{"a Want alone of the last pool", true, func(w *impl.World) { w.Pools[3].Max, w.Cluster.Nodes[1].Pool, w.Prov.Insts[2].Pool = 1, 3, 3 }},
		{"a Want alone is too much", false, func(w *impl.World) { w.Pools[3].Max, w.Cluster.Nodes[1].Pool, w.Prov.Insts[2].Pool = 0, 3, 3 }},
		{"a pool that is not listed", true, func(w *impl.World) { w.Cluster.Nodes[1].Pool, w.Prov.Insts[2].Pool = 3, 3 }},
		{"no pools and one machine", true, func(w *impl.World) { w.Pools, w.Wants, w.Prov.Insts = nil, nil, w.Prov.Insts[:3] }},
		{"the machine of a node of another pool", false, func(w *impl.World) { w.Prov.Insts[0].Pool = 1 }},
		{"the last machine of a node of another pool", false, func(w *impl.World) { w.Prov.Insts[3].Pool = 0 }},
		{"the machine of a Want of another pool", false, func(w *impl.World) { w.Prov.Insts[4].Pool = 0 }},
		{"gone machines of other pools", true, func(w *impl.World) {
			for at := range w.Prov.Insts {
				w.Prov.Insts[at].State, w.Prov.Insts[at].Pool = impl.InstGone, 3
			}
		}},
		{"no one's machine", false, func(w *impl.World) { *w = busyWorld() }},
		{"no one's machine, which is gone", true, func(w *impl.World) { w.Prov.Insts = busyWorld().Prov.Insts; w.Prov.Insts[4].State = impl.InstGone }},
		{"the first machine is no one's", false, func(w *impl.World) {
			w.Prov.Insts = slices.Insert(w.Prov.Insts, 0, instOf(1, 0, impl.InstUp))
		}},
		{"the last machine is no one's", false, func(w *impl.World) { w.Wants = w.Wants[:2] }},
		{"nodes without machines", true, func(w *impl.World) { w.Prov = impl.Prov{} }},
		{"messages do not matter", true, func(w *impl.World) { w.Msgs = []impl.Msg{creationOf(7, 8, 0)} }},
		{"nor do Ends", true, func(w *impl.World) { w.Ends = nil }},
		{"nor do Mins", true, func(w *impl.World) { w.Pools[0].Min = 4 }},
	} {
		w := with(safe, c.change)
		if got := impl.WorldSafe(w); got != c.ok {
			t.Errorf("%s: WorldSafe of %s is %v", c.what, worldText(w), got)
		}
	}
}

// isEvent is EventOk as the chapter states it.
func isEvent(e impl.Event) bool {
	plain := e.Who == 0 && e.N == 0 && !e.Works && !e.Keep
	noTask := fmt.Sprint(e.Task) == fmt.Sprint(impl.Task{})
	who := between(1, impl.MaxReplicas)(e.Who) && e.N == 0 && !e.Works && !e.Keep && noTask
	number := func(least int, greatest int) bool {
		return between(least, greatest)(e.N) && e.Who == 0 && noTask
	}
	switch e.Kind {
	case impl.EvTick:
		return number(1, 1000) && !e.Works && !e.Keep
	case impl.EvTry, impl.EvCrash, impl.EvStep:
		return who
	case impl.EvTask:
		return plain && impl.TaskOk(e.Task)
	case impl.EvCancel, impl.EvFail:
		return number(1, 99) && !e.Works && !e.Keep
	case impl.EvMsg:
		return number(0, 39)
	case impl.EvLose:
		return number(0, 39) && !e.Works && !e.Keep
	}
	return false
}

// eventTasks returns tasks of the zero value, tasks that have one field that is
// not zero, and valid ones.
func eventTasks() []impl.Task {
	return []impl.Task{
		{}, {Want: []impl.Lab{}, Tols: []int{}}, {Want: labsOf([]int{1})[:0], Tols: []int{3}[:0]},
		{Id: 1}, {Id: impl.MaxId}, {Id: impl.MaxId + 1}, {Id: -1}, {Prio: 1}, {Prio: -1}, {Need: amounts(1, 0, 0)}, {Need: amounts(0, 1, 0)}, {Need: amounts(0, 0, 1)},
		{Want: []impl.Lab{{}}}, {Want: labsOf([]int{1})}, {Tols: []int{0}}, {Tols: []int{3}},
		{Id: 4, Prio: 9, Need: amounts(1, 2, most), Want: labsOf([]int{1, 2}), Tols: []int{3}}, {Id: 4, Prio: 10}, {Id: 4, Need: amounts(0, 0, most+1)},
	}
}

func TestEventOk(t *testing.T) {
	accepted := cases{}
	for _, kind := range append(around(impl.EvFail), 2, 3, 4, 5, 6, 7) {
		for _, who := range append(whosAtTheBounds(), 3) {
			for _, n := range around(5, impl.MaxMsgs, impl.MaxId, 1000) {
				for _, task := range eventTasks() {
					for flags := range 4 {
						e := impl.Event{Kind: kind, Who: who, N: n, Works: flags&1 > 0, Keep: flags&2 > 0, Task: task}
						if got := impl.EventOk(e); got != isEvent(e) {
							t.Fatalf("EventOk(%+v) is %v", e, got)
						} else if got {
							accepted[fmt.Sprint(kind)]++
						}
					}
				}
			}
		}
	}
	wantInt(t, "the number of kinds", len(accepted), 9)
	// As the chapter lists the kinds.
	for kind := impl.EvTick; kind <= impl.EvFail; kind++ {
		if accepted[fmt.Sprint(kind)] == 0 {
			t.Errorf("no event of the kind %d is valid", kind)
		}
	}
}

func TestEventOkOfTasks(t *testing.T) {
	good := impl.Task{Id: 4, Prio: 5, Need: amounts(0, 1, most), Want: labsOf([]int{0, 1}), Tols: []int{0, 2}}
	for _, task := range append(invalidTasks(good), impl.Task{}) {
		if impl.EventOk(impl.Event{Kind: impl.EvTask, Task: task}) {
			t.Errorf("EventOk accepts the task %+v", task)
		}
	}
	if !impl.EventOk(impl.Event{Kind: impl.EvTask, Task: good}) {
		t.Error("EventOk does not accept a valid task")
	}
}
