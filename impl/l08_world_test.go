package impl

import (
	"errors"
	"testing"
)

// ledWorld has the replica 2 as its Leader, a task and a message.
func ledWorld() World {
	return World{
		Now: 5, Span: 20, Kind: ByTasks, Next: 3,
		Lease: Lease{2, 4, 10}, Epochs: []int{4, 4, 0, 0},
		Cluster: Cluster{Tasks: []Task{{Id: 9}}},
		Prov:    Prov{Seen: 4},
		Msgs:    []Msg{{ActShrink, 4, 1, 0}},
	}
}

// What fails deep inside is found behind the event at which it did.
func TestFailuresAreWrappedWithTheEvent(t *testing.T) {
	for _, c := range []struct {
		e    Event
		code int
		text string
	}{
		{Event{Kind: EvTick}, WForm, "event of the kind 1: failed with the code 1"},
		{Event{Kind: EvTry, Who: 1}, WHeld, "event of the kind 2: failed with the code 2"},
		{Event{Kind: EvTask, Task: Task{Id: 9}}, WTwice, "event of the kind 4: failed with the code 5"},
		{Event{Kind: EvCancel, N: 8}, WNone, "event of the kind 5: failed with the code 6"},
		{Event{Kind: EvStep, Who: 1}, WLead, "event of the kind 6: failed with the code 3"},
		{Event{Kind: EvMsg}, WNone, "event of the kind 7: failed with the code 6"},
		{Event{Kind: EvMsg, N: 1}, WNone, "event of the kind 7: failed with the code 6"},
		{Event{Kind: EvLose, N: 1}, WNone, "event of the kind 8: failed with the code 6"},
		{Event{Kind: EvFail, N: 1}, WNone, "event of the kind 9: failed with the code 6"},
	} {
		w := ledWorld()
		told, err := w.handle(c.e)
		var at eventError
		var f failure
		if !errors.As(err, &at) || at.kind != c.e.Kind || !errors.As(err, &f) || f.code != c.code || told != (Told{}) {
			t.Errorf("the error of %+v is %v, and %+v was done", c.e, err, told)
			continue
		}
		if err.Error() != c.text || at.reason.Error() != f.Error() {
			t.Errorf("the error of %+v is %q, want %q", c.e, err.Error(), c.text)
		}
	}
	w := ledWorld()
	w.Cluster.Nodes, w.Prov.Insts = []Node{{Id: 2}}, []Inst{{2, 0, InstUp}}
	if told, err := w.handle(Event{Kind: EvStep, Who: 2}); err != nil || told != (Told{Did: DidPlace}) {
		t.Errorf("the step of the Leader is %+v, %v", told, err)
	}
}

func TestOutcomeOfFailures(t *testing.T) {
	did := Told{Did: DidJoin, Id: 7}
	if got := outcome(did, nil); got != did {
		t.Errorf("without an error the outcome is %+v", got)
	}
	for code := WForm; code <= WOld; code++ {
		var err error = failure{code}
		for range 3 {
			if got := outcome(did, err); got != (Told{Code: code}) {
				t.Errorf("the outcome of %q is %+v", err.Error(), got)
			}
			err = eventError{EvStep, err}
		}
	}
}

// send looks at the Kind, the Epoch and the Id of the messages on their way, and
// at nothing else.
func TestSendOnce(t *testing.T) {
	w := ledWorld()
	w.Lease.Epoch = 5
	for _, c := range []struct {
		m    Msg
		sent bool
	}{
		{Msg{Kind: ActShrink, Id: 1}, true}, {Msg{Kind: ActShrink, Id: 1}, false},
		{Msg{Kind: ActGrow, Id: 1, Pool: 2}, true}, {Msg{Kind: ActGrow, Id: 1, Pool: 3}, false},
		{Msg{Kind: ActGrow, Id: 2, Pool: 2}, true}, {Msg{Kind: ActShrink, Id: 2}, true},
	} {
		number := len(w.Msgs)
		if got := w.send(c.m); got != c.sent || c.sent != (len(w.Msgs) == number+1) {
			t.Errorf("send of %+v is %v, and then %+v are on their way", c.m, got, w.Msgs)
		}
		c.m.Epoch = 5
		if c.sent && w.Msgs[number] != c.m {
			t.Errorf("%+v was sent, want %+v", w.Msgs[number], c.m)
		}
	}
}
