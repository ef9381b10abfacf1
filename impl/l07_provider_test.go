package impl

import "testing"

func TestOrderOfEachKind(t *testing.T) {
	grow, shrink := Msg{ActGrow, 3, 7, 2}, Msg{ActShrink, 3, 7, 0}
	for _, works := range []bool{true, false} {
		state := InstGone
		if works {
			state = InstUp
		}
		if got, ok := orderOf(grow, works).(creation); !ok || got.made != (Inst{7, 2, state}) {
			t.Errorf("the order of %+v, %v is %+v, %v", grow, works, got, ok)
		}
		if _, ok := orderOf(shrink, works).(termination); !ok {
			t.Errorf("the order of %+v, %v is no termination", shrink, works)
		}
	}
}

func TestRefusalOfEachKind(t *testing.T) {
	almost, full := Prov{Insts: make([]Inst, MaxInsts-1)}, Prov{Insts: make([]Inst, MaxInsts)}
	for _, c := range []struct {
		asked  order
		p      Prov
		exists bool
		want   int
	}{
		{creation{}, almost, false, LeadFine}, {creation{}, almost, true, LeadFine},
		{creation{}, full, false, LeadFull}, {creation{}, full, true, LeadFine},
		{termination{}, almost, false, LeadNone}, {termination{}, almost, true, LeadFine},
		{termination{}, full, false, LeadNone}, {termination{}, full, true, LeadFine},
	} {
		if got := c.asked.refusal(c.p, c.exists); got != c.want {
			t.Errorf("the refusal of %T with %d instances, exists: %v, is %d, want %d", c.asked, len(c.p.Insts), c.exists, got, c.want)
		}
	}
}
