package impl

import "testing"

func TestReadLabsFillsTheArrayOfTen(t *testing.T) {
	got, ok := readLabs([]Lab{{Key: 0, Val: 9}, {Key: 4, Val: 0}, {Key: 9, Val: 3}})
	if want := (marks{0: 10, 4: 1, 9: 4}); !ok || got != want {
		t.Errorf("readLabs is %v, %v, want %v, true", got, ok, want)
	}
	got, ok = readLabs(nil)
	if !ok || got != (marks{}) {
		t.Errorf("readLabs of nil is %v, %v, want no marks and true", got, ok)
	}
	got, ok = readLabs([]Lab{{Key: 1, Val: 1}, {Key: 1, Val: 1}})
	if ok || got != (marks{}) {
		t.Errorf("readLabs of equal Keys is %v, %v, want no marks and false", got, ok)
	}
}

func TestTaintsAreLabelsWithVal0(t *testing.T) {
	taints, ok1 := readTaints([]int{0, 5, 9})
	labs, ok2 := readLabs([]Lab{{Key: 0}, {Key: 5}, {Key: 9}})
	if !ok1 || !ok2 || taints != labs {
		t.Errorf("readTaints is %v, %v and readLabs %v, %v", taints, ok1, labs, ok2)
	}
}

func TestHasAllTellsVal0FromNoLabel(t *testing.T) {
	zero := marks{}.with(Lab{Key: 3, Val: 0})
	if (marks{}).hasAll(zero) || !zero.hasAll(marks{}) || !zero.hasAll(zero) {
		t.Error("a label with the Val 0 counts as no label")
	}
}
