package impl

import (
	"errors"
	"testing"
)

func TestFieldErrorNamesTheField(t *testing.T) {
	for name, r := range map[string]Res{"Cpu": {Cpu: -1}, "Mem": {Mem: MaxAmount + 1}, "Pods": {Pods: -1}} {
		err := checkRes(r)
		var at fieldError
		if !errors.Is(err, errRange) || errors.Is(err, errNoCap) || !errors.As(err, &at) || at.field != name {
			t.Errorf("checkRes(%v) is %v, want errRange at %s", r, err, name)
		}
	}
	if err := checkRes(Res{Cpu: MaxAmount}); err != nil {
		t.Errorf("checkRes of a valid vector is %v", err)
	}
}

func TestFieldShareWithoutCapacity(t *testing.T) {
	_, err := fieldShare(field{"Mem", 1}, 0)
	if !errors.Is(err, errNoCap) || err.Error() != "Mem: used without capacity" {
		t.Errorf("fieldShare without capacity is %v, want errNoCap at Mem", err)
	}
	share, err := fieldShare(field{"Mem", 0}, 0)
	if err != nil || share != 0 {
		t.Errorf("fieldShare of nothing is %d, %v, want 0 and no error", share, err)
	}
}
