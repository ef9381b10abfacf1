package impl

import "errors"

const MaxAmount = 1000000

// overfull is the share of a field of which something is used without any
// capacity: more than the share of a full field, as it does not fit.
const overfull = 1001

var errRange = errors.New("not in 0..MaxAmount")

var errNoCap = errors.New("used without capacity")

type Res struct {
	Cpu  int
	Mem  int
	Pods int
}

// fieldError says which field did not fit; the reason is found in it with
// errors.Is.
type fieldError struct {
	field  string
	reason error
}

func (e fieldError) Error() string { return e.field + ": " + e.reason.Error() }

func (e fieldError) Unwrap() error { return e.reason }

type field struct {
	name   string
	amount int
}

func fieldsOf(r Res) [3]field {
	return [3]field{{"Cpu", r.Cpu}, {"Mem", r.Mem}, {"Pods", r.Pods}}
}

func checkRes(r Res) error {
	for _, f := range fieldsOf(r) {
		if f.amount < 0 || f.amount > MaxAmount {
			return fieldError{f.name, errRange}
		}
	}
	return nil
}

// checkBoth comes before any arithmetic: sums, differences and products of
// valid amounts cannot overflow.
func checkBoth(a Res, b Res) error {
	if err := checkRes(a); err != nil {
		return err
	}
	return checkRes(b)
}

func outOfRange(err error) bool { return errors.Is(err, errRange) }

// keepValid turns a computed vector into the two results of an exported
// function.
func keepValid(r Res) (Res, bool) {
	if outOfRange(checkRes(r)) {
		return Res{}, false
	}
	return r, true
}

func ResOk(r Res) bool { return !outOfRange(checkRes(r)) }

func ResAdd(a Res, b Res) (Res, bool) {
	if outOfRange(checkBoth(a, b)) {
		return Res{}, false
	}
	return keepValid(Res{a.Cpu + b.Cpu, a.Mem + b.Mem, a.Pods + b.Pods})
}

func ResSub(a Res, b Res) (Res, bool) {
	if outOfRange(checkBoth(a, b)) {
		return Res{}, false
	}
	return keepValid(Res{a.Cpu - b.Cpu, a.Mem - b.Mem, a.Pods - b.Pods})
}

func ResFits(a Res, b Res) bool {
	_, ok := ResSub(b, a)
	return ok
}

func ResSum(list []Res) (Res, bool) {
	sum := Res{}
	for _, r := range list {
		// Valid amounts are not negative, so a sum that has become too
		// large stays so, and the rest of the list cannot matter.
		next, ok := ResAdd(sum, r)
		if !ok {
			return Res{}, false
		}
		sum = next
	}
	return sum, true
}

func ResTimes(a Res, n int) (Res, bool) {
	if n < 0 || outOfRange(checkRes(a)) {
		return Res{}, false
	}
	// From MaxAmount+1 on, n gives the same result for every amount: 0 stays
	// 0 and all others become too large. With the bound no product overflows.
	n = min(n, MaxAmount+1)
	return keepValid(Res{a.Cpu * n, a.Mem * n, a.Pods * n})
}

func ResShare(used Res, cap Res) int {
	if outOfRange(checkBoth(used, cap)) {
		return -1
	}
	have := fieldsOf(cap)
	greatest := 0
	for i, f := range fieldsOf(used) {
		share, err := fieldShare(f, have[i].amount)
		if errors.Is(err, errNoCap) {
			// No early return: another field may have an even greater share.
			share = overfull
		}
		greatest = max(greatest, share)
	}
	return greatest
}

func fieldShare(used field, capacity int) (int, error) {
	if capacity > 0 {
		return 1000 * used.amount / capacity, nil
	}
	if used.amount > 0 {
		return 0, fieldError{used.name, errNoCap}
	}
	return 0, nil
}
