package tests

import (
	"math"
	"testing"

	"loop.example/g00718/impl"
)

const most = impl.MaxAmount

// withField returns base with one of its three fields replaced.
func withField(base impl.Res, field int, amount int) impl.Res {
	switch field {
	case 0:
		base.Cpu = amount
	case 1:
		base.Mem = amount
	default:
		base.Pods = amount
	}
	return base
}

// vectorsOf returns every vector whose fields are among the given amounts.
func vectorsOf(amounts ...int) []impl.Res {
	var out []impl.Res
	for _, cpu := range amounts {
		for _, mem := range amounts {
			for _, pods := range amounts {
				out = append(out, impl.Res{Cpu: cpu, Mem: mem, Pods: pods})
			}
		}
	}
	return out
}

// invalidVectors returns vectors with exactly one invalid field.
func invalidVectors() []impl.Res {
	var out []impl.Res
	for field := range 3 {
		for _, amount := range []int{-1, most + 1, math.MinInt, math.MaxInt} {
			out = append(out, withField(impl.Res{Cpu: 1, Mem: 1, Pods: 1}, field, amount))
		}
	}
	return out
}

func wantRes(t *testing.T, what string, got impl.Res, ok bool, want impl.Res) {
	t.Helper()
	if !ok || got != want {
		t.Errorf("%s: got %v, %v, want %v, true", what, got, ok, want)
	}
}

func wantNoRes(t *testing.T, what string, got impl.Res, ok bool) {
	t.Helper()
	if ok || got != (impl.Res{}) {
		t.Errorf("%s: got %v, %v, want the zero value and false", what, got, ok)
	}
}

func TestResExamples(t *testing.T) {
	a := impl.Res{Cpu: 2, Mem: 3, Pods: 1}
	b := impl.Res{Cpu: 4, Mem: 4, Pods: 2}
	sum, ok := impl.ResAdd(a, b)
	wantRes(t, "ResAdd", sum, ok, impl.Res{Cpu: 6, Mem: 7, Pods: 3})
	product, ok := impl.ResTimes(a, 3)
	wantRes(t, "ResTimes", product, ok, impl.Res{Cpu: 6, Mem: 9, Pods: 3})
	if got := impl.ResShare(a, b); got != 750 {
		t.Errorf("ResShare: got %d, want 750", got)
	}
}

func TestResOkLimits(t *testing.T) {
	for _, r := range vectorsOf(0, 1, most) {
		if !impl.ResOk(r) {
			t.Errorf("ResOk(%v) is false", r)
		}
	}
	for _, r := range invalidVectors() {
		if impl.ResOk(r) {
			t.Errorf("ResOk(%v) is true", r)
		}
	}
}

// Promise 3, first part.
func TestResAddThenSubRestores(t *testing.T) {
	all := vectorsOf(0, 1, 2, most-1, most)
	for _, a := range all {
		for _, b := range all {
			want := impl.Res{Cpu: a.Cpu + b.Cpu, Mem: a.Mem + b.Mem, Pods: a.Pods + b.Pods}
			sum, ok := impl.ResAdd(a, b)
			if max(want.Cpu, want.Mem, want.Pods) > most {
				wantNoRes(t, "ResAdd beyond MaxAmount", sum, ok)
				continue
			}
			wantRes(t, "ResAdd", sum, ok, want)
			back, ok := impl.ResSub(sum, b)
			wantRes(t, "ResSub of the second", back, ok, a)
			back, ok = impl.ResSub(sum, a)
			wantRes(t, "ResSub of the first", back, ok, b)
		}
	}
}

func TestResSubBelowZero(t *testing.T) {
	base := impl.Res{Cpu: 5, Mem: 5, Pods: 5}
	for field := range 3 {
		got, ok := impl.ResSub(base, withField(base, field, 6))
		wantNoRes(t, "ResSub below 0", got, ok)
	}
	got, ok := impl.ResSub(base, base)
	wantRes(t, "ResSub to 0", got, ok, impl.Res{})
	got, ok = impl.ResSub(impl.Res{}, impl.Res{Cpu: most, Mem: most, Pods: most})
	wantNoRes(t, "ResSub from 0", got, ok)
}

func TestResAddOneBeyond(t *testing.T) {
	base := impl.Res{Cpu: most - 1, Mem: most - 1, Pods: most - 1}
	for field := range 3 {
		got, ok := impl.ResAdd(base, withField(impl.Res{}, field, 1))
		wantRes(t, "ResAdd up to MaxAmount", got, ok, withField(base, field, most))
		got, ok = impl.ResAdd(base, withField(impl.Res{}, field, 2))
		wantNoRes(t, "ResAdd one beyond MaxAmount", got, ok)
	}
}

func TestResAddAndSubOfInvalid(t *testing.T) {
	valid := impl.Res{Cpu: 1, Mem: 1, Pods: 1}
	for _, bad := range invalidVectors() {
		for _, other := range append(invalidVectors(), valid) {
			got, ok := impl.ResAdd(bad, other)
			wantNoRes(t, "ResAdd of an invalid first", got, ok)
			got, ok = impl.ResAdd(other, bad)
			wantNoRes(t, "ResAdd of an invalid second", got, ok)
			got, ok = impl.ResSub(bad, other)
			wantNoRes(t, "ResSub of an invalid first", got, ok)
			got, ok = impl.ResSub(other, bad)
			wantNoRes(t, "ResSub of an invalid second", got, ok)
		}
	}
}

func TestResFits(t *testing.T) {
	all := vectorsOf(0, 1, 2, most)
	for _, a := range all {
		for _, b := range all {
			want := a.Cpu <= b.Cpu && a.Mem <= b.Mem && a.Pods <= b.Pods
			if got := impl.ResFits(a, b); got != want {
				t.Errorf("ResFits(%v, %v) is %v", a, b, got)
			}
		}
	}
	full := impl.Res{Cpu: most, Mem: most, Pods: most}
	for _, bad := range invalidVectors() {
		if impl.ResFits(bad, full) || impl.ResFits(impl.Res{}, bad) || impl.ResFits(bad, bad) {
			t.Errorf("ResFits accepts %v", bad)
		}
	}
}

func TestResSumEmpty(t *testing.T) {
	got, ok := impl.ResSum(nil)
	wantRes(t, "ResSum of nil", got, ok, impl.Res{})
	got, ok = impl.ResSum([]impl.Res{})
	wantRes(t, "ResSum of the empty list", got, ok, impl.Res{})
}

func TestResSumLimits(t *testing.T) {
	for field := range 3 {
		list := []impl.Res{withField(impl.Res{}, field, most-2), {}, withField(impl.Res{}, field, 2)}
		got, ok := impl.ResSum(list)
		wantRes(t, "ResSum up to MaxAmount", got, ok, withField(impl.Res{}, field, most))
		got, ok = impl.ResSum(append(list, withField(impl.Res{}, field, 1)))
		wantNoRes(t, "ResSum one beyond MaxAmount", got, ok)
	}
}

func TestResSumOfInvalid(t *testing.T) {
	valid := impl.Res{Cpu: 1, Mem: 1, Pods: 1}
	for _, bad := range invalidVectors() {
		for _, list := range [][]impl.Res{{bad}, {bad, valid}, {valid, bad}, {valid, bad, valid}} {
			got, ok := impl.ResSum(list)
			wantNoRes(t, "ResSum with an invalid element", got, ok)
		}
	}
	got, ok := impl.ResSum([]impl.Res{{Cpu: most + 1}, {Cpu: -1}})
	wantNoRes(t, "ResSum of invalid elements with a valid sum", got, ok)
	got, ok = impl.ResSum([]impl.Res{{Mem: most}, {Mem: 1}, {Mem: -1}})
	wantNoRes(t, "ResSum that returns to MaxAmount", got, ok)
}

func TestResSumReadsOnlyTheList(t *testing.T) {
	whole := []impl.Res{{Cpu: 1, Mem: 2, Pods: 3}, {Cpu: 4, Mem: 5, Pods: 6}, {Cpu: -1}}
	got, ok := impl.ResSum(whole[:2])
	wantRes(t, "ResSum", got, ok, impl.Res{Cpu: 5, Mem: 7, Pods: 9})
	want := [3]impl.Res{{Cpu: 1, Mem: 2, Pods: 3}, {Cpu: 4, Mem: 5, Pods: 6}, {Cpu: -1}}
	if [3]impl.Res(whole) != want {
		t.Errorf("ResSum changed its argument to %v", whole)
	}
}

// Promise 3, second part.
func TestResTimesIsSumOfCopies(t *testing.T) {
	for _, a := range vectorsOf(0, 1, 3, most/4, most/4+1, most) {
		var copies []impl.Res
		for n := range 6 {
			product, ok1 := impl.ResTimes(a, n)
			sum, ok2 := impl.ResSum(copies)
			if product != sum || ok1 != ok2 {
				t.Errorf("%d times %v: got %v, %v, the sum is %v, %v", n, a, product, ok1, sum, ok2)
			}
			copies = append(copies, a)
		}
	}
}

func TestResTimesEdges(t *testing.T) {
	full := impl.Res{Cpu: most, Mem: most, Pods: most}
	got, ok := impl.ResTimes(full, 0)
	wantRes(t, "0 times", got, ok, impl.Res{})
	got, ok = impl.ResTimes(full, 1)
	wantRes(t, "once", got, ok, full)
	got, ok = impl.ResTimes(full, 2)
	wantNoRes(t, "twice MaxAmount", got, ok)
	for _, n := range []int{0, 1, most, most + 1, math.MaxInt} {
		got, ok = impl.ResTimes(impl.Res{}, n)
		wantRes(t, "a multiple of nothing", got, ok, impl.Res{})
	}
	for _, n := range []int{-1, -most, math.MinInt} {
		got, ok = impl.ResTimes(impl.Res{}, n)
		wantNoRes(t, "a negative multiple of nothing", got, ok)
		got, ok = impl.ResTimes(full, n)
		wantNoRes(t, "a negative multiple", got, ok)
	}
}

func TestResTimesLargeN(t *testing.T) {
	for field := range 3 {
		one := withField(impl.Res{}, field, 1)
		got, ok := impl.ResTimes(one, most)
		wantRes(t, "MaxAmount times 1", got, ok, withField(impl.Res{}, field, most))
		// 4 times 1<<62 wraps around to 0, and 2 times (1<<63 - 1) to -2.
		for _, n := range []int{most + 1, 1 << 62, 1<<62 + 1, math.MaxInt} {
			for _, amount := range []int{1, 2, 4, most} {
				got, ok = impl.ResTimes(withField(impl.Res{}, field, amount), n)
				wantNoRes(t, "a multiple beyond MaxAmount", got, ok)
			}
		}
	}
}

func TestResTimesOfInvalid(t *testing.T) {
	for _, bad := range invalidVectors() {
		for _, n := range []int{-1, 0, 1, 2, math.MaxInt, math.MinInt} {
			got, ok := impl.ResTimes(bad, n)
			wantNoRes(t, "a multiple of an invalid vector", got, ok)
		}
	}
}

func TestResShareOfOneField(t *testing.T) {
	for _, c := range []struct{ used, cap, want int }{
		{0, 0, 0},
		{1, 0, 1001},
		{most, 0, 1001},
		{0, 5, 0},
		{1, 3, 333},
		{2, 3, 666},
		{1, 1001, 0},
		{1, 1000, 1},
		{5, 5, 1000},
		{1001, 1000, 1001},
		{7, 5, 1400},
		{most, most, 1000},
		{most - 1, most, 999},
		{most, 1, 1000 * most},
	} {
		for field := range 3 {
			used := withField(impl.Res{}, field, c.used)
			limit := withField(impl.Res{Cpu: 9, Mem: 9, Pods: 9}, field, c.cap)
			if got := impl.ResShare(used, limit); got != c.want {
				t.Errorf("ResShare(%v, %v) is %d, want %d", used, limit, got, c.want)
			}
		}
	}
}

func TestResShareIsTheGreatestOfTheFields(t *testing.T) {
	for _, c := range []struct {
		used, cap impl.Res
		want      int
	}{
		{impl.Res{}, impl.Res{}, 0},
		{impl.Res{Cpu: 1, Mem: 1, Pods: 1}, impl.Res{}, 1001},
		{impl.Res{Cpu: 1, Mem: 2, Pods: 3}, impl.Res{Cpu: 4, Mem: 4, Pods: 4}, 750},
		{impl.Res{Cpu: 1, Mem: 3, Pods: 2}, impl.Res{Cpu: 4, Mem: 4, Pods: 4}, 750},
		{impl.Res{Cpu: 3, Mem: 2, Pods: 1}, impl.Res{Cpu: 4, Mem: 4, Pods: 4}, 750},
		// A field without capacity does not hide a fuller one on either side.
		{impl.Res{Cpu: 1, Mem: 4}, impl.Res{Mem: 2}, 2000},
		{impl.Res{Cpu: 4, Mem: 1}, impl.Res{Cpu: 2}, 2000},
		{impl.Res{Cpu: 2, Pods: 1}, impl.Res{Cpu: 4, Mem: 4}, 1001},
		{impl.Res{Cpu: 2}, impl.Res{Cpu: 4}, 500},
	} {
		if got := impl.ResShare(c.used, c.cap); got != c.want {
			t.Errorf("ResShare(%v, %v) is %d, want %d", c.used, c.cap, got, c.want)
		}
	}
}

func TestResShareOfInvalid(t *testing.T) {
	for _, bad := range invalidVectors() {
		for _, other := range []impl.Res{{}, {Cpu: 1, Mem: 1, Pods: 1}, {Cpu: most, Mem: most, Pods: most}, bad} {
			if got := impl.ResShare(bad, other); got != -1 {
				t.Errorf("ResShare(%v, %v) is %d, want -1", bad, other, got)
			}
			if got := impl.ResShare(other, bad); got != -1 {
				t.Errorf("ResShare(%v, %v) is %d, want -1", other, bad, got)
			}
		}
	}
}

// Promise 3, third part.
func TestResShareGrowsWithUse(t *testing.T) {
	all := vectorsOf(0, 1, 2, 7, most)
	for _, limit := range vectorsOf(0, 1, 3, most) {
		for _, less := range all {
			for _, more := range all {
				if !impl.ResFits(less, more) {
					continue
				}
				low, high := impl.ResShare(less, limit), impl.ResShare(more, limit)
				if low < 0 || low > high {
					t.Fatalf("of %v, %v has the share %d and %v has %d", limit, less, low, more, high)
				}
			}
		}
	}
}
