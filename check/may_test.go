package check_test

// Tests of P6.1: May.

import (
	"math"
	"testing"

	"cantilever/api"
	"cantilever/check"
)

func wantMay(t *testing.T, kind, order int, plain bool, want api.Errno) {
	t.Helper()
	if got := check.May(kind, order, plain); got != want {
		t.Errorf("May of %d, %d, %t: %d, not %d", kind, order, plain, got, want)
	}
}

// strange are numbers that are no Kind and no order.
func strange() []int {
	return []int{math.MinInt, math.MinInt + 2, -1 << 32, -1<<32 + 2, -1 << 16, -256, -12, -7, -2, -1, 0, 12, 13, 64, 128, 255, 256, 258, 1 << 16, 1<<16 + 2,
		1 << 32, 1<<32 + 2, math.MaxInt - 1, math.MaxInt}
}

func TestMayOfEachKindAndOrder(t *testing.T) {
	for kind := -40; kind <= 40; kind++ {
		for order := -40; order <= 40; order++ {
			for _, plain := range []bool{false, true} {
				wantMay(t, kind, order, plain, plainMay(kind, order, plain))
			}
		}
	}
}

// Of a Kind without an Order that is told ahead of an order that is none.
func TestMayOfNumbersThatAreNone(t *testing.T) {
	for _, plain := range []bool{false, true} {
		for _, n := range strange() {
			for order := 1; order <= 6; order++ {
				wantMay(t, n, order, plain, api.ErrArg)
			}
			for kind := 2; kind <= 7; kind++ {
				wantMay(t, kind, n, plain, api.ErrOrder)
			}
			for _, kind := range append(strange(), 1, 8, 9, 10, 11) {
				wantMay(t, kind, n, plain, api.ErrArg)
			}
		}
	}
}

// The sentences of the promise, each by itself.
func TestMaySentences(t *testing.T) {
	all := []int{api.OrdNa, api.OrdRlx, api.OrdAcq, api.OrdRel, api.OrdAr, api.OrdSc}
	for _, order := range all {
		for _, plain := range []bool{false, true} {
			for _, kind := range []int{api.StSet, api.StAssume, api.StAssert, api.StIf, api.StWhile} {
				wantMay(t, kind, order, plain, api.ErrArg)
			}
		}
		for _, kind := range []int{api.StCas, api.StAdd, api.StSwap} {
			wantMay(t, kind, order, true, api.ErrKind)
			if order != api.OrdNa {
				wantMay(t, kind, order, false, api.OK)
			}
		}
		for _, kind := range []int{api.StLoad, api.StStore} {
			if order != api.OrdNa {
				wantMay(t, kind, order, true, api.ErrKind)
			}
		}
	}
	for _, kind := range []int{api.StLoad, api.StStore, api.StCas, api.StAdd, api.StSwap} {
		wantMay(t, kind, api.OrdNa, false, api.ErrKind)
		wantMay(t, kind, api.OrdRlx, false, api.OK)
		wantMay(t, kind, api.OrdSc, false, api.OK)
	}
	wantMay(t, api.StLoad, api.OrdNa, true, api.OK)
	wantMay(t, api.StStore, api.OrdNa, true, api.OK)
	wantMay(t, api.StLoad, api.OrdAcq, false, api.OK)
	wantMay(t, api.StLoad, api.OrdRel, false, api.ErrOrder)
	wantMay(t, api.StLoad, api.OrdAr, false, api.ErrOrder)
	wantMay(t, api.StStore, api.OrdRel, false, api.OK)
	wantMay(t, api.StStore, api.OrdAcq, false, api.ErrOrder)
	wantMay(t, api.StStore, api.OrdAr, false, api.ErrOrder)
	for _, plain := range []bool{false, true} {
		wantMay(t, api.StFence, api.OrdNa, plain, api.ErrOrder)
		wantMay(t, api.StFence, api.OrdRlx, plain, api.ErrOrder)
		for _, order := range all[2:] {
			wantMay(t, api.StFence, order, plain, api.OK)
		}
	}
}
