package frames_test

import (
	"errors"
	"testing"

	"slabyard/api"
	"slabyard/plain"
)

// Packages api and plain are tested from here: their own folders stay as they were given.

func TestBounds(t *testing.T) { // P5
	got := []int{api.Page, api.MaxPages, api.MaxOrder, api.MaxNodes, api.MaxCaches, api.MaxObject, api.Magazine, api.MaxWorkers, api.MaxReserve, api.MaxWaiters, api.MaxHolders, api.MaxParts, api.MaxBuffer, api.MaxBuffers, api.MaxSteps, api.MaxLines, api.Workers}
	for i, want := range []int{64, 256, 6, 4, 8, 64, 4, 4, 16, 8, 16, 12, 600, 40, 2000, 100, 16} {
		if got[i] != want {
			t.Errorf("bound %d is %d, want %d", i, got[i], want)
		}
	}
}

func TestErrors(t *testing.T) { // P5, P3
	errs := []error{api.ErrText, api.ErrBound, api.ErrShape, api.ErrNone, api.ErrFull, api.ErrHeld, api.ErrLow, api.ErrWait, api.ErrStale, api.ErrMany}
	for i, text := range []string{"text", "bound", "shape", "none", "full", "held", "low", "wait", "stale", "many"} {
		if errs[i].Error() != "slabyard: "+text {
			t.Errorf("error %d is %q", i, errs[i])
		}
		if code, at := plain.Code(errs[i]); code != i+1 || at != -1 {
			t.Errorf("%s: code %d at %d", text, code, at)
		}
		fault := &api.Fault{At: i + 3, Err: errs[i]}
		if code, at := plain.Code(fault); code != i+1 || at != i+3 || fault.Error() != errs[i].Error() || !errors.Is(fault, errs[i]) {
			t.Errorf("%s: code %d at %d of a fault", text, code, at)
		}
	}
	if code, at := plain.Code(nil); code != 0 || at != -1 {
		t.Error("no error", code, at)
	}
	if code, at := plain.Code(errors.New("another one")); code != -1 || at != -1 {
		t.Error("another error", code, at)
	}
}
