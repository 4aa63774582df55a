package array

import (
	"slices"
	"testing"

	"paritymill/api"
	"paritymill/plain"
)

func wantOK(t *testing.T, errs ...error) {
	t.Helper()
	for i, err := range errs {
		if err != nil {
			t.Fatalf("step %d: error %v", i, err)
		}
	}
}

// writesOf has a number a disk. What is written to one that is lost cannot be told by the array, so that it is asked here.
func writesOf(a *Array) []int {
	var out []int
	for _, m := range a.members {
		out = append(out, m.Writes())
	}
	return out
}

func wantWrites(t *testing.T, a *Array, want ...int) {
	t.Helper()
	if got := writesOf(a); !slices.Equal(got, want) {
		t.Errorf("writes of the disks: %v, want %v", got, want)
	}
}

func newArray(t *testing.T) *Array {
	t.Helper()
	// In row 0 data is on 1, 2 and 3, P on 4, Q on 0.
	a, err := New(5, 2, 2)
	wantOK(t, err)
	return a
}

func TestOnlyWhatIsLeftIsWritten(t *testing.T) {
	a := newArray(t)
	wantOK(t, a.Write(0, "ab"))
	wantWrites(t, a, 1, 1, 0, 0, 1)
	wantOK(t, a.Fail(1), a.Write(0, "cd"))
	wantWrites(t, a, 2, 1, 0, 0, 2)
	wantOK(t, a.Replace(1), a.Write(0, "ef"))
	wantWrites(t, a, 3, 1, 0, 0, 3)
	wantOK(t, a.Fail(4), a.Write(0, "gh"), a.Write(2, "ij"))
	wantWrites(t, a, 5, 1, 0, 1, 3)
	_, err := a.Rebuild(1)
	wantOK(t, err, a.Write(0, "kl"))
	wantWrites(t, a, 6, 3, 0, 1, 3)
}

func TestNothingIsWrittenWithAnError(t *testing.T) {
	a := newArray(t)
	wantOK(t, a.Fail(0), a.Fail(1), a.Fail(2), a.Replace(0))
	_, rebuild := a.Rebuild(0)
	_, built := a.Rebuild(4)
	errs := []error{a.Write(0, "ab"), a.Write(2, "ab"), rebuild, a.Write(0, "a"), a.Write(6, "ab"), a.Poke(0, 0, "ab"), a.Poke(3, 0, ""), a.Poke(3, 2, "ab"), built}
	want := []api.Errno{api.ErrLost, api.ErrLost, api.ErrLost, api.ErrShape, api.ErrRange, api.ErrState, api.ErrShape, api.ErrRange, api.ErrState}
	for i, err := range errs {
		if plain.Told(err) != want[i] {
			t.Errorf("error %d: %v, want %v", i, err, want[i])
		}
	}
	wantWrites(t, a, 0, 0, 0, 0, 0)
}
