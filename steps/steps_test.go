package steps_test

import (
	"testing"

	"garderobe/api"
	"garderobe/steps"
)

// The steps are done in their order, till one has an error, which is told.
func TestTill(t *testing.T) {
	for bad := range 5 {
		done := 0
		var row []func() api.Errno
		for k := range 4 {
			row = append(row, func() api.Errno {
				if done != k {
					t.Errorf("step %d is done behind %d", k, done)
				}
				done++
				if k == bad {
					return api.Errno(10 + k)
				}
				return api.OK
			})
		}
		want, many := api.Errno(10+bad), bad+1
		if bad == 4 {
			want, many = api.OK, 4
		}
		if e := steps.Till(row...); e != want || done != many {
			t.Errorf("error %d, not %d; %d steps", e, want, done)
		}
	}
	if e := steps.Till(); e != api.OK {
		t.Error("of none", e)
	}
}
