// Package steps does rows of steps. No layer is named for it: the layers that put their steps in a row share it.
package steps

import "garderobe/api"

// Till does the steps, one behind the other, till one has an error: that one's.
func Till(row ...func() api.Errno) api.Errno {
	for _, step := range row {
		if e := step(); e != api.OK {
			return e
		}
	}
	return api.OK
}
