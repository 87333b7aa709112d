package team

import (
	"testing"

	"furrowworks/api"
)

// TestTold: whatever panics inside ends in an error, with nothing beside it.
func TestTold(t *testing.T) {
	if n, e := told(func() int { return 3 }); n != 3 || e != api.OK {
		t.Error(n, e)
	}
	if n, e := told(func() int { panic(api.ErrClash) }); n != 0 || e != api.ErrClash {
		t.Error(n, e)
	}
	var none []int
	if n, e := told(func() int { return none[len(none)] }); n != 0 || e != api.ErrArg {
		t.Error(n, e)
	}
}
