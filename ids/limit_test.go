package ids

import (
	"math"
	"testing"

	"suffragan/api"
)

func TestLimit(t *testing.T) { // P16.1, from within: no memory holds as many texts as it takes to reach MaxID from outside
	for limit, want := range map[uint64]uint64{
		0:               0,
		1:               1,
		api.MaxID - 1:   api.MaxID - 1,
		api.MaxID:       api.MaxID,
		api.MaxID + 1:   api.MaxID,
		1 << 32:         api.MaxID,
		1<<32 + 1:       api.MaxID,
		api.MaxNum:      api.MaxID,
		1 << 63:         api.MaxID,
		math.MaxUint64:  api.MaxID,
		api.MaxID * 100: api.MaxID,
	} {
		if got := New(limit).limit; got != want {
			t.Errorf("New(%d): the limit is %d, not %d", limit, got, want)
		}
		x, e := Load(limit, []byte{0, 0})
		if e != api.OK || x.limit != want {
			t.Errorf("Load(%d): the limit is %d, not %d", limit, x.limit, want)
		}
	}
}
