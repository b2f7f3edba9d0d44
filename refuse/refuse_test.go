package refuse_test

import (
	"testing"

	"castellan/api"
	"castellan/refuse"
)

// TestFace: what was given up for is told, and nothing beside it.
func TestFace(t *testing.T) {
	for _, c := range []struct {
		do   func() int
		want int
		e    api.Errno
	}{
		{func() int { return 7 }, 7, api.OK},
		{func() int { refuse.Must(api.OK); refuse.Need(true, api.ErrArg); return 8 }, 8, api.OK},
		{func() int { refuse.Must(api.ErrLong); return 9 }, 0, api.ErrLong},
		{func() int { refuse.Need(false, api.ErrRange); return 9 }, 0, api.ErrRange},
	} {
		if x, e := refuse.Face(c.do); x != c.want || e != c.e {
			t.Errorf("%d %v, not %d %v", x, e, c.want, c.e)
		}
	}
}

// TestOthers: a panic that is no refusal goes on.
func TestOthers(t *testing.T) {
	defer func() {
		if r := recover(); r != "another one" {
			t.Errorf("recovered: %v", r)
		}
	}()
	refuse.Face(func() int { panic("another one") })
	t.Error("it doesn't go on")
}
