package clock_test

import (
	"testing"

	"bursary/api"
	"bursary/clock"
	"bursary/testcode"
)

const never = 1<<64 - 1

// times are those about the ends.
func times() []uint64 { return []uint64{0, 1, 2, 5, 8, 1 << 63, never - 2, never - 1, never} }

// TestCK1 reckons with times, about the ends above all.
func TestCK1(t *testing.T) {
	if clock.Never != never {
		t.Error("Never")
	}
	for _, c := range [][3]uint64{{0, 0, 0}, {5, 3, 8}, {never - 1, 1, never}, {never - 1, 2, never}, {never, 0, never}, {never, never, never}, {1 << 63, 1 << 63, never}, {1, never - 2, never - 1}} {
		if got := clock.Tick(c[0], c[1]); got != c[2] {
			t.Errorf("Tick(%d, %d): %d", c[0], c[1], got)
		}
	}
	for _, c := range []struct {
		now, ttl, until uint64
		err             api.Errno
	}{
		{5, 3, 8, 0}, {5, 0, never, 0}, {never, 0, never, 0}, {0, never, 0, api.ErrOver}, {1, never - 1, 0, api.ErrOver},
		{1, never - 2, never - 1, 0}, {never, 1, 0, api.ErrOver}, {1 << 63, 1 << 63, 0, api.ErrOver}, {0, never - 1, never - 1, 0},
	} {
		if got, err := clock.Until(c.now, c.ttl); got != c.until || testcode.Of(err) != c.err {
			t.Errorf("Until(%d, %d): %d %v", c.now, c.ttl, got, err)
		}
	}
	for _, c := range []struct {
		now, ttl, most, until uint64
		err                   api.Errno
	}{
		{5, 3, 100, 8, 0}, {5, 3, 7, 7, 0}, {5, 3, 8, 8, 0}, {5, 3, 0, 0, 0}, {5, 3, never, 8, 0}, {5, 0, 100, 0, api.ErrArg},
		{never, 0, 1, 0, api.ErrArg}, {never, 1, 5, 0, api.ErrOver}, {5, never, 5, 0, api.ErrOver},
	} {
		if got, err := clock.Renew(c.now, c.ttl, c.most); got != c.until || testcode.Of(err) != c.err {
			t.Errorf("Renew(%d, %d, %d): %d %v", c.now, c.ttl, c.most, got, err)
		}
	}
	for _, c := range []struct {
		now, until uint64
		over       bool
		left       uint64
	}{{5, 6, false, 1}, {5, 5, true, 0}, {5, 4, true, 0}, {5, never, false, never}, {never, never, false, never}, {never, never - 1, true, 0}, {0, 0, true, 0}, {0, never - 1, false, never - 1}} {
		if got := clock.Over(c.now, c.until); got != c.over {
			t.Errorf("Over(%d, %d): %v", c.now, c.until, got)
		}
		if got := clock.Left(c.now, c.until); got != c.left {
			t.Errorf("Left(%d, %d): %d", c.now, c.until, got)
		}
	}
	if clock.Resume(5, 3) != 5 || clock.Resume(3, 5) != 5 || clock.Resume(never, 0) != never {
		t.Error("Resume")
	}
}

// TestCK2: time never goes back, and what is over stays over.
func TestCK2(t *testing.T) {
	for _, now := range times() {
		for _, by := range times() {
			later := clock.Tick(now, by)
			if later < now || clock.Resume(now, by) < now {
				t.Errorf("%d and %d go back", now, by)
			}
			for _, until := range times() {
				if clock.Over(now, until) && !clock.Over(later, until) {
					t.Errorf("%d was over at %d, and is not at %d", until, now, later)
				}
				if clock.Left(later, until) > clock.Left(now, until) {
					t.Errorf("more is left of %d at %d than at %d", until, later, now)
				}
			}
		}
	}
}
