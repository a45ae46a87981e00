package bucket

import (
	"testing"
	"turnstile/api"
)

// BU1: which limits can be; By is not looked at.
func TestValid(t *testing.T) {
	for _, l := range limits() {
		for _, l.By = range numbers {
			if err := Valid(l); err != nil {
				t.Errorf("%v: %v", l, err)
			}
		}
	}
	for _, l := range noLimits() {
		for _, l.By = range []int{api.ByNone, api.ByClient, api.BySubject, -1} {
			if err := Valid(l); err != api.ErrRange {
				t.Errorf("%v: %v", l, err)
			}
		}
	}
	for _, rate := range numbers {
		for _, per := range numbers {
			for _, burst := range numbers {
				if l := limit(rate, per, burst); Valid(l) != ofLimit(l) {
					t.Errorf("%v: %v", l, Valid(l))
				}
			}
		}
	}
	if err := Valid(api.Limit{}); err != api.ErrRange {
		t.Errorf("the empty limit: %v", err)
	}
}

// BU1: a full bucket.
func TestFull(t *testing.T) {
	for _, c := range []struct{ rate, per, burst, now, parts int }{
		{1, 1, 1, 0, 1}, {1, 3, 2, 0, 6}, {9, 3, 2, 7, 6}, {1, 1, greatest, lastTick, greatest}, {1, greatest, 1, 5, greatest},
		{greatest, greatest, greatest, lastTick, lastTick}, {1, greatest, greatest, lastTick - 1, lastTick}, {1, greatest, greatest - 1, 0, lastTick - greatest},
	} {
		b, err := Full(limit(c.rate, c.per, c.burst), c.now)
		if want := (Bucket{c.parts, c.now}); b != want || err != nil {
			t.Errorf("%v: %v, %v", c, b, err)
		}
	}
	for _, now := range []int{-1, lastTick + 1, -lastTick} {
		if b, err := Full(limit(1, 1, 1), now); b != (Bucket{}) || err != api.ErrArg {
			t.Errorf("at %d: %v, %v", now, b, err)
		}
	}
}

// BU1: a bucket is filled for each tick since its time, up to its brim.
func TestFill(t *testing.T) {
	for _, c := range []struct {
		rate, per, burst, parts, at, now, want, then int
	}{
		{1, 3, 2, 0, 0, 0, 0, 0},
		{1, 3, 2, 0, 0, 1, 1, 1},
		{1, 3, 2, 0, 0, 5, 5, 5},
		{1, 3, 2, 0, 0, 6, 6, 6},
		{1, 3, 2, 0, 0, 7, 6, 7},
		{4, 3, 2, 0, 10, 11, 4, 11},
		{4, 3, 2, 1, 10, 11, 5, 11},
		{4, 3, 2, 2, 10, 11, 6, 11},
		{4, 3, 2, 3, 10, 11, 6, 11},
		{4, 3, 2, 6, 10, 11, 6, 11},
		{7, 3, 2, 0, 10, 11, 6, 11},
		{4, 3, 2, 1, 10, 10, 1, 10},
		{4, 3, 2, 1, 10, 9, 1, 10},
		{4, 3, 2, 1, 10, 0, 1, 10},
		{4, 3, 2, 6, 10, 0, 6, 10},
		{1, 1, 1, 0, lastTick, lastTick, 0, lastTick},
		{1, 1, 1, 0, lastTick, 0, 0, lastTick},
		{1, 1, 1, 0, lastTick - 1, lastTick, 1, lastTick},
		{1, greatest, greatest, 0, 0, lastTick - 1, lastTick - 1, lastTick - 1},
		{1, greatest, greatest, 0, 0, lastTick, lastTick, lastTick},
		{1, greatest, greatest, 1, 0, lastTick, lastTick, lastTick},
		{greatest, greatest, greatest, 0, 0, lastTick, lastTick, lastTick},
		{greatest, greatest, greatest, lastTick, 0, lastTick, lastTick, lastTick},
		{greatest, greatest, greatest, 0, 0, greatest - 1, lastTick - greatest, greatest - 1},
		{greatest, 1, 1, 0, 0, lastTick, 1, lastTick},
	} {
		b, err := Fill(Bucket{c.parts, c.at}, limit(c.rate, c.per, c.burst), c.now)
		if b != (Bucket{c.want, c.then}) || err != nil {
			t.Errorf("%v: %v, %v", c, b, err)
		}
	}
}

// BU2: a token is taken, if the filled bucket has it; else the filled bucket is answered.
func TestTake(t *testing.T) {
	for _, c := range []struct {
		rate, per, burst, parts, at, now, want, then int
		ok                                           bool
	}{
		{1, 3, 2, 6, 0, 0, 3, 0, true},
		{1, 3, 2, 3, 0, 0, 0, 0, true},
		{1, 3, 2, 4, 0, 0, 1, 0, true},
		{1, 3, 2, 2, 0, 0, 2, 0, false},
		{1, 3, 2, 0, 0, 2, 2, 2, false},
		{1, 3, 2, 0, 0, 3, 0, 3, true},
		{1, 3, 2, 0, 0, 4, 1, 4, true},
		{1, 3, 2, 0, 0, 60, 3, 60, true},
		{1, 3, 2, 2, 5, 4, 2, 5, false},
		{1, 3, 2, 3, 5, 4, 0, 5, true},
		{1, 3, 2, 3, 5, 0, 0, 5, true},
		{1, 1, 1, 1, 5, 5, 0, 5, true},
		{1, 1, 1, 0, 5, 5, 0, 5, false},
		{1, 1, 1, 0, 5, 6, 0, 6, true},
		{greatest, greatest, greatest, 0, 0, 0, 0, 0, false},
		{greatest, greatest, greatest, 0, 0, 1, 0, 1, true},
		{greatest, greatest, greatest, lastTick, lastTick, lastTick, lastTick - greatest, lastTick, true},
		{greatest - 1, greatest, 1, 0, 0, 1, greatest - 1, 1, false},
		{1, greatest, 1, 0, 0, greatest - 1, greatest - 1, greatest - 1, false},
		{1, greatest, 1, 0, 0, greatest, 0, greatest, true},
	} {
		b, ok, err := Take(Bucket{c.parts, c.at}, limit(c.rate, c.per, c.burst), c.now)
		if b != (Bucket{c.want, c.then}) || ok != c.ok || err != nil {
			t.Errorf("%v: %v, %t, %v", c, b, ok, err)
		}
	}
}

// BU2: whole tokens that are left.
func TestLeft(t *testing.T) {
	for _, c := range []struct{ rate, per, burst, parts, at, now, want int }{
		{1, 3, 2, 0, 0, 0, 0}, {1, 3, 2, 2, 0, 0, 0}, {1, 3, 2, 3, 0, 0, 1}, {1, 3, 2, 5, 0, 0, 1}, {1, 3, 2, 6, 0, 0, 2},
		{1, 3, 2, 0, 0, 2, 0}, {1, 3, 2, 0, 0, 3, 1}, {1, 3, 2, 0, 0, 5, 1}, {1, 3, 2, 0, 0, 6, 2}, {1, 3, 2, 0, 0, 600, 2},
		{1, 3, 2, 2, 5, 4, 0}, {1, 3, 2, 2, 5, 5, 0}, {1, 3, 2, 2, 5, 6, 1}, {1, 3, 2, 5, 9, 0, 1},
		{greatest, 1, greatest, 0, 0, 1, greatest}, {greatest, 1, greatest - 1, 0, 0, 1, greatest - 1}, {1, 1, greatest, 0, 0, greatest - 1, greatest - 1},
		{greatest, greatest, greatest, 0, 0, lastTick, greatest}, {greatest, greatest, greatest, lastTick - 1, 9, 9, greatest - 1},
	} {
		if n, err := Left(Bucket{c.parts, c.at}, limit(c.rate, c.per, c.burst), c.now); n != c.want || err != nil {
			t.Errorf("%v: %d, %v", c, n, err)
		}
	}
}

// BU2: how long until there is a token: from now, or from the bucket's own time.
func TestWait(t *testing.T) {
	for _, c := range []struct{ rate, per, burst, parts, at, now, want int }{
		{1, 3, 2, 0, 0, 0, 3}, {1, 3, 2, 1, 0, 0, 2}, {1, 3, 2, 2, 0, 0, 1}, {1, 3, 2, 3, 0, 0, 0}, {1, 3, 2, 6, 0, 0, 0},
		{1, 3, 2, 0, 0, 1, 2}, {1, 3, 2, 0, 0, 2, 1}, {1, 3, 2, 0, 0, 3, 0}, {1, 3, 2, 0, 0, 1000, 0},
		{1, 3, 2, 0, 5, 4, 3}, {1, 3, 2, 0, 5, 0, 3}, {1, 3, 2, 2, lastTick, 0, 1}, {1, 3, 2, 3, lastTick, 0, 0},
		{2, 3, 2, 0, 0, 0, 2}, {2, 3, 2, 1, 0, 0, 1}, {2, 3, 2, 2, 0, 0, 1}, {3, 3, 2, 0, 0, 0, 1}, {4, 3, 2, 0, 0, 0, 1}, {5, 9, 2, 0, 0, 0, 2}, {5, 10, 2, 0, 0, 0, 2}, {5, 11, 2, 0, 0, 0, 3},
		{1, greatest, 1, 0, 0, 0, greatest}, {1, greatest, greatest, 0, lastTick, lastTick, greatest}, {greatest, 1, 1, 0, 0, 0, 1}, {greatest, greatest, 1, 0, 0, 0, 1}, {greatest - 1, greatest, 1, 0, 0, 0, 2},
	} {
		if n, err := Wait(Bucket{c.parts, c.at}, limit(c.rate, c.per, c.burst), c.now); n != c.want || err != nil {
			t.Errorf("%v: %d, %v", c, n, err)
		}
	}
}

// BU2: the most that is taken in a stretch.
func TestMost(t *testing.T) {
	for _, c := range []struct{ rate, per, burst, ticks, want int }{
		{1, 3, 2, 10, 5}, {1, 3, 2, 0, 2}, {1, 3, 2, 1, 2}, {1, 3, 2, 2, 2}, {1, 3, 2, 3, 3}, {1, 3, 2, 5, 3}, {1, 3, 2, 6, 4},
		{5, 3, 2, 1, 3}, {5, 3, 2, 2, 5}, {1, 1, 1, 0, 1}, {1, 1, 1, 1, 2}, {1, 1, 1, lastTick, lastTick + 1}, {1, 1, greatest, 0, greatest},
		{1, greatest, 1, lastTick, greatest + 1}, {1, greatest, 1, lastTick - 1, greatest}, {1, greatest, greatest, lastTick, 2 * greatest},
		{greatest, 1, greatest, lastTick, greatest*lastTick + greatest}, {greatest, greatest, 1, lastTick, lastTick + 1}, {greatest, greatest - 1, 1, greatest, greatest + 2},
	} {
		if n, err := Most(limit(c.rate, c.per, c.burst), c.ticks); n != c.want || err != nil {
			t.Errorf("%v: %d, %v", c, n, err)
		}
	}
	for _, ticks := range []int{-1, lastTick + 1, -lastTick} {
		if n, err := Most(limit(1, 1, 1), ticks); n != 0 || err != api.ErrArg {
			t.Errorf("%d ticks: %d, %v", ticks, n, err)
		}
	}
}

// BU1, BU2: By makes no difference to any call.
func TestBy(t *testing.T) {
	for _, by := range numbers {
		l := api.Limit{By: by, Rate: 1, Per: 3, Burst: 2}
		for _, now := range []int{-1, 0, 4, 5, 6, 9} {
			check(t, Bucket{2, 5}, l, now)
		}
	}
}
