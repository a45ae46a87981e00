package bucket

import (
	"testing"
	"turnstile/api"
)

// BU1, BU2: a limit that can't be is told ahead of all else.
func TestNoLimit(t *testing.T) {
	for _, l := range noLimits() {
		for _, b := range []Bucket{{}, {1, 1}, {-1, 0}, {0, -1}, {lastTick, lastTick}, {lastTick + 1, lastTick + 1}} {
			for _, now := range []int{0, 1, lastTick, -1, lastTick + 1} {
				if err := check(t, b, l, now); err != api.ErrRange {
					t.Errorf("%v: %v", l, err)
				}
			}
		}
	}
}

// BU1, BU2: a bucket that can't be, a time that can't be, and both at once.
func TestNoBucket(t *testing.T) {
	for _, l := range []api.Limit{limit(1, 1, 1), limit(1, 3, 2), limit(1, 2, 3), limit(greatest, greatest, greatest), limit(2, greatest, 1), limit(2, 1, greatest)} {
		brim := l.Burst * l.Per
		for _, parts := range append([]int{brim - 1, brim, brim + 1}, numbers...) {
			for _, at := range numbers {
				for _, now := range numbers {
					fine := parts >= 0 && parts <= brim && at >= 0 && at <= lastTick && now >= 0 && now <= lastTick
					if err := check(t, Bucket{parts, at}, l, now); fine != (err == nil) || !fine && err != api.ErrArg {
						t.Errorf("%v of %v at %d: %v", Bucket{parts, at}, l, now, err)
					}
				}
			}
		}
	}
}

// BU1, BU2: any numbers at all.
func TestAnyNumbers(t *testing.T) {
	m := newMaker(1)
	ends := map[error]int{}
	for range 200000 {
		n := func() int { return numbers[m.Intn(len(numbers))] }
		l, b, now := m.limit(), Bucket{n(), n()}, n()
		switch m.Intn(4) {
		case 0:
			l = limit(n(), n(), n())
		case 1:
			b = m.bucket(l, max(now, 0))
		case 2:
			l.Rate += n()
		}
		ends[check(t, b, l, now)]++
		if t.Failed() {
			t.FailNow()
		}
	}
	for _, err := range []error{nil, api.ErrRange, api.ErrArg} {
		if ends[err] < 5000 {
			t.Errorf("%v only %d times", err, ends[err])
		}
	}
}
