package bucket

import (
	"math"
	"math/big"
	"math/rand"
	"testing"
	"turnstile/api"
)

// The bounds, written down a second time.
const (
	greatest = 1048576
	lastTick = 1099511627776
)

// numbers are whole numbers around every bound, and the farthest ones.
var numbers = []int{
	math.MinInt, math.MinInt + 1, -lastTick - 1, -lastTick, -greatest, -2, -1, 0, 1, 2, 3, 1000, greatest - 1, greatest, greatest + 1, 2 * greatest,
	math.MaxInt32, math.MaxInt32 + 1, lastTick - 1, lastTick, lastTick + 1, 2 * lastTick, lastTick * greatest, math.MaxInt - 1, math.MaxInt,
}

// limit is a limit by its three numbers.
func limit(rate, per, burst int) api.Limit { return api.Limit{Rate: rate, Per: per, Burst: burst} }

// limits are limits that can be, at their bounds and between.
func limits() []api.Limit {
	few := []int{1, 2, 3, 7, 1000, greatest - 1, greatest}
	var l []api.Limit
	for _, rate := range few {
		for _, per := range few {
			for _, burst := range few {
				l = append(l, limit(rate, per, burst))
			}
		}
	}
	return l
}

// noLimits are limits that can't be, by one number, two, or all.
func noLimits() []api.Limit {
	var l []api.Limit
	for _, n := range numbers {
		if n >= 1 && n <= greatest {
			continue
		}
		for _, fine := range []int{1, 2, greatest} {
			l = append(l, limit(n, fine, fine), limit(fine, n, fine), limit(fine, fine, n))
		}
		l = append(l, limit(n, n, 1), limit(1, n, n), limit(n, 1, n), limit(n, n, n))
	}
	return l
}

// ofLimit is what Valid is to answer.
func ofLimit(l api.Limit) error {
	for _, n := range []int{l.Rate, l.Per, l.Burst} {
		if n < 1 || n > greatest {
			return api.ErrRange
		}
	}
	return nil
}

// big numbers do not wrap round, whatever is asked.
func product(a, b int) *big.Int { return new(big.Int).Mul(big.NewInt(int64(a)), big.NewInt(int64(b))) }

// ofFull is what Full is to answer.
func ofFull(l api.Limit, now int) (Bucket, error) {
	if err := ofLimit(l); err != nil {
		return Bucket{}, err
	}
	if now < 0 || now > lastTick {
		return Bucket{}, api.ErrArg
	}
	return Bucket{int(product(l.Burst, l.Per).Int64()), now}, nil
}

// ofFill is what Fill is to answer.
func ofFill(b Bucket, l api.Limit, now int) (Bucket, error) {
	full, err := ofFull(l, now)
	if err != nil {
		return Bucket{}, err
	}
	if b.Parts < 0 || b.Parts > full.Parts || b.At < 0 || b.At > lastTick {
		return Bucket{}, api.ErrArg
	}
	if now <= b.At {
		return b, nil
	}
	parts := product(l.Rate, now-b.At)
	parts.Add(parts, big.NewInt(int64(b.Parts)))
	if parts.Cmp(big.NewInt(int64(full.Parts))) >= 0 {
		return full, nil
	}
	return Bucket{int(parts.Int64()), now}, nil
}

// ofTake is what Take is to answer.
func ofTake(b Bucket, l api.Limit, now int) (Bucket, bool, error) {
	b, err := ofFill(b, l, now)
	if err != nil {
		return Bucket{}, false, err
	}
	if b.Parts >= l.Per {
		return Bucket{b.Parts - l.Per, b.At}, true, nil
	}
	return b, false, nil
}

// ofLeft is what Left is to answer.
func ofLeft(b Bucket, l api.Limit, now int) (int, error) {
	b, err := ofFill(b, l, now)
	if err != nil {
		return 0, err
	}
	return int(new(big.Int).Div(big.NewInt(int64(b.Parts)), big.NewInt(int64(l.Per))).Int64()), nil
}

// ofWait is what Wait is to answer: the first number of ticks that brings what is missing, found by halves.
func ofWait(b Bucket, l api.Limit, now int) (int, error) {
	b, err := ofFill(b, l, now)
	if err != nil {
		return 0, err
	}
	few, enough := 0, l.Per
	for few < enough {
		half := (few + enough) / 2
		if product(l.Rate, half).Cmp(big.NewInt(int64(l.Per-b.Parts))) >= 0 {
			enough = half
		} else {
			few = half + 1
		}
	}
	return few, nil
}

// ofMost is what Most is to answer.
func ofMost(l api.Limit, ticks int) (int, error) {
	if _, err := ofFull(l, ticks); err != nil {
		return 0, err
	}
	n := product(l.Rate, ticks)
	n.Div(n, big.NewInt(int64(l.Per)))
	return l.Burst + int(n.Int64()), nil
}

// check asks all calls about one bucket, one limit and one time, and holds them against the chapter's words.
func check(t *testing.T, b Bucket, l api.Limit, now int) error {
	t.Helper()
	full, err := ofFull(l, now)
	if got, e := Full(l, now); got != full || e != err {
		t.Errorf("Full(%v, %d): %v, %v, not %v, %v", l, now, got, e, full, err)
	}
	most, err := ofMost(l, now)
	if got, e := Most(l, now); got != most || e != err {
		t.Errorf("Most(%v, %d): %d, %v, not %d, %v", l, now, got, e, most, err)
	}
	filled, err := ofFill(b, l, now)
	if got, e := Fill(b, l, now); got != filled || e != err {
		t.Errorf("Fill(%v, %v, %d): %v, %v, not %v, %v", b, l, now, got, e, filled, err)
	}
	rest, ok, err := ofTake(b, l, now)
	if got, is, e := Take(b, l, now); got != rest || is != ok || e != err {
		t.Errorf("Take(%v, %v, %d): %v, %t, %v, not %v, %t, %v", b, l, now, got, is, e, rest, ok, err)
	}
	left, err := ofLeft(b, l, now)
	if got, e := Left(b, l, now); got != left || e != err {
		t.Errorf("Left(%v, %v, %d): %d, %v, not %d, %v", b, l, now, got, e, left, err)
	}
	wait, err := ofWait(b, l, now)
	if got, e := Wait(b, l, now); got != wait || e != err {
		t.Errorf("Wait(%v, %v, %d): %d, %v, not %d, %v", b, l, now, got, e, wait, err)
	}
	return err
}

// maker makes any limits, buckets and times.
type maker struct{ *rand.Rand }

func newMaker(seed int64) *maker { return &maker{rand.New(rand.NewSource(seed))} }

// upTo is a number from 0 to a bound: one at an end, a small one, one by its length in bits, or any.
func (m *maker) upTo(bound int) int {
	switch m.Intn(4) {
	case 0:
		return []int{0, min(1, bound), max(bound-1, 0), bound}[m.Intn(4)]
	case 1:
		return min(m.Intn(20), bound)
	case 2:
		return min(m.Intn(1<<(1+m.Intn(41))), bound)
	}
	return m.Intn(bound + 1)
}

// limit is a limit that can be.
func (m *maker) limit() api.Limit {
	return api.Limit{By: m.Intn(5) - 1, Rate: 1 + m.upTo(greatest-1), Per: 1 + m.upTo(greatest-1), Burst: 1 + m.upTo(greatest-1)}
}

// small is a limit of small numbers.
func (m *maker) small() api.Limit {
	return limit(1+m.Intn(6), 1+m.Intn(9), 1+m.Intn(5))
}

// bucket is a bucket that can be, often a short time ahead of or behind now.
func (m *maker) bucket(l api.Limit, now int) Bucket {
	b := Bucket{m.upTo(l.Burst * l.Per), m.upTo(lastTick)}
	if m.Intn(2) == 0 {
		b.At = min(max(now+m.Intn(41)-20, 0), lastTick)
	}
	return b
}
