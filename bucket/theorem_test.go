package bucket

import (
	"sync"
	"testing"
	"turnstile/api"
)

// BU1, BU2: any buckets, limits and times, against the chapter's words.
func TestAnyBucket(t *testing.T) {
	m := newMaker(2)
	kinds := [6]int{}
	for range 300000 {
		l, now := m.limit(), m.upTo(lastTick)
		b := m.bucket(l, now)
		if err := check(t, b, l, now); err != nil || t.Failed() {
			t.Fatalf("%v of %v at %d: %v", b, l, now, err)
		}
		filled, _ := ofFill(b, l, now)
		for i, is := range []bool{now < b.At, now == b.At, now > b.At, filled.Parts == l.Burst*l.Per, filled.Parts < l.Per, filled.Parts == l.Per} {
			if is {
				kinds[i]++
			}
		}
	}
	for i, n := range kinds {
		if n < 1000 {
			t.Errorf("kind %d only %d times", i, n)
		}
	}
}

// BU1, BU2: every bucket of every small limit at every near time; the filled one tick by tick.
func TestEverySmallBucket(t *testing.T) {
	for i := range 4 * 4 * 3 {
		l := limit(1+i%4, 1+i/4%4, 1+i/16)
		for parts := range l.Burst*l.Per + 1 {
			b := Bucket{parts, 20}
			byTicks := b
			for now := 17; now < 36; now++ {
				if now > 20 {
					byTicks = Bucket{min(byTicks.Parts+l.Rate, l.Burst*l.Per), now}
				}
				if got, err := Fill(b, l, now); got != byTicks || err != nil {
					t.Errorf("%v of %v at %d: %v, %v, not %v", b, l, now, got, err, byTicks)
				}
				check(t, b, l, now)
			}
		}
	}
}

// BU3: filled in two steps, or in many, it is what it is in one; a step back changes nothing.
func TestSteps(t *testing.T) {
	m := newMaker(3)
	fill := func(b Bucket, l api.Limit, now int) Bucket {
		b, err := Fill(b, l, now)
		if err != nil {
			t.Fatal(err)
		}
		return b
	}
	for range 100000 {
		l, first, second := m.limit(), m.upTo(lastTick), m.upTo(lastTick)
		b := m.bucket(l, first)
		if m.Intn(2) == 0 {
			second = min(first+m.Intn(30), lastTick)
		}
		if one, two := fill(b, l, max(first, second)), fill(fill(b, l, first), l, second); one != two {
			t.Fatalf("%v of %v at %d, then %d: %v, not %v", b, l, first, second, two, one)
		}
		step, now := b, b.At
		for range m.Intn(8) {
			now = min(now+m.Intn(3), lastTick)
			step = fill(step, l, now)
		}
		if one := fill(b, l, now); one != step {
			t.Fatalf("%v of %v to %d in steps: %v, not %v", b, l, now, step, one)
		}
	}
}

// BU3: what Wait tells is the first time with a token: none is there at any time ahead of it.
func TestFirstToken(t *testing.T) {
	m := newMaker(4)
	late, atOnce := 0, 0
	for range 200000 {
		l, now := m.limit(), m.upTo(lastTick)
		b := m.bucket(l, now)
		if m.Intn(2) == 0 {
			b.Parts = m.Intn(l.Per)
		}
		n, err := Wait(b, l, now)
		if err != nil || n < 0 {
			t.Fatalf("%v of %v at %d: %d, %v", b, l, now, n, err)
		}
		from := max(now, b.At)
		if from+n <= lastTick {
			if _, ok, err := Take(b, l, from+n); !ok || err != nil {
				t.Fatalf("%v of %v: none at %d, but Wait says %d from %d", b, l, from+n, n, from)
			}
		}
		if n == 0 {
			atOnce++
			continue
		}
		for _, early := range []int{from, from + m.Intn(n), from + n - 1} {
			if _, ok, err := Take(b, l, min(early, lastTick)); ok || err != nil {
				t.Fatalf("%v of %v: one at %d, but Wait says %d from %d", b, l, early, n, from)
			}
		}
		if from+n > lastTick {
			late++
		}
	}
	if late < 1000 || atOnce < 1000 {
		t.Error(late, atOnce)
	}
}

// taking takes tokens at times that never go back, from any bucket, and tells when each was had.
func taking(t *testing.T, m *maker, l api.Limit, b Bucket, now int) []int {
	var times []int
	for range 60 {
		now += m.Intn(4) * m.Intn(2)
		back := m.Intn(8) * m.Intn(2)
		next, ok, err := Take(b, l, max(now-back, 0))
		if err != nil {
			t.Fatal(err)
		}
		if ok {
			times = append(times, max(now-back, b.At))
		}
		b = next
	}
	return times
}

// BU3: in no stretch more is taken than Most tells, whatever was in the bucket and whenever it is asked.
func TestStretches(t *testing.T) {
	m := newMaker(5)
	reached, taken := 0, 0
	for range 4000 {
		l := m.small()
		times := taking(t, m, l, Bucket{m.Intn(l.Burst*l.Per + 1), m.Intn(6)}, m.Intn(6))
		taken += len(times)
		for i := range times {
			for j := i; j < len(times); j++ {
				n, err := Most(l, times[j]-times[i])
				if err != nil || j-i+1 > n {
					t.Fatalf("%v: %d taken from %d to %d, Most says %d, %v", l, j-i+1, times[i], times[j], n, err)
				}
				if j-i+1 == n {
					reached++
				}
			}
		}
	}
	if taken < 50000 || reached < 10000 {
		t.Error(taken, reached)
	}
}

// BU2, BU3: as many as Most tells are had by one who takes all at each tick, unless the bucket runs over between.
func TestGreedy(t *testing.T) {
	all := 0
	for i := range 8 * 8 * 6 {
		l := limit(1+i%8, 1+i/8%8, 1+i/64)
		b, err := Full(l, 0)
		if err != nil {
			t.Fatal(err)
		}
		got := 0
		for now := range 50 {
			for ok := true; ok; {
				if b, ok, err = Take(b, l, now); ok {
					got++
				}
			}
			n, err := Most(l, now)
			if err != nil || got > n {
				t.Fatalf("%v to %d: %d, Most says %d, %v", l, now, got, n, err)
			}
			if l.Rate+l.Per-1 <= l.Burst*l.Per {
				if all++; got != n {
					t.Fatalf("%v to %d: %d, Most says %d", l, now, got, n)
				}
			}
		}
	}
	if all < 5000 {
		t.Error(all)
	}
}

// BU2: no part of a token is lost: what is taken and what is left are what was there and what came.
func TestNothingLost(t *testing.T) {
	m := newMaker(6)
	for range 2000 {
		l := m.limit()
		l.Burst = greatest
		b, now := Bucket{0, 0}, 0
		came, taken := 0, 0
		for range 40 {
			step := m.Intn(1 + l.Burst*l.Per/l.Rate/50)
			now, came = now+step, came+step*l.Rate
			next, ok, err := Take(b, l, now)
			if err != nil {
				t.Fatal(err)
			}
			if ok {
				taken++
			}
			if b = next; b.Parts+taken*l.Per != came || b.At != now {
				t.Fatalf("%v: %d came, %d taken, %v left", l, came, taken, b)
			}
		}
	}
}

// Rule 4: what is answered hangs on the arguments alone, also while others ask.
func TestTogether(t *testing.T) {
	var wait sync.WaitGroup
	for range 8 {
		wait.Go(func() {
			m := newMaker(7)
			for range 5000 {
				l, now := m.limit(), m.upTo(lastTick)
				check(t, m.bucket(l, now), l, now)
			}
		})
	}
	wait.Wait()
}
