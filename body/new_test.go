package body

import (
	"math"
	"testing"
	"turnstile/api"
)

// mosts is what most may be, in the order of their size, but for -1, which is above all.
func mosts() []int { return []int{0, 1, 2, maxLength - 1, maxLength, maxLength + 1, math.MaxInt} }

// checkNoReader: New, and so Whole, answers that error, and nothing beside it.
func checkNoReader(t *testing.T, f api.Frame, most int, want error) {
	t.Helper()
	if r, err := New(f, most); r != nil || err != want {
		t.Errorf("New(%v, %d) = %v, %v, not %v", f, most, r, err, want)
	}
	for _, s := range []string{"", "abc", "0\r\n\r\n"} {
		if body, n, err := Whole(f, most, []byte(s)); body != nil || n != 0 || err != want {
			t.Errorf("Whole(%v, %d, %q) = %q, %d, %v, not %v", f, most, s, body, n, err, want)
		}
	}
}

// BD1: each of the four kinds, with each most.
func TestNew(t *testing.T) {
	for _, most := range append(mosts(), -1) {
		checkReader(t, newReader(t, none, most), answer{done: true})
		checkReader(t, newReader(t, length(0), most), answer{done: true})
		checkReader(t, newReader(t, chunked, most), answer{})
		checkReader(t, newReader(t, closing, most), answer{})
		for _, n := range []int{1, 2, 1000, maxLength - 1, maxLength} {
			if most == -1 || n <= most {
				checkReader(t, newReader(t, length(n), most), answer{})
			}
		}
	}
}

// BD1, BD4: framings that can't be.
func TestFramesThatCantBe(t *testing.T) {
	for _, most := range append(mosts(), -1, -2, math.MinInt) {
		for _, kind := range []int{-1, -2, 4, 5, 256, 1 << 32, 1<<32 + 1, math.MinInt, math.MaxInt} {
			for _, n := range []int{-1, 0, 1, maxLength} {
				checkNoReader(t, api.Frame{Kind: kind, Length: n}, most, api.ErrArg)
			}
		}
		for _, n := range []int{-1, -2, maxLength + 1, math.MinInt, math.MaxInt} {
			checkNoReader(t, length(n), most, api.ErrArg)
		}
		for _, kind := range []int{0, 2, 3} {
			for _, n := range []int{-1, 1, 2, maxLength, maxLength + 1, math.MinInt, math.MaxInt} {
				checkNoReader(t, api.Frame{Kind: kind, Length: n}, most, api.ErrArg)
			}
		}
	}
}

// BD1, BD4: a most below -1 can't be, whatever the framing is.
func TestMostsThatCantBe(t *testing.T) {
	for _, most := range []int{-2, -3, -maxLength, math.MinInt, math.MinInt + 1} {
		for _, f := range []api.Frame{none, chunked, closing, length(0), length(1), length(maxLength)} {
			checkNoReader(t, f, most, api.ErrArg)
		}
	}
}

// BD1, BD4: a length above most is told at once; one that can't be is ErrArg all the same.
func TestLengthAboveMost(t *testing.T) {
	for _, most := range []int{0, 1, 2, 10, 1 << 20, maxLength - 1} {
		checkNoReader(t, length(most+1), most, api.ErrBody)
		checkNoReader(t, length(maxLength), most, api.ErrBody)
		checkNoReader(t, length(maxLength+1), most, api.ErrArg)
		newReader(t, length(most), most)
	}
	for _, most := range []int{-1, maxLength, maxLength + 1, math.MaxInt} {
		newReader(t, length(maxLength), most)
		checkNoReader(t, length(maxLength+1), most, api.ErrArg)
	}
}

// BD1, BD2: of a body that is whole from the begin on nothing is taken.
func TestWholeFromTheBegin(t *testing.T) {
	for _, most := range append(mosts(), -1) {
		for _, f := range []api.Frame{none, length(0)} {
			for _, s := range []string{"", "a", "abc", "0\r\n\r\n", "GET / HTTP/1.1\r\n"} {
				checkEnds(t, f, most, s, 0, "")
			}
			checkStays(t, newReader(t, f, most), answer{done: true})
		}
	}
}
