package press

import (
	"errors"
	"slices"
	"testing"

	"archivolt/api"
)

// No call may panic: even what nothing here panics with becomes an error, with no result.
func TestCall(t *testing.T) {
	for _, c := range []struct {
		ended any
		e     api.Errno
	}{{wrongToken{api.ErrArg}, api.ErrArg}, {wrongToken{api.ErrLimit}, api.ErrLimit}, {"another one", api.ErrForm}, {errors.New("another one"), api.ErrForm}} {
		if n, e := call(func() int { panic(c.ended) }); n != 0 || e != c.e {
			t.Error(c, n, e)
		}
	}
	if n, e := call(func() int { return 5 }); n != 5 || e != api.OK {
		t.Error(n, e)
	}
}

// What is yielded may be ranged over in part, and again.
func TestRanging(t *testing.T) {
	u := unitOf([]byte("abababa"))
	many := [...]int{0, 0, 1, 1, 2, 2, 3, 0}
	for p, n := range many {
		for range 2 {
			got := slices.Collect(u.offsets(p))
			if len(got) != n || n > 0 && got[n-1] != 2*n {
				t.Error(p, got)
			}
		}
		for k := range u.offsets(p) {
			if k != 2 {
				t.Error(p, k)
			}
			break
		}
	}
	l := []api.Symbol{{Byte: 'a'}, {Byte: 'b'}, {Copy: true, Back: 2, Many: 4}, {Byte: 'a'}}
	positions := []int{0, 1, 2, 6}
	c, _ := Build(l)
	some := []func(func(int, api.Symbol) bool){placed(l), unpacked(c), unitOf([]byte("ababab" + "a")).tokens(func(p int) (int, int) {
		if p == 2 {
			return 2, 4
		}
		return 0, 0
	})}
	for n := range len(l) + 1 {
		for i, tokens := range some {
			at := 0
			for p, s := range tokens {
				if at == n {
					break
				}
				if p != positions[at] || s != l[at] {
					t.Error(i, at, p, s)
				}
				at++
			}
			if at != n {
				t.Error(i, n, at)
			}
		}
	}
}

// What is limited to some bytes ends at the first offset that has them.
func TestLongestOfSome(t *testing.T) {
	u := unitOf([]byte("abcdxabcyabcd"))
	for most, want := range map[int][2]int{1: {4, 1}, 2: {4, 2}, 3: {4, 3}, 4: {9, 4}} {
		if back, many := u.longest(9, most); back != want[0] || many != want[1] {
			t.Error(most, back, many)
		}
	}
}
