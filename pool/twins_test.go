package pool

import (
	"errors"
	"testing"

	"spring/block"
)

func pooled(t *testing.T, length, size int, facts []told) *Pool {
	t.Helper()
	p := New(length, size)
	for _, f := range facts {
		if err := add(p, f); err != nil {
			t.Fatalf("%v: %v", facts, err)
		}
	}
	return p
}

func checkFits(t *testing.T, text string, length, size int, facts []told) {
	t.Helper()
	if len(text) != length {
		t.Errorf("%v: %q has not %d bytes", facts, text, length)
	}
	for _, f := range facts {
		var set block.Set
		for _, n := range f.blocks {
			set = set.With(n)
		}
		if got := string(block.Mix(text, size, set)); got != f.data {
			t.Errorf("%v: %q has %q at %v", facts, text, got, f.blocks)
		}
	}
}

func TestTwins(t *testing.T) {
	for _, c := range []struct {
		length, size int
		told         []told
		certain      []bool
	}{
		{3, 1, nil, []bool{false, false, false}},
		{3, 1, []told{{[]int{1}, "b"}}, []bool{false, true, false}},
		{3, 1, []told{{[]int{0, 1}, "\x03"}, {[]int{1, 2}, "\x01"}, {[]int{0, 2}, "\x02"}}, []bool{false, false, false}},
		{3, 1, []told{{[]int{0, 1}, "\x03"}, {[]int{1, 2}, "\x01"}, {[]int{0, 1, 2}, "`"}}, []bool{true, true, true}},
		{3, 1, []told{{[]int{0, 1, 2}, "`"}, {[]int{1, 2}, "\x01"}}, []bool{true, false, false}},
		{4, 3, []told{{[]int{0, 1}, "abc"}}, []bool{false, false}},
		{4, 3, []told{{[]int{1}, "a\x00\x00"}}, []bool{false, true}},
		{4, 3, []told{{[]int{0}, "abc"}}, []bool{true, false}},
		{6, 3, []told{{[]int{0, 1}, "abc"}}, []bool{false, false}},
		{7, 3, []told{{[]int{1, 2}, "abc"}, {[]int{0, 1}, "def"}}, []bool{false, false, false}},
		{7, 3, []told{{[]int{0, 1}, "def"}, {[]int{1, 2}, "abc"}, {[]int{0, 1}, "def"}}, []bool{false, false, false}},
	} {
		p := pooled(t, c.length, c.size, c.told)
		for n, certain := range c.certain {
			one, other, err := p.Twins(n)
			if certain {
				if one != "" || other != "" || !errors.Is(err, ErrCertain) {
					t.Errorf("%v, block %d: %q, %q, %v, want ErrCertain", c.told, n, one, other, err)
				}
				continue
			}
			if err != nil {
				t.Errorf("%v, block %d: %v", c.told, n, err)
				continue
			}
			checkFits(t, one, c.length, c.size, c.told)
			checkFits(t, other, c.length, c.size, c.told)
			start, end := n*c.size, min((n+1)*c.size, c.length)
			if one[start:end] == other[start:end] {
				t.Errorf("%v: %q and %q are alike in block %d", c.told, one, other, n)
			}
		}
	}
}

func TestTwinsOfNoBlock(t *testing.T) {
	p := pooled(t, 4, 3, []told{{[]int{0, 1}, "abc"}})
	for _, n := range []int{-1, 2, 79, 80, 1 << 40, -1 << 40} {
		if one, other, err := p.Twins(n); one != "" || other != "" || !errors.Is(err, ErrNoBlock) {
			t.Errorf("block %d: %q, %q, %v, want ErrNoBlock", n, one, other, err)
		}
	}
}

// Showing twins changes nothing of what is known.
func TestTwinsLeaveThePool(t *testing.T) {
	p := pooled(t, 7, 3, []told{{[]int{0, 1}, "abc"}, {[]int{1, 2}, "def"}})
	one, other, _ := p.Twins(1)
	for n := -1; n < 4; n++ {
		p.Twins(n)
	}
	again, otherAgain, err := p.Twins(1)
	if one != again || other != otherAgain || err != nil {
		t.Errorf("%q, %q became %q, %q, %v", one, other, again, otherAgain, err)
	}
	if err := add(p, told{[]int{0}, "\x00\x07\x05"}); err != nil {
		t.Errorf("a fact that fits: %v", err)
	}
}
