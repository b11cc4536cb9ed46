package block

import (
	"slices"
	"testing"
)

func TestSetHasWhatItWasGiven(t *testing.T) {
	var set Set
	want := []int{0, 1, 63, 64, 79}
	for _, n := range []int{79, 64, 0, 63, 1, 64} {
		set = set.With(n)
	}
	if got := set.List(); !slices.Equal(got, want) {
		t.Errorf("List() = %v, want %v", got, want)
	}
	for n := range 80 {
		if set.Has(n) != slices.Contains(want, n) {
			t.Errorf("Has(%d) = %v", n, set.Has(n))
		}
	}
}

func TestSetIsAValue(t *testing.T) {
	var empty Set
	one := empty.With(70)
	if empty.Has(70) || empty == one {
		t.Errorf("With changed the set that it was asked of")
	}
	if empty.With(3).With(70) != one.With(3) {
		t.Errorf("sets of the same blocks differ")
	}
}

func TestCount(t *testing.T) {
	for _, c := range []struct{ length, size, want int }{
		{0, 1, 0}, {0, 16, 0}, {1, 1, 1}, {1, 16, 1}, {16, 16, 1}, {17, 16, 2}, {400, 5, 80}, {400, 16, 25},
	} {
		if got := Count(c.length, c.size); got != c.want {
			t.Errorf("Count(%d, %d) = %d, want %d", c.length, c.size, got, c.want)
		}
	}
}

func TestFit(t *testing.T) {
	for _, c := range []struct {
		length, size int
		want         bool
	}{
		{1, 1, true}, {1, 16, true}, {80, 1, true}, {160, 2, true}, {400, 5, true},
		{0, 1, false}, {-1, 1, false}, {401, 16, false}, {1, 0, false}, {1, -1, false}, {1, 17, false}, {81, 1, false}, {161, 2, false}, {400, 4, false},
	} {
		if got := Fit(c.length, c.size); got != c.want {
			t.Errorf("Fit(%d, %d) = %v", c.length, c.size, got)
		}
	}
}

func TestMix(t *testing.T) {
	text := "abcdefgh"
	for _, c := range []struct {
		blocks []int
		want   string
	}{
		{nil, "\x00\x00\x00"},
		{[]int{0}, "abc"},
		{[]int{2}, "gh\x00"},
		{[]int{0, 1}, "\x05\x07\x05"},
		{[]int{1, 2}, "\x03\x0df"},
		{[]int{0, 1, 2}, "bo\x05"},
	} {
		var set Set
		for _, n := range c.blocks {
			set = set.With(n)
		}
		if got := string(Mix(text, 3, set)); got != c.want {
			t.Errorf("Mix of %v = %q, want %q", c.blocks, got, c.want)
		}
	}
}

func setOf(blocks ...int) Set {
	var set Set
	for _, n := range blocks {
		set = set.With(n)
	}
	return set
}

func TestSetAndXor(t *testing.T) {
	a, b := setOf(0, 5, 63, 64, 79), setOf(5, 6, 64, 70)
	if got := a.And(b); got != setOf(5, 64) {
		t.Errorf("And: %v", got.List())
	}
	if got := a.Xor(b); got != setOf(0, 6, 63, 70, 79) {
		t.Errorf("Xor: %v", got.List())
	}
	if a != setOf(0, 5, 63, 64, 79) || b != setOf(5, 6, 64, 70) {
		t.Errorf("And or Xor changed a set: %v, %v", a.List(), b.List())
	}
	if a.Xor(a) != (Set{}) {
		t.Errorf("a set and itself are not nothing")
	}
}

func TestSetFirst(t *testing.T) {
	for n := range 80 {
		if got, ok := One(n).First(); got != n || !ok {
			t.Errorf("First of block %d = %d, %v", n, got, ok)
		}
		if got, ok := One(n).With(79).First(); got != n || !ok {
			t.Errorf("First of blocks %d and 79 = %d, %v", n, got, ok)
		}
	}
	if n, ok := (Set{}).First(); ok {
		t.Errorf("First of no blocks = %d", n)
	}
}

func TestData(t *testing.T) {
	a, b := DataOf("hello"), DataOf("0123456789abcdef")
	if want := (Data{'h', 'e', 'l', 'l', 'o'}); a != want {
		t.Errorf("DataOf = %v", a)
	}
	if want := DataOf("XT^_[56789abcdef"); a.Xor(b) != want {
		t.Errorf("Xor = %q", a.Xor(b))
	}
	if a.Xor(a) != (Data{}) || a.Xor(b).Xor(b) != a {
		t.Errorf("Xor does not undo itself")
	}
}

func TestStray(t *testing.T) {
	for _, c := range []struct {
		length, size int
		set          Set
		data         string
		at           int
		want         bool
	}{
		{12, 5, setOf(2), "ld\x00\x00\x00", 0, false},
		{12, 5, setOf(2), "ld\x00x\x00", 3, true},
		{12, 5, setOf(2), "ldyxz", 2, true},
		{12, 5, setOf(2), "ld\x00\x00x", 4, true},
		{12, 5, setOf(1), "ldyxz", 0, false},
		{12, 5, setOf(1, 2), "ldyxz", 0, false},
		{15, 5, setOf(2), "ldyxz", 0, false},
		{1, 16, setOf(0), "a", 0, false},
		{1, 16, setOf(0), "a\x00\x00\x00\x00\x00\x00\x00\x00\x00\x00\x00\x00\x00\x00x", 15, true},
		{400, 5, setOf(79), "abcde", 0, false},
		{399, 5, setOf(79), "abcde", 4, true},
		{399, 5, setOf(79, 0), "abcde", 0, false},
	} {
		at, got := Stray(c.length, c.size, c.set, DataOf(c.data))
		if at != c.at || got != c.want {
			t.Errorf("Stray(%d, %d, %v, %q) = %d, %v", c.length, c.size, c.set.List(), c.data, at, got)
		}
	}
}
