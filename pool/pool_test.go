package pool

import (
	"errors"
	"slices"
	"testing"

	"spring/block"
)

type told struct {
	blocks []int
	data   string
}

func add(p *Pool, f told) error {
	var set block.Set
	for _, n := range f.blocks {
		set = set.With(n)
	}
	return p.Add(set, block.DataOf(f.data))
}

func TestCertain(t *testing.T) {
	for _, c := range []struct {
		length, size int
		told         []told
		sure         []bool
		text         string
	}{
		{3, 1, nil, []bool{false, false, false}, "\x00\x00\x00"},
		{3, 1, []told{{[]int{1}, "b"}}, []bool{false, true, false}, "\x00b\x00"},
		{3, 1, []told{{[]int{0, 1}, "\x03"}, {[]int{1, 2}, "\x01"}, {[]int{0, 2}, "\x02"}}, []bool{false, false, false}, "\x00\x00\x00"},
		{3, 1, []told{{[]int{0, 1}, "\x03"}, {[]int{1, 2}, "\x01"}, {[]int{0, 1, 2}, "`"}}, []bool{true, true, true}, "abc"},
		{3, 1, []told{{[]int{0, 1, 2}, "`"}, {[]int{1, 2}, "\x01"}}, []bool{true, false, false}, "a\x00\x00"},
		{3, 1, []told{{[]int{2}, "\x00"}}, []bool{false, false, true}, "\x00\x00\x00"},
		{4, 3, []told{{[]int{0, 1}, "abc"}}, []bool{false, false}, "\x00\x00\x00\x00"},
		{4, 3, []told{{[]int{0, 1}, "abc"}, {[]int{0}, "\x00bc"}}, []bool{true, true}, "\x00bca"},
	} {
		p := New(c.length, c.size)
		for _, f := range c.told {
			if err := add(p, f); err != nil {
				t.Fatalf("%v: %v", c.told, err)
			}
		}
		sure, text := p.Certain()
		if !slices.Equal(sure, c.sure) || text != c.text {
			t.Errorf("%v: %v, %q, want %v, %q", c.told, sure, text, c.sure, c.text)
		}
	}
}

func TestContrary(t *testing.T) {
	for _, c := range []struct {
		length, size int
		told         []told
	}{
		{3, 1, []told{{[]int{1}, "b"}, {[]int{1}, "c"}}},
		{3, 1, []told{{[]int{0, 1}, "\x03"}, {[]int{1, 2}, "\x01"}, {[]int{0, 2}, "\x06"}}},
		{3, 1, []told{{[]int{0, 1}, "\x03"}, {[]int{1}, "b"}, {[]int{0}, "b"}}},
		{4, 3, []told{{[]int{1}, "abc"}}},
		{4, 3, []told{{[]int{0, 1}, "abc"}, {[]int{0}, "abx"}}},
		{4, 3, []told{{[]int{0}, "abx"}, {[]int{0, 1}, "abc"}}},
	} {
		p := New(c.length, c.size)
		last := len(c.told) - 1
		for _, f := range c.told[:last] {
			if err := add(p, f); err != nil {
				t.Fatalf("%v: %v too early", c.told, err)
			}
		}
		if err := add(p, c.told[last]); !errors.Is(err, ErrContrary) {
			t.Errorf("%v: %v, want ErrContrary", c.told, err)
		}
	}
}

// No row has a block that another one leads: by that a block that is certain
// is a row by itself. Twins hang on it, too, and on a lead being the least.
func TestRowsAreApart(t *testing.T) {
	text := "the blocks of this text are one byte each, and each fact has up to three of them"
	p := New(80, 1)
	for n := range 100 {
		set := block.One(n % 80).With((n*7 + 3) % 80).With((n*n + 1) % 80)
		if err := p.Add(set, block.DataOf(string(block.Mix(text, 1, set)))); err != nil {
			t.Fatalf("fact %d: %v", n, err)
		}
		for i, r := range p.rows {
			if r.blocks.And(p.leads) != r.lead {
				t.Fatalf("after %d facts row %d has the leads %v", n+1, i, r.blocks.And(p.leads).List())
			}
			if first, ok := r.blocks.First(); ok && r.lead != block.One(first) {
				t.Fatalf("after %d facts row %d is led by %v, its least block is %d", n+1, i, r.lead.List(), first)
			}
		}
	}
}
