package spring_test

import (
	"math"
	"reflect"
	"slices"
	"strings"
	"testing"

	"spring/spring"
)

const (
	maxText   = 400
	maxSize   = 16
	maxBlocks = 80
	maxDrops  = 120
	maxId     = 65535
)

// textOf answers a text of that many mixed bytes, so that a wrong block or a
// wrong place in it shows in the data.
func textOf(length int) string {
	bytes := make([]byte, length)
	x := uint32(length + 1)
	for i := range bytes {
		x = x*1664525 + 1013904223
		bytes[i] = byte(x >> 24)
	}
	return string(bytes)
}

func TestErrnoNumbers(t *testing.T) {
	names := []spring.Errno{spring.OK, spring.ErrLong, spring.ErrRange, spring.ErrDrop, spring.ErrNone, spring.ErrParts, spring.ErrSure}
	for want, e := range names {
		if int(e) != want {
			t.Errorf("error %d has the number %d", want, e)
		}
	}
}

func TestP3BlocksKnown(t *testing.T) {
	for _, c := range []struct {
		k, id int
		want  []int
	}{
		{1, 0, []int{0}},
		{1, maxId, []int{0}},
		{2, 0, []int{0, 1}},
		{3, 5, []int{1, 2}},
		{5, 1, []int{3}},
		{5, 2, []int{0, 1, 2, 4}},
		{10, 77, []int{4, 8, 9}},
		{maxBlocks, 0, []int{13, 63}},
		{maxBlocks, maxId, []int{0, 6, 15, 16, 19, 22, 24, 26, 29, 35, 36, 37, 42, 44, 45, 46, 47, 55, 59, 60, 61, 71, 73, 78}},
	} {
		got, e := spring.Blocks(c.k, c.id)
		if e != spring.OK || !slices.Equal(got, c.want) {
			t.Errorf("Blocks(%d, %d) = %v, %d, want %v, OK", c.k, c.id, got, e, c.want)
		}
	}
}

func TestP3BlocksAsTold(t *testing.T) {
	for k := 1; k <= maxBlocks; k++ {
		ids := []int{0, 1, 2, 255, 256, 32767, 32768, maxId - 1, maxId}
		for id := k; id <= maxId; id += 2111 {
			ids = append(ids, id)
		}
		for _, id := range ids {
			got, e := spring.Blocks(k, id)
			if want := refBlocks(k, id); e != spring.OK || !slices.Equal(got, want) {
				t.Fatalf("Blocks(%d, %d) = %v, %d, want %v, OK", k, id, got, e, want)
			}
		}
	}
}

// Drawing goes on till there are enough blocks: that it ends is tried at
// every k and id there is.
func TestP1P3EveryDropHasBlocks(t *testing.T) {
	for k := 1; k <= maxBlocks; k++ {
		for id := 0; id <= maxId; id++ {
			list, e := spring.Blocks(k, id)
			if e != spring.OK || !risingBelow(list, k) {
				t.Fatalf("Blocks(%d, %d) = %v, %d", k, id, list, e)
			}
		}
	}
}

func risingBelow(list []int, k int) bool {
	if len(list) == 0 || list[0] < 0 || list[len(list)-1] >= k {
		return false
	}
	for i := 1; i < len(list); i++ {
		if list[i-1] >= list[i] {
			return false
		}
	}
	return true
}

func TestP3BlocksBounds(t *testing.T) {
	for _, c := range []struct {
		k, id int
		want  spring.Errno
	}{
		{1, 0, spring.OK}, {1, maxId, spring.OK}, {maxBlocks, 0, spring.OK}, {maxBlocks, maxId, spring.OK},
		{0, 0, spring.ErrRange}, {-1, 0, spring.ErrRange}, {maxBlocks + 1, 0, spring.ErrRange},
		{1, -1, spring.ErrRange}, {1, maxId + 1, spring.ErrRange},
		{0, -1, spring.ErrRange}, {maxBlocks + 1, maxId + 1, spring.ErrRange},
		{math.MinInt, math.MaxInt, spring.ErrRange}, {math.MaxInt, math.MinInt, spring.ErrRange},
	} {
		list, e := spring.Blocks(c.k, c.id)
		if e != c.want || (e == spring.OK) != (list != nil) {
			t.Errorf("Blocks(%d, %d) = %v, %d, want %d", c.k, c.id, list, e, c.want)
		}
	}
}

func TestP4PourKnown(t *testing.T) {
	for _, c := range []struct {
		text     string
		size, id int
		want     string
	}{
		{"ab", 2, 7, "\x00\x07\x00\x02\x02ab\xce\x78"},
		{"hello, world", 5, 3, "\x00\x03\x00\x0c\x05hello\x1e\x75"},
	} {
		got, e := spring.Pour(c.text, c.size, c.id)
		if e != spring.OK || got != c.want {
			t.Errorf("Pour(%q, %d, %d) = %q, %d, want %q, OK", c.text, c.size, c.id, got, e, c.want)
		}
	}
}

func TestP4PourAsTold(t *testing.T) {
	lengths := []int{1, 2, 15, 16, 17, 79, 80, 81, 160, 161, 255, 256, 257, 395, 396, 399, maxText}
	for _, length := range lengths {
		text := textOf(length)
		for size := 1; size <= maxSize; size++ {
			if (length+size-1)/size > maxBlocks {
				continue
			}
			for _, id := range []int{0, 1, 2, 3, 9, 255, 256, 40000, maxId} {
				got, e := spring.Pour(text, size, id)
				if want := refPour(text, size, id); e != spring.OK || got != want {
					t.Fatalf("Pour(%d bytes, %d, %d) = %q, %d, want %q, OK", length, size, id, got, e, want)
				}
			}
		}
	}
}

// Of a text with one block every drop has that block, with bytes 0 behind it.
func TestP4LastBlockNotFull(t *testing.T) {
	for _, id := range []int{0, 1, maxId} {
		drop, e := spring.Pour("abc", maxSize, id)
		if e != spring.OK || len(drop) != maxSize+7 {
			t.Fatalf("Pour of one block, id %d: %q, %d", id, drop, e)
		}
		if want := "abc" + strings.Repeat("\x00", maxSize-3); drop[5:5+maxSize] != want {
			t.Errorf("id %d: data %q, want %q", id, drop[5:5+maxSize], want)
		}
	}
}

// Bytes that are no letters, nor runes, are bytes like others.
func TestP4AnyBytes(t *testing.T) {
	text := "\x00\xff\xfe\x80é\x00"
	for id := range 50 {
		got, e := spring.Pour(text, 3, id)
		if want := refPour(text, 3, id); e != spring.OK || got != want {
			t.Errorf("Pour(%q, 3, %d) = %q, %d, want %q", text, id, got, e, want)
		}
	}
}

func TestP4PourBounds(t *testing.T) {
	for _, c := range []struct {
		length, size, id int
		want             spring.Errno
	}{
		{1, 1, 0, spring.OK}, {1, maxSize, 0, spring.OK}, {1, 1, maxId, spring.OK},
		{maxBlocks, 1, 0, spring.OK}, {maxBlocks*2 - 1, 2, 0, spring.OK}, {maxBlocks * 2, 2, 0, spring.OK},
		{maxText, 5, 0, spring.OK}, {maxText, maxSize, maxId, spring.OK},
		{maxText + 1, maxSize, 0, spring.ErrLong},
		{5, 0, 0, spring.ErrRange}, {5, -1, 0, spring.ErrRange}, {5, maxSize + 1, 0, spring.ErrRange},
		{5, 1, -1, spring.ErrRange}, {5, 1, maxId + 1, spring.ErrRange}, {0, 1, 0, spring.ErrRange},
		{maxBlocks + 1, 1, 0, spring.ErrRange}, {maxBlocks*2 + 1, 2, 0, spring.ErrRange}, {maxText, 4, 0, spring.ErrRange},
		{5, math.MinInt, math.MinInt, spring.ErrRange}, {5, math.MaxInt, math.MaxInt, spring.ErrRange},
	} {
		drop, e := spring.Pour(textOf(c.length), c.size, c.id)
		if e != c.want || (e == spring.OK) != (drop != "") {
			t.Errorf("Pour(%d bytes, %d, %d) = %q, %d, want %d", c.length, c.size, c.id, drop, e, c.want)
		}
	}
}

// A text that is too long is told first, whatever else is wrong.
func TestP1FirstError(t *testing.T) {
	long := textOf(maxText + 1)
	for _, size := range []int{math.MinInt, 0, 1, 5, maxSize, maxSize + 1, math.MaxInt} {
		for _, id := range []int{math.MinInt, -1, 0, maxId, maxId + 1, math.MaxInt} {
			if drop, e := spring.Pour(long, size, id); drop != "" || e != spring.ErrLong {
				t.Errorf("Pour(%d bytes, %d, %d) = %q, %d, want ErrLong", len(long), size, id, drop, e)
			}
		}
	}
	if drop, e := spring.Pour("", 0, -1); drop != "" || e != spring.ErrRange {
		t.Errorf(`Pour("", 0, -1) = %q, %d, want ErrRange`, drop, e)
	}
}

var oddNumbers = []int{math.MinInt, math.MinInt32, -65536, -17, -1, 0, 1, 2, 16, 17, 79, 80, 81, 65535, 65536, math.MaxInt32, math.MaxInt}

var oddTexts = []string{"", "\x00", "a", "\x00\x00\x00\x01\x01", "\xff\xff\xff\xff\xff\xff\xff\xff", textOf(maxBlocks), textOf(maxText), textOf(maxText + 1), strings.Repeat("x", 1<<20)}

func TestP1OddArgumentsOfBlocksAndPour(t *testing.T) {
	for _, a := range oddNumbers {
		for _, b := range oddNumbers {
			if list, e := spring.Blocks(a, b); e != spring.OK && list != nil {
				t.Errorf("Blocks(%d, %d): %v with error %d", a, b, list, e)
			}
			for _, text := range oddTexts {
				if drop, e := spring.Pour(text, a, b); e != spring.OK && drop != "" {
					t.Errorf("Pour(%d bytes, %d, %d): %q with error %d", len(text), a, b, drop, e)
				}
			}
		}
	}
}

func TestP1OddArgumentsOfTheOthers(t *testing.T) {
	for _, text := range oddTexts {
		if drop, e, _ := spring.Read(text); e != spring.OK && drop != (spring.Drop{}) {
			t.Errorf("Read(%d bytes): %v with error %d", len(text), drop, e)
		}
	}
	for _, drops := range [][]string{nil, {}, {""}, oddTexts, make([]string, 121)} {
		if found, e, _ := spring.Catch(drops); e != spring.OK && !reflect.DeepEqual(found, spring.Found{}) {
			t.Errorf("Catch(%d drops): %v with error %d", len(drops), found, e)
		}
		for _, n := range oddNumbers {
			if a, b, e := spring.Twin(drops, n); e != spring.OK && a+b != "" {
				t.Errorf("Twin(%d drops, %d): %q, %q with error %d", len(drops), n, a, b, e)
			}
		}
	}
}

func TestP2AnsweredListsAreNew(t *testing.T) {
	first, _ := spring.Blocks(10, 77)
	second, _ := spring.Blocks(10, 77)
	for i := range first {
		first[i] = -1
	}
	_ = append(first[:0], 7, 7, 7)
	third, _ := spring.Blocks(10, 77)
	want := []int{4, 8, 9}
	if !slices.Equal(second, want) || !slices.Equal(third, want) {
		t.Errorf("Blocks(10, 77) after its answer was written to: %v and %v, want %v", second, third, want)
	}
}

// What is asked in between, and in which order, changes no answer.
func TestP2AnswersHangOnArgumentsAlone(t *testing.T) {
	text := textOf(100)
	var lists [][]int
	var drops []string
	for id := range 200 {
		list, _ := spring.Blocks(40, id)
		drop, _ := spring.Pour(text, 7, id)
		lists, drops = append(lists, list), append(drops, drop)
	}
	for id := 199; id >= 0; id-- {
		spring.Blocks(maxBlocks+1, id)
		spring.Pour("", 0, id)
		list, _ := spring.Blocks(40, id)
		drop, _ := spring.Pour(text, 7, id)
		if !slices.Equal(list, lists[id]) || drop != drops[id] {
			t.Fatalf("id %d is answered another way the second time", id)
		}
	}
	for id, list := range lists {
		if want := refBlocks(40, id); !slices.Equal(list, want) {
			t.Fatalf("the answer for id %d became %v, want %v", id, list, want)
		}
	}
}

func TestP2HandedListsStay(t *testing.T) {
	var drops []string
	for id := range 20 {
		drop, _ := spring.Pour("hello, world", 5, id)
		drops = append(drops, drop)
	}
	before := slices.Clone(drops)
	spring.Catch(drops)
	spring.Twin(drops, 0)
	if !slices.Equal(drops, before) {
		t.Errorf("the drops that were handed in have changed")
	}
}
