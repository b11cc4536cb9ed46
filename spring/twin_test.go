package spring_test

import (
	"math"
	"reflect"
	"runtime"
	"slices"
	"sync"
	"testing"
	"time"

	"spring/spring"
)

func wantNoTwins(t *testing.T, why string, drops []string, block int, want spring.Errno) {
	t.Helper()
	if one, other, e := spring.Twin(drops, block); one != "" || other != "" || e != want {
		t.Errorf("%s: block %d: %q, %q, %d, want nothing, %d", why, block, one, other, e, want)
	}
}

// wantTwins holds what Twin answers against the document: it may be any two
// texts that fit.
func wantTwins(t *testing.T, why string, drops []string, block int) {
	t.Helper()
	one, other, e := spring.Twin(drops, block)
	if e != spring.OK {
		t.Fatalf("%s: block %d: error %d", why, block, e)
	}
	kept := keptOf(drops)
	checkTwin(t, why, kept, one)
	checkTwin(t, why, kept, other)
	if cut := blockOf(kept[0].Len, kept[0].Size, block); cut(one) == cut(other) {
		t.Fatalf("%s: %q and %q are alike in block %d", why, one, other, block)
	}
}

// keptOf answers the drops that are not left out.
func keptOf(drops []string) []spring.Drop {
	var kept []spring.Drop
	for _, drop := range drops {
		d, e, _ := refRead(drop)
		if e == spring.OK && (len(kept) == 0 || d.Len == kept[0].Len && d.Size == kept[0].Size) {
			kept = append(kept, d)
		}
	}
	return kept
}

func checkTwin(t *testing.T, why string, kept []spring.Drop, text string) {
	t.Helper()
	if len(text) != kept[0].Len {
		t.Fatalf("%s: %q has %d bytes, want %d", why, text, len(text), kept[0].Len)
	}
	for _, d := range kept {
		if got, want := refPour(text, d.Size, d.Id), dropOf(d.Id, d.Len, d.Size, d.Data); got != want {
			t.Fatalf("%s: drop %d of %q is %q, not %q", why, d.Id, text, got, want)
		}
	}
}

func blockOf(length, size, block int) func(string) string {
	return func(text string) string {
		return text[block*size : min((block+1)*size, length)]
	}
}

// checkTwins holds Twin at each block, and at those beside them, against what
// is to be answered.
func checkTwins(t *testing.T, why string, drops []string) {
	t.Helper()
	found, e, _ := refCatch(drops)
	k := len(found.Sure)
	for block := -1; block <= k; block++ {
		switch {
		case e != spring.OK:
			wantNoTwins(t, why, drops, block, e)
		case block == -1 || block == k:
			wantNoTwins(t, why, drops, block, spring.ErrRange)
		case found.Sure[block]:
			wantNoTwins(t, why, drops, block, spring.ErrSure)
		default:
			wantTwins(t, why, drops, block)
		}
	}
}

func TestP7TwinKnown(t *testing.T) {
	for _, c := range []struct {
		ids  []int
		want [3]spring.Errno
	}{
		{[]int{1}, [3]spring.Errno{spring.ErrSure, spring.OK, spring.OK}},
		{[]int{10}, [3]spring.Errno{spring.OK, spring.ErrSure, spring.OK}},
		{[]int{21}, [3]spring.Errno{spring.OK, spring.OK, spring.ErrSure}},
		{[]int{23}, [3]spring.Errno{spring.OK, spring.OK, spring.OK}},
		{[]int{4}, [3]spring.Errno{spring.OK, spring.OK, spring.OK}},
		{[]int{2}, [3]spring.Errno{spring.OK, spring.OK, spring.OK}},
		{[]int{23, 4}, [3]spring.Errno{spring.OK, spring.OK, spring.OK}},
		{[]int{4, 23}, [3]spring.Errno{spring.OK, spring.OK, spring.OK}},
		{[]int{23, 4, 0}, [3]spring.Errno{spring.OK, spring.OK, spring.OK}},
		{[]int{2, 4}, [3]spring.Errno{spring.ErrSure, spring.OK, spring.OK}},
		{[]int{2, 0}, [3]spring.Errno{spring.OK, spring.ErrSure, spring.OK}},
		{[]int{2, 23}, [3]spring.Errno{spring.OK, spring.OK, spring.ErrSure}},
		{[]int{23, 1}, [3]spring.Errno{spring.ErrSure, spring.ErrSure, spring.OK}},
		{[]int{23, 4, 0, 2}, [3]spring.Errno{spring.ErrSure, spring.ErrSure, spring.ErrSure}},
	} {
		drops := pourAll(t, hello, 5, c.ids...)
		for block, want := range c.want {
			if want == spring.OK {
				wantTwins(t, "some drops", drops, block)
			} else {
				wantNoTwins(t, "some drops", drops, block, want)
			}
		}
	}
}

func TestP7NoSuchBlock(t *testing.T) {
	for _, c := range []struct{ length, size, k int }{
		{12, 5, 3}, {10, 5, 2}, {11, 5, 3}, {1, 1, 1}, {1, maxSize, 1}, {maxText, 5, maxBlocks}, {maxText, maxSize, 25},
	} {
		drops := pourAll(t, textOf(c.length), c.size, 0)
		for _, block := range []int{math.MinInt, math.MinInt32, -64, -1, c.k, c.k + 1, 127, 128, math.MaxInt32, math.MaxInt} {
			wantNoTwins(t, "no such block", drops, block, spring.ErrRange)
		}
		if _, _, e := spring.Twin(drops, c.k-1); e == spring.ErrRange {
			t.Errorf("%d bytes in %ds: there is no block %d", c.length, c.size, c.k-1)
		}
		if _, _, e := spring.Twin(drops, 0); e == spring.ErrRange {
			t.Errorf("%d bytes in %ds: there is no block 0", c.length, c.size)
		}
	}
}

// The errors of Catch are told first, whatever the block is.
func TestP7FirstError(t *testing.T) {
	contrary := join(pourAll(t, hello, 5, 1), pourAll(t, "jello, world", 5, 1))
	behind := []string{dropOf(0, 12, 5, "helxo"), pour(t, hello, 5, 1)}
	many := slices.Repeat(pourAll(t, hello, 5, 1), maxDrops+1)
	for _, block := range oddNumbers {
		wantNoTwins(t, "no list", nil, block, spring.ErrNone)
		wantNoTwins(t, "no drops", []string{}, block, spring.ErrNone)
		wantNoTwins(t, "MaxDrops that are none", make([]string, maxDrops), block, spring.ErrNone)
		wantNoTwins(t, "a damaged drop", []string{"\x00\x03\x00\x0c\x05hello\x1e\x74"}, block, spring.ErrNone)
		wantNoTwins(t, "one more that are none", make([]string, maxDrops+1), block, spring.ErrLong)
		wantNoTwins(t, "one more", many, block, spring.ErrLong)
		wantNoTwins(t, "one more, and contrary", join(contrary, many), block, spring.ErrLong)
		wantNoTwins(t, "contrary", contrary, block, spring.ErrParts)
		wantNoTwins(t, "contrary behind the text's end", behind, block, spring.ErrParts)
	}
	for block, want := range []spring.Errno{spring.ErrSure, spring.OK, spring.OK, spring.ErrRange} {
		if _, _, e := spring.Twin(many[:maxDrops], block); e != want {
			t.Errorf("MaxDrops: block %d: %d, want %d", block, e, want)
		}
	}
}

func TestP7LastBlockFullAndNot(t *testing.T) {
	for length := 11; length <= 15; length++ {
		text := textOf(length)
		for _, ids := range [][]int{{0}, {1}, {2}, {4}, {10}, {21}, {23}, {0, 2}, {2, 4}, {4, 0}, {1, 10}, {21, 10}, {21, 1}, {23, 4, 0}} {
			checkTwins(t, "some drops", pourAll(t, text, 5, ids...))
		}
	}
}

func TestP7TextsOfOneBlock(t *testing.T) {
	for _, c := range []struct{ length, size int }{{1, 1}, {1, 2}, {1, maxSize}, {15, maxSize}, {maxSize, maxSize}} {
		wantNoTwins(t, "one block", pourAll(t, textOf(c.length), c.size, 9), 0, spring.ErrSure)
	}
}

// Drops are taken and left out as by Catch.
func TestP7LeftOut(t *testing.T) {
	both := pour(t, hello, 5, 23)
	left := join([]string{"", "x"}, pourAll(t, "jello, world!", 5, 0), pourAll(t, "jello, world", 6, 0), []string{dropOf(21, 12, 5, "abcde"), both + "\x00"})
	drops := join(left[:2], []string{both}, left, []string{both})
	checkTwins(t, "some are left out", drops)
	for block := range 3 {
		one, other, e := spring.Twin(drops, block)
		oneOf, otherOf, eOf := spring.Twin([]string{both}, block)
		if one != oneOf || other != otherOf || e != eOf {
			t.Errorf("block %d: %q, %q, %d, without what is left out %q, %q, %d", block, one, other, e, oneOf, otherOf, eOf)
		}
	}
}

func TestP7TwinAsTold(t *testing.T) {
	next := numbers(11)
	for range 250 {
		size := 1 + next(4)
		length := 1 + next(12*size)
		text := textOf(length)
		var drops []string
		for range next(2 + refCount(length, size)) {
			drops = append(drops, pour(t, text, size, next(maxId+1)))
		}
		checkTwins(t, "drops of one text", drops)
	}
}

// Drops of arbitrary data, of which many fit no text.
func TestP7AnyDataAsTold(t *testing.T) {
	next := numbers(12)
	shown := 0
	for range 800 {
		size := 2 + next(3)
		length := size*(1+next(4)) + 1 + next(size)
		var drops []string
		for range 1 + next(4) {
			data := make([]byte, size)
			data[next(size)] = byte(next(256))
			drops = append(drops, dropOf(next(200), length, size, string(data)))
		}
		checkTwins(t, "drops of any data", drops)
		if _, _, e := spring.Twin(drops, 0); e == spring.OK {
			shown++
		}
	}
	if shown < 50 {
		t.Errorf("only %d of 800 had twins at block 0", shown)
	}
}

// Which blocks have twins is held against Catch here.
func TestP7GreatestTexts(t *testing.T) {
	for _, c := range []struct{ length, size, drops int }{
		{maxText, 5, 1}, {maxText, 5, 70}, {399, 5, 75}, {maxBlocks, 1, 60}, {159, 2, 79}, {maxText, maxSize, 20}, {maxText, 5, maxDrops},
	} {
		text := textOf(c.length)
		var drops []string
		for id := range c.drops {
			drops = append(drops, pour(t, text, c.size, id*401))
		}
		found, _, _ := spring.Catch(drops)
		for block, sure := range found.Sure {
			if sure {
				wantNoTwins(t, "great texts", drops, block, spring.ErrSure)
			} else {
				wantTwins(t, "great texts", drops, block)
			}
		}
		wantNoTwins(t, "great texts", drops, len(found.Sure), spring.ErrRange)
	}
}

func TestP1TwinAnyBytes(t *testing.T) {
	next := numbers(13)
	bytes := textOf(5000)
	for range 100 {
		var drops []string
		for range next(maxDrops + 3) {
			at := next(4000)
			drops = append(drops, bytes[at:at+next(60)])
		}
		checkTwins(t, "any bytes", drops)
	}
	checkTwins(t, "odd texts", oddTexts)
	checkTwins(t, "odd texts and a drop", join(oddTexts, pourAll(t, hello, 5, 0), oddTexts))
}

func TestP2TwinChangesNoList(t *testing.T) {
	for _, contrary := range []string{hello, "jello, world"} {
		drops := join(pourAll(t, hello, 5, 0, 2), []string{"", "x"}, pourAll(t, contrary, 5, 0), make([]string, 5))
		before := slices.Clone(drops)
		for block := -1; block < 4; block++ {
			spring.Twin(drops[:5], block)
		}
		if !slices.Equal(drops, before) {
			t.Errorf("the drops that were handed in, or what is behind them, have changed")
		}
	}
}

type twins struct {
	one, other string
	e          spring.Errno
}

func twinsOf(drops []string, block int) twins {
	one, other, e := spring.Twin(drops, block)
	return twins{one, other, e}
}

// What is asked in between, and at the same time, changes no answer.
func TestP2TwinHangsOnArgumentsAlone(t *testing.T) {
	lists := [][]string{
		pourAll(t, hello, 5, 0, 2),
		pourAll(t, textOf(100), 4, 1, 2, 3, 4, 5, 6, 7, 8, 9, 10),
		join(pourAll(t, hello, 5, 0, 1), pourAll(t, "jello, world", 5, 0, 1, 2, 4)),
		nil,
	}
	var first []twins
	for _, drops := range lists {
		for block := range 26 {
			first = append(first, twinsOf(drops, block))
		}
	}
	var group sync.WaitGroup
	for range 8 {
		group.Go(func() {
			var again []twins
			for _, drops := range lists {
				for block := range 26 {
					spring.Catch(drops)
					spring.Twin(drops, 25-block)
					again = append(again, twinsOf(drops, block))
				}
			}
			if !reflect.DeepEqual(first, again) {
				t.Errorf("Twin answers another way the second time")
			}
		})
	}
	group.Wait()
}

func TestP1TwinLeavesNothingRunning(t *testing.T) {
	before := runtime.NumGoroutine()
	jello := pourAll(t, "jello, world", 5, 0, 2, 0, 2)
	for range 100 {
		spring.Twin(nil, 0)
		spring.Twin(make([]string, maxDrops+1), 0)
		spring.Twin(jello, 0)
		spring.Twin(jello, 1)
		spring.Twin(jello, 3)
		spring.Twin(join(pourAll(t, hello, 5, 0, 1), jello), 0)
	}
	for i := 0; runtime.NumGoroutine() > before && i < 200; i++ {
		time.Sleep(time.Millisecond)
	}
	if n := runtime.NumGoroutine(); n > before {
		t.Errorf("%d goroutines are left running", n-before)
	}
}
