package spring_test

import (
	"reflect"
	"runtime"
	"slices"
	"strings"
	"sync"
	"testing"
	"time"

	"spring/spring"
)

// Of three blocks drop 0 has 0 and 2, drop 1 has 0, drop 2 has all, drop 4 has
// 1 and 2, drop 10 has 1, drop 21 has 2 and drop 23 has 0 and 1.
const hello = "hello, world"

func pourAll(t *testing.T, text string, size int, ids ...int) []string {
	t.Helper()
	var drops []string
	for _, id := range ids {
		drops = append(drops, pour(t, text, size, id))
	}
	return drops
}

func join(lists ...[]string) []string {
	return slices.Concat(lists...)
}

func wantFound(t *testing.T, why string, drops []string, want spring.Found) {
	t.Helper()
	found, e, number := spring.Catch(drops)
	if !reflect.DeepEqual(found, want) || e != spring.OK || number != 0 {
		t.Errorf("%s: %+v, %d, %d, want %+v, OK, 0", why, found, e, number, want)
	}
}

func wantRefusal(t *testing.T, why string, drops []string, want spring.Errno, wantNumber int) {
	t.Helper()
	found, e, number := spring.Catch(drops)
	if !reflect.DeepEqual(found, spring.Found{}) || e != want || number != wantNumber {
		t.Errorf("%s: %+v, %d, %d, want nothing, %d, %d", why, found, e, number, want, wantNumber)
	}
}

func checkCatch(t *testing.T, why string, drops []string) {
	t.Helper()
	found, e, number := spring.Catch(drops)
	want, wantE, wantNumber := refCatch(drops)
	if !reflect.DeepEqual(found, want) || e != wantE || number != wantNumber {
		t.Fatalf("%s: %+v, %d, %d, want %+v, %d, %d", why, found, e, number, want, wantE, wantNumber)
	}
}

func TestP6CatchKnown(t *testing.T) {
	none := strings.Repeat("\x00", 12)
	for _, c := range []struct {
		ids  []int
		sure []bool
		text string
	}{
		{[]int{1}, []bool{true, false, false}, "hello" + none[5:]},
		{[]int{10}, []bool{false, true, false}, none[:5] + ", wor\x00\x00"},
		{[]int{21}, []bool{false, false, true}, none[:10] + "ld"},
		{[]int{23}, []bool{false, false, false}, none},
		{[]int{23, 4}, []bool{false, false, false}, none},
		{[]int{23, 4, 0}, []bool{false, false, false}, none},
		{[]int{23, 4, 0, 2}, []bool{true, true, true}, hello},
		{[]int{2, 4}, []bool{true, false, false}, "hello" + none[5:]},
		{[]int{2, 0}, []bool{false, true, false}, none[:5] + ", wor\x00\x00"},
		{[]int{2, 23}, []bool{false, false, true}, none[:10] + "ld"},
		{[]int{23, 1}, []bool{true, true, false}, "hello, wor\x00\x00"},
		{[]int{23, 4, 1}, []bool{true, true, true}, hello},
		{[]int{21, 10, 1}, []bool{true, true, true}, hello},
		{[]int{21, 10, 1, 23, 4, 0, 2}, []bool{true, true, true}, hello},
	} {
		want := spring.Found{Len: 12, Size: 5, Sure: c.sure, Text: c.text, Drops: len(c.ids)}
		wantFound(t, "some drops", pourAll(t, hello, 5, c.ids...), want)
	}
}

// A block of which some bytes are certain, by the end of the text, and others
// are not, is not sure, and none of its bytes is told.
func TestP6PartsOfBlocksAreNotSure(t *testing.T) {
	// Drop 0 of two blocks has both.
	drops := pourAll(t, "abcdef", 5, 0)
	wantFound(t, "the last block has one byte", drops, spring.Found{Len: 6, Size: 5, Sure: []bool{false, false}, Text: "\x00\x00\x00\x00\x00\x00", Drops: 1})
}

func TestP6LastBlockFullAndNot(t *testing.T) {
	for length := 11; length <= 15; length++ {
		text := textOf(length)
		drops := pourAll(t, text, 5, 2, 23)
		want := spring.Found{Len: length, Size: 5, Sure: []bool{false, false, true}, Text: strings.Repeat("\x00", 10) + text[10:], Drops: 2}
		wantFound(t, "the last block alone", drops, want)
		want = spring.Found{Len: length, Size: 5, Sure: []bool{true, true, true}, Text: text, Drops: 4}
		wantFound(t, "all blocks", pourAll(t, text, 5, 2, 23, 4, 10), want)
	}
}

func TestP6TextsOfOneBlock(t *testing.T) {
	for _, c := range []struct{ length, size int }{{1, 1}, {1, 2}, {1, maxSize}, {15, maxSize}, {maxSize, maxSize}} {
		text := textOf(c.length)
		want := spring.Found{Len: c.length, Size: c.size, Sure: []bool{true}, Text: text, Drops: 1}
		wantFound(t, "one block", pourAll(t, text, c.size, 9), want)
	}
}

// A block of bytes 0 is sure like others.
func TestP6BlocksOfZeros(t *testing.T) {
	text := strings.Repeat("\x00", 12)
	want := spring.Found{Len: 12, Size: 5, Sure: []bool{true, false, true}, Text: text, Drops: 2}
	wantFound(t, "bytes 0", pourAll(t, text, 5, 0, 1), want)
}

func TestP6LeftOut(t *testing.T) {
	want := spring.Found{Len: 12, Size: 5, Sure: []bool{true, true, false}, Text: "hello, wor\x00\x00", Drops: 2}
	first, second := pour(t, hello, 5, 1), pour(t, hello, 5, 10)
	longer, wider := pour(t, "jello, world!", 5, 1), pour(t, "jello, world", 6, 1)
	damaged := []byte(pour(t, "jello, world", 5, 1))
	damaged[11] ^= 1
	stray := dropOf(21, 12, 5, "abcde")
	wantFound(t, "no drops", []string{"", first, "x", second, textOf(12)}, want)
	wantFound(t, "a damaged drop", []string{string(damaged), first, string(damaged), second, string(damaged)}, want)
	wantFound(t, "a byte behind the end", []string{stray, first, stray, second, stray}, want)
	wantFound(t, "another length", []string{first, longer, second, longer}, want)
	wantFound(t, "another size", []string{first, wider, second, wider}, want)
	wantFound(t, "bytes too many", []string{first, first + "\x00", second + "\x00", second}, want)
	// The first that is a drop says which they are, the others are left out.
	want = spring.Found{Len: 13, Size: 5, Sure: []bool{true, false, false}, Text: "jello" + strings.Repeat("\x00", 8), Drops: 1}
	wantFound(t, "the first drop's length", []string{string(damaged), longer, first, second, wider}, want)
	// A drop that is left out stays so, though there be more of its kind.
	want = spring.Found{Len: 12, Size: 5, Sure: []bool{true, false, false}, Text: "hello" + strings.Repeat("\x00", 7), Drops: 1}
	wantFound(t, "more of another kind", join([]string{first}, pourAll(t, "hello, world!", 5, 1, 10, 21, 0, 2)), want)
}

func TestP6SameDropTwice(t *testing.T) {
	want := spring.Found{Len: 12, Size: 5, Sure: []bool{true, false, false}, Text: "hello" + strings.Repeat("\x00", 7), Drops: 3}
	wantFound(t, "one drop three times", pourAll(t, hello, 5, 1, 1, 1), want)
	wantFound(t, "drops of the same blocks", pourAll(t, hello, 5, 1, 3, 12), want)
	all := slices.Repeat([]int{1}, maxDrops)
	want.Drops = maxDrops
	wantFound(t, "one drop as often as can be", pourAll(t, hello, 5, all...), want)
}

func TestP6HowManyDrops(t *testing.T) {
	wantRefusal(t, "no list", nil, spring.ErrNone, 0)
	wantRefusal(t, "no drops", []string{}, spring.ErrNone, 0)
	wantRefusal(t, "one that is none", []string{"\x00\x03\x00\x0c\x05hello\x1e\x74"}, spring.ErrNone, 0)
	wantRefusal(t, "MaxDrops that are none", make([]string, maxDrops), spring.ErrNone, 0)
	wantRefusal(t, "one more that are none", make([]string, maxDrops+1), spring.ErrLong, 0)
	wantRefusal(t, "very many", make([]string, 100000), spring.ErrLong, 0)
	text := textOf(maxText)
	var drops []string
	for id := range maxDrops + 1 {
		drops = append(drops, pour(t, text, 16, id))
	}
	wantFound(t, "MaxDrops", drops[:maxDrops], spring.Found{Len: maxText, Size: 16, Sure: slices.Repeat([]bool{true}, 25), Text: text, Drops: maxDrops})
	wantRefusal(t, "one more", drops, spring.ErrLong, 0)
	// The like of an earlier one, and what would be left out, count there, too.
	wantRefusal(t, "one more, twice", append(drops[:maxDrops:maxDrops], drops[0]), spring.ErrLong, 0)
	wantRefusal(t, "one more, none", append(drops[:maxDrops:maxDrops], ""), spring.ErrLong, 0)
	// ErrLong is told ahead of ErrParts.
	contrary := append(pourAll(t, "jello, world", 5, 1), slices.Repeat(pourAll(t, hello, 5, 1), maxDrops)...)
	wantRefusal(t, "too many, and contrary", contrary, spring.ErrLong, 0)
	wantRefusal(t, "as many as can be, and contrary", contrary[:maxDrops], spring.ErrParts, 1)
}

func TestP6Contrary(t *testing.T) {
	jello := "jello, world"
	for _, c := range []struct {
		why    string
		drops  []string
		number int
	}{
		{"the same drop, other data", join(pourAll(t, hello, 5, 1), pourAll(t, jello, 5, 1)), 1},
		{"the same blocks, other data", join(pourAll(t, hello, 5, 1), pourAll(t, jello, 5, 3)), 1},
		{"at the last of many", join(pourAll(t, hello, 5, 0, 1, 2, 4, 10, 21, 23), pourAll(t, jello, 5, 1)), 7},
		{"the first of several", join(pourAll(t, hello, 5, 21, 1), pourAll(t, jello, 5, 0, 1, 2, 3)), 2},
		{"only by three together", join(pourAll(t, hello, 5, 23, 4), pourAll(t, jello, 5, 0)), 2},
		{"only by four together", join(pourAll(t, hello, 5, 1, 10, 21), pourAll(t, jello, 5, 2)), 3},
		{"what is left out counts for the number", join([]string{"", "x"}, pourAll(t, hello, 5, 1), pourAll(t, hello+"!", 5, 1), pourAll(t, jello, 5, 1)), 4},
		{"one that is like an earlier one ahead of it", join(pourAll(t, hello, 5, 1, 1, 1), pourAll(t, jello, 5, 1), pourAll(t, hello, 5, 1)), 3},
		{"in the last byte of a block", join(pourAll(t, hello, 5, 1), pourAll(t, "hellO, world", 5, 1)), 1},
		{"in the last byte of the text", join(pourAll(t, hello, 5, 21), pourAll(t, "hello, worlD", 5, 4, 10)), 2},
		{"behind the text's end", []string{pour(t, hello, 5, 1), dropOf(0, 12, 5, "helxo")}, 1},
		{"behind the text's end, the other way round", []string{dropOf(0, 12, 5, "helxo"), pour(t, hello, 5, 1)}, 1},
		{"behind the text's end, by three together", []string{dropOf(0, 12, 5, "abcde"), dropOf(4, 12, 5, "abcde"), dropOf(2, 12, 5, "abcdf")}, 2},
		{"behind the text's end, in the last byte", []string{dropOf(2, 12, 5, "abcde"), dropOf(23, 12, 5, "abcdf"), dropOf(1, 12, 5, "abcde")}, 1},
	} {
		wantRefusal(t, c.why, c.drops, spring.ErrParts, c.number)
	}
}

// What would be behind the end of a shorter text is part of this one.
func TestP6NotContrary(t *testing.T) {
	drops := []string{dropOf(0, 15, 5, "helxo"), dropOf(1, 15, 5, "hello")}
	want := spring.Found{Len: 15, Size: 5, Sure: []bool{true, false, true}, Text: "hello\x00\x00\x00\x00\x00\x00\x00\x00\x14\x00", Drops: 2}
	wantFound(t, "a full last block", drops, want)
	drops = []string{dropOf(0, 12, 5, "hello"), dropOf(1, 12, 5, "HELlo")}
	want = spring.Found{Len: 12, Size: 5, Sure: []bool{true, false, false}, Text: "HELlo\x00\x00\x00\x00\x00\x00\x00", Drops: 1}
	wantFound(t, "one drop", drops[1:], want)
	wantRefusal(t, "a byte behind the end by two drops", drops, spring.ErrParts, 1)
}

// numbers answers numbers below n that look mixed, always the same ones.
func numbers(seed uint32) func(n int) int {
	x := seed*2654435761 + 1
	return func(n int) int {
		x = x*1664525 + 1013904223
		return int(x>>8) % n
	}
}

// Which blocks are sure, and what is in them, is not changed by the order.
func TestP6AnyOrder(t *testing.T) {
	next := numbers(7)
	text := textOf(58)
	var drops []string
	for id := range 9 {
		drops = append(drops, pour(t, text, 6, id*3))
	}
	want, _, _ := refCatch(drops)
	for range 200 {
		for i := range drops {
			j := next(len(drops))
			drops[i], drops[j] = drops[j], drops[i]
		}
		wantFound(t, "another order", drops, want)
	}
}

func TestP6CatchAsTold(t *testing.T) {
	next := numbers(1)
	for range 400 {
		size := 1 + next(4)
		length := 1 + next(12*size)
		text := textOf(length)
		var drops []string
		for range next(2 + 3*refCount(length, size)/2) {
			drops = append(drops, pour(t, text, size, next(maxId+1)))
		}
		checkCatch(t, "drops of one text", drops)
	}
}

// The drops are made others, with a right sum, so that some are contrary, some
// of another length or size, and some have bytes behind the end.
func TestP6ContraryAsTold(t *testing.T) {
	next := numbers(2)
	refused := 0
	for range 600 {
		size := 1 + next(4)
		length := 1 + next(8*size)
		text := textOf(length)
		var drops []string
		for range 1 + next(12) {
			drop := []byte(pour(t, text, size, next(300)))
			if next(6) == 0 {
				drop[next(len(drop)-2)] ^= byte(1 << next(8))
			}
			drops = append(drops, summed(string(drop[:len(drop)-2])))
		}
		checkCatch(t, "drops, some of them others", drops)
		if _, e, _ := spring.Catch(drops); e == spring.ErrParts {
			refused++
		}
	}
	if refused < 50 {
		t.Errorf("only %d of 600 were contrary", refused)
	}
}

// Drops of arbitrary data: what the text's end alone makes contrary shows.
func TestP6AnyDataAsTold(t *testing.T) {
	next := numbers(3)
	for range 1500 {
		size := 2 + next(3)
		length := size*(1+next(4)) + 1 + next(size-1)
		var drops []string
		for range 1 + next(4) {
			data := make([]byte, size)
			data[next(size)] = byte(next(2))
			drops = append(drops, dropOf(next(200), length, size, string(data)))
		}
		checkCatch(t, "drops of any data", drops)
	}
}

func TestP6GreatestTextsAsTold(t *testing.T) {
	for _, c := range []struct{ length, size, drops int }{
		{maxText, 5, 70}, {399, 5, 100}, {maxBlocks, 1, 85}, {159, 2, 79},
	} {
		text := textOf(c.length)
		var drops []string
		for id := range c.drops {
			drops = append(drops, pour(t, text, c.size, id*401))
		}
		found, e, number := spring.Catch(drops)
		kept := make([]spring.Drop, len(drops))
		for i, drop := range drops {
			kept[i], _, _ = refRead(drop)
		}
		all := refEquations(kept)
		var sure []bool
		want := []byte(text)
		for n := range refCount(c.length, c.size) {
			// One bit of each block tells of the others: they are all alike.
			s := all[0]
			sure = append(sure, !(s.fit(n, 0) && s.fit(n, 1)))
			if !sure[n] {
				clear(want[n*c.size : min((n+1)*c.size, c.length)])
			}
		}
		if e != spring.OK || number != 0 || !slices.Equal(found.Sure, sure) || found.Text != string(want) || found.Drops != c.drops {
			t.Errorf("%d bytes in %ds: %+v, %d, %d, want %v, %q", c.length, c.size, found, e, number, sure, want)
		}
	}
}

// Each text of two bytes there is is held against the drops.
func TestP6EachText(t *testing.T) {
	// Of two blocks drop 0 has both, drop 2 has 0 and drop 3 has 1.
	for _, c := range []struct {
		size int
		ids  []int
	}{
		{1, []int{0, 2, 3}}, {2, []int{0}}, {3, []int{0}},
	} {
		texts := map[string][]string{} // by drop: of which texts it is one
		for n := range 65536 {
			text := string([]byte{byte(n >> 8), byte(n)})
			for _, id := range c.ids {
				drop := pour(t, text, c.size, id)
				texts[drop] = append(texts[drop], text)
			}
		}
		next := numbers(4)
		for range 300 {
			var drops []string
			for range 1 + next(3) {
				data := []byte{byte(next(3)), byte(next(3)), 0}
				drops = append(drops, dropOf(c.ids[next(len(c.ids))], 2, c.size, string(data[:c.size])))
			}
			checkEachText(t, drops, c.size, texts)
		}
	}
}

func checkEachText(t *testing.T, drops []string, size int, texts map[string][]string) {
	t.Helper()
	fit := texts[drops[0]]
	for number, drop := range drops {
		var still []string
		for _, text := range fit {
			if _, there := slices.BinarySearch(texts[drop], text); there {
				still = append(still, text)
			}
		}
		if fit = still; len(fit) == 0 {
			wantRefusal(t, "no text", drops, spring.ErrParts, number)
			return
		}
	}
	want := spring.Found{Len: 2, Size: size, Drops: len(drops)}
	for start := 0; start < 2; start += size {
		end := min(start+size, 2)
		same := true
		for _, text := range fit {
			same = same && text[start:end] == fit[0][start:end]
		}
		want.Sure = append(want.Sure, same)
		if same {
			want.Text += fit[0][start:end]
		} else {
			want.Text += strings.Repeat("\x00", end-start)
		}
	}
	wantFound(t, "all texts", drops, want)
}

func TestP1CatchAnyBytes(t *testing.T) {
	next := numbers(5)
	bytes := textOf(5000)
	for range 300 {
		var drops []string
		for range next(maxDrops + 3) {
			at := next(4000)
			drops = append(drops, bytes[at:at+next(60)])
		}
		checkCatch(t, "any bytes", drops)
	}
	checkCatch(t, "odd texts", oddTexts)
}

func TestP2CatchChangesNoList(t *testing.T) {
	for _, contrary := range []string{hello, "jello, world"} {
		drops := join(pourAll(t, hello, 5, 0, 1, 2), []string{"", "x"}, pourAll(t, contrary, 5, 1, 10), make([]string, 5))
		before := slices.Clone(drops)
		spring.Catch(drops[:7])
		if !slices.Equal(drops, before) {
			t.Errorf("the drops that were handed in, or what is behind them, have changed")
		}
	}
}

func TestP2CatchAnswersAreNew(t *testing.T) {
	drops := pourAll(t, hello, 5, 0, 1)
	first, _, _ := spring.Catch(drops)
	second, _, _ := spring.Catch(drops)
	for i := range first.Sure {
		first.Sure[i] = !first.Sure[i]
	}
	_ = append(first.Sure[:0], false, true, false)
	drops[0] = ""
	want := spring.Found{Len: 12, Size: 5, Sure: []bool{true, false, true}, Text: "hello\x00\x00\x00\x00\x00ld", Drops: 2}
	if !reflect.DeepEqual(second, want) {
		t.Errorf("an answer has changed: %+v", second)
	}
	wantFound(t, "asked again", pourAll(t, hello, 5, 0, 1), want)
}

// Calls at the same time, and many of them, answer as one does.
func TestP2CatchAtTheSameTime(t *testing.T) {
	lists := [][]string{
		pourAll(t, hello, 5, 0, 1, 2),
		join(pourAll(t, hello, 5, 0, 1), pourAll(t, "jello, world", 5, 0, 1, 2, 4)),
		pourAll(t, textOf(100), 4, 1, 2, 3, 4, 5, 6, 7, 8, 9, 10, 11, 12, 13, 14, 15, 16, 17, 18, 19, 20),
		nil,
	}
	var group sync.WaitGroup
	for _, drops := range lists {
		want, wantE, wantNumber := refCatch(drops)
		for range 8 {
			group.Go(func() {
				for range 100 {
					found, e, number := spring.Catch(drops)
					if !reflect.DeepEqual(found, want) || e != wantE || number != wantNumber {
						t.Errorf("%+v, %d, %d, want %+v, %d, %d", found, e, number, want, wantE, wantNumber)
						return
					}
				}
			})
		}
	}
	group.Wait()
}

func TestP1NothingIsLeftRunning(t *testing.T) {
	before := runtime.NumGoroutine()
	jello := pourAll(t, "jello, world", 5, 0, 1, 2, 4, 10)
	for range 100 {
		spring.Catch(nil)
		spring.Catch(make([]string, maxDrops+1))
		spring.Catch(jello)
		spring.Catch(join(pourAll(t, hello, 5, 0, 1), jello))
		spring.Catch(join(jello, pourAll(t, hello, 5, 1)))
	}
	for i := 0; runtime.NumGoroutine() > before && i < 200; i++ {
		time.Sleep(time.Millisecond)
	}
	if n := runtime.NumGoroutine(); n > before {
		t.Errorf("%d goroutines are left running", n-before)
	}
}
