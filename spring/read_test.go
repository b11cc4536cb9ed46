package spring_test

import (
	"strings"
	"testing"

	"spring/spring"
)

// summed answers a drop of these bytes and their sum.
func summed(bytes string) string {
	sum := refSum([]byte(bytes))
	return bytes + string([]byte{byte(sum / 256), byte(sum % 256)})
}

// dropOf answers a drop with a right sum, whatever else may be wrong with it.
func dropOf(id, length, size int, data string) string {
	head := []byte{byte(id / 256), byte(id % 256), byte(length / 256), byte(length % 256), byte(size)}
	return summed(string(head) + data)
}

func pour(t *testing.T, text string, size, id int) string {
	t.Helper()
	drop, e := spring.Pour(text, size, id)
	if e != spring.OK {
		t.Fatalf("Pour(%d bytes, %d, %d): error %d", len(text), size, id, e)
	}
	return drop
}

func checkRead(t *testing.T, drop string) {
	t.Helper()
	d, e, place := spring.Read(drop)
	wantD, wantE, wantPlace := refRead(drop)
	if d != wantD || e != wantE || place != wantPlace {
		t.Fatalf("Read(%q) = %+v, %d, %d, want %+v, %d, %d", drop, d, e, place, wantD, wantE, wantPlace)
	}
}

func TestP5ReadKnown(t *testing.T) {
	for _, c := range []struct {
		drop string
		want spring.Drop
	}{
		{"\x00\x03\x00\x0c\x05hello\x1e\x75", spring.Drop{Id: 3, Len: 12, Size: 5, Data: "hello"}},
		{"\x00\x07\x00\x02\x02ab\xce\x78", spring.Drop{Id: 7, Len: 2, Size: 2, Data: "ab"}},
		{dropOf(maxId, maxText, maxSize, "0123456789abcdef"), spring.Drop{Id: maxId, Len: maxText, Size: maxSize, Data: "0123456789abcdef"}},
		{dropOf(0xfedc, maxText, 5, "01234"), spring.Drop{Id: 0xfedc, Len: maxText, Size: 5, Data: "01234"}},
		{dropOf(0, 1, 1, "x"), spring.Drop{Id: 0, Len: 1, Size: 1, Data: "x"}},
		{dropOf(0, maxBlocks, 1, "x"), spring.Drop{Id: 0, Len: maxBlocks, Size: 1, Data: "x"}},
	} {
		if d, e, place := spring.Read(c.drop); d != c.want || e != spring.OK || place != 0 {
			t.Errorf("Read(%q) = %+v, %d, %d, want %+v, OK, 0", c.drop, d, e, place, c.want)
		}
	}
}

// Of three blocks drop 21 has the last one alone, drop 0 has 0 and 2, drop 1
// has 0.
func TestP5ReadPlaces(t *testing.T) {
	for _, c := range []struct {
		why, drop string
		place     int
	}{
		{"no byte", "", 0},
		{"one byte", "\x00", 1},
		{"four bytes", "\x00\x03\x00\x0c", 4},
		{"four bytes, length 0", "\x00\x03\x00\x00", 4},
		{"five bytes", "\x00\x03\x00\x0c\x05", 5},
		{"length 0", dropOf(3, 0, 5, "hello"), 2},
		{"length 0, five bytes", "\x00\x03\x00\x00\x05", 2},
		{"length 0 and size 0", "\x00\x03\x00\x00\x00", 2},
		{"length 401", dropOf(3, maxText+1, 6, "hello!"), 2},
		{"length 65535", dropOf(3, 65535, 5, "hello"), 2},
		{"length 401 and size 17", "\x00\x03\x01\x91\x11", 2},
		{"size 0", dropOf(3, 12, 0, ""), 4},
		{"size 17", dropOf(3, 12, 17, "0123456789abcdefg"), 4},
		{"size 17, five bytes", "\x00\x03\x00\x0c\x11", 4},
		{"size 255", "\x00\x03\x00\x0c\xff", 4},
		{"81 blocks of a byte", dropOf(3, 81, 1, "x"), 4},
		{"81 blocks of two bytes", dropOf(3, 161, 2, "xy"), 4},
		{"100 blocks", dropOf(3, maxText, 4, "wxyz"), 4},
		{"a byte too few", "\x00\x03\x00\x0c\x05hello\x1e", 11},
		{"no sum", "\x00\x03\x00\x0c\x05hello", 10},
		{"one byte of data", "\x00\x03\x00\x0c\x05h", 6},
		{"a byte too many", "\x00\x03\x00\x0c\x05hello\x1e\x75\x00", 12},
		{"many too many", "\x00\x03\x00\x0c\x05hello\x1e\x75" + textOf(1000), 12},
		{"a longer one with a sum of its own", dropOf(3, 12, 5, "hello!"), 12},
		{"sum wrong in its lower byte", "\x00\x03\x00\x0c\x05hello\x1e\x74", 10},
		{"sum wrong in its higher byte", "\x00\x03\x00\x0c\x05hello\x1f\x75", 10},
		{"sum of other data", "\x00\x03\x00\x0c\x05jello\x1e\x75", 10},
		{"sum of another id", "\x00\x04\x00\x0c\x05hello\x1e\x75", 10},
		{"sum of another length", "\x00\x03\x00\x0d\x05hello\x1e\x75", 10},
		{"sum wrong, and a byte behind the end", dropOf(21, 12, 5, "abcde")[:10] + "\x00\x00", 10},
		{"a byte behind the end", dropOf(21, 12, 5, "ab\x00d\x00"), 8},
		{"the first of several behind the end", dropOf(21, 12, 5, "abcde"), 7},
		{"the last one behind the end", dropOf(21, 12, 5, "ab\x00\x00e"), 9},
		{"one block, behind the end", dropOf(0, 1, maxSize, "a"+strings.Repeat("\x00", 14)+"\x80"), 5 + 15},
	} {
		d, e, place := spring.Read(c.drop)
		if d != (spring.Drop{}) || e != spring.ErrDrop || place != c.place {
			t.Errorf("%s: Read(%q) = %+v, %d, %d, want ErrDrop, %d", c.why, c.drop, d, e, place, c.place)
		}
	}
}

// Only where the last block is alone, and not full, a byte can be behind the
// text's end.
func TestP5BytesBehindTheEnd(t *testing.T) {
	for _, c := range []struct {
		why, drop string
	}{
		{"bytes 0 behind the end", dropOf(21, 12, 5, "ab\x00\x00\x00")},
		{"the last block is full", dropOf(21, 15, 5, "abcde")},
		{"the last block and another", dropOf(0, 12, 5, "abcde")},
		{"another block", dropOf(1, 12, 5, "abcde")},
		{"one block, full", dropOf(0, 5, 5, "abcde")},
	} {
		d, e, place := spring.Read(c.drop)
		if want := c.drop[5:10]; d.Data != want || e != spring.OK || place != 0 {
			t.Errorf("%s: Read(%q) = %+v, %d, %d", c.why, c.drop, d, e, place)
		}
	}
}

// lastAlone answers a drop of k blocks that has none but the last one.
func lastAlone(k int) int {
	for id := range maxId {
		if list := refBlocks(k, id); len(list) == 1 && list[0] == k-1 {
			return id
		}
	}
	return 0
}

func TestP5EachByteBehindTheEnd(t *testing.T) {
	for _, c := range []struct{ length, size int }{
		{1, 1}, {1, 2}, {1, maxSize}, {15, maxSize}, {16, maxSize}, {17, maxSize}, {12, 5}, {15, 5}, {79, 2}, {399, 5}, {396, 5}, {maxText, 5}, {399, maxSize}, {385, maxSize}, {maxText, maxSize}, {maxText, 7},
	} {
		k := refCount(c.length, c.size)
		id := lastAlone(k)
		for n := range c.size {
			data := make([]byte, c.size)
			data[n] = 1
			data[c.size-1] |= 0x80 // the first place is told, not the last
			wantE, wantPlace := spring.OK, 0
			for m := c.size - 1; m >= 0 && (k-1)*c.size+m >= c.length; m-- {
				if data[m] != 0 {
					wantE, wantPlace = spring.ErrDrop, 5+m
				}
			}
			_, e, place := spring.Read(dropOf(id, c.length, c.size, string(data)))
			if e != wantE || place != wantPlace {
				t.Errorf("length %d, size %d, data %q: %d, %d, want %d, %d", c.length, c.size, data, e, place, wantE, wantPlace)
			}
		}
	}
}

// What Pour answers is a drop, and says what it was poured from.
func TestP5ReadsWhatPourAnswers(t *testing.T) {
	for _, length := range []int{1, 2, 15, 16, 17, 79, 80, 81, 160, 255, 256, 257, 399, maxText} {
		text := textOf(length)
		for size := 1; size <= maxSize; size++ {
			if refCount(length, size) > maxBlocks {
				continue
			}
			for _, id := range []int{0, 1, 2, 3, 7, 255, 256, 40000, maxId} {
				drop := pour(t, text, size, id)
				d, e, place := spring.Read(drop)
				if want := (spring.Drop{Id: id, Len: length, Size: size, Data: drop[5 : 5+size]}); d != want || e != spring.OK || place != 0 {
					t.Fatalf("Read of drop %d (%d bytes in %ds) = %+v, %d, %d", id, length, size, d, e, place)
				}
			}
		}
	}
}

// Of a text of three bytes in blocks of two: whatever data there are, they are
// a drop just if Pour answers them for some text.
func TestP5ADropIsWhatPourAnswers(t *testing.T) {
	for _, id := range []int{0, 1, 2, 3, 4, 5} {
		poured := map[string]int{}
		for n := range 65536 {
			a, b := byte(n>>8), byte(n)
			poured[pour(t, string([]byte{a, b, 0}), 2, id)]++
			if b == 0 {
				poured[pour(t, string([]byte{0, 0, a}), 2, id)]++
			}
		}
		for n := range 65536 {
			drop := dropOf(id, 3, 2, string([]byte{byte(n >> 8), byte(n)}))
			if _, e, _ := spring.Read(drop); (e == spring.OK) != (poured[drop] > 0) {
				t.Fatalf("Read(%q): error %d, though Pour answers it %d times", drop, e, poured[drop])
			}
		}
	}
}

// Each length that can be told in a few places, with each size that can.
func TestP5HeadsAsTold(t *testing.T) {
	lengths := []int{0, 1, 2, 15, 16, 17, 79, 80, 81, 82, 159, 160, 161, 240, 241, 255, 256, 257, 320, 321, 399, 400, 401, 402, 511, 512, 513, 656, 32768, 65535}
	for _, length := range lengths {
		for size := range 256 {
			for _, id := range []int{0, 7, 300} {
				whole := dropOf(id, length, size, textOf(size))
				for _, drop := range []string{whole, whole[:5], whole[:6], whole[:len(whole)-1], whole + "\x00"} {
					checkRead(t, drop)
				}
			}
		}
	}
}

// Each byte of a drop made another one, each beginning of it, and more of it.
func TestP5DamageAsTold(t *testing.T) {
	for _, length := range []int{1, 12, 80, 300, maxText} {
		for _, size := range []int{1, 5, 16} {
			if refCount(length, size) > maxBlocks {
				continue
			}
			for id := range 8 {
				drop := pour(t, textOf(length), size, id)
				for n := range drop {
					checkRead(t, drop[:n])
					checkRead(t, drop+drop[:n])
					for _, flip := range []byte{1, 2, 16, 128, 255} {
						bad := []byte(drop)
						bad[n] ^= flip
						checkRead(t, string(bad))
						if _, e, _ := spring.Read(string(bad)); e != spring.ErrDrop {
							t.Fatalf("a drop damaged at %d is read: %q", n, bad)
						}
						checkRead(t, summed(string(bad[:len(bad)-2])))
					}
				}
			}
		}
	}
}

func TestP1ReadAnyBytes(t *testing.T) {
	bytes := textOf(100000)
	for n := range 50000 {
		checkRead(t, bytes[n:n+n%40])
		checkRead(t, summed(bytes[n:n+2]+"\x00"+bytes[n+2:n+5+n%20]))
	}
	for _, text := range oddTexts {
		checkRead(t, text)
	}
}

// The data that are answered are those of their own drop, later too.
func TestP2ReadAnswersStay(t *testing.T) {
	var said []spring.Drop
	var drops []string
	for id := range 50 {
		drop := pour(t, textOf(100), 7, id)
		d, _, _ := spring.Read(drop)
		said, drops = append(said, d), append(drops, drop)
	}
	for id, drop := range drops {
		d, _, _ := spring.Read(drop)
		want, _, _ := refRead(drop)
		if d != want || said[id] != want {
			t.Errorf("drop %d is read as %+v and %+v, want %+v", id, said[id], d, want)
		}
	}
}
