package wire

import "testing"

func TestSum(t *testing.T) {
	for _, c := range []struct {
		bytes string
		want  uint16
	}{
		{"", 65535}, {"123456789", 0x29b1}, {"A", 0xb915}, {"\x00\x07\x00\x02\x02ab", 0xce78},
	} {
		if got := Sum(c.bytes); got != c.want {
			t.Errorf("Sum(%q) = %#x, want %#x", c.bytes, got, c.want)
		}
	}
}

func TestWrite(t *testing.T) {
	for _, c := range []struct {
		id, length int
		data, want string
	}{
		{7, 2, "ab", "\x00\x07\x00\x02\x02ab\xce\x78"},
		{3, 12, "hello", "\x00\x03\x00\x0c\x05hello\x1e\x75"},
	} {
		if got := Write(c.id, c.length, []byte(c.data)); got != c.want {
			t.Errorf("Write(%d, %d, %q) = %q, want %q", c.id, c.length, c.data, got, c.want)
		}
	}
}

func TestWriteHigherByteFirst(t *testing.T) {
	drop := Write(0xfedc, 400, []byte("x"))
	if want := "\xfe\xdc\x01\x90\x01x"; drop[:6] != want || len(drop) != 8 {
		t.Errorf("Write(0xfedc, 400, x) = %q, want %q and a sum", drop, want)
	}
}
