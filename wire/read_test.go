package wire

import (
	"errors"
	"slices"
	"testing"
)

func TestReadWhatWriteWrote(t *testing.T) {
	parts, err := Read(Write(3, 12, []byte("hello")))
	if err != nil || parts.Id != 3 || parts.Length != 12 || parts.Size != 5 || parts.Data != "hello" {
		t.Errorf("Read = %+v, %v", parts, err)
	}
	if got := parts.Blocks.List(); !slices.Equal(got, []int{0}) {
		t.Errorf("drop 3 of three blocks has %v", got)
	}
	parts, err = Read(Write(0xfedc, 400, []byte("0123456789abcdef")))
	if err != nil || parts.Id != 0xfedc || parts.Length != 400 || parts.Size != 16 || parts.Data != "0123456789abcdef" {
		t.Errorf("Read = %+v, %v", parts, err)
	}
}

func TestReadFaults(t *testing.T) {
	whole := Write(3, 12, []byte("hello"))
	for _, c := range []struct {
		drop  string
		place int
		cause error
	}{
		{"", 0, ErrHead},
		{whole[:4], 4, ErrHead},
		{"\x00\x03\x00\x00\x05", 2, ErrLength},
		{"\x00\x03\x01\x91\x05", 2, ErrLength},
		{"\x00\x03\x00\x0c\x00", 4, ErrSize},
		{"\x00\x03\x00\x0c\x11", 4, ErrSize},
		{"\x00\x03\x00\x51\x01", 4, ErrSize},
		{whole[:11], 11, ErrEnd},
		{whole + "x", 12, ErrEnd},
		{whole[:11] + "x", 10, ErrSum},
		{Write(0, 1, []byte("a\x00b")), 7, ErrStray},
	} {
		parts, err := Read(c.drop)
		var fault Fault
		if !errors.As(err, &fault) || fault.Place != c.place || !errors.Is(err, c.cause) || parts != (Parts{}) {
			t.Errorf("Read(%q) = %+v, %v, want place %d, %v", c.drop, parts, err, c.place, c.cause)
		}
	}
}

func TestFaultSaysWhereAndWhy(t *testing.T) {
	err := Fault{Place: 10, Cause: ErrSum}
	if got, want := err.Error(), "byte 10: the sum is not that of the bytes ahead of it"; got != want {
		t.Errorf("Error() = %q, want %q", got, want)
	}
}
