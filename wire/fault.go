package wire

import (
	"errors"
	"strconv"
)

// The causes for which bytes are no drop.
var (
	ErrHead   = errors.New("the drop ends ahead of its data")
	ErrLength = errors.New("no text that can be sent has this length")
	ErrSize   = errors.New("no text of this length is sent in blocks of this size")
	ErrEnd    = errors.New("the drop does not end where its size says")
	ErrSum    = errors.New("the sum is not that of the bytes ahead of it")
	ErrStray  = errors.New("a byte behind the text's end is not 0")
)

// Fault is what is wrong with a drop: the place in it, and the cause.
type Fault struct {
	Place int
	Cause error
}

func (f Fault) Error() string {
	return "byte " + strconv.Itoa(f.Place) + ": " + f.Cause.Error()
}

// Unwrap answers the cause, so that errors.Is finds it.
func (f Fault) Unwrap() error {
	return f.Cause
}
