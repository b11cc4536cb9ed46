// Package spring: a text in drops, any of which will do: see DOC.md.
package spring

import (
	"spring/block"
	"spring/draw"
	"spring/limit"
	"spring/wire"
)

// Errno is what a call answers: OK or the reason for a refusal.
type Errno int

const (
	OK       Errno = 0
	ErrLong  Errno = 1 // above a bound
	ErrRange Errno = 2 // a number out of its bounds
	ErrDrop  Errno = 3 // no drop
	ErrNone  Errno = 4 // there is no drop among them
	ErrParts Errno = 5 // drops that fit no text
	ErrSure  Errno = 6 // a block that is certain
)

// Drop is what a drop says.
type Drop struct {
	Id   int
	Len  int
	Size int
	Data string
}

// Found is what is certain.
type Found struct {
	Len   int
	Size  int
	Sure  []bool
	Text  string
	Drops int
}

// Blocks tells which blocks a drop has (P3).
func Blocks(k int, id int) ([]int, Errno) {
	if k < 1 || k > limit.MaxBlocks || !isId(id) {
		return nil, ErrRange
	}
	return draw.Blocks(k, id).List(), OK
}

// Pour makes a drop (P4).
func Pour(text string, size int, id int) (string, Errno) {
	if len(text) > limit.MaxText {
		return "", ErrLong
	}
	if !isId(id) || !block.Fit(len(text), size) {
		return "", ErrRange
	}
	set := draw.Blocks(block.Count(len(text), size), id)
	return wire.Write(id, len(text), block.Mix(text, size, set)), OK
}

func isId(id int) bool {
	return id >= 0 && id <= limit.MaxId
}

// Read reads a drop (P5). It is not built yet and answers zero values.
func Read(drop string) (Drop, Errno, int) { return Drop{}, OK, 0 }

// Catch tells what is certain (P6). It is not built yet and answers zero
// values.
func Catch(drops []string) (Found, Errno, int) { return Found{}, OK, 0 }

// Twin shows that a block is not (P7). It is not built yet and answers zero
// values.
func Twin(drops []string, block int) (string, string, Errno) { return "", "", OK }
