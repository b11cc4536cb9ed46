// Package spring: a text in drops, any of which will do: see DOC.md.
package spring

import (
	"errors"

	"spring/block"
	"spring/draw"
	"spring/gather"
	"spring/limit"
	"spring/pool"
	"spring/wire"
)

// Errno is what a call answers: OK or the reason for a refusal.
type Errno int

const (
	OK       Errno = 0
	ErrLong  Errno = 1 // above a bound
	ErrRange Errno = 2 // a number out of its bounds
	ErrDrop  Errno = 3 // no drop
	ErrNone  Errno = 4 // there is no drop among them
	ErrParts Errno = 5 // drops that fit no text
	ErrSure  Errno = 6 // a block that is certain
)

// Drop is what a drop says.
type Drop struct {
	Id   int
	Len  int
	Size int
	Data string
}

// Found is what is certain.
type Found struct {
	Len   int
	Size  int
	Sure  []bool
	Text  string
	Drops int
}

// Blocks tells which blocks a drop has (P3).
func Blocks(k int, id int) ([]int, Errno) {
	if k < 1 || k > limit.MaxBlocks || !isId(id) {
		return nil, ErrRange
	}
	return draw.Blocks(k, id).List(), OK
}

// Pour makes a drop (P4).
func Pour(text string, size int, id int) (string, Errno) {
	if len(text) > limit.MaxText {
		return "", ErrLong
	}
	if !isId(id) || !block.Fit(len(text), size) {
		return "", ErrRange
	}
	set := draw.Blocks(block.Count(len(text), size), id)
	return wire.Write(id, len(text), block.Mix(text, size, set)), OK
}

func isId(id int) bool {
	return id >= 0 && id <= limit.MaxId
}

// Read reads a drop (P5).
func Read(drop string) (Drop, Errno, int) {
	parts, err := wire.Read(drop)
	if err != nil {
		e, place := tell(err)
		return Drop{}, e, place
	}
	return Drop{Id: parts.Id, Len: parts.Length, Size: parts.Size, Data: parts.Data}, OK, 0
}

// Catch tells what is certain (P6).
func Catch(drops []string) (Found, Errno, int) {
	basin, err := gather.Drops(drops)
	if err != nil {
		e, number := tell(err)
		return Found{}, e, number
	}
	sure, text := basin.Certain()
	return Found{Len: basin.Length(), Size: basin.Size(), Sure: sure, Text: text, Drops: basin.Drops}, OK, 0
}

// Twin shows two texts that the drops fit alike, by which a block is seen not
// to be certain (P7).
func Twin(drops []string, block int) (string, string, Errno) {
	basin, err := gather.Drops(drops)
	if err != nil {
		e, _ := tell(err)
		return "", "", e
	}
	one, other, err := basin.Twins(block)
	if err != nil {
		e, _ := tell(err)
		return "", "", e
	}
	return one, other, OK
}

// tell answers what to say of an error, and the number that goes with it.
func tell(err error) (Errno, int) {
	var broken wire.Fault
	var contrary gather.Fault
	switch {
	case errors.As(err, &broken):
		return ErrDrop, broken.Place
	case errors.Is(err, pool.ErrContrary) && errors.As(err, &contrary):
		return ErrParts, contrary.Number
	case errors.Is(err, gather.ErrMany):
		return ErrLong, 0
	case errors.Is(err, gather.ErrNone):
		return ErrNone, 0
	case errors.Is(err, pool.ErrNoBlock):
		return ErrRange, 0
	case errors.Is(err, pool.ErrCertain):
		return ErrSure, 0
	}
	return OK, 0
}
