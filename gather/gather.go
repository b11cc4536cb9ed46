// Package gather takes up drops, one after the other, and puts together what
// they say of their text.
package gather

import (
	"errors"
	"strconv"

	"spring/block"
	"spring/limit"
	"spring/pool"
	"spring/wire"
)

// The causes for which nothing is told of a list of drops, beside
// pool.ErrContrary.
var (
	ErrMany = errors.New("there are too many drops")
	ErrNone = errors.New("there is no drop")
)

// Fault is what is wrong with a list of drops: the number of the drop at
// which it shows, and the cause.
type Fault struct {
	Number int
	Cause  error
}

func (f Fault) Error() string {
	return "drop " + strconv.Itoa(f.Number) + ": " + f.Cause.Error()
}

// Unwrap answers the cause, so that errors.Is finds it.
func (f Fault) Unwrap() error {
	return f.Cause
}

// Basin is what has been gathered: how many drops there were, and what is
// known from them.
type Basin struct {
	Drops int
	*pool.Pool
}

// take takes up a drop, unless it is to be left out.
func (b *Basin) take(drop string) error {
	parts, err := wire.Read(drop)
	if err != nil {
		return nil
	}
	if b.Pool == nil {
		b.Pool = pool.New(parts.Length, parts.Size)
	}
	if parts.Length != b.Length() || parts.Size != b.Size() {
		return nil
	}
	b.Drops++
	return b.Add(parts.Blocks, block.DataOf(parts.Data))
}

// numbered is a drop and its number among all that there are.
type numbered struct {
	number int
	drop   string
}

// outcome is what the taking up of drops came to.
type outcome struct {
	basin Basin
	err   error
}

// Drops gathers the drops. Its error is ErrMany, ErrNone or a Fault.
func Drops(drops []string) (Basin, error) {
	if len(drops) > limit.MaxDrops {
		return Basin{}, ErrMany
	}
	flow := make(chan numbered)
	enough := make(chan struct{})
	end := make(chan outcome)
	go func() {
		end <- takeAll(flow, enough)
	}()
	send(drops, flow, enough)
	out := <-end
	return out.basin, out.err
}

// send sends the drops along the flow till no more are needed. The two cases
// are never ready at once: who has said enough takes no more.
func send(drops []string, flow chan<- numbered, enough <-chan struct{}) {
	defer close(flow)
	for number, drop := range drops {
		select {
		case flow <- numbered{number: number, drop: drop}:
		case <-enough:
			return
		}
	}
}

// takeAll takes up what comes along the flow, and says enough at the first
// drop with which no text fits any more.
func takeAll(flow <-chan numbered, enough chan<- struct{}) outcome {
	var basin Basin
	for d := range flow {
		if err := basin.take(d.drop); err != nil {
			close(enough)
			return outcome{err: Fault{Number: d.number, Cause: err}}
		}
	}
	if basin.Drops == 0 {
		return outcome{err: ErrNone}
	}
	return outcome{basin: basin}
}
