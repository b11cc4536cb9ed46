package pool

import (
	"errors"

	"spring/block"
)

// The causes for which a block has no twins.
var (
	ErrNoBlock = errors.New("there is no such block")
	ErrCertain = errors.New("the block is certain")
)

// Twins answers two texts that fit and that differ in block n. Its error is
// ErrNoBlock or ErrCertain.
func (p *Pool) Twins(n int) (string, string, error) {
	if n < 0 || n >= block.Count(p.length, p.size) {
		return "", "", ErrNoBlock
	}
	open, ok := p.openFor(n)
	if !ok {
		return "", "", ErrCertain
	}
	// Even a last block that is not full has its first byte in the text.
	other := block.Data{1}
	return p.fill(open, block.Data{}), p.fill(open, other), nil
}

// openFor answers a block that may be anything and that block n changes with:
// itself, or, if it leads a row, another one of that row. There is none if it
// is a row by itself.
func (p *Pool) openFor(n int) (int, bool) {
	if !p.leads.Has(n) {
		return n, true
	}
	return p.rows[p.leader[n]].blocks.Xor(block.One(n)).First()
}

// fill answers the text that fits in which, of the blocks that lead no row,
// the open one is the data and the others are bytes 0: no row has another's
// lead, so each says by itself what its lead is then. A lead is its row's
// least block; so the last block leads none but a row by itself, and nothing
// behind the text's end is lost that is not 0.
func (p *Pool) fill(open int, data block.Data) string {
	text := make([]byte, p.length)
	copy(text[open*p.size:], data[:p.size])
	for _, r := range p.rows {
		n, ok := r.lead.First()
		if !ok {
			continue
		}
		lead := r.data
		if r.blocks.Has(open) {
			lead = lead.Xor(data)
		}
		copy(text[n*p.size:], lead[:p.size])
	}
	return string(text)
}
