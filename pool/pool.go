// Package pool works out what is certain of a text from what is known of its
// blocks.
package pool

import (
	"errors"

	"spring/block"
	"spring/limit"
)

// ErrContrary is the cause if there is no text that all of it fits.
var ErrContrary = errors.New("no text fits")

// fact is something that is known of the text: the xor of some blocks.
type fact struct {
	blocks block.Set
	data   block.Data
}

func (f fact) mix(other fact) fact {
	return fact{blocks: f.blocks.Xor(other.blocks), data: f.data.Xor(other.data)}
}

// row is a fact that others are held against. Its lead, a set of one block or
// of none, is the block that no other row is to have.
type row struct {
	fact
	lead block.Set
}

// Pool is all that is known of one text.
type Pool struct {
	length int
	size   int
	known  map[block.Set]fact
	rows   []row
	leads  block.Set
	leader [limit.MaxBlocks]int // of each block in leads: its row
}

// New answers the pool of a text of which nothing is known but its length and
// the size of its blocks.
func New(length int, size int) *Pool {
	nothing := fact{} // no blocks, put together, are bytes 0
	return &Pool{
		length: length,
		size:   size,
		known:  map[block.Set]fact{nothing.blocks: nothing},
	}
}

// Add takes in that those blocks, put together, are the data. Its error is
// ErrContrary: then no more can be asked of the pool.
func (p *Pool) Add(blocks block.Set, data block.Data) error {
	fresh := fact{blocks: blocks, data: data}
	if p.known[blocks] == fresh {
		return nil
	}
	if err := p.note(fresh); err != nil {
		return err
	}
	p.rows = append(p.rows, row{fact: fresh})
	return p.workOut()
}

// note keeps a fact, if it fits the text's end and what was known already.
func (p *Pool) note(f fact) error {
	if old, ok := p.known[f.blocks]; ok && old != f {
		return ErrContrary
	}
	if _, stray := block.Stray(p.length, p.size, f.blocks, f.data); stray {
		return ErrContrary
	}
	p.known[f.blocks] = f
	return nil
}

// workOut mixes rows till none has another's lead: then each block that is
// certain is a row by itself. It begins again with each row that has become
// another one, since that one may tell more of the rows ahead of it.
func (p *Pool) workOut() error {
beginning:
	for i, r := range p.rows {
		if n, ok := r.blocks.And(p.leads).Xor(r.lead).First(); ok {
			p.rows[i].fact = r.mix(p.rows[p.leader[n]].fact)
			if err := p.note(p.rows[i].fact); err != nil {
				return err
			}
			goto beginning
		}
		if p.setLead(i) {
			goto beginning
		}
	}
	return nil
}

// setLead gives a row its lead, and tells whether it is a new one. A row of
// no blocks tells nothing and stays without. The lead is the row's least block
// and stays so: what is mixed in later has none but greater ones.
func (p *Pool) setLead(i int) bool {
	n, ok := p.rows[i].blocks.First()
	if !ok || p.rows[i].lead != (block.Set{}) {
		return false
	}
	p.rows[i].lead = block.One(n)
	p.leads = p.leads.With(n)
	p.leader[n] = i
	return true
}

// Length answers the text's length.
func (p *Pool) Length() int {
	return p.length
}

// Size answers the size of the text's blocks.
func (p *Pool) Size() int {
	return p.size
}

// Certain answers of each block whether it is the same in all texts that fit,
// and the text, with bytes 0 where it is not.
func (p *Pool) Certain() ([]bool, string) {
	sure := make([]bool, block.Count(p.length, p.size))
	text := make([]byte, p.length)
	for n := range sure {
		f, ok := p.known[block.One(n)]
		sure[n] = ok
		copy(text[n*p.size:], f.data[:p.size])
	}
	return sure, string(text)
}
