// Package limit holds the bounds of what the program takes.
package limit

const (
	MaxText   = 400   // bytes of a text
	MaxSize   = 16    // bytes of a block
	MaxBlocks = 80    // blocks of a text
	MaxDrops  = 120   // drops caught at once
	MaxId     = 65535 // the greatest number of a drop
)
