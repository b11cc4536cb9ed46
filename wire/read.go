package wire

import (
	"strings"

	"spring/block"
	"spring/draw"
	"spring/limit"
)

const (
	idAt     = 0
	lengthAt = 2
	sizeAt   = 4
	dataAt   = 5
	sumBytes = 2
)

// Parts is what a drop says, and which blocks it has.
type Parts struct {
	Id     int
	Length int
	Size   int
	Blocks block.Set
	Data   string
}

// Read reads a drop. The error, if there is one, is a Fault.
func Read(drop string) (Parts, error) {
	if len(drop) < dataAt {
		return Parts{}, Fault{Place: len(drop), Cause: ErrHead}
	}
	parts := readHead(drop)
	if err := checkHead(parts); err != nil {
		return Parts{}, err
	}
	if err := checkEnd(drop, dataAt+parts.Size); err != nil {
		return Parts{}, err
	}
	parts.Blocks = draw.Blocks(block.Count(parts.Length, parts.Size), parts.Id)
	parts.Data = strings.Clone(drop[dataAt : dataAt+parts.Size])
	if err := checkData(parts); err != nil {
		return Parts{}, err
	}
	return parts, nil
}

func readHead(drop string) Parts {
	return Parts{
		Id:     pair(drop, idAt),
		Length: pair(drop, lengthAt),
		Size:   int(drop[sizeAt]),
	}
}

func checkHead(parts Parts) error {
	if parts.Length == 0 || parts.Length > limit.MaxText {
		return Fault{Place: lengthAt, Cause: ErrLength}
	}
	if !block.Fit(parts.Length, parts.Size) {
		return Fault{Place: sizeAt, Cause: ErrSize}
	}
	return nil
}

// checkEnd looks at what is behind the data, which ends at that place.
func checkEnd(drop string, end int) error {
	if len(drop) != end+sumBytes {
		return Fault{Place: min(len(drop), end+sumBytes), Cause: ErrEnd}
	}
	if pair(drop, end) != int(Sum(drop[:end])) {
		return Fault{Place: end, Cause: ErrSum}
	}
	return nil
}

func checkData(parts Parts) error {
	n, stray := block.Stray(parts.Length, parts.Size, parts.Blocks, block.DataOf(parts.Data))
	if stray {
		return Fault{Place: dataAt + n, Cause: ErrStray}
	}
	return nil
}

// pair reads a number of two bytes, the higher one first.
func pair(bytes string, at int) int {
	return int(bytes[at])<<8 | int(bytes[at+1])
}
