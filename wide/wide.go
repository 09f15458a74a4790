// Package wide is layer 1: see shared/doc/01-wide.md.
package wide

import (
	"math/bits"

	"sakia/api"
)

// Bits is how many digits a counter of a kind has.
func Bits[W api.Word]() int {
	return bits.Len64(Up(^W(0)))
}

// Of is a number as a counter.
func Of[W api.Word](x uint64) W {
	return W(x)
}

// Up is a counter as a number.
func Up[W api.Word](x W) uint64 {
	return uint64(x)
}

// Add is a counter so much later.
func Add[W api.Word](a W, n int) W {
	return a + W(n)
}

// Diff is by how much a counter leads another one.
func Diff[W api.Word](a, b W) int {
	// Shifted to the top and back, so that the counter's highest digit becomes the sign.
	spare := 64 - Bits[W]()
	return int(int64(Up(a-b)<<spare) >> spare)
}

// Less tells whether a counter is behind another one.
func Less[W api.Word](a, b W) bool {
	return Diff(a, b) < 0
}

// Least is the one behind which there is none.
func Least[W api.Word](first W, more ...W) W {
	least := first
	for _, x := range more {
		if Less(x, least) {
			least = x
		}
	}
	return least
}

// Within tells whether a counter is one of so many from one on.
func Within[W api.Word](x, from W, n int) bool {
	// Held against n as 64 digits: n may be more than a counter of 32 digits can tell.
	return n > 0 && Up(x-from) < uint64(n)
}

// Right tells whether there are counters of a width.
func Right(width int) bool {
	return width == Bits[uint32]() || width == Bits[uint64]()
}

// Cut is a number as a counter of a width.
func Cut(width int, x uint64) uint64 {
	return Plus(width, x, 0)
}

// Gap is by how much a counter of a width leads another one.
func Gap(width int, a, b uint64) int {
	switch width {
	case 32:
		return Diff(Of[uint32](a), Of[uint32](b))
	case 64:
		return Diff(a, b)
	}
	return 0
}

// Plus is a counter of a width so much later.
func Plus(width int, a uint64, n int) uint64 {
	switch width {
	case 32:
		return Up(Add(Of[uint32](a), n))
	case 64:
		return Add(a, n)
	}
	return 0
}
