// Package lap is layer 2: see shared/doc/02-lap.md.
package lap

import (
	"sakia/api"
	"sakia/wide"
)

// maxLog is which power of two the greatest right capacity is.
const maxLog = 30

// Right tells whether there may be a ring of a capacity.
func Right(cap int) bool {
	return 2 <= cap && cap <= 1<<maxLog && cap&(cap-1) == 0
}

// Log is which power of two a capacity is.
func Log(cap int) int {
	for k := range maxLog {
		if cap == 2<<k {
			return k + 1
		}
	}
	return 0
}

// Slot is the slot of a position.
func Slot[W api.Word](cap int, pos W) int {
	if !Right(cap) {
		return 0
	}
	return int(pos % W(cap))
}

// Round is the round of a position.
func Round[W api.Word](cap int, pos W) W {
	if !Right(cap) {
		return 0
	}
	return pos / W(cap)
}

// hasSlot tells whether a ring of a capacity may be, and has a slot.
func hasSlot(cap, slot int) bool {
	return Right(cap) && 0 <= slot && slot < cap
}

// At is the position of a slot in a round.
func At[W api.Word](cap, slot int, round W) W {
	if !hasSlot(cap, slot) {
		return 0
	}
	// The product goes round just where the rounds do: cap times their number is 2^width.
	return wide.Add(round*W(cap), slot)
}

// First is the first position from one on that has a slot.
func First[W api.Word](cap, slot int, start W) W {
	if !hasSlot(cap, slot) {
		return 0
	}
	return wide.Add(start, (slot-Slot(cap, start)+cap)%cap)
}

// Ahead is the round ahead of the one of the first position.
func Ahead[W api.Word](cap, slot int, start W) W {
	if !hasSlot(cap, slot) {
		return 0
	}
	return Round(cap, wide.Add(First(cap, slot, start), -cap))
}

// Next is the position of the same slot a round later.
func Next[W api.Word](cap int, pos W) W {
	if !Right(cap) {
		return 0
	}
	return wide.Add(pos, cap)
}

// Turns is the slots of some positions, in order.
func Turns[W api.Word](cap int, from W, n int) []int {
	if !Right(cap) || n < 0 || n > cap {
		return nil
	}
	slots := make([]int, n)
	for i := range n {
		slots[i] = Slot(cap, wide.Add(from, i))
	}
	return slots
}
