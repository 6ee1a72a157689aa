package wal

import (
	"strings"

	"almonry/api"
)

const (
	blockSize   = 54 // bytes of the stream that a sector has
	numberWidth = 4
	countAt     = numberWidth
	bytesAt     = countAt + 1
	againAt     = bytesAt + blockSize // the count once more; behind it the number once more
)

// blockOf is the block that has a place.
func blockOf(place int) int { return (place - 1) / blockSize }

// ahead is how many bytes of its block stand ahead of a place.
func ahead(place int) int { return (place - 1) % blockSize }

// number is what stands at both ends of the sector that holds block k.
func number(k int) string {
	n := uint32(k + 1)
	return string([]byte{byte(n >> 24), byte(n >> 16), byte(n >> 8), byte(n)})
}

// hold is the sector that holds block k with these bytes; that of none holds no block.
func hold(k int, held []byte) string {
	s := make([]byte, api.Sector)
	if len(held) > 0 {
		copy(s, number(k))
		s[countAt] = byte(len(held))
		copy(s[bytesAt:], held)
		s[againAt] = byte(len(held))
		copy(s[againAt+1:], number(k))
	}
	return string(s)
}

// tells is the bytes of block k that a sector tells. What is torn has the new count, or number, at one end alone.
func tells(s string, k int) string {
	if s[:countAt] != number(k) || s[againAt+1:] != number(k) {
		return ""
	}
	count := min(int(s[countAt]), int(s[againAt]), blockSize)
	return s[bytesAt : bytesAt+count]
}

// sectorOf is the sector of a ring in which block k stands.
func sectorOf(ring string, k int) string {
	at := k % (len(ring) / api.Sector) * api.Sector
	return ring[at : at+api.Sector]
}

// there is what a ring tells, from the first byte of the place's block on. Where it tells less than stands ahead of
// the place, zeros stand for that: the log goes on behind it, so that its bytes must be something.
func there(ring string, place int) string {
	var all strings.Builder
	first := blockOf(place)
	for k := first; k < first+len(ring)/api.Sector; k++ {
		told := tells(sectorOf(ring, k), k)
		all.WriteString(told)
		if len(told) < blockSize {
			break
		}
	}
	if all.Len() < ahead(place) {
		return strings.Repeat("\x00", ahead(place))
	}
	return all.String()
}
