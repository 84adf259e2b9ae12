// Package crc is layer 1: CRC-32C checksums, see shared/doc/01-crc.md.
package crc

// castagnoli is the polynomial; its bits stand mirrored, as the register takes the lowest bit of a byte first.
const castagnoli = 0x82f63b78

// Sum is the checksum of b.
func Sum(b []byte) uint32 {
	// No bytes have the checksum 0, so that a sum from the start is one more behind them.
	return More(0, b)
}

// More is the checksum of what had that one, and b behind it.
func More(sum uint32, b []byte) uint32 {
	table := remainders()
	register := ^sum
	for _, c := range b {
		register ^= uint32(c)
		register = fourSteps(&table, register)
		register = fourSteps(&table, register)
	}
	return ^register
}

// fourSteps may look the low half byte up, apart from the rest of the register: a step is linear, and the rest is shifted without a remainder of its own.
func fourSteps(table *[16]uint32, register uint32) uint32 {
	return register>>4 ^ table[register&15]
}

// remainders has, for each half byte, what four steps leave of a register that holds nothing else.
func remainders() [16]uint32 {
	var table [16]uint32
	for half := range table {
		register := uint32(half)
		for range 4 {
			register = step(register)
		}
		table[half] = register
	}
	return table
}

// step moves the register on by one bit.
func step(register uint32) uint32 {
	if register&1 == 1 {
		return register>>1 ^ castagnoli
	}
	return register >> 1
}
