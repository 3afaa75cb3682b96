// Package crc: sums that tell slips: see ../../shared/doc/01-crc.md.
package crc

// width is how many bytes a sum takes.
const width = 4

// Sum tells the CRC-32 of b.
func Sum(b []byte) uint32 { return Add(0, b) }

// Add tells the sum of what sum is the Sum of, and b behind it.
func Add(sum uint32, b []byte) uint32 {
	c := ^sum
	for _, x := range b {
		c = step(c ^ uint32(x))
	}
	return ^c
}

// step takes eight bits out of c.
func step(c uint32) uint32 {
	for range 8 {
		odd := c&1 == 1
		c >>= 1
		if odd {
			c ^= 0xedb88320
		}
	}
	return c
}

// Put tells b, and its sum behind it.
func Put(b []byte) []byte {
	s := Sum(b)
	out := make([]byte, 0, len(b)+width)
	out = append(out, b...)
	return append(out, byte(s>>24), byte(s>>16), byte(s>>8), byte(s))
}

// Right tells what stands ahead of the sum at the end of b, if that is its sum.
func Right(b []byte) ([]byte, bool) {
	if len(b) < width {
		return nil, false
	}
	body, end := b[:len(b)-width], b[len(b)-width:]
	if Sum(body) != number(end) {
		return nil, false
	}
	return append([]byte(nil), body...), true
}

func number(b []byte) uint32 {
	n := uint32(0)
	for _, x := range b {
		n = n<<8 | uint32(x)
	}
	return n
}
