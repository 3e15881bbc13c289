package frame

const (
	wordBytes = 4
	byteBits  = 8
)

// putWord lays a number behind the bytes, its lowest byte first.
func putWord(out []byte, x uint32) []byte {
	for range wordBytes {
		out = append(out, byte(x))
		x >>= byteBits
	}
	return out
}

// word reads the number that the bytes begin with; there are enough of them.
func word(b []byte) uint32 {
	var x uint32
	for i := range wordBytes {
		x |= uint32(b[i]) << (byteBits * i)
	}
	return x
}
