package frame

// halfBits: the register goes on by half a byte a step, so that sixteen words are table enough.
const (
	halfBits = 4
	halfMask = 1<<halfBits - 1
)

// steps holds what is laid over the register when these lowest four bits leave it, one by one.
var steps = [halfMask + 1]uint32{
	0x00000000, 0x1DB71064, 0x3B6E20C8, 0x26D930AC,
	0x76DC4190, 0x6B6B51F4, 0x4DB26158, 0x5005713C,
	0xEDB88320, 0xF00F9344, 0xD6D6A3E8, 0xCB61B38C,
	0x9B64C2B0, 0x86D3D2D4, 0xA00AE278, 0xBDBDF21C,
}

// Sum is the check sum of bytes.
func Sum(data []byte) uint32 { return Extend(0, data) }

// Extend is the check sum of what sum was made of and data behind it.
func Extend(sum uint32, data []byte) uint32 {
	register := ^sum
	for _, b := range data {
		register = step(step(register ^ uint32(b)))
	}
	return ^register
}

// step moves the register by half a byte.
func step(register uint32) uint32 {
	return register>>halfBits ^ steps[register&halfMask]
}
