package mapreduce

import "strings"

const (
	headBytes = 8 // the two lengths
	sumBytes  = 4
)

// nibbleSums tells what four bits shifted out of a sum leave behind: a whole byte's table would be too long to write out.
var nibbleSums = [16]uint32{
	0x00000000, 0x1db71064, 0x3b6e20c8, 0x26d930ac,
	0x76dc4190, 0x6b6b51f4, 0x4db26158, 0x5005713c,
	0xedb88320, 0xf00f9344, 0xd6d6a3e8, 0xcb61b38c,
	0x9b64c2b0, 0x86d3d2d4, 0xa00ae278, 0xbdbdf21c,
}

// sumOf tells THE SUM of P3.
func sumOf[B string | []byte](bytes B) uint32 {
	sum := ^uint32(0)
	for i := range len(bytes) {
		sum ^= uint32(bytes[i])
		sum = sum>>4 ^ nibbleSums[sum&15]
		sum = sum>>4 ^ nibbleSums[sum&15]
	}
	return ^sum
}

func appendNumber(out []byte, n uint32) []byte {
	return append(out, byte(n>>24), byte(n>>16), byte(n>>8), byte(n))
}

func numberAt(text string, at int) uint32 {
	return uint32(text[at])<<24 | uint32(text[at+1])<<16 | uint32(text[at+2])<<8 | uint32(text[at+3])
}

func appendRecord(out []byte, p Pair) []byte {
	start := len(out)
	out = appendNumber(out, uint32(len(p.Key)))
	out = appendNumber(out, uint32(len(p.Value)))
	out = append(out, p.Key...)
	out = append(out, p.Value...)
	return appendNumber(out, sumOf(out[start:]))
}

// cutRecord takes the first record off a text: its pair, and the rest.
func cutRecord(text string) (Pair, string, error) {
	if len(text) < headBytes {
		return Pair{}, "", ErrShort
	}
	// In 64 bits, as two lengths near 2^32 must not wrap round to a small one.
	keyEnd := headBytes + uint64(numberAt(text, 0))
	valueEnd := keyEnd + uint64(numberAt(text, 4))
	end := valueEnd + sumBytes
	if uint64(len(text)) < end {
		return Pair{}, "", ErrShort
	}
	if sumOf(text[:valueEnd]) != numberAt(text, int(valueEnd)) {
		return Pair{}, "", ErrSum
	}
	// Clones, as a piece of the text would keep all of it.
	p := Pair{Key: strings.Clone(text[headBytes:keyEnd]), Value: strings.Clone(text[keyEnd:valueEnd])}
	return p, text[end:], nil
}
