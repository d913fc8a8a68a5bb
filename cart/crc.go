package cart

// turns is what four bits shifted out do to the register: half a byte at a time keeps the table short.
var turns = [16]uint32{
	0x00000000, 0x1db71064, 0x3b6e20c8, 0x26d930ac,
	0x76dc4190, 0x6b6b51f4, 0x4db26158, 0x5005713c,
	0xedb88320, 0xf00f9344, 0xd6d6a3e8, 0xcb61b38c,
	0x9b64c2b0, 0x86d3d2d4, 0xa00ae278, 0xbdbdf21c,
}

// feed is the register behind these bytes.
func feed(register uint32, data []byte) uint32 {
	for _, b := range data {
		register ^= uint32(b)
		register = register>>4 ^ turns[register&15]
		register = register>>4 ^ turns[register&15]
	}
	return register
}
