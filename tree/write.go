package tree

import "touchstone/api"

// What the bytes of a number are made of.
const (
	firstBits = 6
	nextBits  = 7
	sign      = 1 << firstBits // in the first byte: the number is below 0
	more      = 1 << nextBits  // in each byte: another one follows
)

// Encode is a tree's bytes.
func Encode(n api.Node) (string, api.Errno) {
	if e := Good(n); e != api.OK {
		return "", e
	}
	return string(putNode(nil, n)), api.OK
}

// putNode puts a good node behind b.
func putNode(b []byte, n api.Node) []byte {
	b = append(b, byte(n.Kind))
	switch n.Kind {
	case api.Int:
		return putNumber(b, n.N)
	case api.Text:
		return append(putNumber(b, len(n.S)), n.S...)
	case api.Prim:
		b = append(b, byte(n.P))
	}
	return putArgs(b, n.Args)
}

func putArgs(b []byte, args []api.Node) []byte {
	b = putNumber(b, len(args))
	for _, arg := range args {
		b = putNode(b, arg)
	}
	return b
}

// putNumber puts a number within the bounds behind b. A byte is put once it is known whether another one follows it.
func putNumber(b []byte, n int) []byte {
	below := 0
	if n < 0 {
		below, n = sign, -n
	}
	last := below | n&(sign-1)
	for n >>= firstBits; n > 0; n >>= nextBits {
		b = append(b, byte(last|more))
		last = n & (more - 1)
	}
	return append(b, byte(last))
}
