package gram

// set is a set of bytes, a bit for each; also of names, as each of them is below 256.
type set [4]uint64

// below returns the set of the bytes below n.
func below(n int) set {
	var s set
	for at := range s {
		// A 1 that is shifted by 64 or more is gone, and 0 - 1 has all bits.
		s[at] = uint64(1)<<max(n-64*at, 0) - 1
	}
	return s
}

// between returns the set of the bytes from low to high; the empty one, if low is above high.
func between(low, high byte) set {
	s, under := below(int(high)+1), below(int(low))
	for at := range s {
		s[at] &^= under[at]
	}
	return s
}

// single returns the set of a name alone.
func single(name int) set {
	return between(byte(name), byte(name))
}

// union returns the set of what is in s or in t.
func union(s, t set) set {
	for at := range s {
		s[at] |= t[at]
	}
	return s
}

// meet reports whether something is in s and in t.
func meet(s, t set) bool {
	for at := range s {
		s[at] &= t[at]
	}
	return s != set{}
}

// has reports whether b is in the set.
func (s set) has(b byte) bool {
	return s[b/64]>>(b%64)&1 == 1
}

// each returns for each byte whether it is in the set.
func (s set) each() [256]bool {
	var in [256]bool
	for b := range in {
		in[b] = s.has(byte(b))
	}
	return in
}
