package mac

// The hash is FNV-1a of 64 bits.
const (
	firstHash = uint64(14695981039346656037)
	hashPrime = 1099511628211
)

// Hash is a text's hash.
func Hash(s string) uint64 {
	return hashed(firstHash, s)
}

// HashAll is the hash of texts.
func HashAll(l []string) uint64 {
	hash := firstHash
	for _, s := range l {
		hash = mixed(hashed(hash, s), 0)
	}
	return hash
}

// Bytes is a number's bytes.
func Bytes(n uint64) [8]byte {
	var b [8]byte
	for i := range b {
		b[i] = byte(n >> (56 - 8*i))
	}
	return b
}

// hashed is what a hash becomes by a text's bytes (a range over the text itself would take its characters).
func hashed(hash uint64, s string) uint64 {
	for i := range len(s) {
		hash = mixed(hash, s[i])
	}
	return hash
}

// mixed is what a hash becomes by a byte.
func mixed(hash uint64, b byte) uint64 {
	return (hash ^ uint64(b)) * hashPrime
}
