// Package impl: sorted runs with sieves of their keys, over blocks that may be torn.
package impl

// BitsMax is how many bits there are at most.
const BitsMax = 400

// Bits are held in as many words as BitsMax bits need.
const (
	wordBits  = 64
	wordCount = (BitsMax + wordBits - 1) / wordBits
)

// BitsOk says whether a text is bits.
func BitsOk(b string) bool {
	if len(b) > BitsMax {
		return false
	}
	for i := range len(b) {
		if b[i] != '0' && b[i] != '1' {
			return false
		}
	}
	return true
}

// BitsOnes is how many ones there are ahead of a place.
func BitsOnes(b string, at int) int {
	if !BitsOk(b) || at < 0 || at > len(b) {
		return -1
	}
	n := 0
	for _, w := range bitsWords(b[:at]) {
		n += wordOnes(w)
	}
	return n
}

// BitsOne is where the one with a number is.
func BitsOne(b string, n int) (int, bool) {
	if !BitsOk(b) || n < 0 {
		return 0, false
	}
	for i, w := range bitsWords(b) {
		ones := wordOnes(w)
		if n < ones {
			return i*wordBits + wordOne(w, n), true
		}
		n -= ones
	}
	return 0, false
}

// BitsNext is where the first one from a place on is.
func BitsNext(b string, at int) (int, bool) {
	// The ones ahead of the place are numbered from 0, so their count is the number of the next one;
	// the -1 of a place that does not exist is the number of none.
	return BitsOne(b, BitsOnes(b, at))
}

// bitsWords packs bits into words, the first bit lowest; the caller has checked them with BitsOk, so they fit.
func bitsWords(b string) [wordCount]uint64 {
	var words [wordCount]uint64
	for i := range len(b) {
		words[i/wordBits] |= uint64(b[i]-'0') << (i % wordBits)
	}
	return words
}

// wordOnes is how many ones a word has.
func wordOnes(w uint64) int {
	n := 0
	for ; w != 0; w >>= 1 {
		n += int(w & 1)
	}
	return n
}

// wordOne is where the one with a number is in a word, or wordBits if there is none.
func wordOne(w uint64, n int) int {
	for at := range wordBits {
		if w>>at&1 == 0 {
			continue
		}
		if n == 0 {
			return at
		}
		n--
	}
	return wordBits
}
