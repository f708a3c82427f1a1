package impl

const (
	BShort = 1 + iota
	BForm
	BPlace
)

const MaxBytes = 20000

const (
	hashStart  uint64 = 7809847782465536322
	hashFactor uint64 = 6364136223846793005
	hashStep   uint64 = 1442695040888963407
	hashShift         = 29
)

const (
	groupBits = 7
	groupMore = 1 << groupBits // added to every group but the last
	groupMask = groupMore - 1
	// A number from this one on has no room for one more group below 2 to the 63.
	groupFull = 1 << (63 - groupBits)
)

const hexDigits = "0123456789abcdef"

func Hash(data []byte) uint64 {
	h := hashStart
	for _, b := range data {
		h = stir(h, b)
	}
	for _, b := range eightBytes(uint64(len(data))) {
		h = stir(h, b)
	}
	return h
}

func stir(h uint64, b byte) uint64 {
	h = (h^uint64(b))*hashFactor + hashStep
	return h ^ h>>hashShift
}

func eightBytes(n uint64) [8]byte {
	var out [8]byte
	for i := range out {
		out[len(out)-1-i] = byte(n)
		n >>= 8
	}
	return out
}

func HashAll(parts [][]byte) uint64 {
	return hashParts(parts...)
}

func hashParts(parts ...[]byte) uint64 {
	data := PutNum(int64(len(parts)))
	for _, part := range parts {
		data = append(data, PutNum(int64(len(part)))...)
		data = append(data, part...)
	}
	return Hash(data)
}

func PutNum(n int64) []byte {
	if n < 0 {
		return nil
	}
	count := 1
	for rest := n >> groupBits; rest > 0; rest >>= groupBits {
		count++
	}
	out := make([]byte, count)
	for i := count - 1; i >= 0; i-- {
		out[i] = byte(n&groupMask) | groupMore
		n >>= groupBits
	}
	out[count-1] -= groupMore
	return out
}

func GetNum(b []byte, at int64) (int64, int64, int64) {
	end := int64(len(b))
	if at < 0 || at > end {
		return 0, 0, BPlace
	}
	if at < end && b[at] == groupMore {
		return 0, 0, BForm
	}
	n := int64(0)
	for place := at; place < end; place++ {
		if n >= groupFull {
			return 0, 0, BForm
		}
		n = n<<groupBits | int64(b[place]&groupMask)
		if b[place] < groupMore {
			return n, place + 1, 0
		}
	}
	return 0, 0, BShort
}

func HexText(b []byte) string {
	out := make([]byte, 0, 2*len(b))
	for _, x := range b {
		out = append(out, hexDigits[x>>4], hexDigits[x&15])
	}
	return string(out)
}

func HexRead(text string) ([]byte, bool) {
	if len(text)%2 != 0 {
		return nil, false
	}
	out := make([]byte, len(text)/2)
	for i := range out {
		high, highOk := hexDigit(text[2*i])
		low, lowOk := hexDigit(text[2*i+1])
		if !highOk || !lowOk {
			return nil, false
		}
		out[i] = high<<4 | low
	}
	return out, true
}

func hexDigit(c byte) (byte, bool) {
	switch {
	case c >= '0' && c <= '9':
		return c - '0', true
	case c >= 'a' && c <= 'f':
		return c - 'a' + 10, true
	}
	return 0, false
}

func Xor(a []byte, b []byte) []byte {
	out := make([]byte, len(a))
	copy(out, a)
	if len(b) == 0 {
		return out
	}
	for i := range out {
		out[i] ^= b[i%len(b)]
	}
	return out
}
