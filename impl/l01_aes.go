package impl

import "math/bits"

const BlockSize = 16

const (
	// 0x11b without its highest bit: what a product is exclusive-ored with where a bit leaves the byte.
	fieldRest = 0x1b

	columnSize   = 4
	maxRoundKeys = 15
)

// The roots of unity of order four, one for each number of columns that a row may be turned by. Their products are exact.
const (
	root0 = 1 + 0i
	root1 = 1i
	root2 = root1 * root1
	root3 = root2 * root1
)

// Byte r of column c of a state stands at 4 c + r.
type state [BlockSize]byte

type column [columnSize]byte

// A cipher is a key made ready, so that many blocks under one key cost its tables once.
type cipher struct {
	rounds int
	keys   [maxRoundKeys]state
	subs   [256]byte
	unsubs [256]byte
	order  [BlockSize]int
}

func GfMul(a, b int) (int, int) {
	if !isByte(a) || !isByte(b) {
		return 0, ErrRange
	}
	return int(times(byte(a), byte(b))), OK
}

func GfInverse(a int) (int, int) {
	if !isByte(a) {
		return 0, ErrRange
	}
	if a == 0 {
		return 0, ErrNone
	}
	return int(inverse(byte(a))), OK
}

func SubByte(a int) (int, int) {
	if !isByte(a) {
		return 0, ErrRange
	}
	return int(spreadBits(inverse(byte(a)))), OK
}

func UnsubByte(a int) (int, int) {
	if !isByte(a) {
		return 0, ErrRange
	}
	return int(inverse(gatherBits(byte(a)))), OK
}

func MixColumn(col []int) ([]int, int) {
	if len(col) > MaxList {
		return nil, ErrLong
	}
	if len(col) != columnSize {
		return nil, ErrBad
	}
	var c column
	for i, a := range col {
		if !isByte(a) {
			return nil, ErrRange
		}
		c[i] = byte(a)
	}
	mixed := make([]int, columnSize)
	for i, a := range mix(c) {
		mixed[i] = int(a)
	}
	return mixed, OK
}

func KeySchedule(key string) ([]string, int) {
	if len(key) > MaxText {
		return nil, ErrLong
	}
	if !keyOK(key) {
		return nil, ErrBad
	}
	c := newCipher(key)
	list := make([]string, c.rounds+1)
	for i := range list {
		list[i] = string(c.keys[i][:])
	}
	return list, OK
}

func EncryptBlock(key, block string) (string, int) {
	if code := blockFault(key, block); code != OK {
		return "", code
	}
	c := newCipher(key)
	s := c.encrypt(stateOf(block))
	return string(s[:]), OK
}

func DecryptBlock(key, block string) (string, int) {
	if code := blockFault(key, block); code != OK {
		return "", code
	}
	c := newCipher(key)
	s := c.decrypt(stateOf(block))
	return string(s[:]), OK
}

func blockFault(key, block string) int {
	if len(key) > MaxText || len(block) > MaxText {
		return ErrLong
	}
	if !keyOK(key) || len(block) != BlockSize {
		return ErrBad
	}
	return OK
}

func stateOf(block string) state {
	var s state
	copy(s[:], block)
	return s
}

func isByte(a int) bool { return a >= 0 && a <= 255 }

func keyOK(key string) bool { return len(key) == 16 || len(key) == 32 }

func double(a byte) byte {
	return a<<1 ^ a>>7*fieldRest
}

func times(a, b byte) byte {
	sum := byte(0)
	for ; b != 0; b >>= 1 {
		if b&1 != 0 {
			sum ^= a
		}
		a = double(a)
	}
	return sum
}

// inverse is the power 254, since the power 255 of every byte but 0 is 1; of 0 it is 0, as substitutes want it.
func inverse(a byte) byte {
	square, product := a, byte(1)
	for range 7 {
		square = times(square, square)
		product = times(product, square)
	}
	return product
}

func spreadBits(a byte) byte {
	sum := a ^ 0x63
	for n := 1; n <= 4; n++ {
		sum ^= bits.RotateLeft8(a, n)
	}
	return sum
}

// gatherBits undoes spreadBits: as polynomials modulo x^8 + 1 the turns by 1, 3 and 6 are the inverse of those by 0 to 4, and they make 0x05 of 0x63.
func gatherBits(a byte) byte {
	return bits.RotateLeft8(a, 1) ^ bits.RotateLeft8(a, 3) ^ bits.RotateLeft8(a, 6) ^ 0x05
}

// substitutes needs no inverses: every byte but 0 is a power of 3, and of two powers that are 255 together one is the other's inverse.
func substitutes() [256]byte {
	var powers [255]byte
	power := byte(1)
	for n := range powers {
		powers[n] = power
		power ^= double(power)
	}
	var table [256]byte
	table[0] = spreadBits(0)
	for n, power := range powers {
		table[power] = spreadBits(powers[(255-n)%255])
	}
	return table
}

func backwards(table [256]byte) [256]byte {
	var back [256]byte
	for a, b := range table {
		back[b] = byte(a)
	}
	return back
}

// rowOrder tells of each byte of a state whose rows are turned which byte came there. Where the table would fail its check the rule stands in, so that no answer hangs on the check.
func rowOrder() [BlockSize]int {
	order := [BlockSize]int{0, 5, 10, 15, 4, 9, 14, 3, 8, 13, 2, 7, 12, 1, 6, 11}
	if turnsLeft(order) {
		return order
	}
	for i := range order {
		order[i] = (i + columnSize*(i%columnSize)) % BlockSize
	}
	return order
}

// turnsLeft checks the order of a table: turning row r left by r columns multiplies a column's root with that of r.
func turnsLeft(order [BlockSize]int) bool {
	for i, from := range order {
		row := i % columnSize
		if from < 0 || from >= BlockSize || from%columnSize != row {
			return false
		}
		if rootOf(from/columnSize) != rootOf(i/columnSize)*rootOf(row) {
			return false
		}
	}
	return true
}

func rootOf(columns int) complex128 {
	switch columns {
	case 0:
		return root0
	case 1:
		return root1
	case 2:
		return root2
	default:
		return root3
	}
}

// newCipher wants a key that keyOK has passed.
func newCipher(key string) cipher {
	subs := substitutes()
	return cipher{
		rounds: len(key)/columnSize + 6,
		keys:   roundKeys(key, subs),
		subs:   subs,
		unsubs: backwards(subs),
		order:  rowOrder(),
	}
}

func roundKeys(key string, subs [256]byte) [maxRoundKeys]state {
	var words [maxRoundKeys * columnSize]column
	for i := range len(key) {
		words[i/columnSize][i%columnSize] = key[i]
	}
	n := len(key) / columnSize
	power := byte(1)
	for i := n; i < columnSize*(n+7); i++ {
		last := words[i-1]
		if i%n == 0 {
			last = subWord(column{last[1], last[2], last[3], last[0]}, subs)
			last[0] ^= power
			power = double(power)
		} else if n == 8 && i%8 == 4 {
			last = subWord(last, subs)
		}
		for r := range last {
			words[i][r] = words[i-n][r] ^ last[r]
		}
	}
	return statesOf(words)
}

func subWord(w column, subs [256]byte) column {
	for r, a := range w {
		w[r] = subs[a]
	}
	return w
}

func statesOf(words [maxRoundKeys * columnSize]column) [maxRoundKeys]state {
	var keys [maxRoundKeys]state
	for i, w := range words {
		for r, a := range w {
			keys[i/columnSize][i%columnSize*columnSize+r] = a
		}
	}
	return keys
}

func (c *cipher) encrypt(s state) state {
	s = added(s, c.keys[0])
	for round := 1; round < c.rounds; round++ {
		s = added(mixed(c.subAndTurn(s)), c.keys[round])
	}
	return added(c.subAndTurn(s), c.keys[c.rounds])
}

func (c *cipher) decrypt(s state) state {
	s = c.unturnAndUnsub(added(s, c.keys[c.rounds]))
	for round := c.rounds - 1; round > 0; round-- {
		s = c.unturnAndUnsub(unmixed(added(s, c.keys[round])))
	}
	return added(s, c.keys[0])
}

func (c *cipher) subAndTurn(s state) state {
	var out state
	for i, from := range c.order {
		out[i] = c.subs[s[from]]
	}
	return out
}

func (c *cipher) unturnAndUnsub(s state) state {
	var out state
	for i, from := range c.order {
		out[from] = c.unsubs[s[i]]
	}
	return out
}

func added(s, key state) state {
	for i, a := range key {
		s[i] ^= a
	}
	return s
}

func mix(c column) column {
	all := c[0] ^ c[1] ^ c[2] ^ c[3]
	var out column
	for i, a := range c {
		next := c[(i+1)%columnSize]
		out[i] = all ^ a ^ double(a^next)
	}
	return out
}

func mixed(s state) state {
	for i := 0; i < BlockSize; i += columnSize {
		for r, a := range mix(column{s[i], s[i+1], s[i+2], s[i+3]}) {
			s[i+r] = a
		}
	}
	return s
}

// unmixed mixes three times more, since mixing four times is nothing.
func unmixed(s state) state {
	return mixed(mixed(mixed(s)))
}
