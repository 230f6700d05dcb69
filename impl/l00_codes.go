package impl

const (
	MaxText = 65536
	MaxList = 4096
	MaxName = 40

	OK         = 0
	ErrBad     = 1
	ErrLong    = 2
	ErrForm    = 3
	ErrRange   = 4
	ErrNone    = 5
	ErrMany    = 6
	ErrFull    = 7
	ErrSum     = 8
	ErrTwice   = 9
	ErrSealed  = 10
	ErrStale   = 11
	ErrCorrupt = 12
	ErrAway    = 13
	ErrReplay  = 14
	ErrOrder   = 15
	ErrPath    = 16
	ErrKind    = 17
	ErrQuorum  = 18
	ErrSpent   = 19
)

var codeWords = [...]string{
	OK:         "ok",
	ErrBad:     "bad",
	ErrLong:    "long",
	ErrForm:    "form",
	ErrRange:   "range",
	ErrNone:    "none",
	ErrMany:    "many",
	ErrFull:    "full",
	ErrSum:     "sum",
	ErrTwice:   "twice",
	ErrSealed:  "sealed",
	ErrStale:   "stale",
	ErrCorrupt: "corrupt",
	ErrAway:    "away",
	ErrReplay:  "replay",
	ErrOrder:   "order",
	ErrPath:    "path",
	ErrKind:    "kind",
	ErrQuorum:  "quorum",
	ErrSpent:   "spent",
}

func NameOK(t string) bool {
	if len(t) < 1 || len(t) > MaxName || isDigit(t[0]) {
		return false
	}
	for i := range len(t) {
		if !isLetter(t[i]) && !isDigit(t[i]) {
			return false
		}
	}
	return true
}

func isLetter(c byte) bool {
	return c >= 'a' && c <= 'z' || c >= 'A' && c <= 'Z' || c == '_'
}

func isDigit(c byte) bool { return c >= '0' && c <= '9' }

func CodeWord(code int) string {
	if code < 0 || code >= len(codeWords) {
		return ""
	}
	return codeWords[code]
}

func CodeOf(word string) int {
	for code, w := range codeWords {
		if w == word {
			return code
		}
	}
	return -1
}

// appendNumber appends size bytes, the higher ones first; n is not negative, and fits into them.
func appendNumber(b []byte, n, size int) []byte {
	for i := size - 1; i >= 0; i-- {
		b = append(b, byte(n>>(8*i)))
	}
	return b
}

// reader takes numbers and texts off the beginning of bytes. Once there are too few it tells noughts and is short, so that who reads need look only at the end.
type reader struct {
	rest  []byte
	short bool
}

func (in *reader) take(size int) []byte {
	if len(in.rest) < size {
		in.rest, in.short = nil, true
		return make([]byte, size)
	}
	out := in.rest[:size]
	in.rest = in.rest[size:]
	return out
}

func (in *reader) number(size int) int {
	n := 0
	for _, c := range in.take(size) {
		n = n<<8 | int(c)
	}
	return n
}

func (in *reader) text(size int) string { return string(in.take(size)) }

func (in *reader) ended() bool { return !in.short && len(in.rest) == 0 }
