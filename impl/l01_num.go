package impl

import (
	"strconv"
	"strings"
)

const (
	maxNumber  = 999999999
	hexDigits  = "0123456789abcdef"
	badNumber  = "not a number"
	badHexText = "not a hexadecimal text"
)

// Digits leaves the sign to strconv, because the least integer has no positive counterpart.
func Digits(n int) string { return strconv.Itoa(n) }

// Number reads a canonical decimal number; anything else panics inside and is recovered here.
func Number(s string) (n int, ok bool) {
	defer func() {
		if recover() != nil {
			n, ok = 0, false
		}
	}()
	return numberOf(s), true
}

func numberOf(s string) int {
	if s == "" || (s[0] == '0' && len(s) > 1) {
		panic(badNumber)
	}
	n := 0
	for i := 0; i < len(s); i++ {
		n = n*10 + decimalOf(s[i])
		// Checked after every digit, so that a long text cannot wrap around into the range.
		if n > maxNumber {
			panic(badNumber)
		}
	}
	return n
}

func decimalOf(b byte) int {
	if b < '0' || b > '9' {
		panic(badNumber)
	}
	return int(b - '0')
}

// Upper works on bytes, because strings.ToUpper would also change other letters and repair invalid UTF-8.
func Upper(s string) string {
	out := []byte(s)
	for i, b := range out {
		if b >= 'a' && b <= 'z' {
			out[i] = b - 'a' + 'A'
		}
	}
	return string(out)
}

// Parts compares bytes, because a separator above 127 is not a rune of its own.
func Parts(s string, by byte) []string {
	var list []string
	start := 0
	for i := 0; i < len(s); i++ {
		if s[i] == by {
			list = append(list, s[start:i])
			start = i + 1
		}
	}
	return append(list, s[start:])
}

func Joined(list []string, by string) string { return strings.Join(list, by) }

func Hex(s string) string {
	out := make([]byte, 0, 2*len(s))
	for i := 0; i < len(s); i++ {
		out = append(out, hexDigits[s[i]>>4], hexDigits[s[i]&15])
	}
	return string(out)
}

// Unhex reads lower-case pairs; anything else panics inside and is recovered here.
func Unhex(s string) (text string, ok bool) {
	defer func() {
		if recover() != nil {
			text, ok = "", false
		}
	}()
	return unhexOf(s), true
}

func unhexOf(s string) string {
	if len(s)%2 != 0 {
		panic(badHexText)
	}
	out := make([]byte, 0, len(s)/2)
	for i := 0; i < len(s); i += 2 {
		out = append(out, halfOf(s[i])<<4|halfOf(s[i+1]))
	}
	return string(out)
}

// halfOf accepts no upper-case digit, because Hex writes none.
func halfOf(b byte) byte {
	at := strings.IndexByte(hexDigits, b)
	if at < 0 {
		panic(badHexText)
	}
	return byte(at)
}
