package lex

import (
	"strconv"
	"strings"

	"skein/api"
	"skein/eth"
)

// reader reads a token of its kinds at the beginning of a text, the longest one, and answers how many bytes it
// has: 0, if there is none that is right.
type reader func(s string) (api.Token, int)

// How many bytes addresses, operators, texts and the digits behind hexPrefix have.
const (
	macSize   = len("00:00:00:00:00:00")
	leastAddr = len("0.0.0.0")
	mostAddr  = len("255.255.255.255")
	mostOp    = 2
	mostText  = 64
	mostHex   = 16
)

const hexPrefix = "0x"

// run is how many bytes at the beginning of a text are of a kind.
func run(s string, isOfKind func(c byte) bool) int {
	size := 0
next:
	if size < len(s) && isOfKind(s[size]) {
		size++
		goto next
	}
	return size
}

func isDigit(c byte) bool {
	return '0' <= c && c <= '9'
}

func isHexDigit(c byte) bool {
	return isDigit(c) || 'a' <= c && c <= 'f'
}

func isLetter(c byte) bool {
	return 'a' <= c && c <= 'z' || 'A' <= c && c <= 'Z'
}

// isWord is of the bytes that may not stand right behind a number.
func isWord(c byte) bool {
	return isLetter(c) || isDigit(c) || c == '_'
}

func isInName(c byte) bool {
	return isWord(c) || c == '.'
}

func isInText(c byte) bool {
	return ' ' <= c && c <= '~' && c != '"' && c != '\\'
}

func readName(s string) (api.Token, int) {
	if isDigit(s[0]) || s[0] == '.' {
		return api.Token{}, 0
	}
	size := run(s, isInName)
	return api.Token{Kind: api.TokName, Text: s[:size]}, size
}

func readNumber(s string) (api.Token, int) {
	from, base := 0, 10
	size := run(s, isDigit)
	if size > 1 && s[0] == '0' {
		return api.Token{}, 0
	}
	if strings.HasPrefix(s, hexPrefix) {
		from, base = len(hexPrefix), 16
		size = from + min(run(s[from:], isHexDigit), mostHex)
	}
	// No digits at all, and a number that is too great, are refused here.
	v, fault := strconv.ParseUint(s[from:size], base, 64)
	if fault != nil || size < len(s) && isWord(s[size]) {
		return api.Token{}, 0
	}
	return api.Token{Kind: api.TokNumber, Text: s[:size], Num: v}, size
}

func readMac(s string) (api.Token, int) {
	size := min(len(s), macSize)
	mac, ok := eth.Mac(s[:size])
	if !ok {
		return api.Token{}, 0
	}
	return api.Token{Kind: api.TokMac, Text: s[:size], Num: mac}, size
}

func readAddr(s string) (api.Token, int) {
	size := min(len(s), mostAddr)
shorter:
	if size < leastAddr {
		return api.Token{}, 0
	}
	ip, ok := eth.Addr(s[:size])
	if !ok {
		size--
		goto shorter
	}
	return api.Token{Kind: api.TokAddr, Text: s[:size], Num: uint64(ip)}, size
}

func readOp(s string) (api.Token, int) {
	size := min(len(s), mostOp)
shorter:
	if size > 0 && !isOperator(s[:size]) {
		size--
		goto shorter
	}
	return api.Token{Kind: api.TokOp, Text: s[:size]}, size
}

func isOperator(s string) bool {
	switch s {
	case "&&", "||", "==", "!=", "<=", ">=", "<", ">", "!", "(", ")", "{", "}", ",", "/", "..":
		return true
	}
	return false
}

func readText(s string) (api.Token, int) {
	if s[0] != '"' {
		return api.Token{}, 0
	}
	size := run(s[1:], isInText)
	end := 1 + size
	if size > mostText || end == len(s) || s[end] != '"' {
		return api.Token{}, 0
	}
	return api.Token{Kind: api.TokText, Text: s[1:end]}, end + 1
}
