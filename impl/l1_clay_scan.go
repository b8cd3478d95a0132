package impl

import (
	"iter"
	"strconv"
	"strings"
)

// Limits of scanning.
const (
	ClayMaxSrc  = 8000
	ClayMaxName = 30
	ClayMaxText = 1000
)

// Kinds of tokens.
const (
	ClayTokName = 1
	ClayTokWord = 2
	ClayTokInt  = 3
	ClayTokText = 4
	ClayTokMark = 5
)

// Codes of the faults that scanning finds.
const (
	clayFaultSrc     = 1
	clayFaultNoToken = 2
	clayFaultNumber  = 3
	clayFaultText    = 4
	clayFaultTooLong = 5
)

// ClayToken is a piece of a package's text.
type ClayToken struct {
	Kind int
	Text string
	N    int64
	At   int
}

// ClayFault says what is wrong, and where.
type ClayFault struct {
	Code int
	At   int
}

// clayMarks has the longer marks first, so that the first one that fits is the longest.
var clayMarks = [...]string{
	"==", "!=", "<=", ">=", "=>",
	"(", ")", "[", "]", "{", "}", ",", ";", ":", ".",
	"=", "<", ">", "+", "-", "*", "/", "%",
}

// ClayScan cuts a text into tokens.
func ClayScan(src string) ([]ClayToken, ClayFault) {
	if len(src) > ClayMaxSrc {
		return nil, ClayFault{Code: clayFaultSrc}
	}
	var tokens []ClayToken
	for token, fault := range clayTokens(src) {
		if fault.Code != 0 {
			return nil, fault
		}
		tokens = append(tokens, token)
	}
	return tokens, ClayFault{}
}

// clayTokens hands on the tokens of src in order; a fault is the last thing that it hands on.
func clayTokens(src string) iter.Seq2[ClayToken, ClayFault] {
	return func(yield func(ClayToken, ClayFault) bool) {
		words := clayWords()
	scan:
		for at := 0; at < len(src); {
			for gap := clayGap(src[at:]); gap > 0; gap = clayGap(src[at:]) {
				at += gap
				if at == len(src) {
					break scan
				}
			}
			token, size, code := clayReadToken(src[at:], words)
			if code != 0 {
				yield(ClayToken{}, ClayFault{Code: code, At: at})
				return
			}
			token.At = at
			if !yield(token, ClayFault{}) {
				return
			}
			at += size
		}
	}
}

// clayWords gives the kind of each word that can't be a name.
func clayWords() map[string]int {
	return map[string]int{
		"and": ClayTokWord, "def": ClayTokWord, "else": ClayTokWord, "emit": ClayTokWord,
		"false": ClayTokWord, "fn": ClayTokWord, "for": ClayTokWord, "has": ClayTokWord,
		"if": ClayTokWord, "in": ClayTokWord, "let": ClayTokWord, "load": ClayTokWord,
		"none": ClayTokWord, "not": ClayTokWord, "or": ClayTokWord, "then": ClayTokWord,
		"true": ClayTokWord,
	}
}

// clayGap is the size of the space, newline or note with which rest begins, 0 if there is none.
func clayGap(rest string) int {
	if rest == "" {
		return 0
	}
	switch rest[0] {
	case ' ', '\n':
		return 1
	case '#':
		if end := strings.IndexByte(rest, '\n'); end >= 0 {
			return end
		}
		return len(rest)
	}
	return 0
}

// clayReadToken reads the token with which rest, which is not empty, begins.
func clayReadToken(rest string, words map[string]int) (token ClayToken, size, code int) {
	first := rest[0]
	switch {
	case first == '"':
		return clayReadText(rest)
	case clayIsDigit(first):
		return clayReadNumber(rest)
	case clayIsNameByte(first):
		return clayReadName(rest, words)
	}
	return clayReadMark(rest)
}

func clayReadName(rest string, words map[string]int) (token ClayToken, size, code int) {
	size = clayNameSize(rest)
	if size > ClayMaxName {
		return ClayToken{}, 0, clayFaultTooLong
	}
	// A copy, since an answer shares no memory with src.
	name := strings.Clone(rest[:size])
	if kind, ok := words[name]; ok {
		return ClayToken{Kind: kind, Text: name}, size, 0
	}
	return ClayToken{Kind: ClayTokName, Text: name}, size, 0
}

// clayReadNumber takes all bytes of a name that follow, since one that is no digit spoils the number.
func clayReadNumber(rest string) (token ClayToken, size, code int) {
	size = clayNameSize(rest)
	n, err := strconv.ParseInt(rest[:size], 10, 64)
	if err != nil || rest[0] == '0' && size > 1 {
		return ClayToken{}, 0, clayFaultNumber
	}
	return ClayToken{Kind: ClayTokInt, N: n}, size, 0
}

func clayReadText(rest string) (token ClayToken, size, code int) {
	text, size := readQuoted(rest)
	if size == 0 {
		return ClayToken{}, 0, clayFaultText
	}
	if len(text) > ClayMaxText {
		return ClayToken{}, 0, clayFaultTooLong
	}
	return ClayToken{Kind: ClayTokText, Text: text}, size, 0
}

// readQuoted reads the text in quotes with which rest begins, which both languages write alike: what it stands for, and how many bytes that takes: 0 if it is not ended or not written so.
// It asks for no length: a text that is not ended is that, however long.
func readQuoted(rest string) (text string, size int) {
	var bytes []byte
	at := 1
	for at < len(rest) && rest[at] != '"' {
		b, wide := clayTextByte(rest[at:])
		if wide == 0 {
			return "", 0
		}
		bytes = append(bytes, b)
		at += wide
	}
	if at == len(rest) {
		return "", 0
	}
	return string(bytes), at + 1
}

// clayTextByte gives the byte that is written first in rest, inside a text, and how many bytes that takes: 0 if none is.
func clayTextByte(rest string) (b byte, wide int) {
	if rest[0] < 32 || rest[0] > 126 {
		return 0, 0
	}
	if rest[0] != '\\' {
		return rest[0], 1
	}
	if len(rest) < 3 {
		return 0, 0
	}
	high, low := clayHexDigit(rest[1]), clayHexDigit(rest[2])
	if high < 0 || low < 0 {
		return 0, 0
	}
	return byte(high*16 + low), 3
}

func clayReadMark(rest string) (token ClayToken, size, code int) {
	for _, mark := range clayMarks {
		if strings.HasPrefix(rest, mark) {
			return ClayToken{Kind: ClayTokMark, Text: mark}, len(mark), 0
		}
	}
	return ClayToken{}, 0, clayFaultNoToken
}

// clayNameSize counts the bytes of a name with which rest begins.
func clayNameSize(rest string) int {
	size := 0
	for size < len(rest) && clayIsNameByte(rest[size]) {
		size++
	}
	return size
}

func clayIsNameByte(b byte) bool {
	return b >= 'a' && b <= 'z' || b == '_' || clayIsDigit(b)
}

func clayIsDigit(b byte) bool {
	return b >= '0' && b <= '9'
}

// clayHexDigit is what a digit of 0-9a-f stands for, -1 for any other byte.
func clayHexDigit(b byte) int {
	switch {
	case clayIsDigit(b):
		return int(b - '0')
	case b >= 'a' && b <= 'f':
		return int(b-'a') + 10
	}
	return -1
}
