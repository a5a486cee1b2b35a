package writ

import (
	"strconv"
	"strings"
)

// noText is the word for the text without bytes.
const noText = "."

// digits are those of texts.
const digits = "0123456789abcdef"

// number is the word for a number.
func number(n int) string { return strconv.Itoa(n) }

// toNumber is the number of a word, if it is the word for one.
func toNumber(word string) (int, bool) {
	n, e := strconv.Atoi(word)
	return n, e == nil && number(n) == word
}

// hex is the word for a text.
func hex(text string) string {
	if text == "" {
		return noText
	}
	var out strings.Builder
	out.Grow(2 * len(text))
	for i := range len(text) {
		out.WriteByte(digits[text[i]>>4])
		out.WriteByte(digits[text[i]&15])
	}
	return out.String()
}

// fromHex is the text of a word, if it is the word for one.
func fromHex(word string) (string, bool) {
	if word == noText {
		return "", true
	}
	if word == "" || len(word)%2 != 0 {
		return "", false
	}
	var out strings.Builder
	out.Grow(len(word) / 2)
	for i := 0; i < len(word); i += 2 {
		high, low := strings.IndexByte(digits, word[i]), strings.IndexByte(digits, word[i+1])
		if high < 0 || low < 0 {
			return "", false
		}
		out.WriteByte(byte(high<<4 | low))
	}
	return out.String(), true
}
