package ledger

import (
	"iter"
	"strings"

	"wardmote/digest"
)

// How many bytes of a record tell its length, and how many are its seal.
const (
	sizeLen = 2
	sealLen = 4
)

// Read are the records that bytes tell, and how many bytes these have.
func Read(b string) ([]string, int) {
	var records []string
	end := 0
	for record := range told(b) {
		// A piece of b would share its memory.
		records = append(records, strings.Clone(record))
		end += size(record)
	}
	return records, end
}

// told goes through the records that bytes tell: each is a piece of these.
func told(b string) iter.Seq[string] {
	return func(yield func(string) bool) {
		for number := 0; ; number++ {
			record, ok := first(b, number)
			if !ok || !yield(record) {
				return
			}
			b = b[size(record):]
		}
	}
}

// first is the record of that number that bytes begin with, and whether there is a whole one whose seal is right.
func first(b string, number int) (string, bool) {
	if len(b) < sizeLen {
		return "", false
	}
	end := sizeLen + int(b[0])<<8 + int(b[1])
	if end > sizeLen+MaxRecord || end+sealLen > len(b) {
		return "", false
	}
	record := b[sizeLen:end]
	if b[end:end+sealLen] != seal(number, record) {
		return "", false
	}
	return record, true
}

// encode are the bytes of the record of a number.
func encode(number int, record string) string {
	head := []byte{byte(len(record) >> 8), byte(len(record))}
	return string(head) + record + seal(number, record)
}

// size is how many bytes a record has in a file.
func size(record string) int { return sizeLen + len(record) + sealLen }

// seal is the seal of the record of a number.
func seal(number int, record string) string {
	var head [8]byte
	for i := range head {
		head[i] = byte(number >> (8 * (7 - i)))
	}
	return digest.Sum(string(head[:]) + record)[:sealLen]
}
