package parcel

import (
	"math"

	"wardmote/api"
)

const (
	maxInts = 1000 // numbers in one text
	intLen  = 8    // bytes of a number
)

// Int is a number's bytes.
func Int(n int) (string, api.Errno) { return Ints([]int{n}) }

// ToInt is the number that bytes are.
func ToInt(s string) (int, api.Errno) {
	if len(s) != intLen {
		return 0, api.ErrForm
	}
	l, e := ToInts(s)
	if e != api.OK {
		return 0, e
	}
	return l[0], api.OK
}

// Ints are numbers' bytes.
func Ints(l []int) (string, api.Errno) {
	if len(l) > maxInts {
		return "", api.ErrLong
	}
	out := make([]byte, 0, intLen*len(l))
	for _, n := range l {
		if n < 0 {
			return "", api.ErrArg
		}
		for shift := 8 * (intLen - 1); shift >= 0; shift -= 8 {
			out = append(out, byte(n>>shift))
		}
	}
	return string(out), api.OK
}

// ToInts are the numbers that bytes are.
func ToInts(s string) ([]int, api.Errno) {
	if len(s)%intLen != 0 || len(s) > intLen*maxInts {
		return nil, api.ErrForm
	}
	out := make([]int, len(s)/intLen)
	for i := range out {
		n := joined(s[intLen*i : intLen*(i+1)])
		if n > math.MaxInt64 {
			return nil, api.ErrForm
		}
		out[i] = int(n)
	}
	return out, api.OK
}

// joined are bytes, at most eight and the highest first, as one number.
func joined(s string) uint64 {
	var out uint64
	for i := range len(s) {
		out = out<<8 | uint64(s[i])
	}
	return out
}
