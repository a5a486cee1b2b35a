package link

import "wardmote/api"

// Taker is an end that takes.
type Taker struct {
	life int // 0: it heard nothing yet
	came int
}

// NewTaker is an end that heard nothing.
func NewTaker() *Taker { return &Taker{} }

// Take takes a frame: the text, and whether it is the next one.
func (t *Taker) Take(frame string) (string, bool, api.Errno) {
	life, number, text, e := readFrame(frame)
	if e != api.OK {
		return "", false, e
	}
	if t == nil || life < t.life {
		return "", false, api.ErrState
	}
	if life > t.life {
		t.life, t.came = life, 0
	}
	if number != t.came+1 {
		return "", false, api.OK
	}
	t.came = number
	return text, true, api.OK
}

// Ack is its ack; empty, if it heard nothing.
func (t *Taker) Ack() string {
	if t == nil || t.life == 0 {
		return ""
	}
	return pack(Ack, t.life, t.came)
}

// Came is its sender's life, and how many of its texts came.
func (t *Taker) Came() (int, int) {
	if t == nil {
		return 0, 0
	}
	return t.life, t.came
}

// readFrame is the life, the number and the text of a frame; or ErrForm.
func readFrame(frame string) (int, int, string, api.Errno) {
	life, number, items, e := unpack(frame, Data, 1)
	if e != api.OK {
		return 0, 0, "", e
	}
	if number == 0 || len(items[0]) > maxText {
		return 0, 0, "", api.ErrForm
	}
	return life, number, items[0], api.OK
}
