package link

import (
	"strings"

	"wardmote/api"
)

// Sender is an end that sends.
type Sender struct {
	life  int
	last  int      // the number of the last text that was pushed
	texts []string // those that wait
}

// NewSender is an end without texts.
func NewSender(life int) (*Sender, api.Errno) {
	if !isLife(life) {
		return nil, api.ErrArg
	}
	return &Sender{life: life}, api.OK
}

// Push has a text be sent: its number.
func (s *Sender) Push(text string) (int, api.Errno) {
	switch {
	case len(text) > maxText:
		return 0, api.ErrLong
	case s == nil:
		return 0, api.ErrState
	case len(s.texts) >= Room:
		return 0, api.ErrFull
	}
	s.texts = append(s.texts, strings.Clone(text))
	s.last++
	return s.last, api.OK
}

// Frames are the frames of the first that wait.
func (s *Sender) Frames() []string {
	if s == nil {
		return nil
	}
	count := min(Most, len(s.texts))
	out := make([]string, count)
	for i, text := range s.texts[:count] {
		out[i] = pack(Data, s.life, s.came()+1+i, text)
	}
	return out
}

// Heard takes an ack: how many wait no longer.
func (s *Sender) Heard(ack string) (int, api.Errno) {
	life, number, _, e := unpack(ack, Ack, 0)
	if e != api.OK {
		return 0, e
	}
	if s == nil || life != s.life || number > s.last {
		return 0, api.ErrState
	}
	// An ack may be late: less than what is known to have come.
	count := max(0, number-s.came())
	// Without room behind them, the next Push lays those that wait into new memory, and lets the others go.
	s.texts = s.texts[count:len(s.texts):len(s.texts)]
	return count, api.OK
}

// Waiting is how many wait.
func (s *Sender) Waiting() int {
	if s == nil {
		return 0
	}
	return len(s.texts)
}

// came is the number up to which all texts were acknowledged.
func (s *Sender) came() int { return s.last - len(s.texts) }
