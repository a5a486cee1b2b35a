package writ_test

import (
	"strings"
	"testing"

	"wardmote/api"
	"wardmote/writ"
)

// first is a bench's line that is right.
const first = "bench 1 0 0 .\n"

// wrongNumbers are no numbers as they are written.
var wrongNumbers = []string{
	"", "-", "+1", "-0", "+0", "00", "01", "-01", "007", "--1", "1-", "1.", "1.0", "1e3", "1_000", "0x1", "0b1", "0o7", "a", ".", "१",
	"1\x00", "\x001", "1\t", "\t1", "1\r", "9223372036854775808", "-9223372036854775809", "18446744073709551616", "18446744073709551617",
	"99999999999999999999999999999999999999", "NaN", "Inf", "1,2", "1/1", "'1'", "½",
}

// wrongTexts are no texts as they are written.
var wrongTexts = []string{
	"", "..", ".6d", "6d.", "6", "6d7", "6D", "A0", "a0B0", "0A", "0x", "0x6d", "g0", "0g", "6d 7", "6d\t", "\x006", "é", "m", "-1", "/0",
	"0/", ":0", "0:", "`a", "a`", "6d6\r", "zz",
}

// 27.1: of the empty text the first line is wrong; so is a line that is not ended.
func TestNotEnded(t *testing.T) {
	fails(t, "", 1, api.ErrForm)
	s, text := everyKind()
	lines := 0
	for i := range text {
		if text[i] == '\n' {
			lines++
			if _, at, e := writ.Parse(text[:i+1]); at != 0 || e != api.OK {
				t.Errorf("%q: %d, %v", text[:i+1], at, e)
			}
			fails(t, text[:i], lines, api.ErrForm)
			fails(t, text[:i]+"\r", lines, api.ErrForm)
			fails(t, text[:i]+"\x00", lines, api.ErrForm)
		}
	}
	fails(t, text+"tick 1", lines+1, api.ErrForm)
	fails(t, text+" ", lines+1, api.ErrForm)
	fails(t, text+".", lines+1, api.ErrForm)
	parses(t, text, s)
}

// 27.1: a blank line, a blank too many, another end.
func TestBlanks(t *testing.T) {
	fails(t, "\n", 1, api.ErrForm)
	fails(t, "\n"+first, 1, api.ErrForm)
	fails(t, first+"\n", 2, api.ErrForm)
	fails(t, first+"\ntick 1\n", 2, api.ErrForm)
	fails(t, first+"tick 1\n\n", 3, api.ErrForm)
	_, text := everyKind()
	lines := strings.SplitAfter(text, "\n")
	for i, line := range lines[:len(lines)-1] {
		line = strings.TrimSuffix(line, "\n")
		wrong := []string{" " + line, line + " ", "\t" + line, line + "\r", line + "\t", "\x00" + line, line + "\x00", "\ufeff" + line,
			line + " .", line + " 0", line + " 6d", line + " 0 0 0 0 0", strings.ToUpper(line), line[1:], line[:len(line)-1] + " "}
		for at, c := range line {
			if c == ' ' {
				wrong = append(wrong, line[:at], line[:at]+" "+line[at:], line[:at]+"\t"+line[at+1:], line[:at]+line[at+1:],
					line[:at]+"\u00a0"+line[at+1:])
			}
		}
		for _, other := range wrong {
			fails(t, strings.Join(lines[:i], "")+other+"\n"+strings.Join(lines[i+1:], ""), i+1, api.ErrForm)
		}
	}
}

// 27.1: a word that is none, at each place of each line.
func TestWords(t *testing.T) {
	_, text := everyKind()
	lines := strings.Split(strings.TrimSuffix(text, "\n"), "\n")
	for i, line := range lines {
		words := strings.Split(line, " ")
		for at := range words {
			wrong := wrongNumbers
			isText := at == len(words)-1 && (words[0] == "bench" || words[0] == "submit" || words[0] == "forge")
			if isText {
				wrong = wrongTexts
			}
			if at == 0 {
				wrong = []string{"", "bnch", "Tick", "TICK", "ticks", "tic", "tick1", "bench1", "6d", "1", ".", "none", "undo", "do"}
			}
			for _, word := range wrong {
				other := strings.Join(append(append(append([]string{}, words[:at]...), word), words[at+1:]...), " ")
				fails(t, strings.Join(append(append(append([]string{}, lines[:i]...), other), lines[i+1:]...), "\n")+"\n", i+1, api.ErrForm)
			}
		}
	}
}

// 27.1: lines of one kind with the words of another.
func TestOtherForms(t *testing.T) {
	for _, line := range []string{
		"bench 1 0 0 .", "submit 1 7", "submit 1 6d", "submit 1 7 6d 6d", "submit", "tick", "tick 1 2", "deliver", "deliver 1 2", "lose",
		"lose 1 1", "again", "again 1 .", "down 1", "down 1 2", "down 1 2 3 4", "start", "start 1 1", "fuse 1", "fuse 1 2 3", "forge 1 2",
		"forge 1 .", "forge 1 2 . .", "round", "round 1 2", "#", "# tick 1", "tick 1 # x", "tick 1;", "tick=1",
	} {
		fails(t, first+line+"\n", 2, api.ErrForm)
		fails(t, first+"tick 1\n"+line+"\ntick 1\n", 3, api.ErrForm)
	}
	for _, line := range []string{
		"bench", "bench 1", "bench 1 0", "bench 1 0 0", "bench 1 0 0 . .", "tick 1", "submit 1 7 6d", "round 1", "bench 1 0 .", "bench 1 0 0 0",
	} {
		fails(t, line+"\n", 1, api.ErrForm)
		fails(t, line+"\n"+first, 1, api.ErrForm)
		fails(t, line+"\ntick 1\n", 1, api.ErrForm)
	}
}

// 27.1: a bench's line with what no script has is no such line.
func TestNoBench(t *testing.T) {
	for _, odd := range []string{"-1", "1024", "1025", "2048", "4294967296", "4294967297", "9223372036854775807", "-9223372036854775808"} {
		fails(t, "bench 4 1 "+odd+" .\n", 1, api.ErrForm)
		fails(t, "bench 4 1 "+odd+" .\nnone\n", 1, api.ErrForm)
	}
	parses(t, "bench 4 1 1023 "+strings.Repeat("00", 60)+"\n", writ.Script{N: 4, F: 1, Odd: 1023, Seed: strings.Repeat("\x00", 60)})
	for _, count := range []int{61, 62, 120, 5000} {
		fails(t, "bench 4 1 0 "+strings.Repeat("00", count)+"\n", 1, api.ErrForm)
	}
}

// 27.1: the 501st choice is one too many, if it is one; else it is no line.
func TestManyLines(t *testing.T) {
	full := first + strings.Repeat("tick 1\n", 500)
	if s, at, e := writ.Parse(full); len(s.L) != 500 || at != 0 || e != api.OK {
		t.Errorf("%d choices, %d, %v", len(s.L), at, e)
	}
	for kind := 1; kind <= 10; kind++ {
		line := lineOf(api.Choice{Kind: kind})
		fails(t, full+line+"\n", 502, api.ErrLong)
		fails(t, full+line+"\nnone\n", 502, api.ErrLong)
		fails(t, full+line+"\nnone", 502, api.ErrLong)
		fails(t, full+strings.Repeat(line+"\n", 700), 502, api.ErrLong)
		fails(t, full+line, 502, api.ErrForm)
		fails(t, full+line+" 1\n", 502, api.ErrForm)
	}
	for _, line := range []string{"", "none", first[:len(first)-1], "tick", "tick 01", "tick 1 "} {
		fails(t, full+line+"\n", 502, api.ErrForm)
	}
	fails(t, full+"x", 502, api.ErrForm)
	// An earlier wrong line is told ahead.
	fails(t, first+strings.Repeat("tick 1\n", 499)+"tick\ntick 1\ntick 1\n", 501, api.ErrForm)
	fails(t, "bench\n"+strings.Repeat("tick 1\n", 501), 1, api.ErrForm)
}

// 27.1: the first line that is wrong is told.
func TestFirstWrong(t *testing.T) {
	fails(t, "none\nnone\nnone", 1, api.ErrForm)
	fails(t, first+"none\nnone", 2, api.ErrForm)
	fails(t, first+"tick 1\nnone\n\nnone", 3, api.ErrForm)
	fails(t, first+"tick 1\ntick 1\ntick 1", 4, api.ErrForm)
}

// P1: a long line ends soon, whatever it has.
func TestLongLines(t *testing.T) {
	for _, piece := range []string{" ", "\n", "0", "a ", "6d", "1 ", "tick 1 ", "-", "\xff"} {
		long := strings.Repeat(piece, 1<<22)
		fails(t, long, 1, api.ErrForm)
		fails(t, first+long+"\n", 2, api.ErrForm)
		fails(t, first+"tick "+long+"\n", 2, api.ErrForm)
	}
}
