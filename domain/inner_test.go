package domain

import (
	"encoding/binary"
	"slices"
	"strings"
	"testing"

	"wardmote/api"
)

// 5.2: 1, if the scalar is 0; no text is known of which it is, so one is made up here.
func TestZeroIsNotDrawn(t *testing.T) {
	made := func(a api.Num) func(tag string, parts []string) api.Num {
		return func(tag string, parts []string) api.Num { return a }
	}
	if got := draw(made(api.Num{}), "seed", "t", 7); got != (api.Num{1}) {
		t.Errorf("of 0: %x", got)
	}
	for _, a := range []api.Num{{1}, {2}, {0, 1}, {0, 0, 1}, {0, 0, 0, 1}} {
		if got := draw(made(a), "seed", "t", 7); got != a {
			t.Errorf("of %x: %x", a, got)
		}
	}
}

// readBack is the tag and the parts of what is hashed.
func readBack(text string) (string, []string) {
	end := 1 + int(text[0])
	tag, rest := text[1:end], text[end:]
	var parts []string
	for rest != "" {
		end := 4 + int(binary.BigEndian.Uint32([]byte(rest)))
		parts = append(parts, rest[4:end])
		rest = rest[end:]
	}
	return tag, parts
}

// 5.3: what is hashed tells its tag and its parts, so it is unlike of unlike ones.
func TestHashedIsReadBack(t *testing.T) {
	tags := []string{"t", "\x00", "\x01\x00", strings.Repeat("a", 40), strings.Repeat("\x28", 40)}
	lists := [][]string{
		nil, {""}, {"", ""}, {"a"}, {"a", ""}, {"", "a"}, {"ab", "c"}, {"a", "bc"}, {"abc"},
		{"\x00\x00\x00\x01", "a"}, {"\x00\x00\x00\x01a"}, {strings.Repeat("x", 70000), "y"}, {strings.Repeat("x", 1<<24+1)},
	}
	for _, tag := range tags {
		for _, parts := range lists {
			var text strings.Builder
			writeHashed(func(s string) api.Errno {
				text.WriteString(s)
				return api.OK
			}, tag, parts)
			gotTag, gotParts := readBack(text.String())
			if gotTag != tag || !slices.Equal(gotParts, parts) {
				t.Fatalf("of %q and %d parts: %q and %d parts", tag, len(parts), gotTag, len(gotParts))
			}
		}
	}
}
