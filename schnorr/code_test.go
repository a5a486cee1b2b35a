package schnorr_test

import (
	"strings"
	"testing"

	"wardmote/api"
	"wardmote/limb"
	"wardmote/schnorr"
)

// 8.3: a signature's 65 bytes, whatever point and scalar it has, are decoded again.
func TestEncodeAndDecode(t *testing.T) {
	for _, r := range []api.Point{infinity, g, timesG(scalars[4]), withX(1), timesG(scalars[5])} {
		for _, z := range append([]api.Num{{}}, scalars...) {
			s := api.Sig{R: r, Z: z}
			b, e := schnorr.Encode(s)
			if b != codeOf(r)+limb.Bytes(z) || len(b) != 65 || e != api.OK {
				t.Fatalf("Encode(%v): %x, %v", s, b, e)
			}
			got, e := schnorr.Decode(b)
			answers(t, "Decode", got, e, s)
		}
	}
}

// 8.3: what is no point comes ahead of what is no scalar.
func TestEncodeRefuses(t *testing.T) {
	refuses := func(s api.Sig, want api.Errno) {
		t.Helper()
		if b, e := schnorr.Encode(s); b != "" || e != want {
			t.Errorf("Encode(%v): %x, %v, not %v", s, b, e, want)
		}
	}
	for _, r := range strangers {
		for _, z := range append([]api.Num{{}, {1}, scalars[4]}, greats...) {
			refuses(api.Sig{R: r, Z: z}, api.ErrCurve)
		}
	}
	for _, z := range greats {
		refuses(api.Sig{R: g, Z: z}, api.ErrRange)
		refuses(api.Sig{R: infinity, Z: z}, api.ErrRange)
	}
}

// 8.3: bytes that are not 65, ahead of what they are.
func TestDecodeLength(t *testing.T) {
	good := codeOf(g) + limb.Bytes(api.Num{1})
	for n := range 200 {
		if n == 65 {
			continue
		}
		for _, text := range []string{good, "\x00", "\xff", codeOf(g), "\x02" + limb.Bytes(most)} {
			got, e := schnorr.Decode(strings.Repeat(text, 200)[:n])
			fails(t, "Decode", got, e, api.ErrForm)
		}
	}
	for _, b := range []string{good[:64], good[1:], good + "\x00", "\x00" + good} {
		got, e := schnorr.Decode(b)
		fails(t, "Decode", got, e, api.ErrForm)
	}
}

// 8.3: the point's error, ahead of the scalar's.
func TestDecodeTellsTheFirst(t *testing.T) {
	x := codeOf(g)[1:]
	for _, c := range []struct {
		code string
		want api.Errno
	}{
		{"\x01" + x, api.ErrForm}, {"\x04" + x, api.ErrForm}, {"\x00" + x, api.ErrForm}, {"\xff" + x, api.ErrForm},
		{"\x02" + limb.Bytes(p), api.ErrRange}, {"\x03" + limb.Bytes(more(p, api.Num{1})), api.ErrRange},
		{"\x02" + limb.Bytes(api.Num{5}), api.ErrCurve}, {"\x03" + limb.Bytes(api.Num{5}), api.ErrCurve},
	} {
		for _, z := range append([]api.Num{{}, {1}, scalars[4]}, greats...) {
			got, e := schnorr.Decode(c.code + limb.Bytes(z))
			fails(t, "Decode", got, e, c.want)
		}
	}
	for _, z := range greats {
		for _, r := range []api.Point{g, infinity, withX(1)} {
			got, e := schnorr.Decode(codeOf(r) + limb.Bytes(z))
			fails(t, "Decode, Z", got, e, api.ErrRange)
		}
	}
}
