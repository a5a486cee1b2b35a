package schnorr_test

import (
	"encoding/hex"
	"math/big"
	"testing"

	"wardmote/api"
	"wardmote/schnorr"
)

// messages are of no byte, of MaxText bytes, and of some between.
var messages = []string{"", "abc", "\x00", full[1:], full}

func numHex(s string) api.Num {
	n, _ := new(big.Int).SetString(s, 16)
	return scalarOf(n)
}

// The document's example.
func TestExample(t *testing.T) {
	y, e := schnorr.Public(api.Num{7})
	if y != timesG(api.Num{7}) || e != api.OK {
		t.Fatalf("Public: %v, %v", y, e)
	}
	s, e := schnorr.Sign(api.Num{7}, api.Num{9}, "abc")
	if s.R != timesG(api.Num{9}) || e != api.OK {
		t.Fatalf("Sign: %v, %v", s, e)
	}
	tells(t, "Verify", schnorr.Verify(y, "abc", s), api.OK)
	tells(t, "Verify of abd", schnorr.Verify(y, "abd", s), api.ErrSign)
}

// 8.1 to 8.3: what another program reckoned.
func TestKnown(t *testing.T) {
	for _, known := range []struct {
		r, y api.Point
		m, c string
	}{
		{timesG(api.Num{9}), timesG(api.Num{7}), "abc", "924e05cd4d06fb91964181280db1291b608c013dae78f2c80f6a18e39fc247c6"},
		{infinity, g, "abc", "305aa7b06219ed4ea399743f79a01398b023a46f815cd3b025415e8f376ee036"},
		{infinity, infinity, "", "306c39bc49eb945b66eaeb9832733356d049d126d6c6135493b547b56e71ca74"},
	} {
		if c, e := schnorr.Challenge(known.r, known.y, known.m); c != numHex(known.c) || e != api.OK {
			t.Errorf("Challenge: %x, %v", c, e)
		}
	}
	last := scalars[4]
	for _, known := range []struct {
		x, k    api.Num
		m, code string
	}{
		{
			api.Num{7}, api.Num{9}, "abc", "03acd484e2f0c7f65309ad178a9f559abde09796974c57e714c35f110dfc27ccbe" +
				"0022289d1b30e0fb1bca88185fd81fc4b9189515082c22896c9d34061d76f16f",
		},
		{
			last, last, "", "0379be667ef9dcbbac55a06295ce870b07029bfcdb2dce28d959f2815b16f81798" +
				"ef66a388512387ccc497467d01625d2ee47869b90bc60bf54eca2da69aeabade",
		},
		{
			api.Num{1}, api.Num{1}, full, "0279be667ef9dcbbac55a06295ce870b07029bfcdb2dce28d959f2815b16f81798" +
				"9f858db7feddc928f6d107190928c3b772ae66a19f8d2812349adc9f1862cc10",
		},
	} {
		s, e := schnorr.Sign(known.x, known.k, known.m)
		if e != api.OK {
			t.Fatal(e)
		}
		if code, e := schnorr.Encode(s); hex.EncodeToString([]byte(code)) != known.code || e != api.OK {
			t.Errorf("Encode: %x, %v", code, e)
		}
	}
}

// 8.1: challenges of points, the one at infinity among them, and of messages.
func TestChallenge(t *testing.T) {
	points := []api.Point{infinity, g, timesG(scalars[4]), withX(1), timesG(scalars[5])}
	for _, r := range points {
		for _, y := range points {
			for _, m := range messages {
				if c, e := schnorr.Challenge(r, y, m); c != challengeOf(r, y, m) || e != api.OK {
					t.Fatalf("Challenge(%v, %v): %x, %v", r, y, c, e)
				}
			}
		}
	}
}

// 8.1: what is no point comes ahead of a message that is too long.
func TestChallengeRefuses(t *testing.T) {
	refuses := func(r, y api.Point, m string, want api.Errno) {
		t.Helper()
		if c, e := schnorr.Challenge(r, y, m); c != (api.Num{}) || e != want {
			t.Errorf("Challenge(%v, %v): %x, %v, not %v", r, y, c, e, want)
		}
	}
	for _, a := range strangers {
		for _, m := range []string{"", "abc", full, long} {
			refuses(a, g, m, api.ErrCurve)
			refuses(g, a, m, api.ErrCurve)
			refuses(a, infinity, m, api.ErrCurve)
			refuses(infinity, a, m, api.ErrCurve)
			refuses(a, a, m, api.ErrCurve)
		}
	}
	for _, m := range []string{long, long + full} {
		refuses(g, withX(1), m, api.ErrLong)
		refuses(infinity, infinity, m, api.ErrLong)
	}
}

// 8.1: of all that can be wrong the first is told: points, the message, the scalar, the equation.
func TestVerifyTellsTheFirst(t *testing.T) {
	x, k := scalars[5], scalars[6]
	y := timesG(x)
	bad := append([]api.Point{infinity}, strangers...)
	for _, m := range []string{"", full, long} {
		right := signed(x, k, m)
		for _, z := range append([]api.Num{right.Z, {}, {1}}, greats...) {
			for _, a := range bad {
				tells(t, "Verify, y", schnorr.Verify(a, m, api.Sig{R: right.R, Z: z}), api.ErrCurve)
				tells(t, "Verify, R", schnorr.Verify(y, m, api.Sig{R: a, Z: z}), api.ErrCurve)
				tells(t, "Verify, both", schnorr.Verify(a, m, api.Sig{R: a, Z: z}), api.ErrCurve)
			}
			for _, r := range []api.Point{right.R, g, withX(1)} {
				s := api.Sig{R: r, Z: z}
				want := api.ErrSign
				if s == right {
					want = api.OK
				}
				if isGreat(z) {
					want = api.ErrRange
				}
				if m == long {
					want = api.ErrLong
				}
				tells(t, "Verify", schnorr.Verify(y, m, s), want)
			}
		}
	}
}

func isGreat(z api.Num) bool { return bigOf(z).Cmp(bigQ) >= 0 }

// 8.2: public points.
func TestPublic(t *testing.T) {
	for _, x := range scalars {
		if y, e := schnorr.Public(x); y != timesG(x) || e != api.OK {
			t.Errorf("Public(%x): %v, %v", x, y, e)
		}
	}
	if y, e := schnorr.Public(api.Num{1}); y != g || e != api.OK {
		t.Errorf("Public(1): %v, %v", y, e)
	}
	if y, e := schnorr.Public(api.Num{}); y != (api.Point{}) || e != api.ErrZero {
		t.Errorf("Public(0): %v, %v", y, e)
	}
	for _, x := range greats {
		if y, e := schnorr.Public(x); y != (api.Point{}) || e != api.ErrRange {
			t.Errorf("Public(%x): %v, %v", x, y, e)
		}
	}
}

// 8.2: signatures of all secrets, nonces and messages.
func TestSign(t *testing.T) {
	for _, x := range scalars {
		for _, k := range scalars {
			for _, m := range messages {
				s, e := schnorr.Sign(x, k, m)
				answers(t, "Sign", s, e, signed(x, k, m))
			}
		}
	}
}

// 8.2: no scalar comes ahead of 0, whichever of the two it is, and both ahead of a message that is too long.
func TestSignRefuses(t *testing.T) {
	numbers := append([]api.Num{{}, {1}, scalars[4]}, greats...)
	for _, x := range numbers {
		for _, k := range numbers {
			for _, m := range []string{"", full, long, long + full} {
				want := api.OK
				if len(m) > api.MaxText {
					want = api.ErrLong
				}
				if x == (api.Num{}) || k == (api.Num{}) {
					want = api.ErrZero
				}
				if isGreat(x) || isGreat(k) {
					want = api.ErrRange
				}
				s, e := schnorr.Sign(x, k, m)
				if want == api.OK {
					answers(t, "Sign", s, e, signed(x, k, m))
					continue
				}
				fails(t, "Sign", s, e, want)
			}
		}
	}
}
