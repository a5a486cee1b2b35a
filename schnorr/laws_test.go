package schnorr_test

import (
	"math/big"
	"testing"

	"wardmote/api"
	"wardmote/curve"
	"wardmote/schnorr"
)

// sign is what Sign signs, of what is right.
func sign(t *testing.T, x, k api.Num, m string) api.Sig {
	t.Helper()
	s, e := schnorr.Sign(x, k, m)
	if e != api.OK {
		t.Fatal(e)
	}
	return s
}

// public is what Public tells, of what is right.
func public(t *testing.T, x api.Num) api.Point {
	t.Helper()
	y, e := schnorr.Public(x)
	if e != api.OK {
		t.Fatal(e)
	}
	return y
}

// 8.4: what is signed holds, also when it was bytes meanwhile; with another Z, never.
func TestSignedHolds(t *testing.T) {
	for i, x := range scalars {
		y := public(t, x)
		for j, k := range scalars {
			m := messages[(i+j)%len(messages)]
			s := sign(t, x, k, m)
			tells(t, "Verify", schnorr.Verify(y, m, s), api.OK)
			b, _ := schnorr.Encode(s)
			back, e := schnorr.Decode(b)
			answers(t, "Decode", back, e, s)
			for _, z := range otherZ(s.Z, k, x) {
				if z != s.Z {
					tells(t, "Verify of another Z", schnorr.Verify(y, m, api.Sig{R: s.R, Z: z}), api.ErrSign)
				}
			}
		}
	}
}

// otherZ are scalars beside a signature's: its neighbours and its negative, the ends, ones that are told elsewhere, and
// those that tell -R, and -Y, in place of R and Y.
func otherZ(z, k, x api.Num) []api.Num {
	minus := new(big.Int).Neg(bigOf(z))
	double := new(big.Int).Lsh(bigOf(k), 1)
	minusR, minusY := scalarOf(new(big.Int).Sub(bigOf(z), double)), scalarOf(new(big.Int).Add(minus, double))
	return []api.Num{near(z, 1), near(z, -1), scalarOf(minus), {}, {1}, scalars[4], k, x, minusR, minusY}
}

// 8.1, 8.4: nor does it hold for another point, another R, or another message.
func TestHoldsForNothingElse(t *testing.T) {
	x, k, m := scalars[5], scalars[6], "abc"
	y, s := public(t, x), sign(t, x, k, m)
	minusY, _ := curve.Neg(y)
	minusR, _ := curve.Neg(s.R)
	for _, other := range []api.Point{minusY, g, s.R, withX(1), public(t, near(x, 1))} {
		tells(t, "Verify by another point", schnorr.Verify(other, m, s), api.ErrSign)
	}
	for _, other := range []api.Point{minusR, g, y, withX(1), public(t, near(k, 1))} {
		tells(t, "Verify of another R", schnorr.Verify(y, m, api.Sig{R: other, Z: s.Z}), api.ErrSign)
	}
	for _, other := range []string{"", "ab", "abd", "abcd", "abc\x00", "\x00abc", full} {
		tells(t, "Verify of another message", schnorr.Verify(y, other, s), api.ErrSign)
	}
	tells(t, "Verify", schnorr.Verify(y, m, s), api.OK)
}

// 8.1: just where Z G = R + c Y, reckoned as it stands, a signature holds.
func TestEquationAlone(t *testing.T) {
	for _, x := range scalars {
		for _, k := range scalars {
			y, s := timesG(x), signed(x, k, "m")
			for _, z := range []api.Num{s.Z, near(s.Z, 1), near(s.Z, -1), k} {
				product, _ := curve.Mul(challengeOf(s.R, y, "m"), y)
				right, _ := curve.Add(s.R, product)
				want := api.ErrSign
				if timesG(z) == right {
					want = api.OK
				}
				tells(t, "Verify", schnorr.Verify(y, "m", api.Sig{R: s.R, Z: z}), want)
			}
		}
	}
}

// 8.5: of two signatures with one R the secret is told.
func TestOneNonceTwice(t *testing.T) {
	for _, x := range scalars {
		for _, k := range scalars {
			y := public(t, x)
			one, two := sign(t, x, k, "abc"), sign(t, x, k, "abd")
			if one.R != two.R {
				t.Fatalf("one nonce, two points: %v, %v", one, two)
			}
			c, e := schnorr.Challenge(one.R, y, "abc")
			d, f := schnorr.Challenge(two.R, y, "abd")
			if e != api.OK || f != api.OK || c == d {
				t.Fatalf("Challenge: %x, %v; %x, %v", c, e, d, f)
			}
			top := new(big.Int).Sub(bigOf(one.Z), bigOf(two.Z))
			bottom := new(big.Int).Sub(bigOf(c), bigOf(d))
			bottom.ModInverse(bottom.Mod(bottom, bigQ), bigQ)
			if got := scalarOf(top.Mul(top, bottom)); got != x {
				t.Errorf("the secret that is told is %x, not %x", got, x)
			}
		}
	}
}

// R6: the same call tells the same, whatever was called between.
func TestTellsTheSame(t *testing.T) {
	want := signed(api.Num{7}, api.Num{9}, "abc")
	for range 3 {
		s, e := schnorr.Sign(api.Num{7}, api.Num{9}, "abc")
		answers(t, "Sign", s, e, want)
		schnorr.Sign(most, most, long)
		schnorr.Verify(infinity, long, api.Sig{})
		schnorr.Decode("")
		tells(t, "Verify", schnorr.Verify(timesG(api.Num{7}), "abc", s), api.OK)
	}
}
