package field

import (
	"wardmote/api"
	"wardmote/limb"
)

// join answers what a sum or product makes of two numbers, if they are numbers of the field.
func (f *Field) join(op func(a, b api.Num) api.Num, a, b api.Num) (api.Num, api.Errno) {
	if e := f.Check(a); e != api.OK {
		return api.Num{}, e
	}
	if e := f.Check(b); e != api.OK {
		return api.Num{}, e
	}
	return op(a, b), api.OK
}

// power is a to the e, in whatever way times multiplies: four bits at once, as powers are mostly to numbers of many ones.
func power(times func(a, b api.Num) api.Num, a, e api.Num) api.Num {
	small := [16]api.Num{{1}}
	for i := 1; i < len(small); i++ {
		small[i] = times(small[i-1], a)
	}
	out := small[0]
	for i := 63; i >= 0; i-- {
		for range 4 {
			out = times(out, out)
		}
		out = times(out, small[e[i/16]>>(i%16*4)&15])
	}
	return out
}

func (f *Field) plus(a, b api.Num) api.Num {
	sum, carry := limb.Add(a, b)
	return f.lessOnce(carry, sum[0], sum[1], sum[2], sum[3])
}

func (f *Field) minus(a, b api.Num) api.Num {
	rest, borrow := limb.Sub(a, b)
	if borrow == 0 {
		return rest
	}
	rest, _ = limb.Add(rest, f.modulus)
	return rest
}

func (f *Field) times(a, b api.Num) api.Num { return f.Reduce(limb.Mul(a, b)) }
