package points

import (
	"causeway/api"
	"causeway/curve"
	"causeway/field"
	"causeway/tower"
)

// root1 answers the Y that X and the mark stand for. If X has none it is 0, with which there is no point on either curve, as their orders are odd; of an X that is no element it is any: the point's check refuses both.
func root1(x api.Fe, m mark) api.Fe {
	cube, _ := field.Exp(api.FieldP, x, api.Word{3})
	square, _ := field.Add(api.FieldP, cube, field.Of(3))
	y, _ := field.Sqrt(api.FieldP, square)
	if m == higher {
		y, _ = field.Neg(api.FieldP, y)
	}
	return y
}

// root2 answers likewise of the twist.
func root2(x api.E2, m mark) api.E2 {
	y, _ := tower.Sqrt2(tower.Add2(cube2(x), constant2()))
	if m == higher {
		y = tower.Neg2(y)
	}
	return y
}

// constant2 answers what Y^2 is more than X^3 at each point of the twist, so at the generator.
func constant2() api.E2 {
	p := curve.Gen2()
	return tower.Sub2(tower.Mul2(p.Y, p.Y), cube2(p.X))
}

// cube2 answers a^3.
func cube2(a api.E2) api.E2 { return tower.Mul2(tower.Mul2(a, a), a) }

// isLower1: is y lower than its negative?
func isLower1(y api.Fe) bool {
	isLower, _ := field.Lower(api.FieldP, y)
	return isLower
}

// isLower2: likewise; if the B of both is 0, their A tells.
func isLower2(y api.E2) bool {
	if y.B == (api.Fe{}) {
		return isLower1(y.A)
	}
	return isLower1(y.B)
}
