package tower

import "causeway/api"

// Frob12 answers a to the p^n, n modulo 12: of an n below 0 too.
func Frob12(a api.E12, n int) api.E12 {
	n = (n%12 + 12) % 12
	b := rest12(a)
	if n >= 6 {
		b = b.conj()
		n -= 6
	}
	for ; n >= 2; n -= 2 {
		b = b.twice()
	}
	if n == 1 {
		b = b.once()
	}
	return b.out()
}

// once answers a to the p. To the p an element of Fp2 is its conjugate; w to the p is w times (9 + u) to the (p - 1) / 6.
func (a twelve) once() twelve {
	turns := turnsOnce()
	for j := range a {
		for k := range a[j] {
			a[j][k] = a[j][k].conj().times(turns[2*k+j]) // before v^k w^j, so w^(2k+j)
		}
	}
	return a
}

// twice answers a to the p^2. To the p^2 an element of Fp2 is itself; w to the p^2 is w times (9 + u) to the (p^2 - 1) / 6, which is in Fp.
func (a twelve) twice() twelve {
	turns := turnsTwice()
	for j := range a {
		for k := range a[j] {
			a[j][k] = a[j][k].scaled(turns[2*k+j])
		}
	}
	return a
}

// turnsOnce answers what the powers of w, from 0 on, are taken times to the p: (9 + u) to the i (p - 1) / 6.
func turnsOnce() [6]two {
	return [6]two{
		{A: api.Fe{1}},
		{
			A: api.Fe{0xd60b35dadcc9e470, 0x5c521e08292f2176, 0xe8b99fdd76e68b60, 0x1284b71c2865a7df},
			B: api.Fe{0xca5cf05f80f362ac, 0x747992778eeec7e5, 0xa6327cfe12150b8e, 0x246996f3b4fae7e6},
		},
		{
			A: api.Fe{0x99e39557176f553d, 0xb78cc310c2c3330c, 0x4c0bec3cf559b143, 0x2fb347984f7911f7},
			B: api.Fe{0x1665d51c640fcba2, 0x32ae2a1d0b7c9dce, 0x4ba4cc8bd75a0794, 0x16c9e55061ebae20},
		},
		{
			A: api.Fe{0xdc54014671a0135a, 0xdbaae0eda9c95998, 0xdc5ec698b6e2f9b9, 0x063cf305489af5dc},
			B: api.Fe{0x82d37f632623b0e3, 0x21807dc98fa25bd2, 0x0704b5a7ec796f2b, 0x07c03cbcac41049a},
		},
		{
			A: api.Fe{0x848a1f55921ea762, 0xd33365f7be94ec72, 0x80f3c0b75a181e84, 0x05b54f5e64eea801},
			B: api.Fe{0xc13b4711cd2b8126, 0x3685d2ea1bdec763, 0x9f3a80b03b0b1c92, 0x2c145edbe7fd8aee},
		},
		{
			A: api.Fe{0x2ea2c810eab7692f, 0x425c459b55aa1bd3, 0xe93a3661a4353ff4, 0x0183c1e74f798649},
			B: api.Fe{0x24c6b8ee6e0c2c4b, 0xb080cb99678e2ac0, 0xa27fb246c7729f7d, 0x12acf2ca76fd0675},
		},
	}
}

// turnsTwice likewise, to the p^2: (9 + u) to the i (p^2 - 1) / 6, the sixth roots of one in turn.
func turnsTwice() [6]api.Fe {
	return [6]api.Fe{
		{1},
		{0xe4bd44e5607cfd49, 0xc28f069fbb966e3d, 0x5e6dd9e7e0acccb0, 0x30644e72e131a029},
		{0xe4bd44e5607cfd48, 0xc28f069fbb966e3d, 0x5e6dd9e7e0acccb0, 0x30644e72e131a029},
		{0x3c208c16d87cfd46, 0x97816a916871ca8d, 0xb85045b68181585d, 0x30644e72e131a029},
		{0x5763473177fffffe, 0xd4f263f1acdb5c4f, 0x59e26bcea0d48bac, 0x0000000000000000},
		{0x5763473177ffffff, 0xd4f263f1acdb5c4f, 0x59e26bcea0d48bac, 0x0000000000000000},
	}
}
