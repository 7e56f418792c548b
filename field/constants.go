package field

import "causeway/api"

// constants are what one of the two fields reckons with.
type constants struct {
	modulus api.Word
	inverse uint64 // of the modulus's lowest word, negated, modulo 2^64
	square  kept   // 2^512 modulo the modulus
}

// constantsOf answers a field's constants; ErrArg if it is none of the two.
func constantsOf(f api.Field) (constants, api.Errno) {
	switch f {
	case api.FieldP:
		return constants{
			modulus: api.Word{0x3c208c16d87cfd47, 0x97816a916871ca8d, 0xb85045b68181585d, 0x30644e72e131a029},
			inverse: 0x87d20782e4866389,
			square:  kept{0xf32cfc5b538afa89, 0xb5e71911d44501fb, 0x47ab1eff0a417ff6, 0x06d89f71cab8351f},
		}, api.OK
	case api.FieldR:
		return constants{
			modulus: api.Word{0x43e1f593f0000001, 0x2833e84879b97091, 0xb85045b68181585d, 0x30644e72e131a029},
			inverse: 0xc2e1f593efffffff,
			square:  kept{0x1bb8e645ae216da7, 0x53fe3ab1e35c59e3, 0x8c49833d53bb8085, 0x0216d0b17f4e44a5},
		}, api.OK
	}
	return constants{}, api.ErrArg
}

// cycleOf answers how often 2 divides a field's modulus less 1, and an element whose order is 2 to that.
func cycleOf(f api.Field) (int, api.Fe) {
	if f == api.FieldP {
		// The modulus less 1 itself, for its half is odd.
		return 1, api.Fe{0x3c208c16d87cfd46, 0x97816a916871ca8d, 0xb85045b68181585d, 0x30644e72e131a029}
	}
	// 5, which is no square, to the odd part of the modulus less 1.
	return 28, api.Fe{0x9bd61b6e725b19f0, 0x402d111e41112ed4, 0x00e0a7eb8ef62abc, 0x2a3c09f0a58a7e85}
}

// refusal answers the field's error, or, where it has none, the element's.
func refusal(e api.Errno) api.Errno {
	if e != api.OK {
		return e
	}
	return api.ErrElement
}
