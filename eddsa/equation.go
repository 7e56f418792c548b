package eddsa

import (
	"causeway/api"
	"causeway/jubjub"
	"causeway/poseidon"
	"causeway/transcript"
)

// isSecret: is it from 1 to l - 1?
func isSecret(n api.Word) bool { return n != api.Word{} && isBelowOrder(n) }

// isLong: has it more bytes than may be signed?
func isLong(message []byte) bool { return len(message) > mostMessage }

// timesBase answers n times the base point, which is on the curve, so that nothing is refused.
func timesBase(n api.Word) api.Ed {
	p, _ := jubjub.Mul(jubjub.Base(), n)
	return p
}

// nonce answers k: it hangs on the secret and the message alone, so that no two messages are signed by one k.
func nonce(secret api.Word, message []byte) scalar {
	return hash(message, api.Fe(secret))
}

// challenge answers h, of two points that were checked.
func challenge(r api.Ed, key api.Ed, message []byte) scalar {
	return hash(message, r.X, r.Y, key.X, key.Y)
}

// hash answers the digest of what stands ahead and of the message, modulo l. All of it is below r and, as the message is not too long, far fewer than MaxAbsorb, so that the sponge has nothing to refuse.
func hash(message []byte, ahead ...api.Fe) scalar {
	digest, _ := poseidon.Hash(api.Rounds{Width: 3, Full: 8, Partial: 57}, append(ahead, transcript.Elements(message)...))
	return restOf(api.Word(digest))
}

// holding answers the one signature with that S for which the equation holds: its R is S B - h key.
func holding(key api.Ed, h scalar, s api.Word) api.Signature {
	// The key was checked, so that no call refuses it.
	minus, _ := jubjub.Neg(key)
	away, _ := jubjub.Mul(minus, api.Word(h))
	r, _ := jubjub.Add(timesBase(s), away)
	return api.Signature{R: r, S: s}
}
