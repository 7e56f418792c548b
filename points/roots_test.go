package points

import (
	"testing"

	"causeway/api"
	"causeway/field"
)

// TestLowerPart: the form's words, of two roots with one B the one with the lower A is lower. It looks behind the faces, for no such point of G2 is known.
func TestLowerPart(t *testing.T) {
	low := field.Of(4)
	high, _ := field.Neg(api.FieldP, low)
	for _, y := range []api.E2{{A: low}, {B: low}, {A: low, B: low}, {A: high, B: low}} {
		other, _ := field.Neg(api.FieldP, y.A)
		minus, _ := field.Neg(api.FieldP, y.B)
		if !isLower2(y) || isLower2(api.E2{A: other, B: minus}) {
			t.Error("isLower2", y)
		}
	}
}
