package impl

import (
	"errors"
	"math/bits"
	"strings"
)

// MaxTerm is the greatest term of a ratio.
const MaxTerm = 1000000000

var (
	errNoDivisor = errors.New("division by zero")
	errTermRange = errors.New("term out of range")
)

// Ratio is a reduced fraction.
type Ratio struct {
	Num int64
	Den int64
}

// ValidRatio reports whether r is valid.
func ValidRatio(r Ratio) bool { return r.valid() }

func (r Ratio) valid() bool {
	if r.Den < 1 || r.Den > MaxTerm || r.Num < -MaxTerm || r.Num > MaxTerm {
		return false
	}
	return commonDivisor(magnitude(r.Num), magnitude(r.Den)) == 1
}

// MakeRatio returns the ratio of two numbers.
func MakeRatio(n, d int64) (Ratio, int64) {
	r, err := lowestTerms(n, d)
	return r, ratioCode(err)
}

// AddRatio returns the sum.
func AddRatio(a, b Ratio) (Ratio, int64) {
	if !a.valid() || !b.valid() {
		return Ratio{}, ErrInvalid
	}
	return MakeRatio(a.plus(b))
}

// SubRatio returns the difference.
func SubRatio(a, b Ratio) (Ratio, int64) {
	if !a.valid() || !b.valid() {
		return Ratio{}, ErrInvalid
	}
	return MakeRatio(a.plus(b.negated()))
}

// MulRatio returns the product.
func MulRatio(a, b Ratio) (Ratio, int64) {
	if !a.valid() || !b.valid() {
		return Ratio{}, ErrInvalid
	}
	return MakeRatio(a.times(b))
}

// DivRatio returns the quotient.
func DivRatio(a, b Ratio) (Ratio, int64) {
	if !a.valid() || !b.valid() {
		return Ratio{}, ErrInvalid
	}
	// If b is 0, the product has the denominator 0, which is ErrState.
	return MakeRatio(a.times(b.inverted()))
}

// CompareRatio compares two ratios.
func CompareRatio(a, b Ratio) int64 {
	// Valid ratios are in lowest terms, so those with equal values have equal terms.
	if !a.valid() || !b.valid() || a == b {
		return 0
	}
	if a.Num*b.Den < b.Num*a.Den {
		return -1
	}
	return 1
}

// FloorRatio returns the greatest integer that is not greater.
func FloorRatio(r Ratio) int64 {
	if !r.valid() {
		return 0
	}
	return floorOf(r.Num, r.Den)
}

// RoundRatio returns the nearest integer.
func RoundRatio(r Ratio) int64 {
	if !r.valid() {
		return 0
	}
	return r.scaled(1)
}

// ScaleRatio returns a rounded multiple.
func ScaleRatio(n int64, r Ratio) (int64, int64) {
	if !r.valid() {
		return 0, ErrInvalid
	}
	if n < -MaxTerm || n > MaxTerm {
		return 0, ErrRange
	}
	return r.scaled(n), OK
}

// RatioText returns the text form of a ratio.
func RatioText(r Ratio) string {
	if !r.valid() {
		return ""
	}
	if r.Den == 1 {
		return Decimal(r.Num)
	}
	return Decimal(r.Num) + "/" + Decimal(r.Den)
}

// ReadRatio returns the ratio with a text form.
func ReadRatio(s string) (Ratio, bool) {
	left, right, split := strings.Cut(s, "/")
	if !split {
		right = "1"
	}
	num, numOK := ReadDecimal(left)
	den, denOK := ReadDecimal(right)
	r := Ratio{Num: num, Den: den}
	// An integer has no denominator in its text, and the text of an invalid ratio is empty.
	if !numOK || !denOK || RatioText(r) != s {
		return Ratio{}, false
	}
	return r, true
}

// The terms of valid ratios are at most MaxTerm, so neither a product of two of
// them nor a sum of two such products overflows.

func (r Ratio) plus(s Ratio) (int64, int64) { return r.Num*s.Den + s.Num*r.Den, r.Den * s.Den }

func (r Ratio) times(s Ratio) (int64, int64) { return r.Num * s.Num, r.Den * s.Den }

func (r Ratio) negated() Ratio { return Ratio{Num: -r.Num, Den: r.Den} }

func (r Ratio) absolute() Ratio { return Ratio{Num: int64(magnitude(r.Num)), Den: r.Den} }

func (r Ratio) inverted() Ratio { return Ratio{Num: r.Den, Den: r.Num} }

// scaled returns n * r, rounded to the nearest integer, the greater one of two.
func (r Ratio) scaled(n int64) int64 {
	den := magnitude(r.Den)
	high, low := bits.Mul64(magnitude(n), magnitude(r.Num))
	whole, rest := bits.Div64(high, low, den)
	if (n < 0) != (r.Num < 0) {
		// Below 0, the greater one of two is the one nearer to 0.
		if 2*rest > den {
			whole++
		}
		return -int64(whole)
	}
	if 2*rest >= den {
		whole++
	}
	return int64(whole)
}

// lowestTerms returns the valid ratio n / d. It reduces magnitudes because the
// least int64 has no positive counterpart.
func lowestTerms(n, d int64) (Ratio, error) {
	if d == 0 {
		return Ratio{}, errNoDivisor
	}
	num, den := magnitude(n), magnitude(d)
	common := commonDivisor(num, den)
	num, den = num/common, den/common
	if num > MaxTerm || den > MaxTerm {
		return Ratio{}, errTermRange
	}
	r := Ratio{Num: int64(num), Den: int64(den)}
	if (n < 0) != (d < 0) {
		return r.negated(), nil
	}
	return r, nil
}

// floorOf returns n / d, rounded down, for a positive d.
func floorOf(n, d int64) int64 {
	whole := n / d
	if n%d < 0 {
		whole--
	}
	return whole
}

// nearestOf returns n / d, rounded to the nearest integer, the greater one of two, for a
// positive d.
func nearestOf(n, d int64) int64 {
	// The quotient need not be a valid ratio, but it is rounded like one.
	return Ratio{Num: n, Den: d}.scaled(1)
}

func ratioCode(err error) int64 {
	switch {
	case err == nil:
		return OK
	case errors.Is(err, errTermRange):
		return ErrRange
	}
	return ErrState
}

func magnitude(n int64) uint64 {
	if n < 0 {
		return -uint64(n)
	}
	return uint64(n)
}

func commonDivisor(a, b uint64) uint64 {
	for b != 0 {
		a, b = b, a%b
	}
	return a
}
