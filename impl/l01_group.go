package impl

const OK = 0
const ErrForm = 1
const ErrMany = 2
const ErrRange = 3
const ErrNone = 4
const ErrText = 5
const ErrTaken = 6
const ErrFull = 7
const ErrState = 8
const ErrSign = 9
const ErrTrust = 10
const ErrOld = 11
const GroupPrime = 2879
const GroupOrder = 1439
const GroupBase = 4

const maxModulus = 1000000
const maxExponent = 1000000000

// exponentBits is enough for maxExponent, which is below 1<<30.
const exponentBits = 30

type IntResult struct {
	Code  int64
	Value int64
}
type BytesResult struct {
	Code  int64
	Bytes []byte
}
type TextResult struct {
	Code int64
	Text string
}
type KeyPair struct {
	Secret int64
	Public int64
}
type KeyResult struct {
	Code int64
	Key  KeyPair
}

// MulMod answers what m leaves of a times b.
func MulMod(a int64, b int64, m int64) IntResult {
	if !isRest(a, m) || !isRest(b, m) {
		return IntResult{Code: ErrRange}
	}
	return IntResult{Value: product(m, a, b)}
}

// PowMod answers what m leaves of a to the pow e.
func PowMod(a int64, e int64, m int64) IntResult {
	if !isRest(a, m) || e < 0 || e > maxExponent {
		return IntResult{Code: ErrRange}
	}
	return IntResult{Value: power(m, a, e)}
}

// IsPublic tells whether v is a public number.
func IsPublic(v int64) bool {
	return v >= 2 && v <= GroupPrime-1 && power(GroupPrime, v, GroupOrder) == 1
}

// KeyOf answers secret together with its public number.
func KeyOf(secret int64) KeyResult {
	if !isSecret(secret) {
		return KeyResult{Code: ErrRange}
	}
	return KeyResult{Key: KeyPair{Secret: secret, Public: power(GroupPrime, GroupBase, secret)}}
}

// SharedOf answers the number that secret has in common with who has the secret of public.
func SharedOf(secret int64, public int64) IntResult {
	if !isSecret(secret) || !IsPublic(public) {
		return IntResult{Code: ErrRange}
	}
	return IntResult{Value: power(GroupPrime, public, secret)}
}

// InverseOf answers the number that undoes a multiplication by v.
func InverseOf(v int64) IntResult {
	if v < 1 || v > GroupPrime-1 {
		return IntResult{Code: ErrRange}
	}
	// GroupPrime is a prime, so v to the pow GroupPrime-1 leaves 1 (Fermat), and one factor v less undoes v.
	return IntResult{Value: power(GroupPrime, v, GroupPrime-2)}
}

func isSecret(secret int64) bool {
	return secret >= 1 && secret <= GroupOrder-1
}

// isRest tells whether m is a modulus and a is one of the numbers that it leaves.
// It compares a with m itself, because m - 1 overflows at the smallest int64.
func isRest(a int64, m int64) bool {
	return m >= 1 && m <= maxModulus && a >= 0 && a < m
}

// product begins with what m leaves of 1, because a product by 1 is 0 even of no factors.
// Each factor is 0 to m - 1, so no step leaves an int64.
func product(m int64, factors ...int64) int64 {
	value := 1 % m
	for _, factor := range factors {
		value = value * factor % m
	}
	return value
}

// power goes by the bits of e, because e single factors would be too many.
func power(m int64, a int64, e int64) int64 {
	value := product(m)
	square := a
	for bit := range exponentBits {
		if e>>bit&1 == 1 {
			value = product(m, value, square)
		}
		square = product(m, square, square)
	}
	return value
}
