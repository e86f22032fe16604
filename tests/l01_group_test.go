package tests

import (
	"math"
	"math/big"
	"testing"

	"loop.example/g00618/impl"
)

const (
	largestModulus  = 1000000
	largestExponent = 1000000000
)

// outsideNumbers lie outside every bound of the chapter.
var outsideNumbers = []int64{math.MinInt64, math.MinInt64 + 1, -largestExponent, -1, largestExponent + 1, math.MaxInt64 - 1, math.MaxInt64}

// edgeNumbers has each bound of the chapter with its neighbours, and the ends of an int64.
func edgeNumbers() []int64 {
	list := append([]int64{}, outsideNumbers...)
	for _, bound := range []int64{1, 4, 7, impl.GroupOrder, impl.GroupPrime, largestModulus, largestExponent} {
		list = append(list, bound-1, bound, bound+1)
	}
	return list
}

func refused() impl.IntResult {
	return impl.IntResult{Code: impl.ErrRange}
}

func answered(value int64) impl.IntResult {
	return impl.IntResult{Code: impl.OK, Value: value}
}

func isFactor(a int64, m int64) bool {
	return m >= 1 && m <= largestModulus && a >= 0 && a < m
}

// wantMul and wantPow count by math/big, so that they share nothing with the program.
func wantMul(a int64, b int64, m int64) impl.IntResult {
	if !isFactor(a, m) || !isFactor(b, m) {
		return refused()
	}
	whole := new(big.Int).Mul(big.NewInt(a), big.NewInt(b))
	return answered(whole.Mod(whole, big.NewInt(m)).Int64())
}

func wantPow(a int64, e int64, m int64) impl.IntResult {
	if !isFactor(a, m) || e < 0 || e > largestExponent {
		return refused()
	}
	return answered(new(big.Int).Exp(big.NewInt(a), big.NewInt(e), big.NewInt(m)).Int64())
}

// publicNumbers lists the pows of the base from 1 on, by one multiplication each.
func publicNumbers() []int64 {
	var list []int64
	value := int64(1)
	for range impl.GroupOrder - 1 {
		value = value * impl.GroupBase % impl.GroupPrime
		list = append(list, value)
	}
	return list
}

func publicSet() map[int64]bool {
	set := map[int64]bool{}
	for _, public := range publicNumbers() {
		set[public] = true
	}
	return set
}

func isSecretNumber(v int64) bool {
	return v >= 1 && v < impl.GroupOrder
}

func TestConstantsOfGroup(t *testing.T) {
	codes := []int64{impl.OK, impl.ErrForm, impl.ErrMany, impl.ErrRange, impl.ErrNone, impl.ErrText, impl.ErrTaken, impl.ErrFull, impl.ErrState, impl.ErrSign, impl.ErrTrust, impl.ErrOld}
	for number, code := range codes {
		if code != int64(number) {
			t.Errorf("code %d is %d", number, code)
		}
	}
	if impl.GroupPrime != 2879 || impl.GroupOrder != 1439 || impl.GroupBase != 4 {
		t.Error("numbers of the group")
	}
}

func TestExamplesOfGroup(t *testing.T) {
	if got := impl.KeyOf(1); got != (impl.KeyResult{Key: impl.KeyPair{Secret: 1, Public: 4}}) {
		t.Errorf("KeyOf(1): %v", got)
	}
	if got := impl.InverseOf(2); got != answered(1440) {
		t.Errorf("InverseOf(2): %v", got)
	}
}

func TestMulModOfSmallNumbers(t *testing.T) {
	for m := int64(1); m <= 40; m++ {
		for a := range m {
			for b := range m {
				if got := impl.MulMod(a, b, m); got != answered(a*b%m) {
					t.Fatalf("MulMod(%d, %d, %d): %v", a, b, m, got)
				}
			}
		}
	}
}

func TestPowModOfSmallNumbers(t *testing.T) {
	for m := int64(1); m <= 30; m++ {
		for a := range m {
			want := 1 % m
			for e := range int64(70) {
				if got := impl.PowMod(a, e, m); got != answered(want) {
					t.Fatalf("PowMod(%d, %d, %d): %v, not %d", a, e, m, got, want)
				}
				want = want * a % m
			}
		}
	}
}

func TestPowModOfNothing(t *testing.T) {
	for _, c := range []struct{ a, m, want int64 }{{0, 1, 0}, {0, 2, 1}, {1, 2, 1}, {0, impl.GroupPrime, 1}, {0, largestModulus, 1}, {largestModulus - 1, largestModulus, 1}} {
		if got := impl.PowMod(c.a, 0, c.m); got != answered(c.want) {
			t.Errorf("PowMod(%d, 0, %d): %v, not %d", c.a, c.m, got, c.want)
		}
	}
}

func TestNumbersByOne(t *testing.T) {
	if got := impl.MulMod(0, 0, 1); got != answered(0) {
		t.Errorf("MulMod(0, 0, 1): %v", got)
	}
	for _, e := range []int64{0, 1, 2, largestExponent} {
		if got := impl.PowMod(0, e, 1); got != answered(0) {
			t.Errorf("PowMod(0, %d, 1): %v", e, got)
		}
	}
	if impl.MulMod(1, 0, 1) != refused() || impl.MulMod(0, 1, 1) != refused() || impl.PowMod(1, 1, 1) != refused() {
		t.Error("1 leaves no 1")
	}
}

func TestFactorsAtTheirBounds(t *testing.T) {
	for _, m := range []int64{1, 2, 3, 1000, impl.GroupPrime, largestModulus - 1, largestModulus} {
		for _, a := range []int64{-1, 0, 1, m / 2, m - 1, m, m + 1} {
			for _, b := range []int64{-1, 0, 1, m / 2, m - 1, m, m + 1} {
				if got, want := impl.MulMod(a, b, m), wantMul(a, b, m); got != want {
					t.Errorf("MulMod(%d, %d, %d): %v, not %v", a, b, m, got, want)
				}
			}
		}
	}
}

func TestPowsAtTheirBounds(t *testing.T) {
	for _, m := range []int64{1, 2, 3, 1000, impl.GroupPrime, largestModulus - 1, largestModulus} {
		for _, a := range []int64{-1, 0, 1, m / 2, m - 1, m, m + 1} {
			for _, e := range []int64{-1, 0, 1, 2, 1<<29 - 1, 1 << 29, largestExponent - 1, largestExponent, largestExponent + 1} {
				if got, want := impl.PowMod(a, e, m), wantPow(a, e, m); got != want {
					t.Errorf("PowMod(%d, %d, %d): %v, not %v", a, e, m, got, want)
				}
			}
		}
	}
}

func TestProductsAndPowsAtEveryEdge(t *testing.T) {
	list := edgeNumbers()
	for _, x := range list {
		for _, y := range list {
			for _, m := range list {
				if got, want := impl.MulMod(x, y, m), wantMul(x, y, m); got != want {
					t.Errorf("MulMod(%d, %d, %d): %v, not %v", x, y, m, got, want)
				}
				if got, want := impl.PowMod(x, y, m), wantPow(x, y, m); got != want {
					t.Errorf("PowMod(%d, %d, %d): %v, not %v", x, y, m, got, want)
				}
			}
		}
	}
}

func TestIsPublic(t *testing.T) {
	set := publicSet()
	for v := int64(-10); v <= 3*impl.GroupPrime; v++ {
		if got := impl.IsPublic(v); got != set[v] {
			t.Errorf("IsPublic(%d): %v", v, got)
		}
	}
	for _, v := range outsideNumbers {
		if impl.IsPublic(v) {
			t.Errorf("IsPublic(%d)", v)
		}
	}
	if impl.IsPublic(1) || impl.IsPublic(impl.GroupPrime-1) || !impl.IsPublic(2) || !impl.IsPublic(impl.GroupBase) {
		t.Error("edges of public numbers")
	}
}

func TestKeyOf(t *testing.T) {
	for i, public := range publicNumbers() {
		secret := int64(i) + 1
		want := impl.KeyResult{Key: impl.KeyPair{Secret: secret, Public: public}}
		if got := impl.KeyOf(secret); got != want {
			t.Errorf("KeyOf(%d): %v, not %v", secret, got, want)
		}
	}
}

func TestKeyOfNoSecret(t *testing.T) {
	for _, secret := range append([]int64{0, impl.GroupOrder, impl.GroupOrder + 1, impl.GroupPrime}, outsideNumbers...) {
		if got := impl.KeyOf(secret); got != (impl.KeyResult{Code: impl.ErrRange}) {
			t.Errorf("KeyOf(%d): %v", secret, got)
		}
	}
}

func TestSharedOfAtEveryEdge(t *testing.T) {
	set := publicSet()
	for _, secret := range edgeNumbers() {
		for _, public := range append(edgeNumbers(), 2, 3, 5, 1440, impl.GroupPrime-2) {
			want := refused()
			if isSecretNumber(secret) && set[public] {
				want = wantPow(public, secret, impl.GroupPrime)
			}
			if got := impl.SharedOf(secret, public); got != want {
				t.Errorf("SharedOf(%d, %d): %v, not %v", secret, public, got, want)
			}
		}
	}
}

func TestSharedOfEachNumberAsPublic(t *testing.T) {
	set := publicSet()
	for public := int64(-1); public <= impl.GroupPrime+1; public++ {
		want := refused()
		if set[public] {
			want = answered(public)
		}
		if got := impl.SharedOf(1, public); got != want {
			t.Errorf("SharedOf(1, %d): %v, not %v", public, got, want)
		}
	}
}

func TestInverseOfNothingToUndo(t *testing.T) {
	for _, v := range append([]int64{0, impl.GroupPrime, impl.GroupPrime + 1, 2 * impl.GroupPrime}, outsideNumbers...) {
		if got := impl.InverseOf(v); got != refused() {
			t.Errorf("InverseOf(%d): %v", v, got)
		}
	}
	if impl.InverseOf(1) != answered(1) || impl.InverseOf(impl.GroupPrime-1) != answered(impl.GroupPrime-1) {
		t.Error("both ends undo themselves")
	}
}

// Promise 2.
func TestPowOfASumIsTheProductOfPows(t *testing.T) {
	for _, m := range []int64{1, 2, 6, 997, impl.GroupPrime, 65536, largestModulus - 1, largestModulus} {
		for _, a := range []int64{0, 1 % m, 4 % m, m / 2, m - 1} {
			for _, x := range []int64{0, 1, 2, 30, impl.GroupOrder, 123456789, largestExponent / 2} {
				for _, y := range []int64{0, 1, 2, 31, impl.GroupPrime, 87654321, largestExponent / 2, largestExponent - x} {
					if x+y > largestExponent {
						continue
					}
					parts := impl.MulMod(impl.PowMod(a, x, m).Value, impl.PowMod(a, y, m).Value, m)
					if got := impl.PowMod(a, x+y, m); got != parts || got.Code != impl.OK {
						t.Errorf("%d to the pow %d and %d by %d: %v, not %v", a, x, y, m, got, parts)
					}
				}
			}
		}
	}
}

// Promise 2.
func TestEachNumberIsUndone(t *testing.T) {
	for v := int64(1); v < impl.GroupPrime; v++ {
		undo := impl.InverseOf(v)
		if undo.Code != impl.OK || undo.Value < 1 || undo.Value >= impl.GroupPrime {
			t.Fatalf("InverseOf(%d): %v", v, undo)
		}
		if v*undo.Value%impl.GroupPrime != 1 || impl.MulMod(v, undo.Value, impl.GroupPrime) != answered(1) {
			t.Errorf("%d is not undone by %d", v, undo.Value)
		}
		if impl.InverseOf(undo.Value) != answered(v) {
			t.Errorf("what undoes %d is not undone by it", v)
		}
	}
}

// Promise 2.
func TestTwoHaveOneNumberInCommon(t *testing.T) {
	set := publicSet()
	for _, mine := range []int64{1, 2, 3, 719, 720, impl.GroupOrder - 2, impl.GroupOrder - 1} {
		for other := int64(1); other < impl.GroupOrder; other++ {
			here := impl.SharedOf(mine, impl.KeyOf(other).Key.Public)
			there := impl.SharedOf(other, impl.KeyOf(mine).Key.Public)
			if here != there || here.Code != impl.OK || !set[here.Value] {
				t.Errorf("secrets %d and %d: %v and %v", mine, other, here, there)
			}
		}
	}
}

type groupAnswers struct {
	product impl.IntResult
	pow     impl.IntResult
	public  bool
	key     impl.KeyResult
	shared  impl.IntResult
	inverse impl.IntResult
}

func askGroup(x int64, y int64, m int64) groupAnswers {
	return groupAnswers{impl.MulMod(x, y, m), impl.PowMod(x, y, m), impl.IsPublic(x), impl.KeyOf(x), impl.SharedOf(x, y), impl.InverseOf(x)}
}

// Promise 1: the same arguments have the same answers, whatever was asked in between.
func TestGroupHangsOnItsArgumentsAlone(t *testing.T) {
	list := edgeNumbers()
	first := map[[3]int64]groupAnswers{}
	for _, x := range list {
		for _, y := range list {
			for _, m := range list {
				first[[3]int64{x, y, m}] = askGroup(x, y, m)
			}
		}
	}
	for asked, want := range first {
		if got := askGroup(asked[0], asked[1], asked[2]); got != want {
			t.Errorf("%v: %v, then %v", asked, want, got)
		}
	}
}
