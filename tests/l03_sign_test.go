package tests

import (
	"bytes"
	"math"
	"slices"
	"testing"

	"loop.example/g00618/impl"
)

const largestProof = impl.GroupOrder - 1

// largestPublic is the largest public number: of the numbers behind it none is one.
const largestPublic = impl.GroupPrime - 7

// noSecrets lie just outside the secrets, at the ends of an int64, and where a secret would be if an int64 were cut short.
var noSecrets = []int64{math.MinInt64, math.MinInt64 + 1, -1 << 32, -impl.GroupOrder, -1, 0, impl.GroupOrder, impl.GroupOrder + 1, impl.GroupPrime, 65536 + 7, 1<<32 + 7, math.MaxInt64 - 1, math.MaxInt64}

var someSecrets = []int64{1, 2, 3, 7, 255, 256, 719, 720, impl.GroupOrder - 2, impl.GroupOrder - 1}

// noProofs lie just outside the proofs, at the ends of an int64, and where a proof would be by GroupOrder or if an int64 were cut short.
var noProofs = []int64{math.MinInt64, math.MinInt64 + 1, -1 << 53, -1 << 32, -impl.GroupOrder, -2, -1, impl.GroupOrder, impl.GroupOrder + 1, 2 * impl.GroupOrder, impl.GroupPrime, 65536, 1 << 32, 1 << 53, math.MaxInt64 - 1, math.MaxInt64}

// noPoints has numbers of 0 to GroupPrime - 1 that are no public ones, and numbers that would be one by GroupPrime or if an int64 were cut short.
var noPoints = []int64{math.MinInt64, math.MinInt64 + 1, -1 << 53, -impl.GroupBase, -1, 0, 1, 7, largestPublic + 1, impl.GroupPrime - 2, impl.GroupPrime - 1, impl.GroupPrime, impl.GroupPrime + impl.GroupBase, 65536 + impl.GroupBase, 1<<32 + impl.GroupBase, 1<<53 + impl.GroupBase, math.MaxInt64 - 1, math.MaxInt64}

// publicLogs tells of each public number which secret it is of.
func publicLogs() map[int64]int64 {
	logs := map[int64]int64{}
	for i, public := range publicNumbers() {
		logs[public] = int64(i) + 1
	}
	return logs
}

func wantNonce(secret int64, sum int64) int64 {
	return wantTag("nonce", secret, sum)%1438 + 1
}

func wantChallenge(public int64, point int64, sum int64) int64 {
	return wantTag("sign", public, point, sum) % 1439
}

func wantSign(list []int64, secret int64, sum int64) impl.Signed {
	hidden := wantNonce(secret, sum)
	point := list[hidden-1]
	return impl.Signed{Point: point, Proof: (hidden + wantChallenge(list[secret-1], point, sum)*secret) % 1439}
}

// wantCheck goes by secrets, not by pows, so that it shares nothing with the program.
func wantCheck(logs map[int64]int64, public int64, sum int64, g impl.Signed) bool {
	if logs[public] == 0 || logs[g.Point] == 0 || !isLargestOrLess(sum) || g.Proof < 0 || g.Proof > largestProof {
		return false
	}
	return (logs[g.Point]+wantChallenge(public, g.Point, sum)*logs[public])%1439 == g.Proof
}

func isSigned(got impl.SignResult, want impl.Signed) bool {
	return got == impl.SignResult{Code: impl.OK, Sign: want}
}

func wantPacked(g impl.Signed) []byte {
	return []byte{byte(g.Point / 256), byte(g.Point % 256), byte(g.Proof / 256), byte(g.Proof % 256)}
}

func TestSignaturesWrittenOut(t *testing.T) {
	for _, c := range []struct{ secret, sum, nonce, point, proof int64 }{
		{1, 0, 1219, 807, 245},
		{1, 65520, 1381, 55, 198},
		{1438, 0, 1245, 177, 1176},
		{1438, 65520, 1407, 986, 450},
		{7, 100, 579, 836, 245},
		{720, 32768, 1354, 1368, 669},
		{1, 18563, 728, 1517, 0},
		{10, 25402, 570, 2160, 1438},
		{52, 5862, 865, 15, 865},
		{82, 52758, 1, 4, 851},
		{211, 30287, 1438, 720, 1196},
	} {
		if got := impl.NonceOf(c.secret, c.sum); got != answered(c.nonce) {
			t.Errorf("NonceOf(%d, %d): %v, not %d", c.secret, c.sum, got, c.nonce)
		}
		want := impl.Signed{Point: c.point, Proof: c.proof}
		if got := impl.SignSum(c.secret, c.sum); !isSigned(got, want) {
			t.Errorf("SignSum(%d, %d): %v, not %v", c.secret, c.sum, got, want)
		}
		if !impl.CheckSign(impl.KeyOf(c.secret).Key.Public, c.sum, want) {
			t.Errorf("the signature of %d over %d is not taken", c.secret, c.sum)
		}
	}
}

func TestSignaturesOfEachSecret(t *testing.T) {
	list := publicNumbers()
	for secret := int64(1); secret < impl.GroupOrder; secret++ {
		for _, sum := range someSums {
			if got, want := impl.NonceOf(secret, sum), wantNonce(secret, sum); got != answered(want) {
				t.Fatalf("NonceOf(%d, %d): %v, not %d", secret, sum, got, want)
			}
			if got, want := impl.SignSum(secret, sum), wantSign(list, secret, sum); !isSigned(got, want) {
				t.Fatalf("SignSum(%d, %d): %v, not %v", secret, sum, got, want)
			}
		}
	}
}

func TestSignaturesOfEachSum(t *testing.T) {
	list := publicNumbers()
	for _, secret := range []int64{1, 7, impl.GroupOrder - 1} {
		for sum := range int64(largestSum + 1) {
			if got, want := impl.NonceOf(secret, sum), wantNonce(secret, sum); got != answered(want) {
				t.Fatalf("NonceOf(%d, %d): %v, not %d", secret, sum, got, want)
			}
			if got, want := impl.SignSum(secret, sum), wantSign(list, secret, sum); !isSigned(got, want) {
				t.Fatalf("SignSum(%d, %d): %v, not %v", secret, sum, got, want)
			}
		}
	}
}

// A nonce is a secret of its own, from 1 on and up to the largest one.
func TestNoncesReachTheirBounds(t *testing.T) {
	seen := map[int64]bool{}
	for sum := range int64(largestSum + 1) {
		got := impl.NonceOf(7, sum)
		if got.Code != impl.OK || !isSecretNumber(got.Value) {
			t.Fatalf("NonceOf(7, %d): %v", sum, got)
		}
		seen[got.Value] = true
	}
	if !seen[1] || !seen[impl.GroupOrder-1] {
		t.Error("a bound of the nonces is not reached")
	}
}

func TestSignaturesOfNobody(t *testing.T) {
	refuse := func(secret int64, sum int64) {
		if got := impl.NonceOf(secret, sum); got != refused() {
			t.Errorf("NonceOf(%d, %d): %v", secret, sum, got)
		}
		if got := impl.SignSum(secret, sum); got != (impl.SignResult{Code: impl.ErrRange}) {
			t.Errorf("SignSum(%d, %d): %v", secret, sum, got)
		}
	}
	for _, secret := range noSecrets {
		for _, sum := range append(slices.Clone(someSums), noSums...) {
			refuse(secret, sum)
		}
	}
	for _, secret := range someSecrets {
		for _, sum := range noSums {
			refuse(secret, sum)
		}
	}
}

func TestSignFaultOfEachPoint(t *testing.T) {
	set := publicSet()
	points := slices.Clone(noPoints)
	for point := int64(-3); point <= 2*impl.GroupPrime+5; point++ {
		points = append(points, point)
	}
	for _, point := range points {
		for _, proof := range []int64{0, 1, largestProof - 1, largestProof} {
			want := int64(impl.ErrRange)
			if set[point] {
				want = 0
			}
			if got := impl.SignFault(impl.Signed{Point: point, Proof: proof}); got != want {
				t.Errorf("SignFault of %d and %d: %d, not %d", point, proof, got, want)
			}
		}
	}
}

func TestSignFaultOfEachProof(t *testing.T) {
	for _, point := range []int64{2, impl.GroupBase, 720, largestPublic} {
		for proof := int64(-3); proof <= impl.GroupPrime+3; proof++ {
			want := int64(impl.ErrRange)
			if proof >= 0 && proof <= largestProof {
				want = 0
			}
			if got := impl.SignFault(impl.Signed{Point: point, Proof: proof}); got != want {
				t.Errorf("SignFault of %d and %d: %d, not %d", point, proof, got, want)
			}
		}
	}
}

// faultySigned has each kind of fault by itself, and both in one.
func faultySigned() []impl.Signed {
	var list []impl.Signed
	for _, proof := range noProofs {
		list = append(list, impl.Signed{Point: impl.GroupBase, Proof: proof})
	}
	for _, point := range noPoints {
		list = append(list, impl.Signed{Point: point}, impl.Signed{Point: point, Proof: largestProof})
		for _, proof := range noProofs {
			list = append(list, impl.Signed{Point: point, Proof: proof})
		}
	}
	return list
}

func TestFaultySignaturesAreRefused(t *testing.T) {
	for _, g := range faultySigned() {
		if got := impl.SignFault(g); got != impl.ErrRange {
			t.Errorf("SignFault(%v): %d", g, got)
		}
		if got := impl.PackSign(g); got.Code != impl.ErrRange || len(got.Bytes) != 0 {
			t.Errorf("PackSign(%v): %v", g, got)
		}
		for _, public := range []int64{2, impl.GroupBase, 720} {
			if impl.CheckSign(public, 0, g) || impl.CheckSign(public, largestSum, g) {
				t.Errorf("CheckSign of %d takes %v", public, g)
			}
		}
	}
}

func TestCheckSignOfTurnedProofs(t *testing.T) {
	for _, secret := range someSecrets {
		for _, sum := range []int64{0, 100, largestSum} {
			g := impl.SignSum(secret, sum).Sign
			public := impl.KeyOf(secret).Key.Public
			for proof := int64(-2); proof <= 3*impl.GroupOrder; proof++ {
				if got := impl.CheckSign(public, sum, impl.Signed{Point: g.Point, Proof: proof}); got != (proof == g.Proof) {
					t.Errorf("secret %d, sum %d, proof %d for %d: %v", secret, sum, proof, g.Proof, got)
				}
			}
		}
	}
}

func TestCheckSignOfTurnedPoints(t *testing.T) {
	logs := publicLogs()
	for _, secret := range someSecrets {
		g := impl.SignSum(secret, 100).Sign
		public := impl.KeyOf(secret).Key.Public
		for point := int64(-2); point <= 2*impl.GroupPrime+2; point++ {
			turned := impl.Signed{Point: point, Proof: g.Proof}
			if got, want := impl.CheckSign(public, 100, turned), wantCheck(logs, public, 100, turned); got != want {
				t.Errorf("secret %d, point %d for %d: %v, not %v", secret, point, g.Point, got, want)
			}
		}
	}
	turned := impl.SignSum(7, 100).Sign
	turned.Point = impl.GroupBase
	if impl.CheckSign(impl.KeyOf(7).Key.Public, 100, turned) {
		t.Error("a point that was turned is taken")
	}
}

func TestCheckSignOfOtherPublics(t *testing.T) {
	logs := publicLogs()
	for _, secret := range someSecrets {
		g := impl.SignSum(secret, 100).Sign
		for public := int64(-2); public <= 2*impl.GroupPrime+2; public++ {
			if got, want := impl.CheckSign(public, 100, g), wantCheck(logs, public, 100, g); got != want {
				t.Errorf("secret %d, public %d: %v, not %v", secret, public, got, want)
			}
		}
		for _, public := range noPoints {
			if impl.CheckSign(public, 100, g) {
				t.Errorf("secret %d, public %d", secret, public)
			}
		}
	}
	if impl.CheckSign(impl.KeyOf(8).Key.Public, 100, impl.SignSum(7, 100).Sign) {
		t.Error("who did not sign is taken for who did")
	}
}

func TestCheckSignOfOtherSums(t *testing.T) {
	logs := publicLogs()
	for _, secret := range []int64{1, 7, impl.GroupOrder - 1} {
		g := impl.SignSum(secret, 100).Sign
		public := impl.KeyOf(secret).Key.Public
		for sum := int64(-2); sum <= 65536+101; sum++ {
			if got, want := impl.CheckSign(public, sum, g), wantCheck(logs, public, sum, g); got != want {
				t.Errorf("secret %d, sum %d: %v, not %v", secret, sum, got, want)
			}
		}
		for _, sum := range noSums {
			if impl.CheckSign(public, sum, g) {
				t.Errorf("secret %d, sum %d", secret, sum)
			}
		}
		if impl.CheckSign(public, 101, g) || impl.CheckSign(public, 1<<32+100, g) {
			t.Errorf("secret %d: another sum is taken", secret)
		}
	}
}

// A proof of 0 is one like any other: taken where the point fits to it, and nowhere else.
func TestProofsOfZero(t *testing.T) {
	logs := publicLogs()
	taken := 0
	for _, public := range []int64{2, impl.GroupBase, 720, largestPublic} {
		for _, sum := range someSums {
			for _, point := range publicNumbers() {
				g := impl.Signed{Point: point}
				want := wantCheck(logs, public, sum, g)
				if got := impl.CheckSign(public, sum, g); got != want {
					t.Errorf("public %d, sum %d, point %d: %v, not %v", public, sum, point, got, want)
				}
				if want {
					taken++
				}
			}
		}
	}
	if taken == 0 {
		t.Error("no proof of 0 was to be taken")
	}
}

// powHolds tells whether the pows alone would take a signature, be its numbers public ones or not.
func powHolds(public int64, sum int64, g impl.Signed) bool {
	asked := wantPow(public, wantChallenge(public, g.Point, sum), impl.GroupPrime).Value
	return wantPow(impl.GroupBase, g.Proof, impl.GroupPrime) == wantMul(g.Point, asked, impl.GroupPrime)
}

// A point of 1 is none, though anybody who has the secret finds a proof that its pows fit to.
func TestPointsThatAreNone(t *testing.T) {
	held := 0
	for _, secret := range someSecrets {
		public := impl.KeyOf(secret).Key.Public
		for _, sum := range someSums {
			g := impl.Signed{Point: 1, Proof: wantChallenge(public, 1, sum) * secret % impl.GroupOrder}
			if powHolds(public, sum, g) {
				held++
			}
			if impl.CheckSign(public, sum, g) {
				t.Errorf("secret %d, sum %d: a point of 1 is taken", secret, sum)
			}
		}
	}
	if held != len(someSecrets)*len(someSums) {
		t.Errorf("the pows of %d points hold", held)
	}
}

// Numbers that are no public ones have signatures whose pows fit, and which nobody needs a secret for.
func TestPublicsThatAreNone(t *testing.T) {
	list := publicNumbers()
	held := 0
	for _, public := range []int64{1, impl.GroupPrime - 1} {
		for _, sum := range someSums {
			for _, proof := range []int64{1, 2, 3, 4, 5, 6, 7, largestProof} {
				g := impl.Signed{Point: list[proof-1], Proof: proof}
				if powHolds(public, sum, g) {
					held++
				}
				if impl.CheckSign(public, sum, g) {
					t.Errorf("public %d, sum %d: %v is taken", public, sum, g)
				}
			}
		}
	}
	if held <= 8*len(someSums) {
		t.Errorf("the pows of %d signatures hold", held)
	}
}

func TestPackSignWrittenOut(t *testing.T) {
	for _, c := range []struct {
		g    impl.Signed
		want string
	}{
		{impl.Signed{Point: 64, Proof: 258}, "\x00\x40\x01\x02"},
		{impl.Signed{Point: 2, Proof: 0}, "\x00\x02\x00\x00"},
		{impl.Signed{Point: 256, Proof: 255}, "\x01\x00\x00\xff"},
		{impl.Signed{Point: 836, Proof: 256}, "\x03\x44\x01\x00"},
		{impl.Signed{Point: 2872, Proof: 1438}, "\x0b\x38\x05\x9e"},
	} {
		if got := impl.PackSign(c.g); got.Code != impl.OK || string(got.Bytes) != c.want {
			t.Errorf("PackSign(%v): %v, not %q", c.g, got, c.want)
		}
		if got := impl.ReadSign([]byte(c.want)); !isSigned(got, c.g) {
			t.Errorf("ReadSign(%q): %v, not %v", c.want, got, c.g)
		}
	}
}

func TestReadSignOfEachPoint(t *testing.T) {
	set := publicSet()
	for point := range int64(65536) {
		for _, proof := range []int64{0, largestProof, impl.GroupOrder} {
			g := impl.Signed{Point: point, Proof: proof}
			want := impl.SignResult{Code: impl.ErrText}
			if set[point] && proof <= largestProof {
				want = impl.SignResult{Sign: g}
			}
			if got := impl.ReadSign(wantPacked(g)); got != want {
				t.Fatalf("ReadSign of %v: %v, not %v", g, got, want)
			}
		}
	}
}

func TestReadSignOfEachProof(t *testing.T) {
	for proof := range int64(65536) {
		g := impl.Signed{Point: impl.GroupBase, Proof: proof}
		want := impl.SignResult{Code: impl.ErrText}
		if proof <= largestProof {
			want = impl.SignResult{Sign: g}
		}
		if got := impl.ReadSign(wantPacked(g)); got != want {
			t.Fatalf("ReadSign of %v: %v, not %v", g, got, want)
		}
		if got := impl.ReadSign(wantPacked(impl.Signed{Point: 1, Proof: proof})); got != (impl.SignResult{Code: impl.ErrText}) {
			t.Fatalf("ReadSign of a point 1 and %d: %v", proof, got)
		}
	}
}

func TestReadSignOfOtherLengths(t *testing.T) {
	whole := bytes.Repeat([]byte{0, 64, 1, 2}, 300)
	for _, data := range [][]byte{whole, append([]byte{0, 64, 1, 2}, 0), {0, 0, 64, 1, 2}, {64, 1, 2}, {0, 64, 1}, {0, 64}, {64}, {}, nil} {
		if got := impl.ReadSign(data); got != (impl.SignResult{Code: impl.ErrText}) {
			t.Errorf("ReadSign of %d bytes: %v", len(data), got)
		}
	}
	for n := range 20 {
		want := impl.SignResult{Code: impl.ErrText}
		if n == 4 {
			want = impl.SignResult{Sign: impl.Signed{Point: 64, Proof: 258}}
		}
		if got := impl.ReadSign(whole[:n]); got != want {
			t.Errorf("ReadSign of %d bytes: %v, not %v", n, got, want)
		}
	}
}

// Promise 4.
func TestWhatWasSignedIsTaken(t *testing.T) {
	take := func(secret int64, sum int64) {
		g := impl.SignSum(secret, sum)
		if g.Code != impl.OK || impl.SignFault(g.Sign) != impl.OK || !impl.CheckSign(impl.KeyOf(secret).Key.Public, sum, g.Sign) {
			t.Errorf("what %d signed over %d is not taken: %v", secret, sum, g)
		}
	}
	for secret := int64(1); secret < impl.GroupOrder; secret++ {
		for _, sum := range someSums {
			take(secret, sum)
		}
	}
	for _, secret := range []int64{1, 7, impl.GroupOrder - 1} {
		for sum := range int64(largestSum + 1) {
			take(secret, sum)
		}
	}
}

// Promise 4.
func TestASignatureIsReadBackFromItsBytes(t *testing.T) {
	for _, point := range publicNumbers() {
		for _, proof := range []int64{0, 1, 255, 256, 257, 720, largestProof - 1, largestProof} {
			g := impl.Signed{Point: point, Proof: proof}
			packed := impl.PackSign(g)
			if packed.Code != impl.OK || !bytes.Equal(packed.Bytes, wantPacked(g)) {
				t.Fatalf("PackSign(%v): %v", g, packed)
			}
			if got := impl.ReadSign(packed.Bytes); !isSigned(got, g) {
				t.Fatalf("%v is read back as %v", g, got)
			}
		}
	}
	for proof := range int64(impl.GroupOrder) {
		g := impl.Signed{Point: 720, Proof: proof}
		if got := impl.ReadSign(impl.PackSign(g).Bytes); !isSigned(got, g) {
			t.Fatalf("%v is read back as %v", g, got)
		}
	}
}

// Promise 1: what stands behind the bytes in their memory is not changed either.
func TestSignaturesChangeNoArguments(t *testing.T) {
	data := []byte{0, 64, 1, 2, 0, 1, 5, 159, 9}
	want := slices.Clone(data)
	for from := range data {
		for to := from; to <= len(data); to++ {
			impl.ReadSign(data[from:to])
		}
	}
	if !bytes.Equal(data, want) {
		t.Errorf("%v was changed to %v", want, data)
	}
}

// Promise 1.
func TestPackedSignaturesAreNewMemory(t *testing.T) {
	g := impl.Signed{Point: 64, Proof: 258}
	one := impl.PackSign(g)
	two := impl.PackSign(g)
	whole := one.Bytes[:cap(one.Bytes)]
	for i := range whole {
		whole[i] ^= 255
	}
	if !bytes.Equal(two.Bytes, wantPacked(g)) || !bytes.Equal(impl.PackSign(g).Bytes, wantPacked(g)) {
		t.Error("two packed signatures share their memory")
	}
	read := impl.ReadSign(two.Bytes)
	clear(two.Bytes)
	if !isSigned(read, g) {
		t.Error("a signature shares the memory of its bytes")
	}
}

type signAnswers struct {
	nonce impl.IntResult
	sign  impl.SignResult
	taken bool
	code  int64
	bytes string
	read  impl.SignResult
	fault int64
}

func askSign(x int64, y int64) signAnswers {
	g := impl.Signed{Point: x, Proof: y}
	packed := impl.PackSign(g)
	return signAnswers{impl.NonceOf(x, y), impl.SignSum(x, y), impl.CheckSign(x, y, g), packed.Code, string(packed.Bytes), impl.ReadSign([]byte{byte(x >> 8), byte(x), byte(y >> 8), byte(y)}), impl.SignFault(g)}
}

// Promise 1: the same arguments have the same answers, whatever was asked in between.
func TestSignaturesHangOnTheirArgumentsAlone(t *testing.T) {
	numbers := slices.Concat(noPoints, noProofs, noSecrets, someSecrets, someSums)
	first := map[[2]int64]signAnswers{}
	for _, x := range numbers {
		for _, y := range numbers {
			first[[2]int64{x, y}] = askSign(x, y)
		}
	}
	for asked, want := range first {
		if got := askSign(asked[0], asked[1]); got != want {
			t.Errorf("%v: %v, then %v", asked, want, got)
		}
	}
}
