package tests

import (
	"bytes"
	"math"
	"math/big"
	"slices"
	"strings"
	"testing"

	"loop.example/g00618/impl"
)

const (
	largestSum    = 65520
	longestData   = 1000
	longestLabel  = 12
	longestList   = 40
	longestStream = 200
	mostPieces    = 10
	fullLabel     = "abcdefghijkl"
)

// noSums lie just outside the sums, at the ends of an int64, and where a sum would be if an int64 were cut short.
var noSums = []int64{math.MinInt64, math.MinInt64 + 1, -1 << 32, -65536, -largestSum, -2, -1, largestSum + 1, largestSum + 2, 65535, 65536, 1 << 32, math.MaxInt64 - 1, math.MaxInt64}

var someSums = []int64{0, 1, 2, 255, 256, 257, 258, 32767, 32768, 65280, largestSum - 1, largestSum}

var noLabels = []string{"", "A", "Z", "`", "{", "0", "9", "-", ".", " ", "\x00", "\n", "\x7f", "\x80", "\xe1", "\xfa", "\xff", "é", "aé", "Abc", "abC", "a b", " a", "a ", "a\x00", "\x00a", "stream1", "zzzzzzzzzzzzz", fullLabel + "m", fullLabel + "\x00", "abcdefghijk`", "{bcdefghijkl", "aaaaaaaaaaaé", strings.Repeat("a", 1000)}

var someLabels = []string{"a", "z", "m", "az", "za", "aa", "zz", "mac", "stream", "heard", "abcdefghijk", fullLabel, "zzzzzzzzzzzz", "aaaaaaaaaaaa", "nopqrstuvwxy"}

func refusedBy(code int64) impl.IntResult {
	return impl.IntResult{Code: code}
}

// wantSum counts each byte's share of the sum by math/big, so that it shares nothing with the program.
func wantSum(data []byte) int64 {
	whole := new(big.Int)
	factor := big.NewInt(251)
	place := big.NewInt(1)
	for i := len(data) - 1; i >= 0; i-- {
		whole.Add(whole, new(big.Int).Mul(place, big.NewInt(int64(data[i])+1)))
		place.Mul(place, factor)
	}
	whole.Add(whole, place.Mul(place, big.NewInt(17)))
	return whole.Mod(whole, big.NewInt(65521)).Int64()
}

func wantTag(tag string, list ...int64) int64 {
	data := append([]byte(tag), 0)
	for _, number := range list {
		data = append(data, byte(number/256), byte(number%256))
	}
	return wantSum(data)
}

func wantStream(key int64, seq int64, n int64) []byte {
	var list []byte
	for i := range n {
		list = append(list, byte(wantTag("stream", key, seq, i)%256))
	}
	return list
}

func wantHeard(pieces ...[]byte) int64 {
	var sums []int64
	for _, piece := range pieces {
		sums = append(sums, wantSum(piece))
	}
	return wantTag("heard", sums...)
}

// mixedBytes has n bytes of which no neighbours are alike.
func mixedBytes(n int) []byte {
	data := make([]byte, n)
	for i := range data {
		data[i] = byte(i*37 + i/256)
	}
	return data
}

func mixedSums(n int) []int64 {
	list := make([]int64, n)
	for i := range list {
		list[i] = int64(i*1637) % (largestSum + 1)
	}
	return list
}

func isLargestOrLess(v int64) bool {
	return v >= 0 && v <= largestSum
}

func TestConstantsOfSums(t *testing.T) {
	if impl.MaxSum != 65520 {
		t.Errorf("MaxSum: %d", impl.MaxSum)
	}
}

func TestSumOfWrittenOut(t *testing.T) {
	for _, c := range []struct {
		data []byte
		want int64
	}{
		{nil, 17},
		{[]byte{}, 17},
		{[]byte{0}, 4268},
		{[]byte{255}, 4523},
		{[]byte("abc"), 32677},
		{make([]byte, longestData), 34723},
		{bytes.Repeat([]byte{255}, longestData), 45914},
	} {
		if got := impl.SumOf(c.data); got != answered(c.want) {
			t.Errorf("SumOf(%q): %v, not %d", c.data, got, c.want)
		}
	}
}

func TestSumOfEachByteAndPair(t *testing.T) {
	for a := range 256 {
		if got, want := impl.SumOf([]byte{byte(a)}), answered(17*251+int64(a)+1); got != want {
			t.Errorf("SumOf of %d: %v, not %v", a, got, want)
		}
		for b := range 256 {
			data := []byte{byte(a), byte(b)}
			if got, want := impl.SumOf(data), answered(wantSum(data)); got != want {
				t.Fatalf("SumOf(%v): %v, not %v", data, got, want)
			}
		}
	}
}

func TestSumOfEachLength(t *testing.T) {
	whole := mixedBytes(longestData + 50)
	for n := range longestData + 1 {
		if got, want := impl.SumOf(whole[:n]), answered(wantSum(whole[:n])); got != want {
			t.Fatalf("SumOf of %d bytes: %v, not %v", n, got, want)
		}
	}
	for n := longestData + 1; n <= len(whole); n++ {
		if got := impl.SumOf(whole[:n]); got != refusedBy(impl.ErrMany) {
			t.Errorf("SumOf of %d bytes: %v", n, got)
		}
	}
	if got := impl.SumOf(make([]byte, 100000)); got != refusedBy(impl.ErrMany) {
		t.Errorf("SumOf of 100000 bytes: %v", got)
	}
}

// A sum may be 0 and MaxSum: both bounds are reached.
func TestSumsReachTheirBounds(t *testing.T) {
	seen := map[int64]bool{}
	for a := range 256 {
		for b := range 256 {
			got := impl.SumOf([]byte{byte(a), byte(b), 7})
			if got.Code != impl.OK || !isLargestOrLess(got.Value) {
				t.Fatalf("SumOf of %d, %d, 7: %v", a, b, got)
			}
			seen[got.Value] = true
		}
	}
	if !seen[0] || !seen[largestSum] {
		t.Error("no sum is 0, or none is the largest one")
	}
}

func TestTagSumWrittenOut(t *testing.T) {
	for _, c := range []struct {
		tag  string
		list []int64
		want int64
	}{
		{"a", nil, 47280},
		{"a", []int64{}, 47280},
		{"z", []int64{0}, 14912},
		{"key", []int64{largestSum}, 40839},
		{fullLabel, []int64{1, 2, 3}, 5685},
		{"zzzzzzzzzzzz", slices.Repeat([]int64{largestSum}, longestList), 21029},
	} {
		if got := impl.TagSum(c.tag, c.list); got != answered(c.want) {
			t.Errorf("TagSum(%q, %v): %v, not %d", c.tag, c.list, got, c.want)
		}
	}
}

func TestTagSumIsTheSumOfItsBytes(t *testing.T) {
	list := []int64{0, 1, 255, 256, 258, largestSum}
	data := []byte{'m', 'a', 'c', 0, 0, 0, 0, 1, 0, 255, 1, 0, 1, 2, 255, 240}
	if got := impl.TagSum("mac", list); got != impl.SumOf(data) || got != answered(wantSum(data)) {
		t.Errorf("TagSum: %v, not %v", got, impl.SumOf(data))
	}
}

func TestTagSumOfEachLength(t *testing.T) {
	for _, label := range someLabels {
		for n := range longestList + 1 {
			list := mixedSums(n)
			if got, want := impl.TagSum(label, list), answered(wantTag(label, list...)); got != want {
				t.Errorf("TagSum(%q) of %d numbers: %v, not %v", label, n, got, want)
			}
		}
		for _, n := range []int{longestList + 1, longestList + 2, 1000} {
			if got := impl.TagSum(label, make([]int64, n)); got != refusedBy(impl.ErrMany) {
				t.Errorf("TagSum(%q) of %d numbers: %v", label, n, got)
			}
		}
	}
}

func TestEachByteAsALabel(t *testing.T) {
	for b := range 256 {
		for _, length := range []int{1, 2, longestLabel} {
			for place := range length {
				text := bytes.Repeat([]byte{'k'}, length)
				text[place] = byte(b)
				label := string(text)
				want := refusedBy(impl.ErrText)
				if b >= 'a' && b <= 'z' {
					want = answered(wantTag(label, 9))
				}
				if got := impl.TagSum(label, []int64{9}); got != want {
					t.Errorf("TagSum(%q): %v, not %v", label, got, want)
				}
				if got := impl.DeriveKey(9, label); got != want {
					t.Errorf("DeriveKey(%q): %v, not %v", label, got, want)
				}
			}
		}
	}
}

func TestLabelsOfEachLength(t *testing.T) {
	for n := range 30 {
		label := strings.Repeat("q", n)
		want := refusedBy(impl.ErrText)
		if n >= 1 && n <= longestLabel {
			want = answered(wantTag(label, 3))
		}
		if got := impl.TagSum(label, []int64{3}); got != want {
			t.Errorf("TagSum(%q): %v, not %v", label, got, want)
		}
		if got := impl.DeriveKey(3, label); got != want {
			t.Errorf("DeriveKey(3, %q): %v, not %v", label, got, want)
		}
	}
}

func TestTagSumOfNoLabel(t *testing.T) {
	lists := [][]int64{nil, {0}, {1, 2}, {-1}, {largestSum + 1}, {math.MinInt64, math.MaxInt64}, make([]int64, longestList), make([]int64, longestList+1), slices.Repeat([]int64{-1}, longestList+1)}
	for _, tag := range noLabels {
		for _, list := range lists {
			if got := impl.TagSum(tag, list); got != refusedBy(impl.ErrText) {
				t.Errorf("TagSum(%q, %v): %v", tag, list, got)
			}
		}
	}
}

func TestTagSumOfNoSums(t *testing.T) {
	for _, number := range noSums {
		for _, length := range []int{1, 2, 3, longestList} {
			for _, place := range []int{0, length / 2, length - 1} {
				list := mixedSums(length)
				list[place] = number
				if got := impl.TagSum("mac", list); got != refusedBy(impl.ErrRange) {
					t.Errorf("%d at %d of %d numbers: %v", number, place, length, got)
				}
			}
		}
	}
}

func TestTagSumOfManyNoSums(t *testing.T) {
	for _, number := range noSums {
		for _, length := range []int{longestList + 1, longestList + 2, 100} {
			for _, place := range []int{0, longestList, length - 1} {
				list := make([]int64, length)
				list[place] = number
				if got := impl.TagSum("mac", list); got != refusedBy(impl.ErrMany) {
					t.Errorf("%d at %d of %d numbers: %v", number, place, length, got)
				}
			}
		}
	}
}

func TestTagSumOfSumsAtTheirBounds(t *testing.T) {
	for _, number := range someSums {
		for _, length := range []int{1, 2, longestList} {
			for _, place := range []int{0, length - 1} {
				list := mixedSums(length)
				list[place] = number
				if got, want := impl.TagSum("mac", list), answered(wantTag("mac", list...)); got != want {
					t.Errorf("%d at %d of %d numbers: %v, not %v", number, place, length, got, want)
				}
			}
		}
	}
}

func TestDeriveKeyOfEachSecret(t *testing.T) {
	for secret := int64(-3); secret <= largestSum+20; secret++ {
		want := refusedBy(impl.ErrRange)
		if isLargestOrLess(secret) {
			want = answered(wantTag("mac", secret))
		}
		if got := impl.DeriveKey(secret, "mac"); got != want {
			t.Fatalf("DeriveKey(%d): %v, not %v", secret, got, want)
		}
	}
}

func TestDeriveKeyOfFaults(t *testing.T) {
	for _, secret := range noSums {
		for _, label := range append(slices.Clone(noLabels), someLabels...) {
			if got := impl.DeriveKey(secret, label); got != refusedBy(impl.ErrRange) {
				t.Errorf("DeriveKey(%d, %q): %v", secret, label, got)
			}
		}
	}
	for _, secret := range someSums {
		for _, label := range noLabels {
			if got := impl.DeriveKey(secret, label); got != refusedBy(impl.ErrText) {
				t.Errorf("DeriveKey(%d, %q): %v", secret, label, got)
			}
		}
	}
}

func isStream(got impl.BytesResult, want []byte) bool {
	return got.Code == impl.OK && bytes.Equal(got.Bytes, want)
}

func isNoStream(got impl.BytesResult) bool {
	return got.Code == impl.ErrRange && len(got.Bytes) == 0
}

func TestStreamOfWrittenOut(t *testing.T) {
	for _, c := range []struct {
		key, seq int64
		want     []byte
	}{
		{5, 1, []byte{107, 108, 109, 110, 111, 112}},
		{largestSum, largestSum, []byte{190, 191, 192}},
		{0, 0, []byte{167, 168, 169}},
		{0, 0, nil},
		{largestSum, largestSum, nil},
	} {
		if got := impl.StreamOf(c.key, c.seq, int64(len(c.want))); !isStream(got, c.want) {
			t.Errorf("StreamOf(%d, %d, %d): %v, not %v", c.key, c.seq, len(c.want), got, c.want)
		}
	}
}

func TestStreamsAtTheirBounds(t *testing.T) {
	for _, key := range someSums {
		for _, seq := range someSums {
			for _, n := range []int64{0, 1, 2, longestStream - 1, longestStream} {
				if got, want := impl.StreamOf(key, seq, n), wantStream(key, seq, n); !isStream(got, want) {
					t.Errorf("StreamOf(%d, %d, %d): %v, not %v", key, seq, n, got, want)
				}
			}
		}
	}
}

func TestStreamOfFaults(t *testing.T) {
	noLengths := []int64{math.MinInt64, -1 << 32, -200, -1, longestStream + 1, longestStream + 2, 256, 1 << 32, math.MaxInt64}
	for _, wrong := range noSums {
		for _, right := range []int64{0, 1, longestStream} {
			if got := impl.StreamOf(wrong, right, right); !isNoStream(got) {
				t.Errorf("StreamOf(%d, %d, %d): %v", wrong, right, right, got)
			}
			if got := impl.StreamOf(right, wrong, right); !isNoStream(got) {
				t.Errorf("StreamOf(%d, %d, %d): %v", right, wrong, right, got)
			}
		}
		for _, n := range noLengths {
			if got := impl.StreamOf(wrong, wrong, n); !isNoStream(got) {
				t.Errorf("StreamOf(%d, %d, %d): %v", wrong, wrong, n, got)
			}
		}
	}
	for _, n := range noLengths {
		for _, sum := range someSums {
			if got := impl.StreamOf(sum, sum, n); !isNoStream(got) {
				t.Errorf("StreamOf(%d, %d, %d): %v", sum, sum, n, got)
			}
		}
	}
}

func TestTranscriptWrittenOut(t *testing.T) {
	full := bytes.Repeat([]byte{255}, longestData)
	for _, c := range []struct {
		list [][]byte
		want int64
	}{
		{nil, 24049},
		{[][]byte{}, 24049},
		{[][]byte{nil}, 3714},
		{[][]byte{{}}, 3714},
		{[][]byte{nil, {0}}, 14663},
		{[][]byte{{0}, nil}, 48453},
		{slices.Repeat([][]byte{full}, mostPieces), 21290},
	} {
		if got := impl.Transcript(c.list); got != answered(c.want) {
			t.Errorf("Transcript of %d pieces: %v, not %d", len(c.list), got, c.want)
		}
	}
}

func TestTranscriptOfEachLength(t *testing.T) {
	var list [][]byte
	for n := range mostPieces + 1 {
		if got, want := impl.Transcript(list), answered(wantHeard(list...)); got != want {
			t.Errorf("Transcript of %d pieces: %v, not %v", n, got, want)
		}
		list = append(list, mixedBytes(n*111))
	}
	for range 20 {
		if got := impl.Transcript(list); got != refusedBy(impl.ErrMany) {
			t.Errorf("Transcript of %d pieces: %v", len(list), got)
		}
		list = append(list, nil)
	}
}

func TestTranscriptOfLongPieces(t *testing.T) {
	for _, pieces := range []int{1, 2, mostPieces} {
		for place := range pieces {
			for _, length := range []int{longestData - 1, longestData, longestData + 1, longestData + 2, 5000} {
				list := make([][]byte, pieces)
				list[place] = mixedBytes(length)
				want := refusedBy(impl.ErrMany)
				if length <= longestData {
					want = answered(wantHeard(list...))
				}
				if got := impl.Transcript(list); got != want {
					t.Errorf("%d bytes at %d of %d pieces: %v, not %v", length, place, pieces, got, want)
				}
			}
		}
	}
	if got := impl.Transcript(make([][]byte, mostPieces+1)); got != refusedBy(impl.ErrMany) {
		t.Errorf("too many empty pieces: %v", got)
	}
	if got := impl.Transcript(slices.Repeat([][]byte{make([]byte, longestData+1)}, mostPieces+1)); got != refusedBy(impl.ErrMany) {
		t.Errorf("too many pieces that are too long: %v", got)
	}
}

func TestSameSum(t *testing.T) {
	list := append(slices.Clone(noSums), someSums...)
	for _, a := range list {
		for _, b := range list {
			if got, want := impl.SameSum(a, b), a == b && isLargestOrLess(a); got != want {
				t.Errorf("SameSum(%d, %d): %v", a, b, got)
			}
		}
	}
	for v := int64(-2); v <= largestSum+2; v++ {
		if impl.SameSum(v, v) != isLargestOrLess(v) || impl.SameSum(v, v+1) || impl.SameSum(v+1, v) {
			t.Fatalf("SameSum of %d and its neighbour", v)
		}
	}
}

// Promise 3: neither the memory a label stands in nor what was derived in between has a part in it.
func TestADerivedNumberHangsOnItsSecretAndItsLabelAlone(t *testing.T) {
	type derived struct {
		secret int64
		label  string
	}
	first := map[derived]impl.IntResult{}
	for _, secret := range someSums {
		for _, label := range someLabels {
			got := impl.DeriveKey(secret, label)
			if got != answered(wantTag(label, secret)) || got != impl.TagSum(label, []int64{secret}) {
				t.Errorf("DeriveKey(%d, %q): %v", secret, label, got)
			}
			first[derived{secret, label}] = got
		}
	}
	for asked, want := range first {
		within := "x" + asked.label + "y"
		if got := impl.DeriveKey(asked.secret, within[1:len(within)-1]); got != want {
			t.Errorf("DeriveKey(%d, %q): %v, then %v", asked.secret, asked.label, want, got)
		}
	}
}

// Promise 3.
func TestAStreamBeginsAsAShorterOne(t *testing.T) {
	for _, c := range [][2]int64{{0, 0}, {5, 1}, {258, largestSum}, {largestSum, 0}, {largestSum, largestSum}} {
		whole := impl.StreamOf(c[0], c[1], longestStream)
		if !isStream(whole, wantStream(c[0], c[1], longestStream)) {
			t.Fatalf("StreamOf(%d, %d, %d): %v", c[0], c[1], longestStream, whole)
		}
		for n := range longestStream + 1 {
			if got := impl.StreamOf(c[0], c[1], int64(n)); !isStream(got, whole.Bytes[:n]) {
				t.Errorf("StreamOf(%d, %d, %d) is not as the longest one begins", c[0], c[1], n)
			}
		}
	}
}

// Promise 1: what stands behind a list in its memory is not changed either.
func TestSumsChangeNoArguments(t *testing.T) {
	data := mixedBytes(40)
	list := mixedSums(50)
	pieces := [][]byte{data[:3], data[3:9], nil, data[9:12], {1, 2}}
	impl.SumOf(data[:20])
	impl.TagSum("mac", list[:10])
	impl.TagSum("mac", list)
	impl.Transcript(pieces[:3])
	impl.Transcript(pieces)
	if !bytes.Equal(data, mixedBytes(40)) || !slices.Equal(list, mixedSums(50)) {
		t.Error("an argument was changed")
	}
	want := [][]byte{data[:3], data[3:9], nil, data[9:12], {1, 2}}
	if !slices.EqualFunc(pieces, want, bytes.Equal) {
		t.Error("a list of pieces was changed")
	}
}

// Promise 1.
func TestStreamsAreNewMemory(t *testing.T) {
	want := wantStream(5, 1, longestStream)
	one := impl.StreamOf(5, 1, longestStream)
	two := impl.StreamOf(5, 1, longestStream)
	whole := one.Bytes[:cap(one.Bytes)]
	for i := range whole {
		whole[i] ^= 255
	}
	if !isStream(two, want) || !isStream(impl.StreamOf(5, 1, longestStream), want) {
		t.Error("two streams share their memory")
	}
	empty := impl.StreamOf(5, 1, 0)
	_ = append(empty.Bytes, 1, 2, 3)
	if !isStream(impl.StreamOf(5, 1, 0), nil) || !isStream(two, want) {
		t.Error("a stream of nothing shares its memory")
	}
}

type sumAnswers struct {
	sum     impl.IntResult
	tagged  impl.IntResult
	derived impl.IntResult
	code    int64
	stream  string
	heard   impl.IntResult
	same    bool
}

func askSums(x int64, y int64, label string) sumAnswers {
	data := []byte(label)
	stream := impl.StreamOf(x, y, 5)
	return sumAnswers{impl.SumOf(data), impl.TagSum(label, []int64{x, y}), impl.DeriveKey(x, label), stream.Code, string(stream.Bytes), impl.Transcript([][]byte{data, {byte(x)}}), impl.SameSum(x, y)}
}

// Promise 1: the same arguments have the same answers, whatever was asked in between.
func TestSumsHangOnTheirArgumentsAlone(t *testing.T) {
	type asked struct {
		x, y  int64
		label string
	}
	numbers := append(slices.Clone(noSums), someSums...)
	first := map[asked]sumAnswers{}
	for _, x := range numbers {
		for _, y := range numbers {
			for _, label := range append(slices.Clone(noLabels[:5]), someLabels...) {
				first[asked{x, y, label}] = askSums(x, y, label)
			}
		}
	}
	for a, want := range first {
		if got := askSums(a.x, a.y, a.label); got != want {
			t.Errorf("%v: %v, then %v", a, want, got)
		}
	}
}
