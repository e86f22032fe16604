package tests

import (
	"bytes"
	"math"
	"slices"
	"testing"

	"loop.example/g00618/impl"
)

const (
	largestSeq  = 65520
	largestKind = 9
	mostData    = 60
	emptyPacked = 6
)

// noKinds lie just outside the kinds, at the ends of an int64, and where a kind would be if an int64 were cut short.
var noKinds = []int64{math.MinInt64, math.MinInt64 + 1, -1 << 32, -largestKind, -1, 0, largestKind + 1, largestKind + 2, 255, 256, 256 + 1, 65536 + 2, 1<<32 + 3, math.MaxInt64 - 1, math.MaxInt64}

var someLengths = []int{0, 1, 2, 3, 31, mostData - 1, mostData}

var longLengths = []int{mostData + 1, mostData + 2, 200, 201, 255, 256, 256 + 1, 316, 1000, 1001, 70000}

// wantTurned has each bit of data turned by the stream, counted by math/big as all that this file wants.
func wantTurned(key int64, seq int64, data []byte) []byte {
	stream := wantStream(wantTag("stream", key), seq, int64(len(data)))
	for i, b := range data {
		stream[i] ^= b
	}
	return stream
}

func wantSealTag(key int64, r impl.Record) int64 {
	return wantTag("seal", wantTag("mac", key), r.Seq, r.Kind, wantSum(r.Data))
}

func wantSealed(key int64, seq int64, kind int64, data []byte) impl.Record {
	r := impl.Record{Seq: seq, Kind: kind, Data: wantTurned(key, seq, data)}
	r.Tag = wantSealTag(key, r)
	return r
}

func wantRecordFault(r impl.Record) int64 {
	switch {
	case r.Seq < 0 || r.Seq > largestSeq || r.Kind < 1 || r.Kind > largestKind || r.Tag < 0 || r.Tag > largestSum:
		return impl.ErrRange
	case len(r.Data) > mostData:
		return impl.ErrMany
	}
	return impl.OK
}

func wantOpened(key int64, seq int64, r impl.Record) impl.BytesResult {
	switch {
	case !isLargestOrLess(key) || seq < 0 || seq > largestSeq:
		return impl.BytesResult{Code: impl.ErrRange}
	case wantRecordFault(r) != impl.OK:
		return impl.BytesResult{Code: wantRecordFault(r)}
	case r.Seq != seq:
		return impl.BytesResult{Code: impl.ErrState}
	case r.Tag != wantSealTag(key, r):
		return impl.BytesResult{Code: impl.ErrSign}
	}
	return impl.BytesResult{Bytes: wantTurned(key, seq, r.Data)}
}

func wantRecordBytes(r impl.Record) []byte {
	data := []byte{byte(r.Seq / 256), byte(r.Seq % 256), byte(r.Kind), byte(len(r.Data))}
	data = append(data, r.Data...)
	return append(data, byte(r.Tag/256), byte(r.Tag%256))
}

func equalRecords(a impl.Record, b impl.Record) bool {
	return a.Seq == b.Seq && a.Kind == b.Kind && a.Tag == b.Tag && bytes.Equal(a.Data, b.Data)
}

func isRecord(got impl.RecordResult, want impl.Record) bool {
	return got.Code == impl.OK && equalRecords(got.Record, want)
}

func isNoRecord(got impl.RecordResult, code int64) bool {
	return got.Code == code && equalRecords(got.Record, impl.Record{})
}

func isBytes(got impl.BytesResult, want impl.BytesResult) bool {
	return got.Code == want.Code && bytes.Equal(got.Bytes, want.Bytes)
}

func isNoBytes(got impl.BytesResult, code int64) bool {
	return got.Code == code && len(got.Bytes) == 0
}

func cloneRecord(r impl.Record) impl.Record {
	r.Data = slices.Clone(r.Data)
	return r
}

// plainRecord has no fault, and a Tag that no key was asked for.
func plainRecord() impl.Record {
	return impl.Record{Seq: 258, Kind: 2, Data: []byte("abc"), Tag: 772}
}

func TestConstantsOfRecords(t *testing.T) {
	if impl.MaxData != 60 {
		t.Errorf("MaxData: %d", impl.MaxData)
	}
}

func TestRecordsWrittenOut(t *testing.T) {
	for _, c := range []struct {
		key, seq, kind int64
		data           string
		sealed         string
		tag            int64
	}{
		{5, 1, 2, "abc", "\x59\x5b\x59", 48321},
		{0, 0, 1, "", "", 14468},
		{65520, 65520, 9, "", "", 65266},
		{0, 0, 1, "\x00", "\x74", 18750},
		{65520, 65520, 9, "\xff\x00\xff", "\x3b\xc5\x39", 21500},
		{258, 65520, 1, "what was said", "\x38\x38\x30\x26\x73\x23\x34\x25\x77\x2b\x38\x33\x3f", 49471},
		{65520, 0, 9, string(make([]byte, 60)), "EFGHIJKLMNOPQRSTUVWXYZ[\\]^_`abcdefghijklmnopqrstuvwxyz{|}~\x7f\x80", 8395},
		{24886, 65520, 9, "", "", 0},
		{6600, 65520, 9, "", "", 65520},
	} {
		want := impl.Record{Seq: c.seq, Kind: c.kind, Data: []byte(c.sealed), Tag: c.tag}
		if got := impl.SealData(c.key, c.seq, c.kind, []byte(c.data)); !isRecord(got, want) {
			t.Errorf("SealData(%d, %d, %d, %q): %v, not %v", c.key, c.seq, c.kind, c.data, got, want)
		}
		if got := impl.OpenRecord(c.key, c.seq, want); got.Code != impl.OK || string(got.Bytes) != c.data {
			t.Errorf("OpenRecord(%d, %d, %v): %v, not %q", c.key, c.seq, want, got, c.data)
		}
	}
}

func TestSealDataOfEachLength(t *testing.T) {
	for n := range mostData + 1 {
		data := mixedBytes(n)
		for _, number := range []int64{0, 1, 5, 32768, largestSum} {
			if got, want := impl.SealData(number, largestSeq-number, 3, data), wantSealed(number, largestSeq-number, 3, data); !isRecord(got, want) {
				t.Errorf("%d bytes by %d: %v, not %v", n, number, got, want)
			}
		}
	}
	for n := mostData + 1; n <= 330; n++ {
		if got := impl.SealData(5, 1, 3, mixedBytes(n)); !isNoRecord(got, impl.ErrMany) {
			t.Errorf("%d bytes: %v", n, got)
		}
	}
}

func TestSealDataOfEachSeqAndKey(t *testing.T) {
	data := []byte{0, 255}
	for number := int64(-3); number <= largestSum+20; number++ {
		bySeq := impl.SealData(5, number, 1, data)
		byKey := impl.SealData(number, 5, 1, data)
		if !isLargestOrLess(number) {
			if !isNoRecord(bySeq, impl.ErrRange) || !isNoRecord(byKey, impl.ErrRange) {
				t.Errorf("%d: %v and %v", number, bySeq, byKey)
			}
			continue
		}
		if want := wantSealed(5, number, 1, data); !isRecord(bySeq, want) {
			t.Fatalf("seq %d: %v, not %v", number, bySeq, want)
		}
		if want := wantSealed(number, 5, 1, data); !isRecord(byKey, want) {
			t.Fatalf("key %d: %v, not %v", number, byKey, want)
		}
	}
}

func TestSealDataOfEachKind(t *testing.T) {
	for kind := int64(-3); kind <= 300; kind++ {
		got := impl.SealData(5, 1, kind, []byte("abc"))
		if kind < 1 || kind > largestKind {
			if !isNoRecord(got, impl.ErrRange) {
				t.Errorf("kind %d: %v", kind, got)
			}
			continue
		}
		if want := wantSealed(5, 1, kind, []byte("abc")); !isRecord(got, want) {
			t.Errorf("kind %d: %v, not %v", kind, got, want)
		}
	}
}

// Each number that leaves its bounds is told ahead of data that is too long.
func TestSealDataOfFaults(t *testing.T) {
	for _, n := range append(slices.Clone(someLengths), longLengths...) {
		data := mixedBytes(n)
		for _, number := range noSums {
			for _, right := range []int64{1, largestKind} {
				if got := impl.SealData(number, right, right, data); !isNoRecord(got, impl.ErrRange) {
					t.Errorf("key %d and %d bytes: %v", number, n, got)
				}
				if got := impl.SealData(right, number, right, data); !isNoRecord(got, impl.ErrRange) {
					t.Errorf("seq %d and %d bytes: %v", number, n, got)
				}
			}
			if got := impl.SealData(number, number, number, data); !isNoRecord(got, impl.ErrRange) {
				t.Errorf("%d three times and %d bytes: %v", number, n, got)
			}
		}
		for _, kind := range noKinds {
			if got := impl.SealData(5, 1, kind, data); !isNoRecord(got, impl.ErrRange) {
				t.Errorf("kind %d and %d bytes: %v", kind, n, got)
			}
		}
	}
	for _, n := range longLengths {
		for _, number := range someSums {
			for _, kind := range []int64{1, largestKind} {
				if got := impl.SealData(number, largestSeq-number, kind, make([]byte, n)); !isNoRecord(got, impl.ErrMany) {
					t.Errorf("%d bytes by %d: %v", n, number, got)
				}
			}
		}
	}
}

func TestRecordFaultAtEveryEdge(t *testing.T) {
	sums := append(slices.Clone(noSums), 0, 1, largestSum-1, largestSum)
	kinds := append(slices.Clone(noKinds), 1, 2, largestKind-1, largestKind)
	for _, n := range []int{0, 1, mostData, mostData + 1, 256} {
		data := make([]byte, n)
		for _, seq := range sums {
			for _, kind := range kinds {
				for _, tag := range sums {
					r := impl.Record{Seq: seq, Kind: kind, Data: data, Tag: tag}
					if got, want := impl.RecordFault(r), wantRecordFault(r); got != want {
						t.Errorf("seq %d, kind %d, tag %d, %d bytes: %d, not %d", seq, kind, tag, n, got, want)
					}
				}
			}
		}
	}
	if got := impl.RecordFault(impl.Record{}); got != impl.ErrRange {
		t.Errorf("the zero value: %d", got)
	}
}

func TestRecordFaultOfEachLength(t *testing.T) {
	for n := range 330 {
		want := int64(impl.OK)
		if n > mostData {
			want = impl.ErrMany
		}
		r := impl.Record{Seq: largestSeq, Kind: largestKind, Data: make([]byte, n), Tag: largestSum}
		if got := impl.RecordFault(r); got != want {
			t.Errorf("%d bytes: %d, not %d", n, got, want)
		}
		r.Kind = 0
		if got := impl.RecordFault(r); got != impl.ErrRange {
			t.Errorf("%d bytes and no kind: %d", n, got)
		}
	}
}

// faultyRecords has each field that does not fit by itself, and together with data that is too long.
func faultyRecords() []impl.Record {
	var list []impl.Record
	add := func(turn func(*impl.Record)) {
		for _, n := range []int{0, 3, mostData, mostData + 1, 300} {
			r := plainRecord()
			r.Data = mixedBytes(n)
			turn(&r)
			list = append(list, r)
		}
	}
	for _, number := range noSums {
		add(func(r *impl.Record) { r.Seq = number })
		add(func(r *impl.Record) { r.Tag = number })
		add(func(r *impl.Record) { r.Seq, r.Kind, r.Tag = number, number, number })
	}
	for _, kind := range noKinds {
		add(func(r *impl.Record) { r.Kind = kind })
	}
	for _, n := range longLengths {
		r := plainRecord()
		r.Data = make([]byte, n)
		list = append(list, r)
	}
	return list
}

func TestFaultyRecordsAreRefused(t *testing.T) {
	many := 0
	for _, r := range faultyRecords() {
		want := wantRecordFault(r)
		if want == impl.ErrMany {
			many++
		}
		if got := impl.RecordFault(r); got != want || got == impl.OK {
			t.Errorf("RecordFault(%v): %d, not %d", r, got, want)
		}
		if got := impl.PackRecord(r); !isNoBytes(got, want) {
			t.Errorf("PackRecord(%v): %v, not %d", r, got, want)
		}
		// The fault is told ahead of another number, and behind arguments that leave their bounds.
		for _, seq := range []int64{0, 257, 258, largestSeq} {
			if got := impl.OpenRecord(5, seq, r); !isNoBytes(got, want) {
				t.Errorf("OpenRecord(5, %d, %v): %v, not %d", seq, r, got, want)
			}
		}
		for _, number := range noSums {
			if got := impl.OpenRecord(number, 258, r); !isNoBytes(got, impl.ErrRange) {
				t.Errorf("OpenRecord(%d, 258, %v): %v", number, r, got)
			}
			if got := impl.OpenRecord(5, number, r); !isNoBytes(got, impl.ErrRange) {
				t.Errorf("OpenRecord(5, %d, %v): %v", number, r, got)
			}
		}
	}
	if many != len(longLengths) {
		t.Errorf("%d records have data that is too long alone", many)
	}
}

// A Seq that is no number is not opened by the same one, which leaves its bounds as well.
func TestOpenRecordOfNoNumbers(t *testing.T) {
	whole := impl.SealData(5, 1, 2, []byte("abc")).Record
	for _, number := range noSums {
		if got := impl.OpenRecord(number, 1, whole); !isNoBytes(got, impl.ErrRange) {
			t.Errorf("key %d: %v", number, got)
		}
		if got := impl.OpenRecord(5, number, whole); !isNoBytes(got, impl.ErrRange) {
			t.Errorf("seq %d: %v", number, got)
		}
		turned := cloneRecord(whole)
		turned.Seq = number
		if got := impl.OpenRecord(5, number, turned); !isNoBytes(got, impl.ErrRange) {
			t.Errorf("seq %d of both: %v", number, got)
		}
	}
}

// Another number is told, whether the tag fits or not.
func TestOpenRecordOfOtherNumbers(t *testing.T) {
	for _, own := range someSums {
		whole := impl.SealData(5, own, 2, []byte("abc")).Record
		turned := cloneRecord(whole)
		turned.Tag = (turned.Tag + 1) % (largestSum + 1)
		for _, seq := range someSums {
			if seq == own {
				continue
			}
			if got := impl.OpenRecord(5, seq, whole); !isNoBytes(got, impl.ErrState) {
				t.Errorf("record %d opened as %d: %v", own, seq, got)
			}
			if got := impl.OpenRecord(5, seq, turned); !isNoBytes(got, impl.ErrState) {
				t.Errorf("turned record %d opened as %d: %v", own, seq, got)
			}
		}
	}
}

// Two numbers may have one sum by chance, so the tests ask for what the document's equations say of each.
func TestOpenRecordOfTurnedSeqs(t *testing.T) {
	whole := impl.SealData(5, 1, 2, []byte("abc")).Record
	for seq := range int64(largestSeq + 1) {
		turned := whole
		turned.Seq = seq
		if got, want := impl.OpenRecord(5, seq, turned), wantOpened(5, seq, turned); !isBytes(got, want) {
			t.Fatalf("a Seq of %d for 1: %v, not %v", seq, got, want)
		}
	}
	turned := whole
	turned.Seq = 2
	if got := impl.OpenRecord(5, 2, turned); !isNoBytes(got, impl.ErrSign) {
		t.Errorf("a Seq of 2 for 1: %v", got)
	}
}

func TestOpenRecordByOtherKeys(t *testing.T) {
	whole := impl.SealData(5, 1, 2, []byte("abc")).Record
	told := 0
	for key := int64(-2); key <= largestSum+20; key++ {
		want := wantOpened(key, 1, whole)
		if want.Code == impl.ErrSign {
			told++
		}
		if got := impl.OpenRecord(key, 1, whole); !isBytes(got, want) {
			t.Fatalf("opened by %d for 5: %v, not %v", key, got, want)
		}
	}
	if told < largestSum-100 {
		t.Errorf("%d other keys are told", told)
	}
	for _, key := range []int64{0, 4, 6, 32768, largestSum} {
		if got := impl.OpenRecord(key, 1, whole); !isNoBytes(got, impl.ErrSign) {
			t.Errorf("opened by %d for 5: %v", key, got)
		}
	}
	// 251 and 256 have one sum for each label, so what the one sealed the other one opens.
	if got := impl.OpenRecord(256, 1, impl.SealData(251, 1, 2, []byte("abc")).Record); got.Code != impl.OK || string(got.Bytes) != "abc" {
		t.Errorf("opened by 256 for 251: %v", got)
	}
}

// A Kind stands in the sum by one byte, so no other one has the same tag.
func TestOpenRecordOfTurnedKinds(t *testing.T) {
	for own := int64(1); own <= largestKind; own++ {
		whole := impl.SealData(5, 1, own, []byte("abc")).Record
		for kind := int64(-2); kind <= 300; kind++ {
			turned := whole
			turned.Kind = kind
			want := wantOpened(5, 1, turned)
			if kind >= 1 && kind <= largestKind && kind != own && want.Code != impl.ErrSign {
				t.Fatalf("a kind of %d for %d is to be told", kind, own)
			}
			if got := impl.OpenRecord(5, 1, turned); !isBytes(got, want) {
				t.Errorf("a kind of %d for %d: %v, not %v", kind, own, got, want)
			}
		}
	}
}

func TestOpenRecordOfTurnedData(t *testing.T) {
	told := 0
	for _, n := range []int{1, 2, 3, mostData} {
		whole := impl.SealData(5, 1, 2, mixedBytes(n)).Record
		for place := range n {
			for mask := 1; mask < 256; mask++ {
				turned := cloneRecord(whole)
				turned.Data[place] ^= byte(mask)
				want := wantOpened(5, 1, turned)
				if want.Code == impl.ErrSign {
					told++
				}
				if got := impl.OpenRecord(5, 1, turned); !isBytes(got, want) {
					t.Fatalf("byte %d of %d turned by %d: %v, not %v", place, n, mask, got, want)
				}
			}
		}
	}
	if told < 66*255-1000 {
		t.Errorf("%d turned bytes are told", told)
	}
	turned := cloneRecord(impl.SealData(5, 1, 2, []byte("abc")).Record)
	turned.Data[2] ^= 1
	if got := impl.OpenRecord(5, 1, turned); !isNoBytes(got, impl.ErrSign) {
		t.Errorf("the last bit turned: %v", got)
	}
}

func TestOpenRecordOfOtherLengths(t *testing.T) {
	whole := impl.SealData(5, 1, 2, mixedBytes(mostData)).Record
	for n := range mostData {
		turned := whole
		turned.Data = whole.Data[:n]
		if got, want := impl.OpenRecord(5, 1, turned), wantOpened(5, 1, turned); !isBytes(got, want) {
			t.Errorf("cut to %d bytes: %v, not %v", n, got, want)
		}
	}
	turned := whole
	turned.Data = append(slices.Clone(whole.Data), 0)
	if got := impl.OpenRecord(5, 1, turned); !isNoBytes(got, impl.ErrMany) {
		t.Errorf("one byte more: %v", got)
	}
	turned.Data = whole.Data[:mostData-1]
	if got := impl.OpenRecord(5, 1, turned); !isNoBytes(got, impl.ErrSign) {
		t.Errorf("one byte less: %v", got)
	}
}

func TestPackRecordWrittenOut(t *testing.T) {
	for _, c := range []struct {
		r    impl.Record
		want string
	}{
		{impl.Record{Seq: 258, Kind: 2, Data: []byte("abc"), Tag: 772}, "\x01\x02\x02\x03abc\x03\x04"},
		{impl.Record{Seq: 0, Kind: 1, Tag: 0}, "\x00\x00\x01\x00\x00\x00"},
		{impl.Record{Seq: 0, Kind: 1, Data: []byte{}, Tag: 0}, "\x00\x00\x01\x00\x00\x00"},
		{impl.Record{Seq: 65520, Kind: 9, Data: []byte{0, 255}, Tag: 65520}, "\xff\xf0\x09\x02\x00\xff\xff\xf0"},
		{impl.Record{Seq: 255, Kind: 3, Data: bytes.Repeat([]byte{7}, 60), Tag: 256}, "\x00\xff\x03\x3c" + string(bytes.Repeat([]byte{7}, 60)) + "\x01\x00"},
	} {
		if got := impl.PackRecord(c.r); got.Code != impl.OK || string(got.Bytes) != c.want {
			t.Errorf("PackRecord(%v): %v, not %q", c.r, got, c.want)
		}
		if got := impl.ReadRecord([]byte(c.want)); !isRecord(got, c.r) {
			t.Errorf("ReadRecord(%q): %v, not %v", c.want, got, c.r)
		}
	}
}

// checkRead asks what is read from the bytes of r, which may leave its bounds as far as bytes can.
func checkRead(t *testing.T, r impl.Record) {
	t.Helper()
	got := impl.ReadRecord(wantRecordBytes(r))
	if wantRecordFault(r) != impl.OK && !isNoRecord(got, impl.ErrText) || wantRecordFault(r) == impl.OK && !isRecord(got, r) {
		t.Fatalf("seq %d, kind %d, tag %d, %d bytes: %v", r.Seq, r.Kind, r.Tag, len(r.Data), got)
	}
}

func TestReadRecordOfEachNumber(t *testing.T) {
	for number := range int64(65536) {
		r := plainRecord()
		r.Seq = number
		checkRead(t, r)
		r = plainRecord()
		r.Tag = number
		checkRead(t, r)
		r.Seq, r.Data = number, nil
		checkRead(t, r)
	}
	for number := range 256 {
		r := plainRecord()
		r.Kind = int64(number)
		checkRead(t, r)
		r = plainRecord()
		r.Data = mixedBytes(number)
		checkRead(t, r)
	}
}

// Bytes are read where their number is just the one that they name, and at most 60.
func TestReadRecordOfEachNamedNumber(t *testing.T) {
	for named := range 256 {
		for n := range 270 {
			r := impl.Record{Seq: 258, Kind: 2, Data: mixedBytes(n), Tag: 772}
			data := wantRecordBytes(r)
			data[3] = byte(named)
			got := impl.ReadRecord(data)
			if named == n && n <= mostData {
				if !isRecord(got, r) {
					t.Fatalf("%d bytes: %v, not %v", n, got, r)
				}
			} else if !isNoRecord(got, impl.ErrText) {
				t.Fatalf("%d bytes that name %d: %v", n, named, got)
			}
		}
	}
}

func TestReadRecordOfOtherLengths(t *testing.T) {
	for _, n := range someLengths {
		packed := impl.PackRecord(impl.SealData(5, 1, 2, mixedBytes(n)).Record).Bytes
		if len(packed) != emptyPacked+n {
			t.Fatalf("%d bytes are packed in %d", n, len(packed))
		}
		for cut := range packed {
			if got := impl.ReadRecord(packed[:cut]); !isNoRecord(got, impl.ErrText) {
				t.Errorf("%d of %d bytes: %v", cut, len(packed), got)
			}
		}
		for more := 1; more <= 300; more++ {
			if got := impl.ReadRecord(append(slices.Clone(packed), make([]byte, more)...)); !isNoRecord(got, impl.ErrText) {
				t.Errorf("%d bytes behind %d: %v", more, len(packed), got)
			}
		}
	}
	for _, data := range [][]byte{nil, {}, {0}, {0, 0, 1}, {0, 0, 1, 0}, {0, 0, 1, 0, 0}, {0, 0, 1, 255, 0, 0}, make([]byte, 100000)} {
		if got := impl.ReadRecord(data); !isNoRecord(got, impl.ErrText) {
			t.Errorf("ReadRecord of %d bytes: %v", len(data), got)
		}
	}
}

// What is read is just what was packed: nothing else has those bytes.
func TestWhatIsReadIsPackedBack(t *testing.T) {
	read := 0
	for seed := range 40000 {
		data := mixedBytes(seed % 70)
		for i := range data {
			data[i] += byte(seed / 70 * (i + 1))
		}
		if len(data) > 3 {
			data[2] %= 12
			data[3] = byte(len(data) - emptyPacked + seed%3%2)
		}
		got := impl.ReadRecord(data)
		if got.Code != impl.OK {
			if !isNoRecord(got, impl.ErrText) {
				t.Fatalf("ReadRecord(%v): %v", data, got)
			}
			continue
		}
		read++
		if !isBytes(impl.PackRecord(got.Record), impl.BytesResult{Bytes: data}) {
			t.Fatalf("ReadRecord(%v): %v", data, got)
		}
	}
	if read < 1000 {
		t.Errorf("%d were read", read)
	}
}

// Records are compared field by field, those with a fault too.
func TestSameRecords(t *testing.T) {
	long := mixedBytes(100)
	list := []impl.Record{
		{},
		plainRecord(),
		{Seq: 259, Kind: 2, Data: []byte("abc"), Tag: 772},
		{Seq: 258, Kind: 3, Data: []byte("abc"), Tag: 772},
		{Seq: 258, Kind: 2, Data: []byte("abc"), Tag: 773},
		{Seq: 258, Kind: 2, Data: []byte("abd"), Tag: 772},
		{Seq: 258, Kind: 2, Data: []byte("bbc"), Tag: 772},
		{Seq: 258, Kind: 2, Data: []byte("ab"), Tag: 772},
		{Seq: 258, Kind: 2, Data: []byte("abcd"), Tag: 772},
		{Seq: 258, Kind: 2, Data: []byte("abc\x00"), Tag: 772},
		{Seq: 258, Kind: 2, Tag: 772},
		{Seq: 772, Kind: 2, Data: []byte("abc"), Tag: 258},
		{Seq: 1<<32 + 258, Kind: 2, Data: []byte("abc"), Tag: 772},
		{Seq: math.MinInt64, Kind: math.MaxInt64, Data: long, Tag: -1},
		{Seq: math.MinInt64, Kind: math.MaxInt64, Data: long[:99], Tag: -1},
		{Seq: math.MaxInt64, Kind: math.MinInt64, Data: long, Tag: -1},
	}
	for i, a := range list {
		for j, b := range list {
			if got := impl.SameRecords(a, cloneRecord(b)); got != (i == j) {
				t.Errorf("SameRecords(%v, %v): %v", a, b, got)
			}
		}
	}
	if !impl.SameRecords(impl.Record{Kind: 1, Data: nil}, impl.Record{Kind: 1, Data: []byte{}}) || !impl.SameRecords(impl.Record{Kind: 1, Data: []byte{}}, impl.Record{Kind: 1}) {
		t.Error("no bytes are told from nil")
	}
}

// Promise 5.
func TestWhatWasSealedIsOpened(t *testing.T) {
	for _, key := range someSums {
		for _, seq := range someSums {
			for _, kind := range []int64{1, 2, largestKind} {
				for _, n := range someLengths {
					data := mixedBytes(n)
					sealed := impl.SealData(key, seq, kind, data)
					if sealed.Code != impl.OK || impl.RecordFault(sealed.Record) != impl.OK || !isRecord(sealed, wantSealed(key, seq, kind, data)) {
						t.Fatalf("SealData(%d, %d, %d) of %d bytes: %v", key, seq, kind, n, sealed)
					}
					if got := impl.OpenRecord(key, seq, sealed.Record); got.Code != impl.OK || !bytes.Equal(got.Bytes, data) {
						t.Fatalf("OpenRecord(%d, %d) of %d bytes: %v", key, seq, n, got)
					}
					read := impl.ReadRecord(impl.PackRecord(sealed.Record).Bytes)
					if !isRecord(read, sealed.Record) || !impl.SameRecords(read.Record, sealed.Record) {
						t.Fatalf("%v is read back as %v", sealed, read)
					}
					if got := impl.OpenRecord(key, seq, read.Record); got.Code != impl.OK || !bytes.Equal(got.Bytes, data) {
						t.Fatalf("read back, %d bytes are opened as %v", n, got)
					}
				}
			}
		}
	}
}

// Promise 5.
func TestATurnedTagIsTold(t *testing.T) {
	for _, n := range []int{0, 3, mostData} {
		whole := impl.SealData(5, largestSeq, 2, mixedBytes(n)).Record
		for tag := int64(-2); tag <= 65536+2; tag++ {
			turned := whole
			turned.Tag = tag
			got := impl.OpenRecord(5, largestSeq, turned)
			switch {
			case tag == whole.Tag:
				if got.Code != impl.OK || !bytes.Equal(got.Bytes, mixedBytes(n)) {
					t.Errorf("its own tag: %v", got)
				}
			case isLargestOrLess(tag):
				if !isNoBytes(got, impl.ErrSign) {
					t.Fatalf("a tag of %d for %d: %v", tag, whole.Tag, got)
				}
			case !isNoBytes(got, impl.ErrRange):
				t.Errorf("a tag of %d, which is no sum: %v", tag, got)
			}
		}
	}
}

// Promise 5.
func TestARecordOfAnotherNumberIsTold(t *testing.T) {
	for _, own := range []int64{0, 1, 251, 256, largestSeq - 1, largestSeq} {
		whole := impl.SealData(5, own, 2, []byte("abc")).Record
		for seq := int64(-2); seq <= 65536+own+1; seq++ {
			got := impl.OpenRecord(5, seq, whole)
			switch {
			case seq == own:
				if got.Code != impl.OK || string(got.Bytes) != "abc" {
					t.Errorf("its own number %d: %v", own, got)
				}
			case seq >= 0 && seq <= largestSeq:
				if !isNoBytes(got, impl.ErrState) {
					t.Fatalf("%d for %d: %v", seq, own, got)
				}
			case !isNoBytes(got, impl.ErrRange):
				t.Errorf("%d, which is no number, for %d: %v", seq, own, got)
			}
		}
	}
}

// Promise 1: what stands ahead of or behind the bytes in their memory is not changed either.
func TestRecordsChangeNoArguments(t *testing.T) {
	memory := mixedBytes(200)
	for _, n := range []int{0, 1, 3, mostData, mostData + 1, 120} {
		impl.SealData(5, 1, 2, memory[20:20+n])
		r := impl.Record{Seq: 1, Kind: 2, Data: memory[20 : 20+n]}
		r.Tag = wantSealTag(5, r)
		impl.OpenRecord(5, 1, r)
		impl.OpenRecord(5, 2, r)
		impl.OpenRecord(6, 1, r)
		impl.RecordFault(r)
		impl.PackRecord(r)
		impl.SameRecords(r, r)
		if !bytes.Equal(memory, mixedBytes(200)) {
			t.Fatalf("%d bytes of an argument were changed", n)
		}
	}
	packed := slices.Concat(wantRecordBytes(plainRecord()), wantRecordBytes(plainRecord()))
	want := slices.Clone(packed)
	for from := range packed {
		for to := from; to <= len(packed); to++ {
			impl.ReadRecord(packed[from:to])
		}
	}
	if !bytes.Equal(packed, want) {
		t.Errorf("%v was changed to %v", want, packed)
	}
}

// spoil turns all bytes of a list, and those that its memory has room for behind it.
func spoil(list []byte) {
	whole := list[:cap(list)]
	for i := range whole {
		whole[i] ^= 255
	}
}

// Promise 1: an answer is spoilt, and the argument stays as it was.
func TestAnswersOfRecordsAreNewMemory(t *testing.T) {
	for _, n := range someLengths {
		data := mixedBytes(mostData + 40)
		spoil(impl.SealData(5, 1, 2, data[:n]).Record.Data)
		if !bytes.Equal(data, mixedBytes(mostData+40)) {
			t.Errorf("sealed data share the memory of %d bytes", n)
		}
		r := impl.Record{Seq: 1, Kind: 2, Data: data[:n]}
		r.Tag = wantSealTag(5, r)
		opened := impl.OpenRecord(5, 1, r)
		if opened.Code != impl.OK {
			t.Fatalf("OpenRecord of %d bytes: %v", n, opened)
		}
		spoil(opened.Bytes)
		spoil(impl.PackRecord(r).Bytes)
		if !bytes.Equal(data, mixedBytes(mostData+40)) {
			t.Errorf("opened or packed data share the memory of %d bytes", n)
		}
		packed := append(wantRecordBytes(r), 1, 2, 3)
		want := slices.Clone(packed)
		spoil(impl.ReadRecord(packed[:emptyPacked+n]).Record.Data)
		if !bytes.Equal(packed, want) {
			t.Errorf("a record that was read shares the memory of its bytes")
		}
	}
}

// Promise 1: the argument is spoilt, and the answer stays as it was.
func TestAnswersOfRecordsOutliveTheirArguments(t *testing.T) {
	data := []byte("abc")
	sealed := impl.SealData(5, 1, 2, data)
	spoil(data)
	want := wantSealed(5, 1, 2, []byte("abc"))
	if !isRecord(sealed, want) {
		t.Errorf("SealData: %v, not %v", sealed, want)
	}
	opened := impl.OpenRecord(5, 1, sealed.Record)
	packed := impl.PackRecord(sealed.Record)
	spoil(sealed.Record.Data)
	if string(opened.Bytes) != "abc" || !bytes.Equal(packed.Bytes, wantRecordBytes(want)) {
		t.Errorf("opened %v, packed %v", opened, packed)
	}
	read := impl.ReadRecord(packed.Bytes)
	spoil(packed.Bytes)
	if !isRecord(read, want) {
		t.Errorf("ReadRecord: %v, not %v", read, want)
	}
}

// Promise 1: no two answers share their memory.
func TestAnswersOfRecordsShareNothing(t *testing.T) {
	want := wantSealed(5, 1, 2, []byte("abc"))
	packed := wantRecordBytes(want)
	for range 3 {
		sealed := impl.SealData(5, 1, 2, []byte("abc"))
		opened := impl.OpenRecord(5, 1, want)
		read := impl.ReadRecord(packed)
		bytesOf := impl.PackRecord(want)
		if !isRecord(sealed, want) || string(opened.Bytes) != "abc" || !isRecord(read, want) || !bytes.Equal(bytesOf.Bytes, packed) {
			t.Errorf("sealed %v, opened %v, read %v, packed %v", sealed, opened, read, bytesOf)
		}
		spoil(sealed.Record.Data)
		spoil(opened.Bytes)
		spoil(read.Record.Data)
		spoil(bytesOf.Bytes)
	}
}

type recordAnswers struct {
	sealed, opened, fault, packed, read int64
	record, bytes, form, back           string
	tag                                 int64
	same                                bool
}

func askRecord(x int64, y int64, z int64) recordAnswers {
	data := mixedBytes(int(uint64(x^y) % 62))
	r := impl.Record{Seq: x, Kind: y, Data: data, Tag: z}
	sealed := impl.SealData(x, y, z, data)
	opened := impl.OpenRecord(x, y, sealed.Record)
	packed := impl.PackRecord(r)
	read := impl.ReadRecord(packed.Bytes)
	return recordAnswers{sealed.Code, opened.Code, impl.RecordFault(r), packed.Code, read.Code, string(sealed.Record.Data), string(opened.Bytes), string(packed.Bytes), string(read.Record.Data), sealed.Record.Tag, impl.SameRecords(r, sealed.Record)}
}

// Promise 1: the same arguments have the same answers, whatever was asked in between.
func TestRecordsHangOnTheirArgumentsAlone(t *testing.T) {
	numbers := slices.Concat(noSums, noKinds, someSums, []int64{3, 8, largestKind})
	first := map[[3]int64]recordAnswers{}
	for _, x := range numbers {
		for _, y := range numbers {
			for _, z := range numbers {
				first[[3]int64{x, y, z}] = askRecord(x, y, z)
			}
		}
	}
	for asked, want := range first {
		if got := askRecord(asked[0], asked[1], asked[2]); got != want {
			t.Errorf("%v: %v, then %v", asked, want, got)
		}
	}
}
