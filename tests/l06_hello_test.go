package tests

import (
	"bytes"
	"math"
	"slices"
	"strings"
	"testing"

	"loop.example/g00618/impl"
)

const (
	helloFirst  = 1
	replyFirst  = 2
	helloPacked = 5
	replyPacked = 13
	replyHeard  = 7
)

// somePublics has the least and the largest public number, and those where a byte is carried.
var somePublics = []int64{2, 3, impl.GroupBase, 64, 256, 720, 1024, largestPublic}

func isHelloNumbers(publics map[int64]bool, random int64, share int64) bool {
	return isLargestOrLess(random) && publics[share]
}

func wantHelloFault(publics map[int64]bool, h impl.Hello) int64 {
	switch {
	case !isHelloNumbers(publics, h.Random, h.Share):
		return impl.ErrRange
	case wantNameFault(h.Name) != impl.OK:
		return wantNameFault(h.Name)
	case wantNormal(h.Name) != h.Name:
		return impl.ErrForm
	}
	return impl.OK
}

func wantReplyFault(publics map[int64]bool, r impl.Reply) int64 {
	if !isHelloNumbers(publics, r.Random, r.Share) || !publics[r.Public] || !isLargestOrLess(r.Finish) || !publics[r.Sign.Point] || r.Sign.Proof < 0 || r.Sign.Proof > largestProof {
		return impl.ErrRange
	}
	return impl.OK
}

// twoBytes divides, where the program shifts.
func twoBytes(first byte, numbers ...int64) []byte {
	data := []byte{first}
	for _, number := range numbers {
		data = append(data, byte(number/256), byte(number%256))
	}
	return data
}

func wantHelloBytes(h impl.Hello) []byte {
	return append(twoBytes(helloFirst, h.Random, h.Share), h.Name...)
}

func wantReplyBytes(r impl.Reply) []byte {
	return twoBytes(replyFirst, r.Random, r.Share, r.Public, r.Sign.Point, r.Sign.Proof, r.Finish)
}

func wantHeardOf(publics map[int64]bool, h impl.Hello, r impl.Reply) impl.IntResult {
	if fault := wantHelloFault(publics, h); fault != impl.OK {
		return refusedBy(fault)
	}
	if fault := wantReplyFault(publics, r); fault != impl.OK {
		return refusedBy(fault)
	}
	return answered(wantHeard(wantHelloBytes(h), twoBytes(replyFirst, r.Random, r.Share, r.Public)))
}

func isHello(got impl.HelloResult, want impl.Hello) bool {
	return got == impl.HelloResult{Code: impl.OK, Hello: want}
}

func isNoHello(got impl.HelloResult) bool {
	return got == impl.HelloResult{Code: impl.ErrText}
}

func isReply(got impl.ReplyResult, want impl.Reply) bool {
	return got == impl.ReplyResult{Code: impl.OK, Reply: want}
}

func isNoReply(got impl.ReplyResult) bool {
	return got == impl.ReplyResult{Code: impl.ErrText}
}

// plainHello has no fault, and no two numbers alike.
func plainHello() impl.Hello {
	return impl.Hello{Random: 258, Share: 64, Name: "a.b"}
}

// plainReply has no fault, and no two numbers alike.
func plainReply() impl.Reply {
	return impl.Reply{Random: 772, Share: impl.GroupBase, Public: 16, Sign: impl.Signed{Point: 836, Proof: 245}, Finish: 1543}
}

// replyField is one of the numbers that a reply has, in the order of its bytes.
type replyField struct {
	name string
	of   func(*impl.Reply) *int64
	no   []int64
}

func replyFields() []replyField {
	return []replyField{
		{"Random", func(r *impl.Reply) *int64 { return &r.Random }, noSums},
		{"Share", func(r *impl.Reply) *int64 { return &r.Share }, noPoints},
		{"Public", func(r *impl.Reply) *int64 { return &r.Public }, noPoints},
		{"Point", func(r *impl.Reply) *int64 { return &r.Sign.Point }, noPoints},
		{"Proof", func(r *impl.Reply) *int64 { return &r.Sign.Proof }, noProofs},
		{"Finish", func(r *impl.Reply) *int64 { return &r.Finish }, noSums},
	}
}

func TestHelloFaultAtEveryEdge(t *testing.T) {
	publics := publicSet()
	names := slices.Concat([]string{"a", "abcdefghijklmnopqrst", "A", "a.", "", "-", "a..b"}, longNames[:6])
	for _, random := range slices.Concat(noSums, someSums) {
		for _, share := range slices.Concat(noPoints, somePublics) {
			for _, name := range names {
				h := impl.Hello{Random: random, Share: share, Name: name}
				if got, want := impl.HelloFault(h), wantHelloFault(publics, h); got != want {
					t.Fatalf("HelloFault(%v): %d, not %d", h, got, want)
				}
			}
		}
	}
	if got := impl.HelloFault(impl.Hello{}); got != impl.ErrRange {
		t.Errorf("the zero value: %d", got)
	}
}

func TestHelloFaultOfEachShare(t *testing.T) {
	publics := publicSet()
	for share := int64(-3); share <= 2*impl.GroupPrime+5; share++ {
		h := plainHello()
		h.Share = share
		want := int64(impl.ErrRange)
		if publics[share] {
			want = impl.OK
		}
		if got := impl.HelloFault(h); got != want {
			t.Errorf("a Share of %d: %d, not %d", share, got, want)
		}
	}
}

// A number that leaves its bounds is told ahead of whatever the name is told for.
func TestHelloFaultOfEachName(t *testing.T) {
	for _, c := range []struct {
		list []string
		code int64
	}{{normalNames, impl.OK}, {otherNames, impl.ErrForm}, {noNames, impl.ErrText}, {longNames, impl.ErrMany}} {
		for _, name := range c.list {
			for _, h := range []impl.Hello{plainHello(), {Random: 0, Share: 2}, {Random: largestSum, Share: largestPublic}} {
				h.Name = name
				if got := impl.HelloFault(h); got != c.code {
					t.Errorf("HelloFault(%v): %d, not %d", h, got, c.code)
				}
				if got := impl.PackHello(h); got.Code != c.code {
					t.Errorf("PackHello(%v): %v, not %d", h, got, c.code)
				}
			}
			for _, h := range []impl.Hello{{Random: -1, Share: 4}, {Random: largestSum + 1, Share: 4}, {Share: 1}, {Share: 0}, {Share: impl.GroupPrime}, {Random: math.MinInt64, Share: math.MaxInt64}} {
				h.Name = name
				if got := impl.HelloFault(h); got != impl.ErrRange {
					t.Errorf("HelloFault(%v): %d", h, got)
				}
			}
		}
	}
}

// faultyHellos has each field that does not fit by itself, and with others.
func faultyHellos() []impl.Hello {
	var list []impl.Hello
	add := func(random int64, share int64) {
		for _, name := range []string{"a.b", "A.b", "a.b.", "", "a..b", longNames[0], longNames[5]} {
			list = append(list, impl.Hello{Random: random, Share: share, Name: name})
		}
	}
	for _, random := range noSums {
		add(random, 64)
		add(random, random)
	}
	for _, share := range noPoints {
		add(258, share)
	}
	for _, name := range slices.Concat(otherNames, noNames, longNames) {
		h := plainHello()
		h.Name = name
		list = append(list, h)
	}
	return list
}

func TestFaultyHellosAreRefused(t *testing.T) {
	publics := publicSet()
	told := map[int64]int{}
	for _, h := range faultyHellos() {
		want := wantHelloFault(publics, h)
		told[want]++
		if got := impl.HelloFault(h); got != want || got == impl.OK {
			t.Errorf("HelloFault(%v): %d, not %d", h, got, want)
		}
		if got := impl.PackHello(h); !isNoBytes(got, want) {
			t.Errorf("PackHello(%v): %v, not %d", h, got, want)
		}
		if got := impl.HeardOf(h, plainReply()); got != refusedBy(want) {
			t.Errorf("HeardOf(%v): %v, not %d", h, got, want)
		}
	}
	for _, code := range []int64{impl.ErrMany, impl.ErrText, impl.ErrForm, impl.ErrRange} {
		if told[code] < 10 {
			t.Errorf("%d were told for %d", told[code], code)
		}
	}
}

func TestPackHelloWrittenOut(t *testing.T) {
	for _, c := range []struct {
		h    impl.Hello
		want string
	}{
		{impl.Hello{Random: 258, Share: 64, Name: "a.b"}, "\x01\x01\x02\x00\x40a.b"},
		{impl.Hello{Random: 0, Share: 2, Name: "a"}, "\x01\x00\x00\x00\x02a"},
		{impl.Hello{Random: 65520, Share: 2872, Name: "abcdefghij.klmnopqrs"}, "\x01\xff\xf0\x0b\x38abcdefghij.klmnopqrs"},
		{impl.Hello{Random: 7, Share: 4, Name: "srv.x"}, "\x01\x00\x07\x00\x04srv.x"},
		{impl.Hello{Random: 256, Share: 256, Name: "0-9"}, "\x01\x01\x00\x01\x000-9"},
		{impl.Hello{Random: 255, Share: 1024, Name: "12345678"}, "\x01\x00\xff\x04\x0012345678"},
	} {
		if got := impl.PackHello(c.h); got.Code != impl.OK || string(got.Bytes) != c.want {
			t.Errorf("PackHello(%v): %v, not %q", c.h, got, c.want)
		}
		if got := impl.ReadHello([]byte(c.want)); !isHello(got, c.h) {
			t.Errorf("ReadHello(%q): %v, not %v", c.want, got, c.h)
		}
	}
}

// checkReadHello asks what is read from the bytes of h, which may leave its bounds as far as bytes can.
func checkReadHello(t *testing.T, publics map[int64]bool, h impl.Hello) {
	t.Helper()
	got := impl.ReadHello(wantHelloBytes(h))
	fault := wantHelloFault(publics, h)
	if fault != impl.OK && !isNoHello(got) || fault == impl.OK && !isHello(got, h) {
		t.Fatalf("the bytes of %v are read as %v", h, got)
	}
}

func TestReadHelloOfEachNumber(t *testing.T) {
	publics := publicSet()
	for number := range int64(65536) {
		checkReadHello(t, publics, impl.Hello{Random: number, Share: 64, Name: "a.b"})
		checkReadHello(t, publics, impl.Hello{Random: 258, Share: number, Name: "a.b"})
	}
}

func TestReadHelloOfEachName(t *testing.T) {
	publics := publicSet()
	check := func(name string) {
		checkReadHello(t, publics, impl.Hello{Random: 258, Share: 64, Name: name})
	}
	for _, name := range allNames() {
		check(name)
	}
	eachName("aZ0-._", 5, check)
	for b := range 256 {
		for _, around := range [][2]string{{"", ""}, {"a", ""}, {"", "a"}, {"a", "a"}, {"a.", ".a"}} {
			check(around[0] + string([]byte{byte(b)}) + around[1])
		}
	}
}

func TestReadHelloOfOtherFirstBytes(t *testing.T) {
	for _, name := range []string{"a", "a.b", "12345678", "abcdefghij.klmnopqrs"} {
		h := plainHello()
		h.Name = name
		data := wantHelloBytes(h)
		for first := range 256 {
			data[0] = byte(first)
			got := impl.ReadHello(data)
			if first == helloFirst && !isHello(got, h) || first != helloFirst && !isNoHello(got) {
				t.Errorf("%q behind %d: %v", name, first, got)
			}
		}
	}
}

func TestReadHelloOfOtherLengths(t *testing.T) {
	publics := publicSet()
	for _, name := range []string{"a", "a.b", "a-b.c-d", "abcdefghij.klmnopqrs"} {
		packed := wantHelloBytes(impl.Hello{Random: 258, Share: 64, Name: name})
		for cut := range packed {
			if cut <= helloPacked {
				if got := impl.ReadHello(packed[:cut]); !isNoHello(got) {
					t.Errorf("%d of %d bytes: %v", cut, len(packed), got)
				}
				continue
			}
			checkReadHello(t, publics, impl.Hello{Random: 258, Share: 64, Name: name[:cut-helloPacked]})
		}
		for more := longestName - len(name) + 1; more <= 300; more++ {
			if got := impl.ReadHello(append(slices.Clone(packed), bytes.Repeat([]byte("a"), more)...)); !isNoHello(got) {
				t.Errorf("%d bytes behind %q: %v", more, name, got)
			}
		}
		if got := impl.ReadHello(packed[1:]); !isNoHello(got) {
			t.Errorf("without the first byte: %v", got)
		}
		if got := impl.ReadHello(append([]byte{0}, packed...)); !isNoHello(got) {
			t.Errorf("with a byte ahead: %v", got)
		}
	}
	for _, data := range [][]byte{nil, {}, {0}, {1}, {2}, {1, 1}, {1, 1, 2}, {1, 1, 2, 0}, {1, 1, 2, 0, 64}, {1, 'a'}, []byte("xy"), []byte("\x01\x01\x02\x00\x40\x00"), []byte("\x01\x01\x02\x00\x40a.b\x00"), make([]byte, 6), bytes.Repeat([]byte{1}, 100000)} {
		if got := impl.ReadHello(data); !isNoHello(got) {
			t.Errorf("ReadHello of %d bytes: %v", len(data), got)
		}
	}
}

func TestReplyFaultAtEveryEdge(t *testing.T) {
	publics := publicSet()
	var numbers []int64
	for _, field := range replyFields() {
		numbers = append(numbers, field.no...)
	}
	numbers = slices.Concat(numbers, someSums, somePublics, []int64{0, 1, largestProof - 1, largestProof})
	for _, field := range replyFields() {
		taken := 0
		for _, number := range numbers {
			r := plainReply()
			*field.of(&r) = number
			want := wantReplyFault(publics, r)
			if want == impl.OK {
				taken++
			}
			if got := impl.ReplyFault(r); got != want {
				t.Errorf("%s %d: %d, not %d", field.name, number, got, want)
			}
		}
		if taken < 2 {
			t.Errorf("%d of %s were taken", taken, field.name)
		}
	}
	if got := impl.ReplyFault(impl.Reply{}); got != impl.ErrRange {
		t.Errorf("the zero value: %d", got)
	}
}

func TestReplyFaultOfEachPublic(t *testing.T) {
	publics := publicSet()
	for number := int64(-3); number <= 2*impl.GroupPrime+5; number++ {
		for _, field := range replyFields() {
			r := plainReply()
			*field.of(&r) = number
			if got, want := impl.ReplyFault(r), wantReplyFault(publics, r); got != want {
				t.Errorf("%s %d: %d, not %d", field.name, number, got, want)
			}
		}
	}
}

// faultyReplies has each field that does not fit by itself, and each two of them in one.
func faultyReplies() []impl.Reply {
	list := []impl.Reply{{}}
	fields := replyFields()
	for i, field := range fields {
		for _, number := range field.no {
			r := plainReply()
			*field.of(&r) = number
			list = append(list, r)
			for _, other := range fields[i+1:] {
				both := r
				*other.of(&both) = other.no[0]
				list = append(list, both)
			}
		}
	}
	return list
}

func TestFaultyRepliesAreRefused(t *testing.T) {
	for _, r := range faultyReplies() {
		if got := impl.ReplyFault(r); got != impl.ErrRange {
			t.Errorf("ReplyFault(%v): %d", r, got)
		}
		if got := impl.PackReply(r); !isNoBytes(got, impl.ErrRange) {
			t.Errorf("PackReply(%v): %v", r, got)
		}
		if got := impl.HeardOf(plainHello(), r); got != refusedBy(impl.ErrRange) {
			t.Errorf("HeardOf(%v): %v", r, got)
		}
	}
}

func TestPackReplyWrittenOut(t *testing.T) {
	for _, c := range []struct {
		r    impl.Reply
		want string
	}{
		{impl.Reply{Random: 1, Share: 4, Public: 16, Sign: impl.Signed{Point: 836, Proof: 245}, Finish: 7}, "\x02\x00\x01\x00\x04\x00\x10\x03\x44\x00\xf5\x00\x07"},
		{impl.Reply{Random: 0, Share: 2, Public: 2, Sign: impl.Signed{Point: 2, Proof: 0}, Finish: 0}, "\x02\x00\x00\x00\x02\x00\x02\x00\x02\x00\x00\x00\x00"},
		{impl.Reply{Random: 65520, Share: 2872, Public: 2872, Sign: impl.Signed{Point: 2872, Proof: 1438}, Finish: 65520}, "\x02\xff\xf0\x0b\x38\x0b\x38\x0b\x38\x05\x9e\xff\xf0"},
		{impl.Reply{Random: 7, Share: 64, Public: 4, Sign: impl.Signed{Point: 807, Proof: 245}, Finish: 258}, "\x02\x00\x07\x00\x40\x00\x04\x03\x27\x00\xf5\x01\x02"},
		{impl.Reply{Random: 255, Share: 256, Public: 1024, Sign: impl.Signed{Point: 256, Proof: 255}, Finish: 256}, "\x02\x00\xff\x01\x00\x04\x00\x01\x00\x00\xff\x01\x00"},
	} {
		if got := impl.PackReply(c.r); got.Code != impl.OK || string(got.Bytes) != c.want {
			t.Errorf("PackReply(%v): %v, not %q", c.r, got, c.want)
		}
		if got := impl.ReadReply([]byte(c.want)); !isReply(got, c.r) {
			t.Errorf("ReadReply(%q): %v, not %v", c.want, got, c.r)
		}
	}
}

// The bytes of a signature stand in a reply as they stand alone.
func TestPackReplyHasThePackSign(t *testing.T) {
	for _, secret := range someSecrets {
		for _, sum := range someSums {
			r := plainReply()
			r.Sign = impl.SignSum(secret, sum).Sign
			packed := impl.PackReply(r)
			if packed.Code != impl.OK || len(packed.Bytes) != replyPacked || !bytes.Equal(packed.Bytes[replyHeard:replyHeard+4], impl.PackSign(r.Sign).Bytes) {
				t.Errorf("PackReply(%v): %v", r, packed)
			}
		}
	}
}

// Each number of a reply goes through all that its two bytes can tell.
func TestReadReplyOfEachNumber(t *testing.T) {
	publics := publicSet()
	for _, field := range replyFields() {
		for number := range int64(65536) {
			r := plainReply()
			*field.of(&r) = number
			got := impl.ReadReply(wantReplyBytes(r))
			fault := wantReplyFault(publics, r)
			if fault != impl.OK && !isNoReply(got) || fault == impl.OK && !isReply(got, r) {
				t.Fatalf("the bytes of %v are read as %v", r, got)
			}
		}
	}
}

func TestReadReplyOfOtherFirstBytes(t *testing.T) {
	data := wantReplyBytes(plainReply())
	for first := range 256 {
		data[0] = byte(first)
		got := impl.ReadReply(data)
		if first == replyFirst && !isReply(got, plainReply()) || first != replyFirst && !isNoReply(got) {
			t.Errorf("behind %d: %v", first, got)
		}
	}
}

func TestReadReplyOfOtherLengths(t *testing.T) {
	packed := wantReplyBytes(plainReply())
	if len(packed) != replyPacked {
		t.Fatalf("a reply is packed in %d bytes", len(packed))
	}
	for cut := range packed {
		if got := impl.ReadReply(packed[:cut]); !isNoReply(got) {
			t.Errorf("the first %d bytes: %v", cut, got)
		}
		if got := impl.ReadReply(packed[cut+1:]); !isNoReply(got) {
			t.Errorf("without the first %d bytes: %v", cut+1, got)
		}
		if got := impl.ReadReply(slices.Delete(slices.Clone(packed), cut, cut+1)); !isNoReply(got) {
			t.Errorf("without the byte of number %d: %v", cut, got)
		}
		if got := impl.ReadReply(slices.Insert(slices.Clone(packed), cut, 0)); !isNoReply(got) {
			t.Errorf("with a byte ahead of number %d: %v", cut, got)
		}
	}
	for more := 1; more <= 300; more++ {
		for _, b := range []byte{0, 2, 'a', 255} {
			if got := impl.ReadReply(append(slices.Clone(packed), bytes.Repeat([]byte{b}, more)...)); !isNoReply(got) {
				t.Errorf("%d bytes behind it: %v", more, got)
			}
		}
	}
	for _, data := range [][]byte{nil, {}, {0}, {1}, {2}, []byte("xy"), make([]byte, replyPacked), bytes.Repeat([]byte{2}, 100000), bytes.Repeat(packed, 2), bytes.Repeat(packed, 1000)} {
		if got := impl.ReadReply(data); !isNoReply(got) {
			t.Errorf("ReadReply of %d bytes: %v", len(data), got)
		}
	}
}

// A hello of as many bytes as a reply has is still none, and no reply is a hello.
func TestOneWordIsNotTheOther(t *testing.T) {
	for _, name := range normalNames {
		h := plainHello()
		h.Name = name
		packed := impl.PackHello(h).Bytes
		if got := impl.ReadReply(packed); !isNoReply(got) {
			t.Errorf("the hello %v is read as %v", h, got)
		}
	}
	for _, random := range someSums {
		for _, share := range somePublics {
			r := plainReply()
			r.Random, r.Share = random, share
			if got := impl.ReadHello(impl.PackReply(r).Bytes); !isNoHello(got) {
				t.Errorf("the reply %v is read as %v", r, got)
			}
		}
	}
}

func TestHeardOfWrittenOut(t *testing.T) {
	for _, c := range []struct {
		h    impl.Hello
		r    impl.Reply
		want int64
	}{
		{impl.Hello{Random: 258, Share: 64, Name: "a.b"}, impl.Reply{Random: 1, Share: 4, Public: 16, Sign: impl.Signed{Point: 836, Proof: 245}, Finish: 7}, 43182},
		{impl.Hello{Random: 0, Share: 2, Name: "a"}, impl.Reply{Random: 0, Share: 2, Public: 2, Sign: impl.Signed{Point: 2, Proof: 0}, Finish: 0}, 26177},
		{impl.Hello{Random: 65520, Share: 2872, Name: "abcdefghij.klmnopqrs"}, impl.Reply{Random: 65520, Share: 2872, Public: 2872, Sign: impl.Signed{Point: 2872, Proof: 1438}, Finish: 65520}, 63632},
		{impl.Hello{Random: 7, Share: 4, Name: "srv.x"}, impl.Reply{Random: 7, Share: 64, Public: 4, Sign: impl.Signed{Point: 807, Proof: 245}, Finish: 258}, 43509},
		{impl.Hello{Random: 256, Share: 256, Name: "0-9"}, impl.Reply{Random: 255, Share: 256, Public: 1024, Sign: impl.Signed{Point: 256, Proof: 255}, Finish: 256}, 4942},
	} {
		if got := impl.HeardOf(c.h, c.r); got != answered(c.want) {
			t.Errorf("HeardOf(%v, %v): %v, not %d", c.h, c.r, got, c.want)
		}
	}
}

func TestHeardOfEachWord(t *testing.T) {
	publics := publicSet()
	for _, random := range someSums {
		for _, share := range somePublics {
			for _, name := range normalNames {
				h := impl.Hello{Random: random, Share: share, Name: name}
				for _, public := range somePublics {
					r := plainReply()
					r.Random, r.Share, r.Public = largestSum-random, public, share
					got := impl.HeardOf(h, r)
					if got != wantHeardOf(publics, h, r) || got != impl.Transcript([][]byte{impl.PackHello(h).Bytes, impl.PackReply(r).Bytes[:7]}) {
						t.Fatalf("HeardOf(%v, %v): %v, not %v", h, r, got, wantHeardOf(publics, h, r))
					}
				}
			}
		}
	}
}

// What a reply says behind its first seven bytes is not heard; all that stands ahead of that is.
func TestHeardOfTurnedWords(t *testing.T) {
	publics := publicSet()
	want := wantHeardOf(publics, plainHello(), plainReply())
	for _, point := range somePublics {
		for _, proof := range []int64{0, 1, largestProof} {
			for _, finish := range someSums {
				r := plainReply()
				r.Sign, r.Finish = impl.Signed{Point: point, Proof: proof}, finish
				if got := impl.HeardOf(plainHello(), r); got != want {
					t.Fatalf("HeardOf of %v: %v, not %v", r, got, want)
				}
			}
		}
	}
	turned := []func(h *impl.Hello, r *impl.Reply){
		func(h *impl.Hello, r *impl.Reply) { h.Random++ },
		func(h *impl.Hello, r *impl.Reply) { h.Share = 256 },
		func(h *impl.Hello, r *impl.Reply) { h.Name = "a.c" },
		func(h *impl.Hello, r *impl.Reply) { r.Random++ },
		func(h *impl.Hello, r *impl.Reply) { r.Share = 256 },
		func(h *impl.Hello, r *impl.Reply) { r.Public = 256 },
		func(h *impl.Hello, r *impl.Reply) { h.Random, r.Random = r.Random, h.Random },
		func(h *impl.Hello, r *impl.Reply) { h.Share, r.Share = r.Share, h.Share },
		func(h *impl.Hello, r *impl.Reply) { r.Share, r.Public = r.Public, r.Share },
	}
	for i, turn := range turned {
		h, r := plainHello(), plainReply()
		turn(&h, &r)
		if got := impl.HeardOf(h, r); got == want || got != wantHeardOf(publics, h, r) {
			t.Errorf("number %d: %v, not %v", i, got, wantHeardOf(publics, h, r))
		}
	}
}

// The fault of the hello is told ahead of that of the reply.
func TestHeardOfTellsTheHelloFirst(t *testing.T) {
	publics := publicSet()
	told := map[int64]int{}
	replies := faultyReplies()
	for i, h := range faultyHellos() {
		want := wantHelloFault(publics, h)
		told[want]++
		for _, r := range []impl.Reply{replies[0], replies[i%len(replies)], replies[len(replies)-1]} {
			if got := impl.HeardOf(h, r); got != refusedBy(want) {
				t.Errorf("HeardOf(%v, %v): %v, not %d", h, r, got, want)
			}
		}
	}
	for _, code := range []int64{impl.ErrMany, impl.ErrText, impl.ErrForm, impl.ErrRange} {
		if told[code] < 10 {
			t.Errorf("%d were told for %d", told[code], code)
		}
	}
	if got := impl.HeardOf(impl.Hello{}, impl.Reply{}); got != refusedBy(impl.ErrRange) {
		t.Errorf("of the zero values: %v", got)
	}
}

// Promise 7.
func TestAHelloIsReadBackFromItsBytes(t *testing.T) {
	for _, random := range someSums {
		for _, share := range publicNumbers() {
			for _, name := range normalNames {
				h := impl.Hello{Random: random, Share: share, Name: name}
				packed := impl.PackHello(h)
				if packed.Code != impl.OK || !isHello(impl.ReadHello(packed.Bytes), h) {
					t.Fatalf("%v is packed as %v and read back as %v", h, packed, impl.ReadHello(packed.Bytes))
				}
			}
		}
	}
}

// Promise 7.
func TestAReplyIsReadBackFromItsBytes(t *testing.T) {
	for _, random := range someSums {
		for _, share := range publicNumbers() {
			for _, proof := range []int64{0, 1, 255, 256, largestProof} {
				r := impl.Reply{Random: random, Share: share, Public: 2, Sign: impl.Signed{Point: largestPublic, Proof: proof}, Finish: largestSum - random}
				for range 3 {
					packed := impl.PackReply(r)
					if packed.Code != impl.OK || !isReply(impl.ReadReply(packed.Bytes), r) {
						t.Fatalf("%v is packed as %v and read back as %v", r, packed, impl.ReadReply(packed.Bytes))
					}
					r.Share, r.Public, r.Sign.Point = r.Public, r.Sign.Point, r.Share
				}
			}
		}
	}
}

// Promise 7: a byte that is turned makes another word, or none.
func TestThereIsOneWayToWriteAWord(t *testing.T) {
	hello, reply := impl.PackHello(plainHello()).Bytes, impl.PackReply(plainReply()).Bytes
	turned := func(data []byte, tell func([]byte)) {
		for place := range data {
			for mask := 1; mask < 256; mask++ {
				other := slices.Clone(data)
				other[place] ^= byte(mask)
				tell(other)
			}
		}
	}
	others := 0
	turned(hello, func(data []byte) {
		got := impl.ReadHello(data)
		if got.Code == impl.OK {
			others++
		}
		if got.Hello == plainHello() || got.Code == impl.OK && !isBytes(impl.PackHello(got.Hello), impl.BytesResult{Bytes: data}) {
			t.Errorf("%v is read as %v", data, got)
		}
	})
	turned(reply, func(data []byte) {
		got := impl.ReadReply(data)
		if got.Code == impl.OK {
			others++
		}
		if got.Reply == plainReply() || got.Code == impl.OK && !isBytes(impl.PackReply(got.Reply), impl.BytesResult{Bytes: data}) {
			t.Errorf("%v is read as %v", data, got)
		}
	})
	if others < 1000 {
		t.Errorf("%d were other words", others)
	}
}

// Promise 7: a name that is not normal would be a second way to write one that is.
func TestThereIsOneWayToWriteTheNameOfAHello(t *testing.T) {
	for _, name := range normalNames {
		data := wantHelloBytes(impl.Hello{Random: 258, Share: 64, Name: name})
		for _, other := range []string{strings.ToUpper(name), name + ".", strings.ToUpper(name[:1]) + name[1:], name + "\x00", name + " "} {
			if other == name {
				continue
			}
			if got := impl.ReadHello(append(slices.Clone(data[:helloPacked]), other...)); !isNoHello(got) {
				t.Errorf("%q is read as %v", other, got)
			}
		}
	}
}

// Promise 7: what is read is just what was packed, be the bytes whatever they are.
func TestWordsThatAreReadArePackedBack(t *testing.T) {
	letters := []byte("abz09-.AZ_")
	hellos, replies := 0, 0
	for seed := range 200000 {
		data := mixedBytes(seed % 30)
		for i := range data {
			data[i] += byte(seed / 30 * (i + 1))
			switch {
			case i == 0:
				data[i] = byte(seed / 30 % 3)
			case i == 3 || i == 5 && data[0] == replyFirst || i == 7 || i == 9:
				data[i] %= 12
			}
			if i >= helloPacked && data[0] != replyFirst {
				data[i] = letters[int(data[i])%(6+seed%5)]
			}
		}
		hello, reply := impl.ReadHello(data), impl.ReadReply(data)
		switch {
		case hello.Code == impl.OK && isNoReply(reply):
			hellos++
			if !isBytes(impl.PackHello(hello.Hello), impl.BytesResult{Bytes: data}) {
				t.Fatalf("ReadHello(%v): %v", data, hello)
			}
		case reply.Code == impl.OK && isNoHello(hello):
			replies++
			if !isBytes(impl.PackReply(reply.Reply), impl.BytesResult{Bytes: data}) {
				t.Fatalf("ReadReply(%v): %v", data, reply)
			}
		case !isNoHello(hello) || !isNoReply(reply):
			t.Fatalf("%v is read as %v and %v", data, hello, reply)
		}
	}
	if hellos < 500 || replies < 50 {
		t.Errorf("%d hellos and %d replies were read", hellos, replies)
	}
}

// Promise 1: what stands ahead of or behind the bytes in their memory is not changed either.
func TestReadingWordsChangesNoArguments(t *testing.T) {
	packed := slices.Concat(wantHelloBytes(plainHello()), wantReplyBytes(plainReply()), []byte("A.B."), wantReplyBytes(impl.Reply{}), wantHelloBytes(impl.Hello{Share: 4, Name: "A."}))
	want := slices.Clone(packed)
	for from := range packed {
		for to := from; to <= len(packed); to++ {
			impl.ReadHello(packed[from:to])
			impl.ReadReply(packed[from:to])
		}
	}
	if !bytes.Equal(packed, want) {
		t.Errorf("%v was changed to %v", want, packed)
	}
}

// Promise 1: the bytes that a word was read from are spoilt, and the word stays as it was.
func TestWordsOutliveTheirBytes(t *testing.T) {
	for _, name := range normalNames {
		h := plainHello()
		h.Name = name
		data := wantHelloBytes(h)
		read := impl.ReadHello(data)
		spoil(data)
		if !isHello(read, h) {
			t.Errorf("ReadHello: %v, not %v", read, h)
		}
	}
	data := wantReplyBytes(plainReply())
	read := impl.ReadReply(data)
	spoil(data)
	if !isReply(read, plainReply()) {
		t.Errorf("ReadReply: %v, not %v", read, plainReply())
	}
}

// Promise 1: no two answers share their memory.
func TestPackedWordsAreNewMemory(t *testing.T) {
	for _, name := range normalNames {
		h := plainHello()
		h.Name = name
		for range 3 {
			hello, reply := impl.PackHello(h), impl.PackReply(plainReply())
			again, back := impl.PackHello(h), impl.PackReply(plainReply())
			spoil(hello.Bytes)
			spoil(reply.Bytes)
			if !isBytes(again, impl.BytesResult{Bytes: wantHelloBytes(h)}) || !isBytes(back, impl.BytesResult{Bytes: wantReplyBytes(plainReply())}) {
				t.Errorf("behind spoilt answers: %v and %v", again, back)
			}
		}
		if h.Name != name {
			t.Errorf("%q was changed to %q", name, h.Name)
		}
	}
}

type wordAnswers struct {
	hello, reply, packed, answer int64
	form, back                   string
	heard                        impl.IntResult
	said                         impl.HelloResult
	replied                      impl.ReplyResult
}

func askWords(name string, x int64, y int64) wordAnswers {
	h := impl.Hello{Random: x, Share: y, Name: name}
	r := impl.Reply{Random: y, Share: x, Public: y, Sign: impl.Signed{Point: y, Proof: x}, Finish: x}
	packed, answer := impl.PackHello(h), impl.PackReply(r)
	return wordAnswers{impl.HelloFault(h), impl.ReplyFault(r), packed.Code, answer.Code, string(packed.Bytes), string(answer.Bytes), impl.HeardOf(h, r), impl.ReadHello(packed.Bytes), impl.ReadReply(answer.Bytes)}
}

// Promise 1: the same arguments have the same answers, whatever was asked in between.
func TestWordsHangOnTheirArgumentsAlone(t *testing.T) {
	type asking struct {
		name string
		x, y int64
	}
	first := map[asking]wordAnswers{}
	numbers := slices.Concat(noSums, noPoints, someSums, somePublics)
	read := 0
	for _, name := range slices.Concat(normalNames[:6], otherNames[:6], noNames[:6], longNames[:6]) {
		for _, x := range numbers {
			for _, y := range numbers {
				got := askWords(name, x, y)
				first[asking{name, x, y}] = got
				if got.heard.Code == impl.OK {
					read++
				}
			}
		}
	}
	for asked, want := range first {
		if got := askWords(asked.name, asked.x, asked.y); got != want {
			t.Errorf("%v: %v, then %v", asked, want, got)
		}
	}
	if read == 0 {
		t.Error("nothing was heard")
	}
}
