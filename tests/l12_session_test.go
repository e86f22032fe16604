package tests

import (
	"bytes"
	"math"
	"slices"
	"testing"

	"loop.example/g00618/impl"
)

const largestTurn = 999

// noTurns lie just outside the numbers of a session's records, at the ends of an int64, and where one would be if an int64 were cut short.
var noTurns = []int64{math.MinInt64, math.MinInt64 + 1, -1<<32 + 5, -1 << 32, -65536, -largestTurn - 1, -largestTurn, -2, -1, largestTurn + 1, largestTurn + 2, 1024, largestSum, 65536, 65536 + largestTurn, 1 << 32, 1<<32 + 5, math.MaxInt64 - 1, math.MaxInt64}

var someTurns = []int64{0, 1, 2, 255, 256, 500, largestTurn - 1, largestTurn}

// noSaidKinds are those that a record may have and a session has no use for.
var noSaidKinds = []int64{4, 5, 6, 7, 8, 9}

// saidKinds are those of a session.
var saidKinds = []int64{1, 2, 3}

// mirror is the session that is a pair with x, if x has no fault.
func mirror(x impl.Session) impl.Session {
	return impl.Session{SendKey: x.RecvKey, RecvKey: x.SendKey, SendSeq: x.RecvSeq, RecvSeq: x.SendSeq, SendOff: x.RecvOff, RecvOff: x.SendOff}
}

func isTurn(v int64) bool {
	return v >= 0 && v <= largestTurn
}

func wantSessionFault(x impl.Session) int64 {
	if isLargestOrLess(x.SendKey) && isLargestOrLess(x.RecvKey) && isTurn(x.SendSeq) && isTurn(x.RecvSeq) {
		return impl.OK
	}
	return impl.ErrRange
}

func wantSession(publics map[int64]bool, k impl.Keys, client bool) impl.SessionResult {
	if !isLargestOrLess(k.Up) || !isLargestOrLess(k.Down) || !isLargestOrLess(k.Heard) || !publics[k.Key] {
		return impl.SessionResult{Code: impl.ErrRange}
	}
	own := impl.Session{SendKey: k.Up, RecvKey: k.Down}
	if !client {
		own = mirror(own)
	}
	return impl.SessionResult{Session: own}
}

// wantSentBehind is x behind a record of kind that it sent.
func wantSentBehind(x impl.Session, kind int64) impl.Session {
	behind := map[int64]impl.Session{
		1: {SendKey: x.SendKey, SendSeq: x.SendSeq + 1},
		2: {SendKey: wantTag("next", x.SendKey)},
		3: {SendKey: x.SendKey, SendSeq: x.SendSeq, SendOff: true},
	}[kind]
	behind.RecvKey, behind.RecvSeq, behind.RecvOff = x.RecvKey, x.RecvSeq, x.RecvOff
	return behind
}

func isNoSaid(kind int64, data []byte) bool {
	return !slices.Contains(saidKinds, kind) || kind != 1 && len(data) > 0
}

func wantSent(x impl.Session, kind int64, data []byte) impl.SessionResult {
	fault := wantSessionFault(x)
	code := firstOf(
		reason{fault != impl.OK, fault},
		reason{x.SendOff, impl.ErrState},
		reason{isNoSaid(kind, data), impl.ErrForm},
		reason{len(data) > mostData, impl.ErrMany},
		reason{kind == 1 && x.SendSeq == largestTurn, impl.ErrFull},
	)
	if code != impl.OK {
		return impl.SessionResult{Code: code}
	}
	return impl.SessionResult{Record: wantSealed(x.SendKey, x.SendSeq, kind, data), Session: wantSentBehind(x, kind)}
}

func wantTook(x impl.Session, r impl.Record) impl.SessionResult {
	fault := wantSessionFault(x)
	if code := firstOf(reason{fault != impl.OK, fault}, reason{x.RecvOff, impl.ErrState}); code != impl.OK {
		return impl.SessionResult{Code: code}
	}
	opened := wantOpened(x.RecvKey, x.RecvSeq, r)
	code := firstOf(
		reason{opened.Code != impl.OK, opened.Code},
		reason{isNoSaid(r.Kind, opened.Bytes), impl.ErrForm},
		reason{r.Kind == 1 && x.RecvSeq == largestTurn, impl.ErrForm},
	)
	if code != impl.OK {
		return impl.SessionResult{Code: code}
	}
	return impl.SessionResult{Kind: r.Kind, Data: opened.Bytes, Session: mirror(wantSentBehind(mirror(x), r.Kind))}
}

func wantPaired(a impl.Session, b impl.Session) bool {
	return wantSessionFault(a) == impl.OK && mirror(a) == b
}

func isSession(got impl.SessionResult, want impl.SessionResult) bool {
	return got.Code == want.Code && got.Kind == want.Kind && bytes.Equal(got.Data, want.Data) && equalRecords(got.Record, want.Record) && got.Session == want.Session
}

func isNoSession(got impl.SessionResult, code int64) bool {
	return isSession(got, impl.SessionResult{Code: code})
}

func checkSession(t *testing.T, x impl.Session) int64 {
	t.Helper()
	got, want := impl.SessionFault(x), wantSessionFault(x)
	if got != want {
		t.Fatalf("SessionFault(%v): %d, not %d", x, got, want)
	}
	return got
}

func checkNewSession(t *testing.T, publics map[int64]bool, k impl.Keys) int64 {
	t.Helper()
	for _, client := range []bool{true, false} {
		if got, want := impl.NewSession(k, client), wantSession(publics, k, client); !isSession(got, want) {
			t.Fatalf("NewSession(%v, %v): %v, not %v", k, client, got, want)
		}
	}
	return impl.NewSession(k, true).Code
}

func checkSent(t *testing.T, x impl.Session, kind int64, data []byte) impl.SessionResult {
	t.Helper()
	got, want := impl.SendRecord(x, kind, data), wantSent(x, kind, data)
	if !isSession(got, want) {
		t.Fatalf("SendRecord(%v, %d, %q): %v, not %v", x, kind, data, got, want)
	}
	return got
}

func checkTook(t *testing.T, x impl.Session, r impl.Record) impl.SessionResult {
	t.Helper()
	got, want := impl.TakeRecord(x, r), wantTook(x, r)
	if !isSession(got, want) {
		t.Fatalf("TakeRecord(%v, %v): %v, not %v", x, r, got, want)
	}
	return got
}

func checkPaired(t *testing.T, a impl.Session, b impl.Session) bool {
	t.Helper()
	got, want := impl.IsPaired(a, b), wantPaired(a, b)
	if got != want {
		t.Fatalf("IsPaired(%v, %v): %v, not %v", a, b, got, want)
	}
	return got
}

// plainSession has no fault, and no two of its numbers are alike.
func plainSession() impl.Session {
	return impl.Session{SendKey: 5, RecvKey: 6, SendSeq: 3, RecvSeq: 7}
}

// plainKeys have no fault, and no two of their numbers are alike.
func plainKeys() impl.Keys {
	return impl.Keys{Up: 309, Down: 31438, Heard: 65270, Key: 1989}
}

type sessionField struct {
	name string
	of   func(*impl.Session) *int64
	no   []int64
	some []int64
}

func sessionFields() []sessionField {
	return []sessionField{
		{"SendKey", func(x *impl.Session) *int64 { return &x.SendKey }, noSums, someSums},
		{"RecvKey", func(x *impl.Session) *int64 { return &x.RecvKey }, noSums, someSums},
		{"SendSeq", func(x *impl.Session) *int64 { return &x.SendSeq }, noTurns, someTurns},
		{"RecvSeq", func(x *impl.Session) *int64 { return &x.RecvSeq }, noTurns, someTurns},
	}
}

// eachOff tells x with each of its sides open and closed.
func eachOff(x impl.Session) []impl.Session {
	var list []impl.Session
	for _, send := range []bool{false, true} {
		for _, recv := range []bool{false, true} {
			x.SendOff, x.RecvOff = send, recv
			list = append(list, x)
		}
	}
	return list
}

// faultySessions have one field that leaves its bounds, or all of them, with each side open and closed.
func faultySessions() []impl.Session {
	var list []impl.Session
	for _, f := range sessionFields() {
		for _, number := range f.no {
			x := plainSession()
			*f.of(&x) = number
			list = append(list, eachOff(x)...)
			for _, other := range sessionFields() {
				*other.of(&x) = other.no[len(list)%len(other.no)]
			}
			list = append(list, x)
		}
	}
	return list
}

func TestConstantsOfSessions(t *testing.T) {
	if impl.KindData != 1 || impl.KindRenew != 2 || impl.KindClose != 3 {
		t.Errorf("KindData %d, KindRenew %d, KindClose %d", impl.KindData, impl.KindRenew, impl.KindClose)
	}
}

func TestSessionsWrittenOut(t *testing.T) {
	zeros := string(make([]byte, 60))
	turned := "\x81\x82\x83\x84\x85\x86\x87\x88\x89\x8a\x8b\x8c\x8d\x8e\x8f\x90\x91\x92\x93\x94\x95\x96\x97\x98\x99\x9a\x9b\x9c\x9d\x9e\x9f\xa0\xa1\xa2\xa3\xa4\xa5\xa6\xa7\xa8\xa9\xaa\xab\xac\xad\xae\xaf\xb0\xb1\xb2\xb3\xb4\xb5\xb6\xb7\xb8\xb9\xba\xbb\xbc"
	for _, c := range []struct {
		key, seq, kind int64
		data           string
		sealed         string
		tag            int64
		nextKey        int64
		nextSeq        int64
		closed         bool
	}{
		{5, 0, 1, "hi", "xx", 58041, 5, 1, false},
		{5, 1, 1, "", "", 783, 5, 2, false},
		{5, 2, 2, "", "", 58647, 20094, 0, false},
		{20094, 0, 1, "hi", "\x84\x84", 64488, 20094, 1, false},
		{20094, 1, 3, "", "", 64747, 20094, 1, true},
		{0, 0, 1, "", "", 14468, 0, 1, false},
		{65520, 998, 1, "abc", "\xc2\xc6\xc6", 22426, 65520, 999, false},
		{65520, 999, 2, "", "", 4982, 18813, 0, false},
		{65520, 999, 3, "", "", 2462, 65520, 999, true},
		{0, 999, 2, "", "", 2257, 20089, 0, false},
		{258, 256, 1, zeros, turned, 1072, 258, 257, false},
		{309, 0, 1, "what was said", "FZR@\x15AVK\x19IZUY", 35186, 309, 1, false},
	} {
		r := impl.Record{Seq: c.seq, Kind: c.kind, Data: []byte(c.sealed), Tag: c.tag}
		for _, off := range []bool{false, true} {
			x := impl.Session{SendKey: c.key, RecvKey: 6, SendSeq: c.seq, RecvSeq: 7, RecvOff: off}
			behind := impl.Session{SendKey: c.nextKey, RecvKey: 6, SendSeq: c.nextSeq, RecvSeq: 7, SendOff: c.closed, RecvOff: off}
			if got, want := impl.SendRecord(x, c.kind, []byte(c.data)), (impl.SessionResult{Record: r, Session: behind}); !isSession(got, want) {
				t.Errorf("SendRecord(%v, %d, %q): %v, not %v", x, c.kind, c.data, got, want)
			}
			if got, want := impl.TakeRecord(mirror(x), r), (impl.SessionResult{Kind: c.kind, Data: []byte(c.data), Session: mirror(behind)}); !isSession(got, want) {
				t.Errorf("TakeRecord(%v, %v): %v, not %v", mirror(x), r, got, want)
			}
		}
	}
}

func TestNewSessionWrittenOut(t *testing.T) {
	for _, c := range []struct {
		k          impl.Keys
		send, recv int64
	}{
		{impl.Keys{Up: 5, Down: 6, Heard: 0, Key: 4}, 5, 6},
		{impl.Keys{Up: 6, Down: 5, Heard: 65520, Key: 2872}, 6, 5},
		{impl.Keys{Up: 0, Down: 65520, Heard: 1, Key: 2}, 0, 65520},
		{impl.Keys{Up: 65520, Down: 0, Heard: 1, Key: 3}, 65520, 0},
		{impl.Keys{Up: 7, Down: 7, Heard: 7, Key: 16}, 7, 7},
		{plainKeys(), 309, 31438},
	} {
		if got, want := impl.NewSession(c.k, true), (impl.SessionResult{Session: impl.Session{SendKey: c.send, RecvKey: c.recv}}); !isSession(got, want) {
			t.Errorf("NewSession(%v, true): %v, not %v", c.k, got, want)
		}
		if got, want := impl.NewSession(c.k, false), (impl.SessionResult{Session: impl.Session{SendKey: c.recv, RecvKey: c.send}}); !isSession(got, want) {
			t.Errorf("NewSession(%v, false): %v, not %v", c.k, got, want)
		}
	}
}

// One number that is none is told by itself, beside others that have no fault.
func TestNewSessionOfOneThatIsNone(t *testing.T) {
	refuse := func(k impl.Keys) {
		t.Helper()
		for _, client := range []bool{true, false} {
			if got := impl.NewSession(k, client); !isNoSession(got, impl.ErrRange) {
				t.Errorf("NewSession(%v, %v): %v", k, client, got)
			}
		}
	}
	for _, number := range noSums {
		for _, turn := range []func(*impl.Keys){
			func(k *impl.Keys) { k.Up = number },
			func(k *impl.Keys) { k.Down = number },
			func(k *impl.Keys) { k.Heard = number },
			func(k *impl.Keys) { k.Up, k.Down, k.Heard, k.Key = number, number, number, number },
		} {
			k := plainKeys()
			turn(&k)
			refuse(k)
		}
	}
	for _, number := range noPoints {
		k := plainKeys()
		k.Key = number
		refuse(k)
	}
	refuse(impl.Keys{})
	refuse(impl.Keys{Up: 5, Down: 6})
}

func TestNewSessionOfEachNumber(t *testing.T) {
	publics := publicSet()
	taken := 0
	for number := int64(-3); number <= 65536+3; number++ {
		checkNewSession(t, publics, impl.Keys{Up: number, Down: 6, Heard: 7, Key: 4})
		checkNewSession(t, publics, impl.Keys{Up: 5, Down: number, Heard: 7, Key: 4})
		checkNewSession(t, publics, impl.Keys{Up: 5, Down: 6, Heard: number, Key: 4})
		if checkNewSession(t, publics, impl.Keys{Up: 5, Down: 6, Heard: 7, Key: number}) == impl.OK {
			taken++
		}
	}
	if taken != impl.GroupOrder-1 {
		t.Errorf("%d numbers are public", taken)
	}
}

func TestSessionFaultAtEveryEdge(t *testing.T) {
	keys := slices.Concat(noSums, []int64{0, 1, largestTurn, largestTurn + 1, largestSum - 1, largestSum})
	turns := slices.Concat(noTurns, someTurns)
	codes := map[int64]int{}
	for _, send := range keys {
		for _, recv := range keys {
			for _, sent := range turns {
				for _, took := range turns {
					x := impl.Session{SendKey: send, RecvKey: recv, SendSeq: sent, RecvSeq: took, SendOff: send < recv, RecvOff: sent < took}
					codes[checkSession(t, x)]++
				}
			}
		}
	}
	if codes[impl.OK] != 36*len(someTurns)*len(someTurns) || codes[impl.ErrRange] < 1000 {
		t.Errorf("codes were told so often: %v", codes)
	}
}

func TestSessionFaultOfEachNumber(t *testing.T) {
	for number := int64(-1100); number <= 65536+1100; number++ {
		for _, f := range sessionFields() {
			x := plainSession()
			*f.of(&x) = number
			want := int64(impl.OK)
			if number < 0 || number > f.some[len(f.some)-1] {
				want = impl.ErrRange
			}
			for _, y := range eachOff(x) {
				if got := impl.SessionFault(y); got != want {
					t.Fatalf("%s %d: %d, not %d", f.name, number, got, want)
				}
			}
		}
	}
	for _, x := range eachOff(impl.Session{}) {
		if got := impl.SessionFault(x); got != impl.OK {
			t.Errorf("all numbers 0: %d", got)
		}
	}
}

// A fault of either side is told by all that a session is asked, ahead of what else would fit, also where that side is not used.
func TestFaultySessionsAreRefused(t *testing.T) {
	whole := impl.SendRecord(mirror(plainSession()), 1, []byte("abc")).Record
	list := faultySessions()
	if len(list) < 300 {
		t.Errorf("%d sessions have a fault", len(list))
	}
	for _, x := range list {
		if got := impl.SessionFault(x); got != impl.ErrRange {
			t.Errorf("SessionFault(%v): %d", x, got)
		}
		for _, kind := range []int64{-1, 0, 1, 2, 3, 4, 9, 10} {
			for _, n := range []int{0, 3, mostData, mostData + 1} {
				if got := impl.SendRecord(x, kind, make([]byte, n)); !isNoSession(got, impl.ErrRange) {
					t.Errorf("SendRecord(%v, %d) of %d bytes: %v", x, kind, n, got)
				}
			}
		}
		for _, r := range []impl.Record{whole, {}, plainRecord(), {Seq: x.RecvSeq, Kind: 1, Tag: 5}, {Seq: 1, Kind: 1, Data: make([]byte, 61)}} {
			if got := impl.TakeRecord(x, r); !isNoSession(got, impl.ErrRange) {
				t.Errorf("TakeRecord(%v, %v): %v", x, r, got)
			}
		}
		for _, y := range []impl.Session{mirror(x), x, plainSession(), mirror(plainSession()), {}} {
			if impl.IsPaired(x, y) || impl.IsPaired(y, x) {
				t.Errorf("%v and %v are a pair", x, y)
			}
		}
	}
}

func TestSendRecordOfEachKind(t *testing.T) {
	for _, x := range []impl.Session{{SendKey: 5, RecvKey: 6}, plainSession(), {SendKey: 5, RecvKey: 6, SendSeq: 999, RecvSeq: 999}} {
		for kind := int64(-300); kind <= 300; kind++ {
			for _, n := range []int{0, 1, mostData, mostData + 1} {
				got := checkSent(t, x, kind, mixedBytes(n))
				if (kind < 1 || kind > 3) && !isNoSession(got, impl.ErrForm) {
					t.Errorf("kind %d of %d bytes: %v", kind, n, got)
				}
			}
		}
		for _, kind := range slices.Concat(noKinds, noSaidKinds) {
			for _, n := range []int{0, 3, mostData + 1, 300} {
				if got := impl.SendRecord(x, kind, make([]byte, n)); !isNoSession(got, impl.ErrForm) {
					t.Errorf("kind %d of %d bytes: %v", kind, n, got)
				}
			}
		}
	}
}

func TestSendRecordOfEachLength(t *testing.T) {
	for n := range 330 {
		data := mixedBytes(n)
		got := checkSent(t, plainSession(), 1, data)
		if n <= mostData {
			if got.Code != impl.OK || len(got.Record.Data) != n || got.Kind != 0 || len(got.Data) != 0 {
				t.Errorf("%d bytes: %v", n, got)
			}
		} else if !isNoSession(got, impl.ErrMany) {
			t.Errorf("%d bytes: %v", n, got)
		}
		for _, kind := range []int64{2, 3} {
			if got := checkSent(t, plainSession(), kind, data); (got.Code == impl.OK) != (n == 0) || got.Code != impl.OK && got.Code != impl.ErrForm {
				t.Errorf("%d bytes of kind %d: %v", n, kind, got)
			}
		}
	}
	for _, n := range longLengths {
		if got := impl.SendRecord(plainSession(), 1, make([]byte, n)); !isNoSession(got, impl.ErrMany) {
			t.Errorf("%d bytes: %v", n, got)
		}
		for _, kind := range []int64{2, 3} {
			if got := impl.SendRecord(plainSession(), kind, make([]byte, n)); !isNoSession(got, impl.ErrForm) {
				t.Errorf("%d bytes of kind %d: %v", n, kind, got)
			}
		}
	}
}

// At the last number there is no room for data, and there is for a new key and for the end.
func TestSendRecordAtEachNumber(t *testing.T) {
	for seq := int64(0); seq <= largestTurn; seq++ {
		x := impl.Session{SendKey: 5, RecvKey: 6, SendSeq: seq, RecvSeq: largestTurn - seq}
		data := checkSent(t, x, 1, []byte("abc"))
		if seq == largestTurn {
			if !isNoSession(data, impl.ErrFull) {
				t.Errorf("data at %d: %v", seq, data)
			}
		} else if data.Code != impl.OK || data.Record.Seq != seq || data.Session.SendSeq != seq+1 || data.Session.RecvSeq != x.RecvSeq {
			t.Errorf("data at %d: %v", seq, data)
		}
		renewed := checkSent(t, x, 2, nil)
		if renewed.Code != impl.OK || renewed.Record.Seq != seq || renewed.Session != (impl.Session{SendKey: 20094, RecvKey: 6, RecvSeq: x.RecvSeq}) {
			t.Errorf("a new key at %d: %v", seq, renewed)
		}
		closed := checkSent(t, x, 3, nil)
		x.SendOff = true
		if closed.Code != impl.OK || closed.Record.Seq != seq || closed.Session != x {
			t.Errorf("the end at %d: %v", seq, closed)
		}
	}
}

// Which code is told first, where more than one would fit.
func TestSendRecordTellsTheFirstCode(t *testing.T) {
	codes := map[int64]int{}
	for _, key := range []int64{5, -1, largestSum + 1} {
		for _, seq := range []int64{0, largestTurn - 1, largestTurn, largestTurn + 1} {
			for _, x := range eachOff(impl.Session{SendKey: key, RecvKey: 6, SendSeq: seq, RecvSeq: largestTurn}) {
				for _, kind := range []int64{math.MinInt64, 0, 1, 2, 3, 4, 9, 10, math.MaxInt64} {
					for _, n := range []int{0, 1, mostData, mostData + 1, 1001} {
						codes[checkSent(t, x, kind, make([]byte, n)).Code]++
					}
				}
			}
		}
	}
	for _, code := range []int64{impl.OK, impl.ErrForm, impl.ErrMany, impl.ErrRange, impl.ErrFull, impl.ErrState} {
		if codes[code] < 4 {
			t.Errorf("%d were told for %d", codes[code], code)
		}
	}
	for _, c := range []struct {
		x    impl.Session
		kind int64
		n    int
		want int64
	}{
		{impl.Session{SendKey: -1, SendOff: true}, 4, 61, impl.ErrRange},
		{impl.Session{RecvSeq: 1000, SendOff: true}, 1, 0, impl.ErrRange},
		{impl.Session{SendSeq: 999, SendOff: true}, 4, 61, impl.ErrState},
		{impl.Session{SendSeq: 999, SendOff: true}, 1, 61, impl.ErrState},
		{impl.Session{SendSeq: 999, SendOff: true}, 2, 0, impl.ErrState},
		{impl.Session{SendOff: true}, 3, 0, impl.ErrState},
		{impl.Session{SendOff: true}, 2, 0, impl.ErrState},
		{impl.Session{SendOff: true}, 1, 0, impl.ErrState},
		{impl.Session{SendSeq: 999}, 4, 61, impl.ErrForm},
		{impl.Session{SendSeq: 999}, 2, 61, impl.ErrForm},
		{impl.Session{SendSeq: 999}, 3, 1, impl.ErrForm},
		{impl.Session{SendSeq: 999}, 1, 61, impl.ErrMany},
		{impl.Session{SendSeq: 999}, 1, 60, impl.ErrFull},
		{impl.Session{SendSeq: 999}, 1, 0, impl.ErrFull},
		{impl.Session{RecvSeq: 999, RecvOff: true}, 1, 60, impl.OK},
	} {
		if got := impl.SendRecord(c.x, c.kind, make([]byte, c.n)); got.Code != c.want || c.want != impl.OK && !isNoSession(got, c.want) {
			t.Errorf("SendRecord(%v, %d) of %d bytes: %v, not %d", c.x, c.kind, c.n, got, c.want)
		}
	}
}

func TestSessionsOfEachKey(t *testing.T) {
	for key := int64(0); key <= largestSum; key += 7 {
		x := impl.Session{SendKey: key, RecvKey: largestSum - key, SendSeq: key % 999, RecvSeq: 999}
		for _, kind := range saidKinds {
			var data []byte
			if kind == 1 {
				data = []byte{0, 255}
			}
			sent := checkSent(t, x, kind, data)
			took := checkTook(t, mirror(x), sent.Record)
			if sent.Code != impl.OK || took.Code != impl.OK || !bytes.Equal(took.Data, data) || !checkPaired(t, sent.Session, took.Session) {
				t.Fatalf("key %d, kind %d: %v and %v", key, kind, sent, took)
			}
			if kind == 2 && sent.Session.SendKey != impl.DeriveKey(key, "next").Value {
				t.Fatalf("a new key for %d: %d", key, sent.Session.SendKey)
			}
		}
	}
}

// What is opened well is refused all the same if its Kind is none of a session, or has data and may not.
func TestTakeRecordOfEachKindAndLength(t *testing.T) {
	x := plainSession()
	for kind := int64(1); kind <= largestKind; kind++ {
		for _, n := range someLengths {
			r := impl.SealData(x.RecvKey, x.RecvSeq, kind, mixedBytes(n)).Record
			got := checkTook(t, x, r)
			switch {
			case kind == 1 || kind <= 3 && n == 0:
				if got.Code != impl.OK || got.Kind != kind || !bytes.Equal(got.Data, mixedBytes(n)) || !equalRecords(got.Record, impl.Record{}) {
					t.Errorf("kind %d of %d bytes: %v", kind, n, got)
				}
			case !isNoSession(got, impl.ErrForm):
				t.Errorf("kind %d of %d bytes: %v", kind, n, got)
			}
			r.Tag = (r.Tag + 1) % (largestSum + 1)
			if got := impl.TakeRecord(x, r); !isNoSession(got, impl.ErrSign) {
				t.Errorf("kind %d of %d bytes and another tag: %v", kind, n, got)
			}
		}
	}
	for _, kind := range noKinds {
		for _, n := range []int{0, 3, 61} {
			r := impl.SealData(x.RecvKey, x.RecvSeq, 1, nil).Record
			r.Kind, r.Data = kind, make([]byte, n)
			if got := impl.TakeRecord(x, r); !isNoSession(got, impl.ErrRange) {
				t.Errorf("kind %d of %d bytes: %v", kind, n, got)
			}
		}
	}
}

// Data at the last number is not taken, and a new key and the end are.
func TestTakeRecordAtEachNumber(t *testing.T) {
	for seq := int64(0); seq <= largestTurn; seq++ {
		x := impl.Session{SendKey: 6, RecvKey: 5, SendSeq: largestTurn - seq, RecvSeq: seq}
		data := checkTook(t, x, impl.SealData(5, seq, 1, []byte("abc")).Record)
		if seq == largestTurn {
			if !isNoSession(data, impl.ErrForm) {
				t.Errorf("data at %d: %v", seq, data)
			}
		} else if data.Code != impl.OK || string(data.Data) != "abc" || data.Session != (impl.Session{SendKey: 6, RecvKey: 5, SendSeq: x.SendSeq, RecvSeq: seq + 1}) {
			t.Errorf("data at %d: %v", seq, data)
		}
		renewed := checkTook(t, x, impl.SealData(5, seq, 2, nil).Record)
		if renewed.Code != impl.OK || renewed.Kind != 2 || renewed.Session != (impl.Session{SendKey: 6, RecvKey: 20094, SendSeq: x.SendSeq}) {
			t.Errorf("a new key at %d: %v", seq, renewed)
		}
		closed := checkTook(t, x, impl.SealData(5, seq, 3, nil).Record)
		x.RecvOff = true
		if closed.Code != impl.OK || closed.Kind != 3 || closed.Session != x {
			t.Errorf("the end at %d: %v", seq, closed)
		}
	}
	empty := impl.SealData(5, largestTurn, 1, nil).Record
	if got := impl.TakeRecord(impl.Session{RecvKey: 5, RecvSeq: largestTurn}, empty); !isNoSession(got, impl.ErrForm) {
		t.Errorf("no bytes of data at %d: %v", largestTurn, got)
	}
}

// Each fault of a record is told as OpenRecord tells it, behind a side that is closed.
func TestTakeRecordOfFaultyRecords(t *testing.T) {
	x := plainSession()
	codes := map[int64]int{}
	for _, r := range faultyRecords() {
		want := wantRecordFault(r)
		codes[want]++
		for _, seq := range []int64{0, 7, 258, largestTurn} {
			x.RecvSeq, x.RecvOff = seq, false
			if got := impl.TakeRecord(x, r); !isNoSession(got, want) {
				t.Errorf("TakeRecord(%v, %v): %v, not %d", x, r, got, want)
			}
			x.RecvOff = true
			if got := impl.TakeRecord(x, r); !isNoSession(got, impl.ErrState) {
				t.Errorf("TakeRecord(%v, %v): %v", x, r, got)
			}
		}
	}
	if codes[impl.ErrRange] < 100 || codes[impl.ErrMany] < 5 {
		t.Errorf("codes were told so often: %v", codes)
	}
}

// Which code is told first, where more than one would fit.
func TestTakeRecordTellsTheFirstCode(t *testing.T) {
	sealed := func(key int64, seq int64, kind int64, data string) impl.Record {
		return impl.SealData(key, seq, kind, []byte(data)).Record
	}
	with := func(r impl.Record, turn func(*impl.Record)) impl.Record {
		turn(&r)
		return r
	}
	otherTag := func(r *impl.Record) { r.Tag = (r.Tag + 1) % (largestSum + 1) }
	longer := func(r *impl.Record) { r.Data = make([]byte, 61) }
	for i, c := range []struct {
		x    impl.Session
		r    impl.Record
		want int64
	}{
		{impl.Session{RecvKey: 5}, sealed(5, 0, 1, "a"), impl.OK},
		{impl.Session{RecvKey: 5, SendOff: true, SendSeq: 999}, sealed(5, 0, 1, "a"), impl.OK},
		{impl.Session{RecvKey: 5, RecvOff: true}, sealed(5, 0, 1, "a"), impl.ErrState},
		{impl.Session{RecvKey: 5, RecvOff: true}, sealed(5, 0, 3, ""), impl.ErrState},
		{impl.Session{RecvKey: 5, RecvOff: true, SendSeq: 1000}, sealed(5, 0, 3, ""), impl.ErrRange},
		{impl.Session{RecvKey: 5, RecvOff: true, SendKey: -1}, sealed(5, 0, 3, ""), impl.ErrRange},
		{impl.Session{RecvKey: 5, RecvOff: true}, impl.Record{}, impl.ErrState},
		{impl.Session{RecvKey: 5, RecvOff: true}, sealed(5, 0, 4, "a"), impl.ErrState},
		{impl.Session{RecvKey: 5, RecvOff: true}, with(sealed(5, 0, 1, ""), otherTag), impl.ErrState},
		{impl.Session{RecvKey: 5, RecvOff: true}, with(sealed(5, 0, 1, ""), longer), impl.ErrState},
		{impl.Session{RecvKey: 5}, impl.Record{}, impl.ErrRange},
		{impl.Session{RecvKey: 5}, with(sealed(5, 1, 0, ""), longer), impl.ErrRange},
		{impl.Session{RecvKey: 5}, with(sealed(5, 1, 4, ""), longer), impl.ErrMany},
		{impl.Session{RecvKey: 5}, with(sealed(5, 0, 2, ""), longer), impl.ErrMany},
		{impl.Session{RecvKey: 5}, with(sealed(5, 1, 4, "a"), otherTag), impl.ErrState},
		{impl.Session{RecvKey: 5}, sealed(5, 1, 4, "a"), impl.ErrState},
		{impl.Session{RecvKey: 5}, sealed(6, 1, 2, "a"), impl.ErrState},
		{impl.Session{RecvKey: 5, RecvSeq: 999}, sealed(5, 998, 1, "a"), impl.ErrState},
		{impl.Session{RecvKey: 5, RecvSeq: 999}, sealed(5, 1000, 1, "a"), impl.ErrState},
		{impl.Session{RecvKey: 5, RecvSeq: 999}, sealed(5, 65520, 1, "a"), impl.ErrState},
		{impl.Session{RecvKey: 5}, with(sealed(5, 0, 4, "a"), otherTag), impl.ErrSign},
		{impl.Session{RecvKey: 5}, with(sealed(5, 0, 2, "a"), otherTag), impl.ErrSign},
		{impl.Session{RecvKey: 5}, sealed(6, 0, 3, "a"), impl.ErrSign},
		{impl.Session{RecvKey: 5, RecvSeq: 999}, sealed(6, 999, 1, "a"), impl.ErrSign},
		{impl.Session{RecvKey: 5, RecvSeq: 999}, with(sealed(5, 999, 1, "a"), otherTag), impl.ErrSign},
		{impl.Session{RecvKey: 5, RecvSeq: 999}, sealed(5, 999, 1, "a"), impl.ErrForm},
		{impl.Session{RecvKey: 5, RecvSeq: 999}, sealed(5, 999, 2, "a"), impl.ErrForm},
		{impl.Session{RecvKey: 5, RecvSeq: 999}, sealed(5, 999, 4, ""), impl.ErrForm},
		{impl.Session{RecvKey: 5}, sealed(5, 0, 9, ""), impl.ErrForm},
		{impl.Session{RecvKey: 5}, sealed(5, 0, 3, "\x00"), impl.ErrForm},
		{impl.Session{RecvKey: 5, RecvSeq: 999}, sealed(5, 999, 2, ""), impl.OK},
		{impl.Session{RecvKey: 5, RecvSeq: 999}, sealed(5, 999, 3, ""), impl.OK},
	} {
		got := checkTook(t, c.x, c.r)
		if got.Code != c.want || c.want != impl.OK && !isNoSession(got, c.want) {
			t.Errorf("number %d: %v, not %d", i, got, c.want)
		}
	}
}

// Promise 13: a record is taken once.
func TestARecordTakenTwice(t *testing.T) {
	for _, seq := range someTurns[:len(someTurns)-1] {
		x := impl.Session{SendKey: 5, RecvKey: 6, SendSeq: seq, RecvSeq: 3}
		for _, data := range []string{"", "a", "what was said"} {
			sent := impl.SendRecord(x, 1, []byte(data))
			took := impl.TakeRecord(mirror(x), sent.Record)
			if took.Code != impl.OK || string(took.Data) != data {
				t.Errorf("%q at %d: %v", data, seq, took)
			}
			if got := impl.TakeRecord(took.Session, sent.Record); !isNoSession(got, impl.ErrState) {
				t.Errorf("%q at %d, taken twice: %v", data, seq, got)
			}
		}
		renewed := impl.SendRecord(x, 2, nil)
		took := impl.TakeRecord(mirror(x), renewed.Record)
		want := int64(impl.ErrState)
		if seq == 0 {
			// Numbers begin anew, so that it is the key that tells.
			want = impl.ErrSign
		}
		if got := impl.TakeRecord(took.Session, renewed.Record); took.Code != impl.OK || !isNoSession(got, want) {
			t.Errorf("a new key at %d, taken twice: %v", seq, got)
		}
		closed := impl.SendRecord(x, 3, nil)
		took = impl.TakeRecord(mirror(x), closed.Record)
		if got := impl.TakeRecord(took.Session, closed.Record); took.Code != impl.OK || !isNoSession(got, impl.ErrState) {
			t.Errorf("the end at %d, taken twice: %v", seq, got)
		}
	}
}

// Promise 13: of records that are on their way only the one whose turn it is is taken.
func TestRecordsOutOfTheirTurn(t *testing.T) {
	x := impl.Session{SendKey: 5, RecvKey: 6}
	start := mirror(x)
	var sent []impl.Record
	for place := range 12 {
		kind, data := int64(1), []byte{byte(place)}
		switch place {
		case 5:
			kind, data = 2, nil
		case 11:
			kind, data = 3, nil
		}
		s := checkSent(t, x, kind, data)
		sent, x = append(sent, s.Record), s.Session
	}
	y := start
	for place := range sent {
		for other, r := range sent {
			got := checkTook(t, y, r)
			if (got.Code == impl.OK) != (other == place) {
				t.Errorf("number %d for %d: %v", other, place, got)
			}
			if got.Code != impl.OK && got.Code != impl.ErrState && got.Code != impl.ErrSign {
				t.Errorf("number %d for %d: %v", other, place, got)
			}
		}
		y = impl.TakeRecord(y, sent[place]).Session
	}
	if !checkPaired(t, x, y) || !y.RecvOff {
		t.Errorf("%v and %v are no pair", x, y)
	}
}

// Two numbers may have one sum by chance, so the tests ask for what the document's equations say of each.
func TestTakeRecordOfTurnedRecords(t *testing.T) {
	x := plainSession()
	whole := impl.SendRecord(mirror(x), 1, []byte("abc")).Record
	taken := map[string]int{}
	try := func(what string, r impl.Record) {
		t.Helper()
		if got := checkTook(t, x, r); got.Code == impl.OK {
			taken[what]++
		}
	}
	for tag := int64(-2); tag <= 65536+2; tag++ {
		r := whole
		r.Tag = tag
		try("tag", r)
	}
	for seq := int64(-2); seq <= 65536+2; seq++ {
		r := whole
		r.Seq = seq
		try("seq", r)
	}
	for place := range whole.Data {
		for b := range 256 {
			r := cloneRecord(whole)
			r.Data[place] = byte(b)
			try("data", r)
		}
	}
	for kind := int64(-2); kind <= 12; kind++ {
		r := whole
		r.Kind = kind
		try("kind", r)
	}
	for n := range 80 {
		r := whole
		r.Data = append(cloneRecord(whole).Data, make([]byte, 80)...)[:n]
		try("length", r)
	}
	if taken["tag"] != 1 || taken["seq"] != 1 || taken["data"] != 3 || taken["kind"] != 1 || taken["length"] != 1 {
		t.Errorf("turned records were taken so often: %v", taken)
	}
}

func TestTakeRecordOfOtherKeys(t *testing.T) {
	whole := impl.SendRecord(mirror(plainSession()), 1, []byte("abc")).Record
	codes := map[int64]int{}
	for key := int64(0); key <= largestSum; key += 3 {
		x := plainSession()
		x.RecvKey = key
		got := checkTook(t, x, whole)
		codes[got.Code]++
	}
	if codes[impl.OK] < 1 || codes[impl.OK] > 20 || codes[impl.ErrSign] < 20000 {
		t.Errorf("codes were told so often: %v", codes)
	}
	own := impl.SendRecord(plainSession(), 1, []byte("abc")).Record
	x := plainSession()
	x.RecvSeq = x.SendSeq
	if got := checkTook(t, x, own); !isNoSession(got, impl.ErrSign) {
		t.Errorf("a record that is taken by who sent it: %v", got)
	}
}

// What is closed one way says nothing of the other way.
func TestClosedSides(t *testing.T) {
	for _, x := range eachOff(plainSession()) {
		for _, kind := range saidKinds {
			sent := checkSent(t, x, kind, nil)
			if x.SendOff {
				if !isNoSession(sent, impl.ErrState) {
					t.Errorf("%v sent %d: %v", x, kind, sent)
				}
			} else if sent.Code != impl.OK || sent.Session.RecvOff != x.RecvOff || sent.Session.SendOff != (kind == 3) {
				t.Errorf("%v sent %d: %v", x, kind, sent)
			}
			took := checkTook(t, x, impl.SealData(x.RecvKey, x.RecvSeq, kind, nil).Record)
			if x.RecvOff {
				if !isNoSession(took, impl.ErrState) {
					t.Errorf("%v took %d: %v", x, kind, took)
				}
			} else if took.Code != impl.OK || took.Session.SendOff != x.SendOff || took.Session.RecvOff != (kind == 3) {
				t.Errorf("%v took %d: %v", x, kind, took)
			}
		}
	}
}

// The one way is moved, and the other one untouched.
func TestTheOtherWayIsUntouched(t *testing.T) {
	type way struct {
		key, seq int64
		off      bool
	}
	send := func(x impl.Session) way { return way{x.SendKey, x.SendSeq, x.SendOff} }
	recv := func(x impl.Session) way { return way{x.RecvKey, x.RecvSeq, x.RecvOff} }
	for _, key := range someSums {
		for _, seq := range someTurns {
			for _, x := range eachOff(impl.Session{SendKey: 5, RecvKey: key, SendSeq: 3, RecvSeq: seq}) {
				for _, kind := range saidKinds {
					if sent := checkSent(t, x, kind, nil); sent.Code == impl.OK && (recv(sent.Session) != recv(x) || send(sent.Session) == send(x)) {
						t.Errorf("%v sent %d: %v", x, kind, sent)
					}
					y := mirror(x)
					r := impl.SealData(5, 3, kind, nil).Record
					if took := checkTook(t, y, r); took.Code == impl.OK && (send(took.Session) != send(y) || recv(took.Session) == recv(y)) {
						t.Errorf("%v took %d: %v", y, kind, took)
					}
				}
			}
		}
	}
}

// fewSessions has each session of two keys, two numbers, and both sides open or closed.
func fewSessions() []impl.Session {
	var list []impl.Session
	for bits := range 16 {
		pick := func(bit int, low int64, high int64) int64 {
			if bits>>bit&1 == 1 {
				return high
			}
			return low
		}
		x := impl.Session{SendKey: pick(0, 0, largestSum), RecvKey: pick(1, 0, largestSum), SendSeq: pick(2, 0, largestTurn), RecvSeq: pick(3, 0, largestTurn)}
		list = append(list, eachOff(x)...)
	}
	return list
}

func TestIsPairedOfAllPairs(t *testing.T) {
	list := fewSessions()
	paired := 0
	for _, a := range list {
		for _, b := range list {
			if checkPaired(t, a, b) {
				paired++
			}
		}
	}
	if paired != len(list) {
		t.Errorf("%d of %d are a pair", paired, len(list))
	}
}

// Two are no pair where they do not meet in one thing alone.
func TestIsPairedButForOneThing(t *testing.T) {
	for _, x := range eachOff(plainSession()) {
		y := mirror(x)
		if !impl.IsPaired(x, y) || !impl.IsPaired(y, x) {
			t.Errorf("%v and %v are no pair", x, y)
		}
		if impl.IsPaired(x, x) || impl.IsPaired(y, y) {
			t.Errorf("%v or %v is a pair with itself", x, y)
		}
		for _, f := range sessionFields() {
			for _, number := range slices.Concat(f.no, f.some) {
				z := y
				*f.of(&z) = number
				if want := number == *f.of(&y); impl.IsPaired(x, z) != want || impl.IsPaired(z, x) != want {
					t.Errorf("%v and %v: %s is another", x, z, f.name)
				}
			}
		}
		for _, turn := range []func(*impl.Session){
			func(z *impl.Session) { z.SendOff = !z.SendOff },
			func(z *impl.Session) { z.RecvOff = !z.RecvOff },
			func(z *impl.Session) { z.SendKey, z.RecvKey = z.RecvKey, z.SendKey },
			func(z *impl.Session) { z.SendSeq, z.RecvSeq = z.RecvSeq, z.SendSeq },
		} {
			z := y
			turn(&z)
			if impl.IsPaired(x, z) || impl.IsPaired(z, x) {
				t.Errorf("%v and %v are a pair", x, z)
			}
		}
	}
	same := impl.Session{SendKey: 5, RecvKey: 5, SendSeq: 3, RecvSeq: 3}
	if !impl.IsPaired(same, same) || !impl.IsPaired(impl.Session{}, impl.Session{}) {
		t.Error("one that is its own other side is no pair with itself")
	}
}

// Two that would meet are no pair if they have a fault.
func TestIsPairedOfFaultySessions(t *testing.T) {
	for _, x := range faultySessions() {
		if checkPaired(t, x, mirror(x)) || checkPaired(t, mirror(x), x) || checkPaired(t, x, x) {
			t.Errorf("%v is a pair", x)
		}
	}
}

// Promise 13.
func TestWhatOneSideSendsTheOtherSideTakes(t *testing.T) {
	taken := 0
	for _, sendKey := range someSums {
		for _, recvKey := range []int64{0, sendKey, largestSum} {
			for _, seq := range someTurns {
				for _, x := range eachOff(impl.Session{SendKey: sendKey, RecvKey: recvKey, SendSeq: seq, RecvSeq: 999 - seq}) {
					y := mirror(x)
					for _, kind := range saidKinds {
						for _, n := range []int{0, 1, mostData} {
							sent := checkSent(t, x, kind, mixedBytes(n))
							if sent.Code != impl.OK {
								continue
							}
							took := impl.TakeRecord(y, sent.Record)
							if took.Code != impl.OK || took.Kind != kind || !bytes.Equal(took.Data, mixedBytes(n)) || !impl.IsPaired(sent.Session, took.Session) || !impl.IsPaired(took.Session, sent.Session) {
								t.Fatalf("%v sent %v, and %v took %v", x, sent, y, took)
							}
							taken++
						}
					}
				}
			}
		}
	}
	if taken < 2000 {
		t.Errorf("%d were taken", taken)
	}
}

// Promise 13: two who have the same keys, by the handshake, talk by bytes until both are closed.
func TestTwoWhoHaveTheSameKeysTalk(t *testing.T) {
	for seed := range 60 {
		m := mixer(seed*2654435761 + 7)
		c := impl.StartClient(int64(m.next(impl.GroupOrder-1))+1, int64(m.next(largestSum+1)), "a.b").Client
		a := impl.AnswerHello(serverOwn, int64(m.next(impl.GroupOrder-1))+1, int64(m.next(largestSum+1)), c.Hello)
		taken := impl.TakeReply(c, a.Reply)
		client, server := impl.NewSession(taken.Keys, true), impl.NewSession(a.Keys, false)
		both := [2]impl.Session{client.Session, server.Session}
		if taken.Code != impl.OK || client.Code != impl.OK || server.Code != impl.OK || !impl.IsPaired(both[0], both[1]) {
			t.Fatalf("%v and %v are no pair", client, server)
		}
		if client.Session != (impl.Session{SendKey: a.Keys.Up, RecvKey: a.Keys.Down}) {
			t.Fatalf("the client of %v: %v", a.Keys, client)
		}
		for !both[0].SendOff || !both[1].SendOff {
			from := m.next(2)
			kind, data := []int64{1, 1, 1, 1, 1, 1, 2, 2, 3, 1, 1, 1}[m.next(12)], []byte(nil)
			if kind == 1 {
				data = mixedBytes(m.next(mostData + 1))
			}
			if both[from].SendOff {
				continue
			}
			sent := checkSent(t, both[from], kind, data)
			read := impl.ReadRecord(impl.PackRecord(sent.Record).Bytes)
			took := checkTook(t, both[1-from], read.Record)
			if sent.Code != impl.OK || read.Code != impl.OK || took.Code != impl.OK || took.Kind != kind || !bytes.Equal(took.Data, data) {
				t.Fatalf("%v was sent, and %v taken", sent, took)
			}
			both[from], both[1-from] = sent.Session, took.Session
			if !checkPaired(t, both[0], both[1]) {
				t.Fatalf("%v and %v are no pair", both[0], both[1])
			}
		}
	}
}

// Promise 13: a whole life of a key, and of the keys behind it; behind each new key numbers begin anew.
func TestNumbersBeginAnewBehindANewKey(t *testing.T) {
	x := impl.NewSession(plainKeys(), true).Session
	y := impl.NewSession(plainKeys(), false).Session
	key := plainKeys().Up
	var olds []impl.Record
	for life := range 4 {
		for number := range int64(largestTurn) {
			sent := checkSent(t, x, 1, []byte{byte(number)})
			took := impl.TakeRecord(y, sent.Record)
			if sent.Record.Seq != number || sent.Session.SendKey != key || sent.Session.SendSeq != number+1 || took.Code != impl.OK || !bytes.Equal(took.Data, []byte{byte(number)}) || !impl.IsPaired(sent.Session, took.Session) {
				t.Fatalf("life %d: %v was sent, and %v taken", life, sent, took)
			}
			if number < 20 {
				for _, old := range olds {
					if checkTook(t, y, old).Code == impl.OK {
						t.Fatalf("life %d: %v of an older key was taken", life, old)
					}
				}
				olds = append(olds, sent.Record)
			}
			x, y = sent.Session, took.Session
		}
		if got := impl.SendRecord(x, 1, nil); !isNoSession(got, impl.ErrFull) {
			t.Fatalf("life %d: data at the last number: %v", life, got)
		}
		renewed := checkSent(t, x, 2, nil)
		took := checkTook(t, y, renewed.Record)
		key = impl.DeriveKey(key, "next").Value
		if renewed.Record.Seq != largestTurn || renewed.Session != (impl.Session{SendKey: key, RecvKey: plainKeys().Down}) || took.Session != mirror(renewed.Session) {
			t.Fatalf("life %d: %v was sent, and %v taken", life, renewed, took)
		}
		x, y = renewed.Session, took.Session
	}
}

// Keys are made anew one behind the other without end, each side its own.
func TestEachSideHasItsOwnNewKeys(t *testing.T) {
	up, down := plainKeys().Up, plainKeys().Down
	x, y := impl.NewSession(plainKeys(), true).Session, impl.NewSession(plainKeys(), false).Session
	for turn := range 300 {
		sent := checkSent(t, x, 2, nil)
		took := checkTook(t, y, sent.Record)
		up = wantTag("next", up)
		x, y = sent.Session, took.Session
		if turn%3 == 0 {
			sent = checkSent(t, y, 2, nil)
			took = checkTook(t, x, sent.Record)
			down = wantTag("next", down)
			x, y = took.Session, sent.Session
		}
		if x != (impl.Session{SendKey: up, RecvKey: down}) || !checkPaired(t, x, y) {
			t.Fatalf("turn %d: %v and %v, not %d and %d", turn, x, y, up, down)
		}
	}
}

// mixedSession has mostly no fault, and its numbers lie often at their ends.
func mixedSession(m *mixer) impl.Session {
	key := func() int64 {
		return []int64{5, 6, int64(m.next(largestSum + 1)), someSums[m.next(len(someSums))]}[m.next(4)]
	}
	turn := func() int64 {
		return []int64{int64(m.next(3)), 998, 999, 998 + int64(m.next(2)), int64(m.next(1000))}[m.next(5)]
	}
	x := impl.Session{SendKey: key(), RecvKey: key(), SendSeq: turn(), RecvSeq: turn(), SendOff: m.next(6) == 0, RecvOff: m.next(6) == 0}
	if m.next(12) == 0 {
		f := sessionFields()[m.next(4)]
		*f.of(&x) = f.no[m.next(len(f.no))]
	}
	return x
}

func mixedKind(m *mixer) int64 {
	if m.next(5) == 0 {
		return slices.Concat(noKinds, noSaidKinds)[m.next(len(noKinds)+len(noSaidKinds))]
	}
	return []int64{1, 1, 2, 3}[m.next(4)]
}

func mixedData(m *mixer) []byte {
	if m.next(2) == 0 {
		return nil
	}
	return mixedBytes([]int{1, 2, 59, 60, 61, 62, 300, m.next(64)}[m.next(8)])
}

// mixedRecord is for x, with or without something that was turned.
func mixedRecord(m *mixer, x impl.Session) impl.Record {
	kind := []int64{1, 2, 3, int64(m.next(9)) + 1}[m.next(4)]
	sealed := impl.SealData(x.RecvKey, x.RecvSeq, kind, mixedData(m))
	if sealed.Code != impl.OK {
		sealed = impl.SealData(6, 0, kind, nil)
	}
	r := sealed.Record
	switch m.next(14) {
	case 0:
		r.Seq++
	case 1:
		r.Seq = int64(m.next(1002)) - 1
	case 2:
		r.Tag = int64(m.next(largestSum + 1))
	case 3:
		r.Tag = noSums[m.next(len(noSums))]
	case 4:
		r.Kind = mixedKind(m)
	case 5:
		if len(r.Data) > 0 {
			r.Data[m.next(len(r.Data))] ^= byte(1 << m.next(8))
		}
	case 6:
		r.Data = mixedData(m)
	case 7:
		r.Seq = noSums[m.next(len(noSums))]
	}
	return r
}

// All answers are those of the document's rules.
func TestSessionsOfAllKinds(t *testing.T) {
	sent, took, pairs := map[int64]int{}, map[int64]int{}, 0
	for seed := range 20000 {
		m := mixer(seed*2654435761 + 13)
		x := mixedSession(&m)
		checkSession(t, x)
		sent[checkSent(t, x, mixedKind(&m), mixedData(&m)).Code]++
		took[checkTook(t, x, mixedRecord(&m, x)).Code]++
		y := mirror(x)
		if m.next(2) == 0 {
			f := sessionFields()[m.next(4)]
			*f.of(&y) = f.some[m.next(len(f.some))]
		}
		if checkPaired(t, x, y) {
			pairs++
		}
	}
	for _, code := range []int64{impl.OK, impl.ErrForm, impl.ErrMany, impl.ErrRange, impl.ErrFull, impl.ErrState} {
		if sent[code] < 100 {
			t.Errorf("%d were told for %d by who sends", sent[code], code)
		}
	}
	for _, code := range []int64{impl.OK, impl.ErrForm, impl.ErrMany, impl.ErrRange, impl.ErrState, impl.ErrSign} {
		if took[code] < 100 {
			t.Errorf("%d were told for %d by who takes", took[code], code)
		}
	}
	if pairs < 5000 || pairs > 15000 {
		t.Errorf("%d are a pair", pairs)
	}
}

// Promise 1: what stands ahead of or behind the bytes in their memory is not changed either, be the record taken or not.
func TestSessionsChangeNoArguments(t *testing.T) {
	memory := mixedBytes(200)
	for _, n := range []int{0, 1, 3, mostData, mostData + 1, 120} {
		data := memory[20 : 20+n]
		for _, kind := range slices.Concat(saidKinds, noSaidKinds, []int64{0, 10}) {
			for _, seq := range []int64{0, 7, largestTurn} {
				for _, x := range eachOff(impl.Session{SendKey: 5, RecvKey: 5, SendSeq: seq, RecvSeq: seq}) {
					impl.SendRecord(x, kind, data)
					r := impl.Record{Seq: seq, Kind: kind, Data: data, Tag: 5}
					impl.TakeRecord(x, r)
					if wantRecordFault(r) == impl.OK {
						r.Tag = wantSealTag(5, r)
						impl.TakeRecord(x, r)
					}
					if !bytes.Equal(memory, mixedBytes(200)) {
						t.Fatalf("%d bytes of kind %d at %d were changed", n, kind, seq)
					}
				}
			}
		}
	}
}

// Promise 1: an answer is spoilt, and the argument stays as it was.
func TestAnswersOfSessionsAreNewMemory(t *testing.T) {
	x := plainSession()
	for _, n := range someLengths {
		data := mixedBytes(mostData + 40)
		spoil(impl.SendRecord(x, 1, data[:n]).Record.Data)
		r := impl.Record{Seq: x.RecvSeq, Kind: 1, Data: data[:n]}
		r.Tag = wantSealTag(x.RecvKey, r)
		took := impl.TakeRecord(x, r)
		if took.Code != impl.OK {
			t.Fatalf("TakeRecord of %d bytes: %v", n, took)
		}
		spoil(took.Data)
		if !bytes.Equal(data, mixedBytes(mostData+40)) {
			t.Errorf("an answer shares the memory of %d bytes", n)
		}
	}
	data := mixedBytes(mostData + 40)
	for _, kind := range []int64{2, 3} {
		spoil(impl.SendRecord(x, kind, data[:0]).Record.Data)
		r := impl.Record{Seq: x.RecvSeq, Kind: kind, Data: data[:0]}
		r.Tag = wantSealTag(x.RecvKey, r)
		spoil(impl.TakeRecord(x, r).Data)
		if !bytes.Equal(data, mixedBytes(mostData+40)) {
			t.Errorf("an answer of kind %d shares the memory of no bytes", kind)
		}
	}
}

// Promise 1: the argument is spoilt, and the answer stays as it was; no two answers share their memory.
func TestAnswersOfSessionsOutliveTheirArguments(t *testing.T) {
	x := plainSession()
	for range 3 {
		data := []byte("abc")
		sent := impl.SendRecord(x, 1, data)
		spoil(data)
		if want := wantSent(x, 1, []byte("abc")); !isSession(sent, want) {
			t.Errorf("SendRecord: %v, not %v", sent, want)
		}
		took := impl.TakeRecord(mirror(x), sent.Record)
		spoil(sent.Record.Data)
		if want := (impl.SessionResult{Kind: 1, Data: []byte("abc"), Session: mirror(sent.Session)}); !isSession(took, want) {
			t.Errorf("TakeRecord: %v, not %v", took, want)
		}
		spoil(took.Data)
	}
}

type sessionAnswers struct {
	fault, sent, took      int64
	kind                   int64
	record, data           string
	seq, recordKind, tag   int64
	sentBehind, tookBehind impl.Session
	fresh                  impl.Session
	paired                 bool
}

func askSession(seed int) sessionAnswers {
	m := mixer(seed*2654435761 + 17)
	x := mixedSession(&m)
	sent := impl.SendRecord(x, mixedKind(&m), mixedData(&m))
	took := impl.TakeRecord(x, mixedRecord(&m, x))
	fresh := impl.NewSession(impl.Keys{Up: x.SendKey, Down: x.RecvKey, Heard: x.SendSeq, Key: 4}, x.SendOff)
	return sessionAnswers{impl.SessionFault(x), sent.Code, took.Code, took.Kind, string(sent.Record.Data), string(took.Data), sent.Record.Seq, sent.Record.Kind, sent.Record.Tag, sent.Session, took.Session, fresh.Session, impl.IsPaired(x, mirror(x))}
}

// Promise 1: the same arguments have the same answers, whatever was asked in between.
func TestSessionsHangOnTheirArgumentsAlone(t *testing.T) {
	const asks = 4000
	var first []sessionAnswers
	for seed := range asks {
		first = append(first, askSession(seed))
	}
	for seed := asks - 1; seed >= 0; seed-- {
		if got := askSession(seed); got != first[seed] {
			t.Errorf("number %d: %v, then %v", seed, first[seed], got)
		}
	}
}

// Promise 1: every function answers at the ends of an int64, in each of its numbers.
func TestSessionsOfExtremes(t *testing.T) {
	publics := publicSet()
	ends := []int64{math.MinInt64, math.MinInt64 + 1, -1, 0, 1, 2, 3, 4, 998, 999, 1000, largestSum, largestSum + 1, math.MaxInt64 - 1, math.MaxInt64}
	for _, v := range ends {
		for _, w := range ends {
			for _, z := range ends {
				x := impl.Session{SendKey: v, RecvKey: w, SendSeq: z, RecvSeq: v, SendOff: v > w}
				checkSession(t, x)
				checkNewSession(t, publics, impl.Keys{Up: v, Down: w, Heard: z, Key: v})
				checkSent(t, x, w, mixedBytes(int(uint64(z)%62)))
				checkSent(t, impl.Session{SendKey: 5, SendSeq: v, RecvSeq: w}, z, nil)
				checkTook(t, x, impl.Record{Seq: v, Kind: w, Tag: z})
				checkTook(t, plainSession(), impl.Record{Seq: v, Kind: w, Tag: z})
				checkTook(t, impl.Session{RecvKey: v, RecvSeq: w}, impl.Record{Seq: w, Kind: z, Tag: v})
				checkPaired(t, x, mirror(x))
				checkPaired(t, x, impl.Session{SendKey: z, RecvKey: v, SendSeq: w, RecvSeq: z})
			}
		}
	}
	checkTook(t, impl.Session{}, impl.Record{})
	checkSent(t, impl.Session{}, 0, nil)
}
