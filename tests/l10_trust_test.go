package tests

import (
	"math"
	"slices"
	"strings"
	"testing"

	"loop.example/g00618/impl"
)

const mostSupplied = 8

// reasonWords are the reasons from 1 on, in their order.
var reasonWords = []string{"dane", "no-dane", "active", "backup", "other", "expired", "first", "refused"}

// acceptWords are those for which somebody is believed.
var acceptWords = []string{"dane", "active", "backup", "first"}

// noReasons lie just outside the reasons, at the ends of an int64, and where a reason would be if an int64 were cut short.
var noReasons = []int64{math.MinInt64, math.MinInt64 + 1, math.MinInt64 + 7, -1<<32 + 1, -1 << 32, -256 + 7, -256, -8, -7, -4, -3, -2, -1, 0, 9, 10, 11, 127, 128, 255, 256, 256 + 1, 256 + 7, 65536 + 3, 1 << 32, 1<<32 + 1, 1<<32 + 4, math.MaxInt64 - 1, math.MaxInt64}

// largeLists are more supplied keys than there may be; a count that is cut short has some of them where it might be.
var largeLists = []int{mostSupplied + 1, mostSupplied + 2, 127, 128, 255, 256, 256 + 3, 65536, 65536 + 2, 70000}

// wantUsable takes away what is not usable, where the program puts together what is.
func wantUsable(list []impl.Tlsa, name string) impl.TlsasResult {
	fault := wantNameFault(name)
	if code := firstOf(reason{len(list) > mostSupplied, impl.ErrMany}, reason{fault != impl.OK, fault}); code != impl.OK {
		return impl.TlsasResult{Code: code}
	}
	return impl.TlsasResult{Tlsas: slices.DeleteFunc(slices.Clone(list), func(x impl.Tlsa) bool {
		return wantTlsaFault(x) != impl.OK || x.Usage != largestUsage || x.Name != wantNormal(name)
	})}
}

func wantAskFault(publics map[int64]bool, a impl.Ask) int64 {
	pins, name := wantPinsFault(publics, a.Pins), wantNameFault(a.Name)
	return firstOf(
		reason{pins != impl.OK, pins},
		reason{len(a.Tlsas) > mostSupplied, impl.ErrMany},
		reason{name != impl.OK, name},
		reason{!publics[a.Public] || a.Now < 0 || a.Now > largestTime, impl.ErrRange},
	)
}

// wantReason names all reasons in the order of the document; the first one that is so is the answer.
func wantReason(publics map[int64]bool, a impl.Ask) int64 {
	usable := wantUsable(a.Tlsas, a.Name).Tlsas
	matched := slices.ContainsFunc(usable, func(x impl.Tlsa) bool { return wantMatches(publics, x, a.Name, a.Public) })
	found := wantFound(publics, a.Pins, a.Name)
	pinned, p := found.Code == impl.OK, found.Pin
	return firstOf(
		reason{matched, impl.ReasonDane},
		reason{len(usable) > 0, impl.ReasonNoDane},
		reason{pinned && p.Until < a.Now, impl.ReasonExpired},
		reason{pinned && p.Active == a.Public, impl.ReasonActive},
		reason{pinned && p.Backup == a.Public, impl.ReasonBackup},
		reason{pinned, impl.ReasonOther},
		reason{a.First, impl.ReasonFirst},
		reason{true, impl.ReasonRefused},
	)
}

func wantVerdict(publics map[int64]bool, a impl.Ask) impl.Verdict {
	if fault := wantAskFault(publics, a); fault != impl.OK {
		return impl.Verdict{Code: fault}
	}
	return verdictOf(wantReason(publics, a))
}

// verdictOf is of a call that tells no code.
func verdictOf(why int64) impl.Verdict {
	return impl.Verdict{Accept: slices.Contains(acceptWords, reasonWords[why-1]), Reason: why}
}

func isTlsas(got impl.TlsasResult, want impl.TlsasResult) bool {
	return got.Code == want.Code && slices.Equal(got.Tlsas, want.Tlsas)
}

func isNoTlsas(got impl.TlsasResult, code int64) bool {
	return got.Code == code && len(got.Tlsas) == 0
}

func isNoVerdict(got impl.Verdict, code int64) bool {
	return got == impl.Verdict{Code: code}
}

// checkAsk asks all of a, and tells its verdict.
func checkAsk(t *testing.T, publics map[int64]bool, a impl.Ask) impl.Verdict {
	t.Helper()
	if got, want := impl.AskFault(a), wantAskFault(publics, a); got != want {
		t.Fatalf("AskFault(%v): %d, not %d", a, got, want)
	}
	if got, want := impl.UsableOf(a.Tlsas, a.Name), wantUsable(a.Tlsas, a.Name); !isTlsas(got, want) {
		t.Fatalf("UsableOf(%v, %q): %v, not %v", a.Tlsas, a.Name, got, want)
	}
	got, want := impl.Decide(a), wantVerdict(publics, a)
	if got != want {
		t.Fatalf("Decide(%v): %v, not %v", a, got, want)
	}
	return got
}

// Those who show a key: each one's is a public number, and no two of them are alike.
const (
	activeKey  = 4
	backupKey  = 16
	anotherKey = 64
	nobodysKey = 256
)

// trustPin has no fault, and is live until 50.
func trustPin() impl.Pin {
	return impl.Pin{Name: "a.b", Active: activeKey, Backup: backupKey, Epoch: 2, Until: 50}
}

// plainAsk has no fault, and no supplied key; of its name there is a pin, live by then, with its public number.
func plainAsk() impl.Ask {
	return impl.Ask{First: true, Pins: []impl.Pin{trustPin()}, Name: "A.b.", Public: activeKey, Now: 40}
}

// suppliedTo says of a.b that it has this key, by the number itself.
func suppliedTo(public int64) impl.Tlsa {
	return impl.Tlsa{Name: "a.b", Usage: 3, Value: public}
}

// suppliedSum says the same by the sum.
func suppliedSum(public int64) impl.Tlsa {
	return impl.Tlsa{Name: "a.b", Usage: 3, Match: 1, Value: wantTag("spki", public)}
}

// unusableTlsas are none of them usable for a.b, though each one has the Value of public.
func unusableTlsas(public int64) []impl.Tlsa {
	var list []impl.Tlsa
	for _, x := range []impl.Tlsa{suppliedTo(public), suppliedSum(public)} {
		for _, usage := range append(slices.Clone(noUsages), 0, 1, 2) {
			y := x
			y.Usage = usage
			list = append(list, y)
		}
		for _, match := range noMatches {
			y := x
			y.Match = match
			list = append(list, y)
		}
		for _, value := range noSums {
			y := x
			y.Value = value
			list = append(list, y)
		}
		for _, name := range []string{"A.b", "a.b.", "A.B.", "", "a..b", "a", "b", "ab", "a.bb", "aa.b", "a-b", longNames[0], longNames[5]} {
			y := x
			y.Name = name
			list = append(list, y)
		}
	}
	return append(list, impl.Tlsa{})
}

func TestConstantsOfTrust(t *testing.T) {
	for i, why := range []int64{impl.ReasonDane, impl.ReasonNoDane, impl.ReasonActive, impl.ReasonBackup, impl.ReasonOther, impl.ReasonExpired, impl.ReasonFirst, impl.ReasonRefused} {
		if why != int64(i)+1 {
			t.Errorf("the reason %q is %d", reasonWords[i], why)
		}
	}
}

func TestReasonsWrittenOut(t *testing.T) {
	for _, c := range []struct {
		why    int64
		want   impl.TextResult
		accept bool
	}{
		{0, impl.TextResult{Code: impl.ErrRange}, false},
		{1, impl.TextResult{Text: "dane"}, true},
		{2, impl.TextResult{Text: "no-dane"}, false},
		{3, impl.TextResult{Text: "active"}, true},
		{4, impl.TextResult{Text: "backup"}, true},
		{5, impl.TextResult{Text: "other"}, false},
		{6, impl.TextResult{Text: "expired"}, false},
		{7, impl.TextResult{Text: "first"}, true},
		{8, impl.TextResult{Text: "refused"}, false},
		{9, impl.TextResult{Code: impl.ErrRange}, false},
	} {
		if got := impl.ReasonText(c.why); got != c.want {
			t.Errorf("ReasonText(%d): %v, not %v", c.why, got, c.want)
		}
		if got := impl.IsAccept(c.why); got != c.accept {
			t.Errorf("IsAccept(%d): %v", c.why, got)
		}
	}
}

func TestReasonsOutsideTheirBounds(t *testing.T) {
	check := func(why int64) {
		want, accept := impl.TextResult{Code: impl.ErrRange}, false
		if why >= 1 && why <= 8 {
			want, accept = impl.TextResult{Text: reasonWords[why-1]}, verdictOf(why).Accept
		}
		if got := impl.ReasonText(why); got != want {
			t.Errorf("ReasonText(%d): %v, not %v", why, got, want)
		}
		if got := impl.IsAccept(why); got != accept {
			t.Errorf("IsAccept(%d): %v", why, got)
		}
	}
	for why := int64(-70000); why <= 70000; why++ {
		check(why)
	}
	for _, why := range slices.Concat(noReasons, noTimes, noPoints, noSums) {
		check(why)
	}
}

func TestUsableOfWrittenOut(t *testing.T) {
	one := impl.Tlsa{Name: "a.b", Usage: 3, Match: 0, Value: 4}
	two := impl.Tlsa{Name: "a.b", Usage: 3, Match: 1, Value: 60099}
	low := impl.Tlsa{Name: "a.b", Usage: 3, Match: 1, Value: 0}
	high := impl.Tlsa{Name: "a.b", Usage: 3, Match: 0, Value: 65520}
	other := impl.Tlsa{Name: "z", Usage: 3, Match: 0, Value: 4}
	lesser := impl.Tlsa{Name: "a.b", Usage: 2, Match: 0, Value: 4}
	faulty := impl.Tlsa{Name: "a.b", Usage: 3, Match: 2, Value: 4}
	large := impl.Tlsa{Name: "a.b", Usage: 3, Match: 0, Value: 65521}
	above := impl.Tlsa{Name: "a.b", Usage: 4, Match: 0, Value: 4}
	upper := impl.Tlsa{Name: "A.b", Usage: 3, Match: 0, Value: 4}
	dotted := impl.Tlsa{Name: "a.b.", Usage: 3, Match: 0, Value: 4}
	eight := []impl.Tlsa{one, two, one, two, one, two, one, two}
	for _, c := range []struct {
		list []impl.Tlsa
		name string
		want impl.TlsasResult
	}{
		{nil, "a.b", impl.TlsasResult{}},
		{[]impl.Tlsa{}, "a.b", impl.TlsasResult{}},
		{[]impl.Tlsa{one}, "a.b", impl.TlsasResult{Tlsas: []impl.Tlsa{one}}},
		{[]impl.Tlsa{one}, "A.B.", impl.TlsasResult{Tlsas: []impl.Tlsa{one}}},
		{[]impl.Tlsa{one, two}, "a.b.", impl.TlsasResult{Tlsas: []impl.Tlsa{one, two}}},
		{[]impl.Tlsa{two, one}, "A.b", impl.TlsasResult{Tlsas: []impl.Tlsa{two, one}}},
		{[]impl.Tlsa{one, one}, "a.b", impl.TlsasResult{Tlsas: []impl.Tlsa{one, one}}},
		{[]impl.Tlsa{high, low, one}, "a.b", impl.TlsasResult{Tlsas: []impl.Tlsa{high, low, one}}},
		{[]impl.Tlsa{other, one, lesser, two, faulty}, "a.b", impl.TlsasResult{Tlsas: []impl.Tlsa{one, two}}},
		{[]impl.Tlsa{one, other, two}, "Z.", impl.TlsasResult{Tlsas: []impl.Tlsa{other}}},
		{[]impl.Tlsa{one, other, two}, "b", impl.TlsasResult{}},
		{[]impl.Tlsa{lesser, faulty, large, above, upper, dotted}, "a.b", impl.TlsasResult{}},
		{[]impl.Tlsa{upper, dotted}, "A.b", impl.TlsasResult{}},
		{[]impl.Tlsa{upper, dotted}, "a.b.", impl.TlsasResult{}},
		{[]impl.Tlsa{{}, {}}, "a", impl.TlsasResult{}},
		{eight, "a.b", impl.TlsasResult{Tlsas: eight}},
		{append(slices.Clone(eight), one), "a.b", impl.TlsasResult{Code: impl.ErrMany}},
		{append(slices.Clone(eight), other), "a.b", impl.TlsasResult{Code: impl.ErrMany}},
		{append(slices.Clone(eight), one), "", impl.TlsasResult{Code: impl.ErrMany}},
		{make([]impl.Tlsa, 9), "-", impl.TlsasResult{Code: impl.ErrMany}},
		{eight, "", impl.TlsasResult{Code: impl.ErrText}},
		{eight, "a..b", impl.TlsasResult{Code: impl.ErrText}},
		{eight, "abcdefghijklmnopqrstu", impl.TlsasResult{Code: impl.ErrMany}},
		{nil, "", impl.TlsasResult{Code: impl.ErrText}},
		{nil, "abcdefghijklmnopqrst.", impl.TlsasResult{Code: impl.ErrMany}},
		{[]impl.Tlsa{{}}, "", impl.TlsasResult{Code: impl.ErrText}},
	} {
		if got := impl.UsableOf(c.list, c.name); !isTlsas(got, c.want) {
			t.Errorf("UsableOf(%v, %q): %v, not %v", c.list, c.name, got, c.want)
		}
	}
}

// Too many are told ahead of what the name is told for, and whatever they are.
func TestUsableOfEachCount(t *testing.T) {
	for n := range 40 {
		for _, x := range []impl.Tlsa{suppliedTo(4), suppliedSum(4), plainTlsa(), {}} {
			list := slices.Repeat([]impl.Tlsa{x}, n)
			for _, name := range []string{"a.b", "A.B.", "z", "", "a..", longNames[0]} {
				if got, want := impl.UsableOf(list, name), wantUsable(list, name); !isTlsas(got, want) {
					t.Errorf("UsableOf %d of %v, %q: %v, not %v", n, x, name, got, want)
				}
			}
		}
	}
	for _, n := range largeLists {
		for _, x := range []impl.Tlsa{suppliedTo(4), {}} {
			list := slices.Repeat([]impl.Tlsa{x}, n)
			for _, name := range []string{"a.b", "", "z", longNames[0]} {
				if got := impl.UsableOf(list, name); !isNoTlsas(got, impl.ErrMany) {
					t.Errorf("UsableOf %d of %v, %q: %d", n, x, name, got.Code)
				}
			}
		}
	}
}

// Each name is asked for where each other one is supplied.
func TestUsableOfEachName(t *testing.T) {
	usable := 0
	names := append(allNames(), "A.B", "a.B.", "HOST-1.", "SRV.x.", "ABCDEFGHIJKLMNOPQRST", "ab", "b.a")
	for _, name := range names {
		for list := range slices.Chunk(names, mostSupplied) {
			var supplied []impl.Tlsa
			for i, own := range list {
				supplied = append(supplied, impl.Tlsa{Name: own, Usage: 3, Match: int64(i % 2), Value: int64(i)})
			}
			got, want := impl.UsableOf(supplied, name), wantUsable(supplied, name)
			usable += len(want.Tlsas)
			if !isTlsas(got, want) {
				t.Errorf("UsableOf(%v, %q): %v, not %v", supplied, name, got, want)
			}
		}
	}
	if usable < len(normalNames)+10 {
		t.Errorf("%d were usable", usable)
	}
}

func TestUsableOfEachNumber(t *testing.T) {
	usable := 0
	for _, usage := range append(slices.Clone(noUsages), 0, 1, 2, 3) {
		for _, match := range append(slices.Clone(noMatches), 0, 1) {
			for _, value := range slices.Concat(noSums, someSums) {
				list := []impl.Tlsa{{Name: "a.b", Usage: usage, Match: match, Value: value}}
				got, want := impl.UsableOf(list, "a.b"), wantUsable(list, "a.b")
				usable += len(want.Tlsas)
				if !isTlsas(got, want) {
					t.Errorf("UsableOf(%v): %v, not %v", list, got, want)
				}
			}
		}
	}
	if usable != 2*len(someSums) {
		t.Errorf("%d were usable", usable)
	}
}

// One that is not usable goes from its place, and leaves the others where they were.
func TestUnusableKeysAreLeftOut(t *testing.T) {
	one, two := suppliedTo(4), suppliedSum(16)
	for _, x := range slices.Concat(unusableTlsas(4), faultyTlsas()) {
		for i, list := range [][]impl.Tlsa{{x}, {x, one, two}, {one, x, two}, {one, two, x}, {x, one, x, two, x}, {one, x, x, x, x, x, x, two}} {
			want := impl.TlsasResult{Tlsas: []impl.Tlsa{one, two}}
			if i == 0 {
				want.Tlsas = nil
			}
			for _, name := range []string{"a.b", "A.B."} {
				if got := impl.UsableOf(list, name); !isTlsas(got, want) {
					t.Errorf("UsableOf(%v, %q): %v, not %v", list, name, got, want)
				}
			}
		}
		if wantTlsaFault(x) != impl.OK && wantNameFault(x.Name) == impl.OK {
			if got := impl.UsableOf([]impl.Tlsa{x}, x.Name); !isNoTlsas(got, impl.OK) {
				t.Errorf("UsableOf(%v) of its own name: %v", x, got)
			}
		}
	}
}

// eachSupplied tells all lists of n of these.
func eachSupplied(kinds []impl.Tlsa, n int, tell func([]impl.Tlsa)) {
	counts := make([]int, n)
	for {
		list := make([]impl.Tlsa, n)
		for i, kind := range counts {
			list[i] = kinds[kind]
		}
		tell(list)
		place := 0
		for place < n && counts[place] == len(kinds)-1 {
			counts[place] = 0
			place++
		}
		if place == n {
			return
		}
		counts[place]++
	}
}

// Usable ones stand in the order in which they came, two that are the same as two.
func TestUsableOnesKeepTheirOrder(t *testing.T) {
	lesser := suppliedTo(4)
	lesser.Usage = 1
	kinds := []impl.Tlsa{suppliedTo(4), suppliedTo(2), suppliedSum(4), lesser, {Name: "a", Usage: 3, Value: 4}, {}}
	lists := 0
	for n := range 7 {
		eachSupplied(kinds[:len(kinds)-n/6], n, func(list []impl.Tlsa) {
			lists++
			if got, want := impl.UsableOf(list, "A.b"), wantUsable(list, "A.b"); !isTlsas(got, want) {
				t.Fatalf("UsableOf(%v): %v, not %v", list, got, want)
			}
		})
	}
	eachSupplied(kinds[2:5], mostSupplied, func(list []impl.Tlsa) {
		lists++
		if got, want := impl.UsableOf(list, "a.b"), wantUsable(list, "a.b"); !isTlsas(got, want) {
			t.Fatalf("UsableOf(%v): %v, not %v", list, got, want)
		}
	})
	if lists != 1+6+36+216+1296+7776+15625+6561 {
		t.Errorf("%d lists", lists)
	}
}

func TestAskFaultsWrittenOut(t *testing.T) {
	pin := impl.Pin{Name: "a", Active: 4, Epoch: 1}
	for _, c := range []struct {
		a    impl.Ask
		want int64
	}{
		{impl.Ask{Name: "a", Public: 4}, impl.OK},
		{impl.Ask{First: true, Name: "A.", Public: 2872, Now: 9999}, impl.OK},
		{impl.Ask{Pins: []impl.Pin{pin}, Tlsas: []impl.Tlsa{{}}, Name: "b", Public: 2, Now: 0}, impl.OK},
		{impl.Ask{Pins: []impl.Pin{pin}, Tlsas: make([]impl.Tlsa, 8), Name: "a", Public: 2}, impl.OK},
		{impl.Ask{}, impl.ErrText},
		{impl.Ask{Name: "a"}, impl.ErrRange},
		{impl.Ask{Name: "a", Public: 1}, impl.ErrRange},
		{impl.Ask{Name: "a", Public: 7}, impl.ErrRange},
		{impl.Ask{Name: "a", Public: 2879 + 4}, impl.ErrRange},
		{impl.Ask{Name: "a", Public: -4}, impl.ErrRange},
		{impl.Ask{Name: "a", Public: math.MinInt64}, impl.ErrRange},
		{impl.Ask{Name: "a", Public: math.MaxInt64}, impl.ErrRange},
		{impl.Ask{Name: "a", Public: 4, Now: -1}, impl.ErrRange},
		{impl.Ask{Name: "a", Public: 4, Now: 10000}, impl.ErrRange},
		{impl.Ask{Name: "a", Public: 4, Now: math.MinInt64}, impl.ErrRange},
		{impl.Ask{Name: "a", Public: 4, Now: math.MaxInt64}, impl.ErrRange},
		{impl.Ask{Name: "", Public: 4}, impl.ErrText},
		{impl.Ask{Name: "-", Public: 4}, impl.ErrText},
		{impl.Ask{Name: "a..", Public: 1, Now: -1}, impl.ErrText},
		{impl.Ask{Name: "abcdefghijklmnopqrstu", Public: 4}, impl.ErrMany},
		{impl.Ask{Name: "abcdefghijklmnopqrst.", Public: 1}, impl.ErrMany},
		{impl.Ask{Tlsas: make([]impl.Tlsa, 9), Name: "a", Public: 4}, impl.ErrMany},
		{impl.Ask{Tlsas: make([]impl.Tlsa, 9), Name: "", Public: 1}, impl.ErrMany},
		{impl.Ask{Pins: []impl.Pin{{}}, Name: "a", Public: 4}, impl.ErrText},
		{impl.Ask{Pins: []impl.Pin{{Name: "A", Active: 4, Epoch: 1}}, Name: "A", Public: 4}, impl.ErrForm},
		{impl.Ask{Pins: []impl.Pin{{Name: "a", Active: 4, Epoch: 0}}, Name: "", Public: 4}, impl.ErrRange},
		{impl.Ask{Pins: []impl.Pin{{Name: "a", Active: 4, Backup: 4, Epoch: 1}}, Name: "", Public: 4}, impl.ErrTaken},
		{impl.Ask{Pins: []impl.Pin{pin, pin}, Name: "a", Public: 4}, impl.ErrForm},
		{impl.Ask{Pins: []impl.Pin{pin, pin}, Tlsas: make([]impl.Tlsa, 9), Name: "", Public: 4}, impl.ErrForm},
		{impl.Ask{Pins: make([]impl.Pin, 5), Name: "", Public: 4}, impl.ErrMany},
		{impl.Ask{Pins: make([]impl.Pin, 4), Tlsas: make([]impl.Tlsa, 9), Name: "a", Public: 4}, impl.ErrText},
	} {
		if got := impl.AskFault(c.a); got != c.want {
			t.Errorf("AskFault(%v): %d, not %d", c.a, got, c.want)
		}
		if got := impl.Decide(c.a); got.Code != c.want || c.want != impl.OK && !isNoVerdict(got, c.want) {
			t.Errorf("Decide(%v): %v, not %d", c.a, got, c.want)
		}
	}
}

// askFlaw is one thing that is wrong with an asking, of a part that the document asks at that place.
type askFlaw struct {
	part int
	make func(*impl.Ask)
	code int64
}

func askFlaws() []askFlaw {
	taken := trustPin()
	taken.Backup = taken.Active
	pins := func(list ...impl.Pin) func(*impl.Ask) {
		return func(a *impl.Ask) { a.Pins = list }
	}
	return []askFlaw{
		{0, pins(make([]impl.Pin, 5)...), impl.ErrMany},
		{0, pins(impl.Pin{}), impl.ErrText},
		{0, pins(impl.Pin{Name: "A.b", Active: 4, Epoch: 1}), impl.ErrForm},
		{0, pins(trustPin(), impl.Pin{Name: "b", Active: 1, Epoch: 1}), impl.ErrRange},
		{0, pins(taken), impl.ErrTaken},
		{0, pins(trustPin(), trustPin()), impl.ErrForm},
		{0, pins(pinOf(4, 1), pinOf(3, 1)), impl.ErrForm},
		{1, func(a *impl.Ask) { a.Tlsas = slices.Repeat([]impl.Tlsa{suppliedTo(4)}, mostSupplied+1) }, impl.ErrMany},
		{1, func(a *impl.Ask) { a.Tlsas = make([]impl.Tlsa, 256) }, impl.ErrMany},
		{2, func(a *impl.Ask) { a.Name = "" }, impl.ErrText},
		{2, func(a *impl.Ask) { a.Name = "a.b.." }, impl.ErrText},
		{2, func(a *impl.Ask) { a.Name = "abcdefghijklmnopqrst." }, impl.ErrMany},
		{3, func(a *impl.Ask) { a.Public = 1 }, impl.ErrRange},
		{3, func(a *impl.Ask) { a.Public = math.MinInt64 }, impl.ErrRange},
		{3, func(a *impl.Ask) { a.Public = 0 }, impl.ErrRange},
		{4, func(a *impl.Ask) { a.Now = -1 }, impl.ErrRange},
		{4, func(a *impl.Ask) { a.Now = largestTime + 1 }, impl.ErrRange},
		{4, func(a *impl.Ask) { a.Now = math.MaxInt64 }, impl.ErrRange},
	}
}

// Each flaw stands alone, and with each one of each later part: what is asked first is told.
func TestAskFaultTellsTheFirstFlaw(t *testing.T) {
	flaws := askFlaws()
	for _, base := range []impl.Ask{plainAsk(), {Name: "z", Public: 4}, {First: true, Tlsas: []impl.Tlsa{suppliedTo(4), {}}, Name: "a.b", Public: 4, Now: 9999}} {
		if got := impl.AskFault(base); got != impl.OK {
			t.Fatalf("AskFault(%v): %d", base, got)
		}
		for i, first := range flaws {
			for _, second := range flaws[i:] {
				for _, third := range flaws[i:] {
					a := base
					third.make(&a)
					second.make(&a)
					first.make(&a)
					if got := impl.AskFault(a); got != first.code {
						t.Fatalf("AskFault(%v): %d, not %d", a, got, first.code)
					}
					if got := impl.Decide(a); !isNoVerdict(got, first.code) {
						t.Fatalf("Decide(%v): %v, not %d", a, got, first.code)
					}
				}
			}
		}
	}
}

func TestAsksWithFaultyPinsAreRefused(t *testing.T) {
	publics := publicSet()
	for _, p := range faultyPins() {
		want := wantPinFault(publics, p)
		for place := range mostPins {
			a := plainAsk()
			a.Pins = fullPins(1)
			a.Pins[place] = p
			for _, other := range []impl.Ask{a, {Pins: a.Pins, Tlsas: []impl.Tlsa{suppliedTo(4)}, Name: "a.b", Public: 4}, {Pins: a.Pins, Tlsas: make([]impl.Tlsa, 9), Name: "", Public: -1, Now: -1}} {
				if got := impl.AskFault(other); got != want {
					t.Fatalf("AskFault(%v): %d, not %d", other, got, want)
				}
				if got := impl.Decide(other); !isNoVerdict(got, want) {
					t.Fatalf("Decide(%v): %v, not %d", other, got, want)
				}
			}
		}
	}
}

func TestAskFaultOfEachCount(t *testing.T) {
	publics := publicSet()
	for n := range 40 {
		a := plainAsk()
		for _, x := range []impl.Tlsa{suppliedTo(4), suppliedTo(2), plainTlsa(), {}} {
			a.Tlsas = slices.Repeat([]impl.Tlsa{x}, n)
			checkAsk(t, publics, a)
		}
		a = plainAsk()
		a.Pins = make([]impl.Pin, n)
		checkAsk(t, publics, a)
		a.Pins = pinsAt(1, 0, 1, 2, 3, 4, 5, 6, 7, 8, 9, 10, 11)[:min(n, 12)]
		checkAsk(t, publics, a)
	}
	for _, n := range largeLists {
		a := plainAsk()
		a.Tlsas = make([]impl.Tlsa, n)
		if impl.AskFault(a) != impl.ErrMany || !isNoVerdict(impl.Decide(a), impl.ErrMany) {
			t.Errorf("%d supplied keys: %d", n, impl.AskFault(a))
		}
		a = plainAsk()
		a.Pins = make([]impl.Pin, n)
		if impl.AskFault(a) != impl.ErrMany || !isNoVerdict(impl.Decide(a), impl.ErrMany) {
			t.Errorf("%d pins: %d", n, impl.AskFault(a))
		}
	}
}

// A name is asked for as it is written, and found as it is normal.
func TestDecideOfEachName(t *testing.T) {
	publics := publicSet()
	names := append(allNames(), "A.B", "a.B.", "SRV.x.", "ab", "b.a")
	told := map[int64]int{}
	for _, name := range names {
		for _, own := range names {
			p := trustPin()
			p.Name = own
			x := suppliedTo(4)
			x.Name = own
			for _, a := range []impl.Ask{
				{Pins: []impl.Pin{p}, Name: name, Public: 4},
				{First: true, Tlsas: []impl.Tlsa{x}, Name: name, Public: 4},
				{First: true, Pins: []impl.Pin{p}, Tlsas: []impl.Tlsa{x}, Name: name, Public: 16},
			} {
				got := checkAsk(t, publics, a)
				if got.Code == impl.OK {
					told[got.Reason]++
				}
			}
		}
	}
	for _, why := range []int64{impl.ReasonDane, impl.ReasonNoDane, impl.ReasonActive, impl.ReasonFirst, impl.ReasonRefused} {
		if told[why] < len(normalNames) {
			t.Errorf("%q was told %d times", reasonWords[why-1], told[why])
		}
	}
}

// Supplied keys that have a fault are none of the asking's faults, and say nothing.
func TestFaultySuppliedKeysSayNothing(t *testing.T) {
	for _, x := range faultyTlsas() {
		for n := 1; n <= mostSupplied; n++ {
			a := plainAsk()
			a.Tlsas = slices.Repeat([]impl.Tlsa{x}, n)
			if got := impl.AskFault(a); got != impl.OK {
				t.Fatalf("AskFault(%v): %d", a, got)
			}
			if got := impl.Decide(a); got != verdictOf(impl.ReasonActive) {
				t.Fatalf("Decide(%v): %v", a, got)
			}
		}
	}
}

func TestDecideWrittenOut(t *testing.T) {
	pin := impl.Pin{Name: "a.b", Active: 4, Backup: 16, Epoch: 1, Until: 50}
	bare := impl.Pin{Name: "a.b", Active: 4, Epoch: 1, Until: 50}
	other := impl.Pin{Name: "z", Active: 64, Backup: 256, Epoch: 1, Until: 50}
	four, sum := impl.Tlsa{Name: "a.b", Usage: 3, Value: 4}, impl.Tlsa{Name: "a.b", Usage: 3, Match: 1, Value: 60099}
	lesser, strange := impl.Tlsa{Name: "a.b", Usage: 2, Value: 4}, impl.Tlsa{Name: "z", Usage: 3, Value: 4}
	for i, c := range []struct {
		a    impl.Ask
		want impl.Verdict
	}{
		{impl.Ask{Pins: []impl.Pin{pin}, Name: "A.b", Public: 4, Now: 40}, impl.Verdict{Accept: true, Reason: 3}},
		{impl.Ask{Pins: []impl.Pin{pin}, Name: "a.b.", Public: 4, Now: 50}, impl.Verdict{Accept: true, Reason: 3}},
		{impl.Ask{Pins: []impl.Pin{pin}, Name: "a.b", Public: 16, Now: 50}, impl.Verdict{Accept: true, Reason: 4}},
		{impl.Ask{Pins: []impl.Pin{pin}, Name: "a.b", Public: 64, Now: 50}, impl.Verdict{Reason: 5}},
		{impl.Ask{First: true, Pins: []impl.Pin{pin}, Name: "a.b", Public: 64, Now: 50}, impl.Verdict{Reason: 5}},
		{impl.Ask{Pins: []impl.Pin{bare}, Name: "a.b", Public: 4}, impl.Verdict{Accept: true, Reason: 3}},
		{impl.Ask{Pins: []impl.Pin{bare}, Name: "a.b", Public: 16}, impl.Verdict{Reason: 5}},
		{impl.Ask{Pins: []impl.Pin{pin}, Name: "a.b", Public: 4, Now: 51}, impl.Verdict{Reason: 6}},
		{impl.Ask{First: true, Pins: []impl.Pin{pin}, Name: "a.b", Public: 4, Now: 51}, impl.Verdict{Reason: 6}},
		{impl.Ask{First: true, Pins: []impl.Pin{pin}, Name: "a.b", Public: 16, Now: 51}, impl.Verdict{Reason: 6}},
		{impl.Ask{First: true, Pins: []impl.Pin{pin}, Name: "a.b", Public: 64, Now: 9999}, impl.Verdict{Reason: 6}},
		{impl.Ask{First: true, Pins: []impl.Pin{bare}, Name: "a.b", Public: 64, Now: 9999}, impl.Verdict{Reason: 6}},
		{impl.Ask{First: true, Name: "a.b", Public: 4}, impl.Verdict{Accept: true, Reason: 7}},
		{impl.Ask{Name: "a.b", Public: 4}, impl.Verdict{Reason: 8}},
		{impl.Ask{First: true, Pins: []impl.Pin{other}, Name: "a.b", Public: 64}, impl.Verdict{Accept: true, Reason: 7}},
		{impl.Ask{Pins: []impl.Pin{other}, Name: "a.b", Public: 64}, impl.Verdict{Reason: 8}},
		{impl.Ask{Pins: []impl.Pin{other}, Name: "a.b", Public: 64, Now: 9999}, impl.Verdict{Reason: 8}},
		{impl.Ask{Pins: []impl.Pin{pin, other}, Name: "a.b", Public: 64}, impl.Verdict{Reason: 5}},
		{impl.Ask{Pins: []impl.Pin{pin, other}, Name: "z", Public: 4}, impl.Verdict{Reason: 5}},
		{impl.Ask{Pins: []impl.Pin{pin, other}, Name: "Z", Public: 256}, impl.Verdict{Accept: true, Reason: 4}},
		{impl.Ask{Tlsas: []impl.Tlsa{four}, Name: "A.B.", Public: 4, Now: 9999}, impl.Verdict{Accept: true, Reason: 1}},
		{impl.Ask{Tlsas: []impl.Tlsa{sum}, Name: "a.b", Public: 4}, impl.Verdict{Accept: true, Reason: 1}},
		{impl.Ask{First: true, Tlsas: []impl.Tlsa{four}, Name: "a.b", Public: 16}, impl.Verdict{Reason: 2}},
		{impl.Ask{First: true, Tlsas: []impl.Tlsa{sum}, Name: "a.b", Public: 16}, impl.Verdict{Reason: 2}},
		{impl.Ask{Pins: []impl.Pin{pin}, Tlsas: []impl.Tlsa{four}, Name: "a.b", Public: 16}, impl.Verdict{Reason: 2}},
		{impl.Ask{Pins: []impl.Pin{pin}, Tlsas: []impl.Tlsa{four}, Name: "a.b", Public: 4, Now: 51}, impl.Verdict{Accept: true, Reason: 1}},
		{impl.Ask{Pins: []impl.Pin{pin}, Tlsas: []impl.Tlsa{strange, lesser, {}, four}, Name: "a.b", Public: 4, Now: 51}, impl.Verdict{Accept: true, Reason: 1}},
		{impl.Ask{Pins: []impl.Pin{pin}, Tlsas: []impl.Tlsa{strange, lesser, {}}, Name: "a.b", Public: 4, Now: 50}, impl.Verdict{Accept: true, Reason: 3}},
		{impl.Ask{Pins: []impl.Pin{pin}, Tlsas: []impl.Tlsa{strange, lesser, {}}, Name: "a.b", Public: 4, Now: 51}, impl.Verdict{Reason: 6}},
		{impl.Ask{First: true, Tlsas: []impl.Tlsa{strange, lesser, {}}, Name: "a.b", Public: 4}, impl.Verdict{Accept: true, Reason: 7}},
		{impl.Ask{Tlsas: []impl.Tlsa{strange, lesser, {}}, Name: "a.b", Public: 4}, impl.Verdict{Reason: 8}},
		{impl.Ask{}, impl.Verdict{Code: impl.ErrText}},
		{impl.Ask{First: true, Name: "a.b", Public: 7}, impl.Verdict{Code: impl.ErrRange}},
	} {
		if got := impl.Decide(c.a); got != c.want {
			t.Errorf("number %d: Decide(%v): %v, not %v", i, c.a, got, c.want)
		}
	}
}

// Each Public that there is, and those around, meets a pin that has a backup, one that has none, none at all, and supplied keys.
func TestDecideOfEachPublic(t *testing.T) {
	publics := publicSet()
	bare := trustPin()
	bare.Backup = 0
	stranger := impl.Pin{Name: "z", Active: activeKey, Backup: backupKey, Epoch: 1, Until: 50}
	bases := []impl.Ask{
		{Pins: []impl.Pin{trustPin()}},
		{Pins: []impl.Pin{bare}},
		{Pins: []impl.Pin{stranger}},
		{Pins: []impl.Pin{bare, stranger}},
		{},
		{Tlsas: []impl.Tlsa{suppliedTo(activeKey)}},
		{Tlsas: []impl.Tlsa{suppliedSum(activeKey)}},
		{Tlsas: []impl.Tlsa{suppliedSum(507), suppliedTo(activeKey)}},
		{Tlsas: []impl.Tlsa{suppliedTo(0), suppliedTo(1), suppliedTo(7), suppliedTo(largestSum)}},
	}
	var numbers []int64
	for public := int64(-3); public <= 2*impl.GroupPrime+3; public++ {
		numbers = append(numbers, public)
	}
	for _, base := range bases {
		for _, public := range append(numbers, noPoints...) {
			for _, first := range []bool{false, true} {
				for _, now := range []int64{50, 51} {
					a := base
					a.First, a.Name, a.Public, a.Now = first, "a.b", public, now
					got := checkAsk(t, publics, a)
					if !publics[public] && !isNoVerdict(got, impl.ErrRange) {
						t.Fatalf("%d is no public number: %v", public, got)
					}
				}
			}
		}
	}
}

// A Backup that is none is nobody's key: neither that of who shows no public number nor that of anyone else.
func TestABackupThatIsNoneIsNobodys(t *testing.T) {
	bare := trustPin()
	bare.Backup = 0
	for _, public := range publicNumbers() {
		a := plainAsk()
		a.Pins, a.Public = []impl.Pin{bare}, public
		want := verdictOf(impl.ReasonOther)
		if public == bare.Active {
			want = verdictOf(impl.ReasonActive)
		}
		if got := impl.Decide(a); got != want {
			t.Errorf("%d: %v, not %v", public, got, want)
		}
	}
	a := plainAsk()
	a.Pins, a.Public = []impl.Pin{bare}, 0
	if got := impl.Decide(a); !isNoVerdict(got, impl.ErrRange) {
		t.Errorf("no public number: %v", got)
	}
}

// A pin is live until its time, and over from the next one on, whoever shows whatever.
func TestDecideAtEachTime(t *testing.T) {
	publics := publicSet()
	for _, until := range someTimes {
		p := trustPin()
		p.Until = until
		ask := func(public int64, first bool, now int64) {
			a := impl.Ask{First: first, Pins: []impl.Pin{p}, Name: "a.b", Public: public, Now: now}
			got := checkAsk(t, publics, a)
			if over := now > until; got.Code == impl.OK && over != (got.Reason == impl.ReasonExpired) || over && got.Accept {
				t.Fatalf("until %d, by %d: %v", until, now, got)
			}
		}
		for _, public := range []int64{activeKey, backupKey, anotherKey} {
			for _, first := range []bool{false, true} {
				for now := max(until-20, -3); now <= until+20; now++ {
					ask(public, first, now)
				}
				for _, now := range slices.Concat(someTimes, noTimes) {
					ask(public, first, now)
				}
			}
		}
	}
}

// Each time comes once, without any pin: no time is too late for who comes first, or for a supplied key.
func TestTimesAreNothingToWhoIsNotPinned(t *testing.T) {
	for now := int64(-300); now <= largestTime+300; now++ {
		for _, a := range []impl.Ask{{First: true}, {}, {Tlsas: []impl.Tlsa{suppliedTo(activeKey)}}, {Tlsas: []impl.Tlsa{suppliedTo(backupKey)}, First: true}} {
			want := verdictOf(impl.ReasonRefused)
			switch {
			case now < 0 || now > largestTime:
				want = impl.Verdict{Code: impl.ErrRange}
			case len(a.Tlsas) > 0 && a.First:
				want = verdictOf(impl.ReasonNoDane)
			case len(a.Tlsas) > 0:
				want = verdictOf(impl.ReasonDane)
			case a.First:
				want = verdictOf(impl.ReasonFirst)
			}
			a.Name, a.Public, a.Now = "a.b", activeKey, now
			if got := impl.Decide(a); got != want {
				t.Fatalf("Decide(%v): %v, not %v", a, got, want)
			}
		}
	}
}

// A key is that of its own name alone, though another name has it pinned.
func TestKeysOfOtherNamesAreOthers(t *testing.T) {
	keys := []int64{4, 16, 64, 256, 1024, 2, 8, 32}
	var list []impl.Pin
	for i, place := range []int{1, 4, 6, 9} {
		list = append(list, impl.Pin{Name: pinNames[place], Active: keys[2*i], Backup: keys[2*i+1], Epoch: int64(i) + 1, Until: 100})
	}
	crossed := []impl.Pin{{Name: "a", Active: 4, Backup: 16, Epoch: 1, Until: 100}, {Name: "b", Active: 16, Backup: 4, Epoch: 1, Until: 100}, {Name: "c", Active: 64, Backup: 4, Epoch: 1, Until: 100}, {Name: "d", Active: 4, Epoch: 1, Until: 100}}
	publics := publicSet()
	for _, pins := range [][]impl.Pin{list, crossed} {
		for _, name := range append(slices.Clone(pinNames), "c", "d") {
			for _, public := range keys {
				for _, first := range []bool{false, true} {
					checkAsk(t, publics, impl.Ask{First: first, Pins: pins, Name: name, Public: public, Now: 7})
				}
			}
		}
	}
}

// Of two that are live or over each one's time is its own.
func TestTheTimeOfAnotherPinIsNothing(t *testing.T) {
	for _, untils := range [][3]int64{{10, 90, 10}, {90, 10, 90}, {10, 90, 90}, {90, 10, 10}} {
		list := pinsAt(1, 3, 8, 9)
		for i := range list {
			list[i].Until = untils[i]
		}
		for i, p := range list {
			want := verdictOf(impl.ReasonActive)
			if untils[i] < 50 {
				want = verdictOf(impl.ReasonExpired)
			}
			if got := impl.Decide(impl.Ask{First: true, Pins: list, Name: p.Name, Public: p.Active, Now: 50}); got != want {
				t.Errorf("%q of %v: %v, not %v", p.Name, untils, got, want)
			}
		}
	}
}

// One supplied key that matches does, wherever it stands; with none that does all others are of no use.
func TestASuppliedKeyThatMatchesAtEachPlace(t *testing.T) {
	for _, match := range []impl.Tlsa{suppliedTo(activeKey), suppliedSum(activeKey)} {
		for n := 1; n <= mostSupplied; n++ {
			for place := -1; place < n; place++ {
				var list []impl.Tlsa
				for i := range n {
					x := []impl.Tlsa{suppliedTo(anotherKey), suppliedSum(nobodysKey), suppliedTo(0), suppliedSum(backupKey)}[i%4]
					if i == place {
						x = match
					}
					list = append(list, x)
				}
				want := verdictOf(impl.ReasonDane)
				if place < 0 {
					want = verdictOf(impl.ReasonNoDane)
				}
				a := plainAsk()
				a.Tlsas = list
				if got := impl.Decide(a); got != want {
					t.Errorf("Decide(%v): %v, not %v", a, got, want)
				}
			}
		}
	}
}

// Each list of few kinds is asked for, so that what matches stands behind what is usable and what is not.
func TestDecideOfEachListOfSuppliedKeys(t *testing.T) {
	publics := publicSet()
	lesser, strange := suppliedTo(activeKey), suppliedTo(activeKey)
	lesser.Usage, strange.Name = 0, "z"
	kinds := []impl.Tlsa{suppliedTo(activeKey), suppliedSum(activeKey), suppliedTo(anotherKey), lesser, strange, {Name: "a.b", Usage: 3, Match: 2, Value: activeKey}}
	told := map[int64]int{}
	for n := range 6 {
		eachSupplied(kinds, n, func(list []impl.Tlsa) {
			a := plainAsk()
			a.Tlsas = list
			told[checkAsk(t, publics, a).Reason]++
			a.Pins = nil
			told[checkAsk(t, publics, a).Reason]++
		})
	}
	for _, why := range []int64{impl.ReasonDane, impl.ReasonNoDane, impl.ReasonActive, impl.ReasonFirst} {
		if told[why] < 100 {
			t.Errorf("%q was told %d times", reasonWords[why-1], told[why])
		}
	}
}

// The sums of 507 and 512 are the same, so that who is supplied by its sum is taken for both; by the number itself nobody is.
func TestSuppliedKeysThatShareTheirSum(t *testing.T) {
	for _, own := range []int64{507, 512} {
		for _, shown := range []int64{507, 512, 513} {
			byNumber, bySum := int64(impl.ReasonNoDane), int64(impl.ReasonDane)
			if own == shown {
				byNumber = impl.ReasonDane
			}
			if shown == 513 {
				bySum = impl.ReasonNoDane
			}
			a := impl.Ask{First: true, Name: "a.b", Public: shown, Tlsas: []impl.Tlsa{suppliedTo(own)}}
			if got := impl.Decide(a); got != verdictOf(byNumber) {
				t.Errorf("%d by the number %d: %v", shown, own, got)
			}
			a.Tlsas = []impl.Tlsa{suppliedSum(own)}
			if got := impl.Decide(a); got != verdictOf(bySum) {
				t.Errorf("%d by the sum of %d: %v", shown, own, got)
			}
		}
	}
}

// A Value that is that of the other Match is usable, and matches nobody.
func TestValuesOfTheOtherMatchAreNobodys(t *testing.T) {
	for _, public := range publicNumbers() {
		itself, sum := suppliedTo(public), suppliedSum(public)
		itself.Match, sum.Match = 1, 0
		for _, list := range [][]impl.Tlsa{{itself}, {sum}, {itself, sum}} {
			a := impl.Ask{First: true, Tlsas: list, Name: "a.b", Public: public}
			if got := impl.Decide(a); got != verdictOf(impl.ReasonNoDane) {
				t.Errorf("Decide(%v): %v", a, got)
			}
		}
	}
}

// trustCase is what may be there of one kind, and what it says of who shows activeKey; 0 is where it says nothing.
type trustCase struct {
	name  string
	make  func(*impl.Ask)
	wants int64
}

func suppliedCases() []trustCase {
	supply := func(list ...impl.Tlsa) func(*impl.Ask) {
		return func(a *impl.Ask) { a.Tlsas = list }
	}
	cases := []trustCase{
		{"no supplied key", supply(), 0},
		{"an empty list of supplied keys", func(a *impl.Ask) { a.Tlsas = []impl.Tlsa{} }, 0},
		{"its number", supply(suppliedTo(activeKey)), impl.ReasonDane},
		{"its sum", supply(suppliedSum(activeKey)), impl.ReasonDane},
		{"its sum behind another", supply(suppliedTo(nobodysKey), suppliedSum(activeKey)), impl.ReasonDane},
		{"its number twice", supply(suppliedTo(activeKey), suppliedTo(activeKey)), impl.ReasonDane},
		{"its number behind what is not usable", supply(impl.Tlsa{}, impl.Tlsa{Name: "z", Usage: 3, Value: 64}, suppliedTo(activeKey)), impl.ReasonDane},
		{"another number", supply(suppliedTo(nobodysKey)), impl.ReasonNoDane},
		{"another sum", supply(suppliedSum(nobodysKey)), impl.ReasonNoDane},
		{"another number behind what is not usable", supply(impl.Tlsa{Name: "a.b", Usage: 1, Value: activeKey}, suppliedTo(nobodysKey)), impl.ReasonNoDane},
	}
	for list := range slices.Chunk(unusableTlsas(activeKey), mostSupplied) {
		cases = append(cases, trustCase{"what is not usable", supply(list...), 0})
	}
	for _, x := range unusableTlsas(activeKey) {
		cases = append(cases, trustCase{"one that is not usable", supply(x), 0})
	}
	return cases
}

func pinnedCases() []trustCase {
	pin := func(active int64, backup int64, until int64, beside ...impl.Pin) func(*impl.Ask) {
		return func(a *impl.Ask) {
			a.Pins = append([]impl.Pin{{Name: "a.b", Active: active, Backup: backup, Epoch: 1, Until: until}}, beside...)
		}
	}
	stranger := impl.Pin{Name: "z", Active: activeKey, Backup: backupKey, Epoch: 200, Until: 9999}
	return []trustCase{
		{"no pin", func(*impl.Ask) {}, 0},
		{"an empty list of pins", func(a *impl.Ask) { a.Pins = []impl.Pin{} }, 0},
		{"a pin of another name alone", func(a *impl.Ask) { a.Pins = []impl.Pin{stranger} }, 0},
		{"pins of other names", func(a *impl.Ask) { a.Pins = append(pinsAt(200, 3, 4), stranger) }, 0},
		{"its active key", pin(activeKey, 0, 50), impl.ReasonActive},
		{"its active key, and a backup", pin(activeKey, anotherKey, 51), impl.ReasonActive},
		{"its active key, and another name", pin(activeKey, 0, 9999, stranger), impl.ReasonActive},
		{"its backup", pin(anotherKey, activeKey, 50), impl.ReasonBackup},
		{"neither", pin(anotherKey, nobodysKey, 50), impl.ReasonOther},
		{"neither, and no backup", pin(anotherKey, 0, 50), impl.ReasonOther},
		{"neither, and another name", pin(anotherKey, 0, 50, stranger), impl.ReasonOther},
		{"its active key, just over", pin(activeKey, 0, 49), impl.ReasonExpired},
		{"its active key, over for long", pin(activeKey, anotherKey, 0), impl.ReasonExpired},
		{"its active key, over, and another name", pin(activeKey, anotherKey, 0, stranger), impl.ReasonExpired},
		{"its backup, just over", pin(anotherKey, activeKey, 49), impl.ReasonExpired},
		{"neither, just over", pin(anotherKey, 0, 49), impl.ReasonExpired},
		{"neither, over for long", pin(anotherKey, nobodysKey, 0), impl.ReasonExpired},
	}
}

// Promise 11: what is supplied says it first, then what is pinned, and last whether a first use is allowed.
func TestSuppliedKeysThenPinsThenWhoComesFirst(t *testing.T) {
	told := map[int64]int{}
	for _, supplied := range suppliedCases() {
		for _, pinned := range pinnedCases() {
			for _, first := range []bool{false, true} {
				for _, name := range []string{"a.b", "A.b", "a.B.", "A.B."} {
					a := impl.Ask{First: first, Name: name, Public: activeKey, Now: 50}
					supplied.make(&a)
					pinned.make(&a)
					want := firstOf(reason{supplied.wants != 0, supplied.wants}, reason{pinned.wants != 0, pinned.wants}, reason{first, impl.ReasonFirst}, reason{true, impl.ReasonRefused})
					told[want]++
					if got := impl.Decide(a); got != verdictOf(want) {
						t.Fatalf("%s, %s, first %v, %q: %v, not %v", supplied.name, pinned.name, first, name, got, verdictOf(want))
					}
				}
			}
		}
	}
	for why := range int64(8) {
		if told[why+1] < 50 {
			t.Errorf("%q was told %d times", reasonWords[why], told[why+1])
		}
	}
}

// Promise 11: what a later one would say changes nothing of what an earlier one says.
func TestLaterOnesAreNotAsked(t *testing.T) {
	publics := publicSet()
	for _, supplied := range suppliedCases() {
		if supplied.wants == 0 {
			continue
		}
		for _, pinned := range pinnedCases() {
			for _, public := range publicNumbers()[:20] {
				a := impl.Ask{Name: "a.b", Public: public, Now: 50}
				supplied.make(&a)
				alone := checkAsk(t, publics, a)
				pinned.make(&a)
				a.First = true
				if got := impl.Decide(a); got != alone {
					t.Fatalf("%s, %s, %d: %v, not %v", supplied.name, pinned.name, public, got, alone)
				}
			}
		}
	}
	for _, pinned := range pinnedCases() {
		if pinned.wants == 0 {
			continue
		}
		for _, public := range append(slices.Clone(somePublics), publicNumbers()[:20]...) {
			for now := range int64(100) {
				a := impl.Ask{Name: "a.b", Public: public, Now: now}
				pinned.make(&a)
				refused := impl.Decide(a)
				a.First = true
				if got := impl.Decide(a); got != refused || got.Reason == impl.ReasonFirst || got.Reason == impl.ReasonRefused {
					t.Fatalf("%s, %d by %d: %v, not %v", pinned.name, public, now, got, refused)
				}
			}
		}
	}
}

// Promise 11: of a name that was noted in a store nobody is believed for coming first, whatever became of the store since.
func TestOfAPinnedNameNobodyComesFirst(t *testing.T) {
	told := map[int64]int{}
	for seed := range 60 {
		m := mixer(seed*2654435761 + 1)
		s := impl.Store{}
		noted := map[string]bool{}
		for range 60 {
			p := pinOf([]int{1, 4, 6, 9, 11}[m.next(5)], int64(m.next(60)+1))
			p.Until = int64(m.next(100))
			next := impl.NotePin(s, p)
			if next.Code == impl.ErrFull {
				next = impl.PackStore(s)
			} else if next.Code == impl.OK {
				noted[p.Name] = true
				next = impl.SyncStore(next.Store)
			}
			if next.Code == impl.OK {
				s = impl.CrashStore(next.Store, int64(m.next(3))).Store
			}
			for place, name := range pinNames {
				a := impl.Ask{First: true, Pins: s.Pins, Name: strings.ToUpper(name) + ".", Public: pinOf(place, int64(m.next(60)+1)).Backup, Now: int64(m.next(120))}
				if m.next(2) == 0 {
					a.Public = pinOf(place, 1).Active
				}
				got := impl.Decide(a)
				told[got.Reason]++
				if got.Code != impl.OK || noted[name] == (got.Reason == impl.ReasonFirst) {
					t.Fatalf("%q was noted: %v; Decide(%v): %v", name, noted[name], a, got)
				}
			}
		}
	}
	for _, why := range []int64{impl.ReasonActive, impl.ReasonBackup, impl.ReasonOther, impl.ReasonExpired, impl.ReasonFirst} {
		if told[why] < 20 {
			t.Errorf("%q was told %d times", reasonWords[why-1], told[why])
		}
	}
}

// A next pin that its last key signed is the one that is believed from then on.
func TestWhoWasRolledToIsBelieved(t *testing.T) {
	last, next := linkAt(1), linkAt(2)
	rolled := impl.ApplyRoll([]impl.Pin{last}, rollTo(2), 0)
	if rolled.Code != impl.OK {
		t.Fatalf("ApplyRoll: %v", rolled)
	}
	ask := func(list []impl.Pin, public int64) int64 {
		return impl.Decide(impl.Ask{First: true, Pins: list, Name: last.Name, Public: public}).Reason
	}
	for _, c := range []struct {
		public         int64
		before, behind int64
	}{
		{last.Active, impl.ReasonActive, impl.ReasonOther},
		{last.Backup, impl.ReasonBackup, impl.ReasonOther},
		{next.Active, impl.ReasonOther, impl.ReasonActive},
		{next.Backup, impl.ReasonOther, impl.ReasonBackup},
	} {
		if got := ask([]impl.Pin{last}, c.public); got != c.before {
			t.Errorf("%d ahead of the rollover: %d, not %d", c.public, got, c.before)
		}
		if got := ask(rolled.Pins, c.public); got != c.behind {
			t.Errorf("%d behind the rollover: %d, not %d", c.public, got, c.behind)
		}
	}
}

// mixedAsk mostly has no fault, and few names and keys, so that these meet.
func mixedAsk(m *mixer) impl.Ask {
	keys := []int64{activeKey, backupKey, anotherKey, nobodysKey}
	names := []string{"a", "a.b", "z"}
	a := impl.Ask{First: m.next(2) == 0, Name: []string{"A", "a.B.", "z", "a.b", "b"}[m.next(5)], Public: keys[m.next(4)], Now: int64(m.next(100))}
	for _, name := range names {
		p := impl.Pin{Name: name, Active: keys[m.next(4)], Epoch: int64(m.next(200) + 1), Until: int64(m.next(120))}
		if backup := keys[m.next(4)]; backup != p.Active {
			p.Backup = backup
		}
		if m.next(2) == 0 {
			a.Pins = append(a.Pins, p)
		}
	}
	for range max(m.next(14)-4, 0) {
		x := impl.Tlsa{Name: names[m.next(3)], Usage: int64(m.next(9)+3) / 3, Match: int64(m.next(20)+1) / 10, Value: keys[m.next(4)]}
		if x.Match == 1 {
			x.Value = wantTag("spki", x.Value)
		}
		a.Tlsas = append(a.Tlsas, x)
	}
	flaws := askFlaws()
	if m.next(8) == 0 {
		flaws[m.next(len(flaws))].make(&a)
	}
	return a
}

// All answers are those of the document's rules, be an asking whatever it is.
func TestAsksOfAllKinds(t *testing.T) {
	publics := publicSet()
	reasons, codes := map[int64]int{}, map[int64]int{}
	for seed := range 40000 {
		m := mixer(seed*2654435761 + 1)
		got := checkAsk(t, publics, mixedAsk(&m))
		codes[got.Code]++
		reasons[got.Reason]++
	}
	for _, code := range []int64{impl.OK, impl.ErrMany, impl.ErrText, impl.ErrForm, impl.ErrRange, impl.ErrTaken} {
		if codes[code] < 100 {
			t.Errorf("%d were told for %d", codes[code], code)
		}
	}
	for why := range int64(8) {
		if reasons[why+1] < 100 {
			t.Errorf("%q was told %d times", reasonWords[why], reasons[why+1])
		}
	}
}

// A verdict is that of its reason, and a code has none.
func TestVerdictsAreThoseOfTheirReasons(t *testing.T) {
	for seed := range 20000 {
		m := mixer(seed*2654435761 + 7)
		got := impl.Decide(mixedAsk(&m))
		if got.Code != impl.OK {
			if !isNoVerdict(got, got.Code) {
				t.Fatalf("%v has a code", got)
			}
			continue
		}
		if got.Accept != impl.IsAccept(got.Reason) || impl.ReasonText(got.Reason).Code != impl.OK {
			t.Fatalf("%v has a reason of its own", got)
		}
	}
}

// Promise 1: neither the lists of an asking nor what stands ahead of or behind them in their memory is changed.
func TestAsksChangeNoArguments(t *testing.T) {
	lesser := suppliedTo(activeKey)
	lesser.Usage = 2
	tlsas := []impl.Tlsa{{}, suppliedTo(anotherKey), lesser, suppliedSum(activeKey), {Name: "A.B.", Usage: 3}, suppliedTo(activeKey), {Name: "z", Usage: 3}, suppliedTo(anotherKey), lesser, suppliedSum(nobodysKey), {Usage: -1}}
	pins := slices.Concat(faultyPins()[:2], []impl.Pin{{Name: "a", Active: 4, Epoch: 1}, trustPin()}, pinsAt(1, 8, 9), fullPins(3))
	keptTlsas, keptPins := slices.Clone(tlsas), slices.Clone(pins)
	check := func(a impl.Ask) {
		t.Helper()
		for _, name := range []string{"a.b", "A.B.", "z", ""} {
			a.Name = name
			impl.AskFault(a)
			impl.Decide(a)
			impl.UsableOf(a.Tlsas, name)
		}
		if !slices.Equal(tlsas, keptTlsas) || !slices.Equal(pins, keptPins) {
			t.Fatalf("%v was changed: %v and %v", a, tlsas, pins)
		}
	}
	for from := range tlsas {
		for to := from; to <= len(tlsas); to++ {
			check(impl.Ask{First: true, Pins: pins[2:4], Tlsas: tlsas[from:to], Public: activeKey, Now: 50})
		}
	}
	for from := range pins {
		for to := from; to <= len(pins); to++ {
			for _, now := range []int64{0, 50, 51} {
				check(impl.Ask{First: true, Pins: pins[from:to], Public: activeKey, Now: now})
			}
		}
	}
}

// spoilTlsas goes to the end of the memory that the supplied keys of list lie in.
func spoilTlsas(list []impl.Tlsa) {
	list = list[:cap(list)]
	for i := range list {
		list[i] = impl.Tlsa{Name: "spoilt", Usage: -1, Match: -1, Value: -1}
	}
}

// Promise 1: an answer is spoilt, and neither the argument nor another answer changes; so it is the other way round.
func TestUsableOnesAreNewMemory(t *testing.T) {
	lesser := suppliedTo(activeKey)
	lesser.Usage = 2
	kinds := []impl.Tlsa{suppliedTo(activeKey), suppliedSum(anotherKey), lesser, {}}
	for n := range 6 {
		eachSupplied(kinds, n, func(kept []impl.Tlsa) {
			list := slices.Grow(slices.Clone(kept), 10)
			want := wantUsable(kept, "a.b")
			first, second := impl.UsableOf(list, "a.b"), impl.UsableOf(list, "a.b")
			spoilTlsas(first.Tlsas)
			if !slices.Equal(list, kept) || !isTlsas(second, want) {
				t.Fatalf("behind a spoilt answer: %v and %v, not %v and %v", list, second, kept, want)
			}
			spoilTlsas(list)
			if !isTlsas(second, want) {
				t.Fatalf("behind a spoilt list: %v, not %v", second, want)
			}
		})
	}
}

// Promise 1: what is usable of what is usable is all of it, in new memory again.
func TestUsableOfWhatIsUsable(t *testing.T) {
	list := slices.Repeat([]impl.Tlsa{suppliedTo(activeKey), suppliedSum(anotherKey)}, 4)
	once := impl.UsableOf(list, "a.b")
	twice := impl.UsableOf(once.Tlsas, "A.B.")
	spoilTlsas(once.Tlsas)
	if !isTlsas(twice, impl.TlsasResult{Tlsas: list}) {
		t.Errorf("%v, not %v", twice, list)
	}
}

// Promise 1: the texts of reasons are the same each time, and hang on nothing that was asked.
func TestReasonTextsStayAsTheyAre(t *testing.T) {
	for range 3 {
		for _, why := range slices.Concat(noReasons, []int64{1, 2, 3, 4, 5, 6, 7, 8}) {
			impl.Decide(plainAsk())
			want := impl.TextResult{Code: impl.ErrRange}
			if why >= 1 && why <= 8 {
				want = impl.TextResult{Text: reasonWords[why-1]}
			}
			if got := impl.ReasonText(why); got != want {
				t.Errorf("ReasonText(%d): %v, not %v", why, got, want)
			}
		}
	}
}

type trustAnswers struct {
	fault   int64
	verdict impl.Verdict
	code    int64
	count   int
	usable  [mostSupplied]impl.Tlsa
}

func askTrust(a impl.Ask) trustAnswers {
	usable := impl.UsableOf(a.Tlsas, a.Name)
	answers := trustAnswers{fault: impl.AskFault(a), verdict: impl.Decide(a), code: usable.Code, count: len(usable.Tlsas)}
	copy(answers.usable[:], usable.Tlsas)
	return answers
}

// Promise 1: the same arguments have the same answers, whatever was asked in between, and whatever memory they lie in.
func TestTrustHangsOnItsArgumentsAlone(t *testing.T) {
	var first []trustAnswers
	ask := func(seed int) impl.Ask {
		m := mixer(seed*2654435761 + 3)
		return mixedAsk(&m)
	}
	const asks = 10000
	accepted := 0
	for seed := range asks {
		got := askTrust(ask(seed))
		first = append(first, got)
		if got.verdict.Accept {
			accepted++
		}
	}
	for seed := asks - 1; seed >= 0; seed-- {
		a := ask(seed)
		a.Pins, a.Tlsas = slices.Grow(a.Pins, seed%7), slices.Grow(a.Tlsas, seed%11)
		if len(a.Pins) == 0 {
			a.Pins = []impl.Pin{}
		}
		if len(a.Tlsas) == 0 {
			a.Tlsas = []impl.Tlsa{}
		}
		if got := askTrust(a); got != first[seed] {
			t.Errorf("%v: %v, then %v", a, first[seed], got)
		}
	}
	if accepted < 1000 {
		t.Errorf("%d were believed", accepted)
	}
}
