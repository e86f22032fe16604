package tests

import (
	"math"
	"slices"
	"testing"

	"loop.example/g00618/impl"
)

const longestChain = 8

// rollBook has what the document's rules of rollovers are read by: the public numbers in order, and of which secret each one is.
type rollBook struct {
	list    []int64
	publics map[int64]bool
	logs    map[int64]int64
}

func newRollBook() rollBook {
	return rollBook{list: publicNumbers(), publics: publicSet(), logs: publicLogs()}
}

// reason is a code, and whether it is so.
type reason struct {
	so   bool
	code int64
}

func firstOf(reasons ...reason) int64 {
	for _, r := range reasons {
		if r.so {
			return r.code
		}
	}
	return impl.OK
}

func (b rollBook) pin(p impl.Pin) reason {
	fault := wantPinFault(b.publics, p)
	return reason{fault != impl.OK, fault}
}

func (b rollBook) fault(r impl.Roll) int64 {
	return firstOf(
		b.pin(r.Pin),
		reason{!b.publics[r.By], impl.ErrRange},
		reason{!b.publics[r.Sign.Point] || r.Sign.Proof < 0 || r.Sign.Proof > largestProof, impl.ErrRange},
	)
}

func wantRollSum(p impl.Pin) int64 {
	return wantTag("roll", wantSum(wantPinBytes(p)))
}

func (b rollBook) sign(secret int64, p impl.Pin) impl.Roll {
	return impl.Roll{Pin: p, By: b.list[secret-1], Sign: wantSign(b.list, secret, wantRollSum(p))}
}

func (b rollBook) check(old impl.Pin, r impl.Roll, now int64) int64 {
	fault := b.fault(r)
	return firstOf(
		b.pin(old),
		reason{fault != impl.OK, fault},
		reason{now < 0 || now > largestTime, impl.ErrRange},
		reason{old.Name != r.Pin.Name, impl.ErrForm},
		reason{r.Pin.Epoch-old.Epoch != 1, impl.ErrOld},
		reason{r.By != old.Active && r.By != old.Backup, impl.ErrTrust},
		reason{now > old.Until, impl.ErrOld},
		reason{!wantCheck(b.logs, r.By, wantRollSum(r.Pin), r.Sign), impl.ErrSign},
	)
}

// apply goes through the whole list, where the program has a map.
func (b rollBook) apply(list []impl.Pin, r impl.Roll, now int64) impl.PinsResult {
	fault, own := wantPinsFault(b.publics, list), b.fault(r)
	place := slices.IndexFunc(list, func(p impl.Pin) bool { return p.Name == r.Pin.Name })
	code := firstOf(reason{fault != impl.OK, fault}, reason{own != impl.OK, own}, reason{place < 0, impl.ErrNone})
	if code == impl.OK {
		code = b.check(list[place], r, now)
	}
	if code != impl.OK {
		return impl.PinsResult{Code: code}
	}
	return impl.PinsResult{Pins: slices.Concat(list[:place], []impl.Pin{r.Pin}, list[place+1:])}
}

func (b rollBook) chain(first impl.Pin, list []impl.Roll, now int64) int64 {
	if fault := firstOf(b.pin(first), reason{len(list) > longestChain, impl.ErrMany}); fault != impl.OK {
		return fault
	}
	pins := []impl.Pin{first}
	for i, r := range list {
		if fault := b.check(pins[i], r, now); fault != impl.OK {
			return fault
		}
		pins = append(pins, r.Pin)
	}
	return impl.OK
}

func isRoll(got impl.RollResult, want impl.Roll) bool {
	return got == impl.RollResult{Code: impl.OK, Roll: want}
}

func isNoRoll(got impl.RollResult, code int64) bool {
	return got == impl.RollResult{Code: code}
}

// secretAt and backupAt are the secrets of a key's epoch; no two of them are alike.
func secretAt(epoch int64) int64 {
	return epoch*5 + 1
}

func backupAt(epoch int64) int64 {
	return epoch*5 + 3
}

// linkAt is the pin of an epoch; it is live up to 5000.
func linkAt(epoch int64) impl.Pin {
	return impl.Pin{Name: "a.b", Active: impl.KeyOf(secretAt(epoch)).Key.Public, Backup: impl.KeyOf(backupAt(epoch)).Key.Public, Epoch: epoch, Until: 5000}
}

// rollTo is signed by who has the active key of the epoch ahead.
func rollTo(epoch int64) impl.Roll {
	return impl.SignRoll(secretAt(epoch-1), linkAt(epoch)).Roll
}

// rollsBehind has n rollovers, from the one of the epoch behind on; those of an even epoch are signed by the backup of the epoch ahead.
func rollsBehind(epoch int64, n int) []impl.Roll {
	var list []impl.Roll
	for i := range int64(n) {
		next := epoch + i + 1
		secret := secretAt(next - 1)
		if next%2 == 0 {
			secret = backupAt(next - 1)
		}
		list = append(list, impl.SignRoll(secret, linkAt(next)).Roll)
	}
	return list
}

func TestRollsWrittenOut(t *testing.T) {
	for _, c := range []struct {
		secret int64
		p      impl.Pin
		sum    int64
		by     int64
		sign   impl.Signed
	}{
		{1, impl.Pin{Name: "a.b", Active: 64, Epoch: 3, Until: 90}, 55241, 4, impl.Signed{Point: 538, Proof: 548}},
		{2, impl.Pin{Name: "a.b", Active: 64, Epoch: 3, Until: 90}, 55241, 16, impl.Signed{Point: 93, Proof: 1305}},
		{3, impl.Pin{Name: "a.b", Active: 4, Epoch: 4, Until: 90}, 663, 64, impl.Signed{Point: 2304, Proof: 1248}},
		{1438, impl.Pin{Name: "a", Active: 2872, Backup: 2, Epoch: 200, Until: 9999}, 20551, 720, impl.Signed{Point: 568, Proof: 846}},
		{1, impl.Pin{Name: "z", Active: 4, Backup: 16, Epoch: 1, Until: 0}, 22432, 4, impl.Signed{Point: 1710, Proof: 1112}},
		{720, impl.Pin{Name: "abcdefghijklmnopqrst", Active: 2, Backup: 2872, Epoch: 200, Until: 9999}, 23130, 2, impl.Signed{Point: 762, Proof: 1403}},
		{7, impl.Pin{Name: "0-9", Active: 1024, Backup: 256, Epoch: 128, Until: 256}, 22087, 1989, impl.Signed{Point: 1268, Proof: 373}},
	} {
		if got := impl.RollSum(c.p); got != answered(c.sum) {
			t.Errorf("RollSum(%v): %v, not %d", c.p, got, c.sum)
		}
		want := impl.Roll{Pin: c.p, By: c.by, Sign: c.sign}
		if got := impl.SignRoll(c.secret, c.p); !isRoll(got, want) {
			t.Errorf("SignRoll(%d, %v): %v, not %v", c.secret, c.p, got, want)
		}
		if got := impl.RollFault(want); got != impl.OK {
			t.Errorf("RollFault(%v): %d", want, got)
		}
	}
}

func TestRollFaultsWrittenOut(t *testing.T) {
	p := impl.Pin{Name: "a", Active: 4, Epoch: 1}
	taken := impl.Pin{Name: "a", Active: 4, Backup: 4, Epoch: 1}
	early := impl.Pin{Name: "a", Active: 4}
	g := impl.Signed{Point: 4}
	for _, c := range []struct {
		r    impl.Roll
		want int64
	}{
		{impl.Roll{Pin: p, By: 4, Sign: g}, impl.OK},
		{impl.Roll{Pin: p, By: 2872, Sign: impl.Signed{Point: 2872, Proof: 1438}}, impl.OK},
		{impl.Roll{Pin: p, By: 2, Sign: impl.Signed{Point: 2}}, impl.OK},
		{impl.Roll{}, impl.ErrText},
		{impl.Roll{By: 4, Sign: g}, impl.ErrText},
		{impl.Roll{Pin: impl.Pin{Name: "abcdefghijklmnopqrstu"}}, impl.ErrMany},
		{impl.Roll{Pin: impl.Pin{Name: "A", Active: 4, Epoch: 1}, By: 4, Sign: g}, impl.ErrForm},
		{impl.Roll{Pin: impl.Pin{Name: "A", Active: 4, Epoch: 1}}, impl.ErrForm},
		{impl.Roll{Pin: early, By: 4, Sign: g}, impl.ErrRange},
		{impl.Roll{Pin: taken, By: 4, Sign: g}, impl.ErrTaken},
		{impl.Roll{Pin: taken, By: 0, Sign: g}, impl.ErrTaken},
		{impl.Roll{Pin: taken, By: 4}, impl.ErrTaken},
		{impl.Roll{Pin: taken}, impl.ErrTaken},
		{impl.Roll{Pin: p, By: 0, Sign: g}, impl.ErrRange},
		{impl.Roll{Pin: p, By: 1, Sign: g}, impl.ErrRange},
		{impl.Roll{Pin: p, By: 7, Sign: g}, impl.ErrRange},
		{impl.Roll{Pin: p, By: 2879, Sign: g}, impl.ErrRange},
		{impl.Roll{Pin: p, By: 4}, impl.ErrRange},
		{impl.Roll{Pin: p, By: 4, Sign: impl.Signed{Point: 1}}, impl.ErrRange},
		{impl.Roll{Pin: p, By: 4, Sign: impl.Signed{Point: 4, Proof: -1}}, impl.ErrRange},
		{impl.Roll{Pin: p, By: 4, Sign: impl.Signed{Point: 4, Proof: 1439}}, impl.ErrRange},
		{impl.Roll{Pin: p}, impl.ErrRange},
	} {
		if got := impl.RollFault(c.r); got != c.want {
			t.Errorf("RollFault(%v): %d, not %d", c.r, got, c.want)
		}
	}
}

// rollField is one of the numbers that a rollover has beside its pin.
type rollField struct {
	name string
	of   func(*impl.Roll) *int64
	no   []int64
}

func rollFields() []rollField {
	return []rollField{
		{"By", func(r *impl.Roll) *int64 { return &r.By }, noPoints},
		{"Point", func(r *impl.Roll) *int64 { return &r.Sign.Point }, noPoints},
		{"Proof", func(r *impl.Roll) *int64 { return &r.Sign.Proof }, noProofs},
	}
}

func TestRollFaultOfEachNumber(t *testing.T) {
	book := newRollBook()
	for _, field := range rollFields() {
		taken := 0
		ask := func(number int64) {
			r := rollTo(3)
			*field.of(&r) = number
			want := book.fault(r)
			if want == impl.OK {
				taken++
			}
			if got := impl.RollFault(r); got != want {
				t.Errorf("%s %d: %d, not %d", field.name, number, got, want)
			}
		}
		for number := int64(-3); number <= 2*impl.GroupPrime+5; number++ {
			ask(number)
		}
		for _, number := range field.no {
			ask(number)
		}
		if taken < impl.GroupOrder-1 || taken > impl.GroupOrder {
			t.Errorf("%s: %d were taken", field.name, taken)
		}
	}
}

// faultyRolls has each part that does not fit by itself, and with others.
func faultyRolls() []impl.Roll {
	list := []impl.Roll{{}, {By: 4}, {Sign: impl.Signed{Point: 4}}}
	for i, p := range faultyPins() {
		r := rollTo(3)
		r.Pin = p
		list = append(list, r)
		r.By = noPoints[i%len(noPoints)]
		list = append(list, r)
		r.Sign = impl.Signed{Point: noPoints[i%len(noPoints)], Proof: noProofs[i%len(noProofs)]}
		list = append(list, r)
	}
	for _, field := range rollFields() {
		for _, number := range field.no {
			r := rollTo(3)
			*field.of(&r) = number
			list = append(list, r)
			for _, other := range rollFields() {
				*other.of(&r) = other.no[len(other.no)/2]
				list = append(list, r)
			}
		}
	}
	return list
}

func TestFaultyRollsAreRefused(t *testing.T) {
	book := newRollBook()
	told := map[int64]int{}
	old := linkAt(2)
	for _, r := range faultyRolls() {
		want := book.fault(r)
		told[want]++
		if got := impl.RollFault(r); got != want || got == impl.OK {
			t.Errorf("RollFault(%v): %d, not %d", r, got, want)
		}
		for _, now := range []int64{40, 5000, 5001, -1, largestTime + 1, math.MinInt64, math.MaxInt64} {
			if got := impl.CheckRoll(old, r, now); got != want {
				t.Errorf("CheckRoll of %v by %d: %d, not %d", r, now, got, want)
			}
			for _, list := range [][]impl.Pin{nil, {old}, fullPins(2)} {
				if got := impl.ApplyRoll(list, r, now); !isNoPins(got, want) {
					t.Errorf("ApplyRoll(%v, %v, %d): %v, not %d", list, r, now, got, want)
				}
			}
			if got := impl.ChainFault(old, []impl.Roll{r}, now); got != want {
				t.Errorf("ChainFault of %v alone by %d: %d, not %d", r, now, got, want)
			}
		}
	}
	for _, code := range []int64{impl.ErrMany, impl.ErrText, impl.ErrForm, impl.ErrRange, impl.ErrTaken} {
		if told[code] < 10 {
			t.Errorf("%d were told for %d", told[code], code)
		}
	}
}

// What is wrong with a secret is told ahead of what is wrong with a pin.
func TestNobodySignsAndFaultyPinsAreNotSigned(t *testing.T) {
	book := newRollBook()
	for _, p := range faultyPins() {
		want := book.pin(p).code
		if got := impl.RollSum(p); got != refusedBy(want) {
			t.Errorf("RollSum(%v): %v, not %d", p, got, want)
		}
		for _, secret := range someSecrets {
			if got := impl.SignRoll(secret, p); !isNoRoll(got, want) {
				t.Errorf("SignRoll(%d, %v): %v, not %d", secret, p, got, want)
			}
		}
		for _, secret := range noSecrets {
			if got := impl.SignRoll(secret, p); !isNoRoll(got, impl.ErrRange) {
				t.Errorf("SignRoll(%d, %v): %v", secret, p, got)
			}
		}
	}
	for _, secret := range noSecrets {
		if got := impl.SignRoll(secret, plainPin()); !isNoRoll(got, impl.ErrRange) {
			t.Errorf("SignRoll(%d): %v", secret, got)
		}
	}
}

// Each field of a pin is in its sum, to the edges.
func TestRollSumOfEachPin(t *testing.T) {
	check := func(p impl.Pin) {
		if got, want := impl.RollSum(p), wantRollSum(p); got != answered(want) {
			t.Fatalf("RollSum(%v): %v, not %d", p, got, want)
		}
	}
	for _, field := range pinFields() {
		for _, number := range field.yes {
			p := plainPin()
			*field.of(&p) = number
			if p.Active != p.Backup {
				check(p)
			}
		}
	}
	for _, name := range normalNames {
		p := plainPin()
		p.Name = name
		check(p)
	}
	for until := range int64(largestTime + 1) {
		p := plainPin()
		p.Epoch, p.Until = until%largestEpoch+1, until
		check(p)
	}
}

func TestRollSumIsTheTagSumOfThePackedPin(t *testing.T) {
	for place := range pinNames {
		p := pinOf(place, 7)
		sum := impl.SumOf(impl.PackPin(p).Bytes).Value
		if got, want := impl.RollSum(p), impl.TagSum("roll", []int64{sum}); got != want || got == answered(sum) {
			t.Errorf("RollSum(%v): %v, not %v", p, got, want)
		}
	}
}

func TestSignRollOfEachSecret(t *testing.T) {
	book := newRollBook()
	for secret := int64(1); secret < impl.GroupOrder; secret++ {
		for _, p := range []impl.Pin{plainPin(), linkAt(200), {Name: "z", Active: 2, Epoch: 1}} {
			if got, want := impl.SignRoll(secret, p), book.sign(secret, p); !isRoll(got, want) {
				t.Fatalf("SignRoll(%d, %v): %v, not %v", secret, p, got, want)
			}
		}
	}
}

func TestCheckRollWrittenOut(t *testing.T) {
	old := impl.Pin{Name: "a.b", Active: 4, Backup: 16, Epoch: 2, Until: 50}
	alone := impl.Pin{Name: "a.b", Active: 4, Epoch: 2, Until: 50}
	next := impl.Pin{Name: "a.b", Active: 64, Epoch: 3, Until: 90}
	same := impl.Pin{Name: "a.b", Active: 64, Epoch: 2, Until: 90}
	less := impl.Pin{Name: "a.b", Active: 64, Epoch: 1, Until: 90}
	two := impl.Pin{Name: "a.b", Active: 64, Epoch: 4, Until: 90}
	other := impl.Pin{Name: "a.c", Active: 64, Epoch: 3, Until: 90}
	back := impl.Pin{Name: "a.b", Active: 16, Backup: 4, Epoch: 3, Until: 0}
	by4 := impl.Roll{Pin: next, By: 4, Sign: impl.Signed{Point: 538, Proof: 548}}
	by16 := impl.Roll{Pin: next, By: 16, Sign: impl.Signed{Point: 93, Proof: 1305}}
	turned := impl.Roll{Pin: next, By: 4, Sign: impl.Signed{Point: 538, Proof: 549}}
	stolen := impl.Roll{Pin: next, By: 4, Sign: impl.Signed{Point: 93, Proof: 1305}}
	for i, c := range []struct {
		old  impl.Pin
		r    impl.Roll
		now  int64
		want int64
	}{
		{old, by4, 40, impl.OK},
		{old, by16, 40, impl.OK},
		{old, by4, 0, impl.OK},
		{old, by4, 50, impl.OK},
		{old, by16, 50, impl.OK},
		{old, by4, 51, impl.ErrOld},
		{old, by16, 51, impl.ErrOld},
		{old, by4, 9999, impl.ErrOld},
		{old, by4, 10000, impl.ErrRange},
		{old, by4, -1, impl.ErrRange},
		{old, by4, math.MinInt64, impl.ErrRange},
		{old, by4, math.MaxInt64, impl.ErrRange},
		{alone, by4, 40, impl.OK},
		{alone, by16, 40, impl.ErrTrust},
		{alone, by16, 51, impl.ErrTrust},
		{old, impl.SignRoll(3, next).Roll, 40, impl.ErrTrust},
		{old, impl.SignRoll(3, next).Roll, 51, impl.ErrTrust},
		{alone, impl.SignRoll(3, next).Roll, 40, impl.ErrTrust},
		{old, turned, 40, impl.ErrSign},
		{old, turned, 51, impl.ErrOld},
		{old, stolen, 40, impl.ErrSign},
		{old, impl.SignRoll(1, back).Roll, 40, impl.OK},
		{old, impl.SignRoll(2, back).Roll, 40, impl.OK},
		{old, impl.SignRoll(1, same).Roll, 40, impl.ErrOld},
		{old, impl.SignRoll(1, less).Roll, 40, impl.ErrOld},
		{old, impl.SignRoll(1, two).Roll, 40, impl.ErrOld},
		{old, impl.SignRoll(3, two).Roll, 40, impl.ErrOld},
		{old, impl.SignRoll(1, other).Roll, 40, impl.ErrForm},
		{old, impl.SignRoll(3, other).Roll, 51, impl.ErrForm},
		{old, impl.SignRoll(3, other).Roll, -1, impl.ErrRange},
		{next, by4, 40, impl.ErrOld},
		{impl.Pin{}, by4, 40, impl.ErrText},
		{impl.Pin{Name: "A.b", Active: 4, Epoch: 2, Until: 50}, by4, 40, impl.ErrForm},
		{impl.Pin{Name: "a.b", Active: 4, Backup: 4, Epoch: 2, Until: 50}, by4, 40, impl.ErrTaken},
		{impl.Pin{Name: "a.b", Active: 4, Backup: 4, Epoch: 2, Until: 50}, impl.Roll{}, -1, impl.ErrTaken},
		{old, impl.Roll{}, -1, impl.ErrText},
		{old, impl.Roll{Pin: next, By: 0, Sign: by4.Sign}, 40, impl.ErrRange},
		{alone, impl.Roll{Pin: next, By: 0, Sign: by4.Sign}, 40, impl.ErrRange},
		{old, impl.Roll{Pin: next, By: 4}, 40, impl.ErrRange},
	} {
		if got := impl.CheckRoll(c.old, c.r, c.now); got != c.want {
			t.Errorf("number %d: CheckRoll(%v, %v, %d): %d, not %d", i, c.old, c.r, c.now, got, c.want)
		}
	}
}

// asked is all that CheckRoll is asked by.
type asked struct {
	old impl.Pin
	r   impl.Roll
	now int64
}

// rollFlaws are in the order in which they are told; each one leaves what is told ahead of it as it is.
func rollFlaws(fault func(*impl.Pin), code int64) []struct {
	code int64
	turn func(*asked)
} {
	return []struct {
		code int64
		turn func(*asked)
	}{
		{code, func(a *asked) { fault(&a.old) }},
		{code, func(a *asked) { fault(&a.r.Pin) }},
		{impl.ErrRange, func(a *asked) { a.r.By = 0 }},
		{impl.ErrRange, func(a *asked) { a.r.Sign.Point = 1 }},
		{impl.ErrRange, func(a *asked) { a.now = largestTime + 1 }},
		{impl.ErrForm, func(a *asked) { a.r.Pin.Name = "a.c" }},
		{impl.ErrOld, func(a *asked) { a.r.Pin.Epoch++ }},
		{impl.ErrTrust, func(a *asked) { a.r.By = 2 }},
		{impl.ErrOld, func(a *asked) { a.now = a.old.Until + 1 }},
		{impl.ErrSign, func(a *asked) { a.r.Sign.Proof = (a.r.Sign.Proof + 1) % impl.GroupOrder }},
	}
}

// Of all flaws that there are, however many, the one that the chapter names first is told.
func TestCheckRollTellsTheFirstFlaw(t *testing.T) {
	for _, fault := range []struct {
		code int64
		turn func(*impl.Pin)
	}{
		{impl.ErrMany, func(p *impl.Pin) { p.Name = longNames[0] }},
		{impl.ErrText, func(p *impl.Pin) { p.Name = "" }},
		{impl.ErrForm, func(p *impl.Pin) { p.Name = "A.b" }},
		{impl.ErrRange, func(p *impl.Pin) { p.Epoch = 0 }},
		{impl.ErrTaken, func(p *impl.Pin) { p.Backup = p.Active }},
	} {
		flaws := rollFlaws(fault.turn, fault.code)
		for mask := range 1 << len(flaws) {
			a := asked{linkAt(2), rollTo(3), 40}
			want := int64(impl.OK)
			for i := len(flaws) - 1; i >= 0; i-- {
				if mask>>i&1 == 1 {
					flaws[i].turn(&a)
					want = flaws[i].code
				}
			}
			if got := impl.CheckRoll(a.old, a.r, a.now); got != want {
				t.Fatalf("the flaws %b: CheckRoll(%v): %d, not %d", mask, a, got, want)
			}
			if got := impl.ChainFault(a.old, []impl.Roll{a.r}, a.now); got != want {
				t.Fatalf("the flaws %b: ChainFault(%v): %d, not %d", mask, a, got, want)
			}
		}
	}
}

func TestCheckRollOfFaultyPins(t *testing.T) {
	book := newRollBook()
	for _, old := range faultyPins() {
		want := book.pin(old).code
		for _, r := range []impl.Roll{rollTo(3), {}, {Pin: old, By: 4, Sign: impl.Signed{Point: 4}}} {
			for _, now := range []int64{40, -1, math.MaxInt64} {
				if got := impl.CheckRoll(old, r, now); got != want {
					t.Errorf("CheckRoll(%v, %v, %d): %d, not %d", old, r, now, got, want)
				}
			}
		}
		for _, list := range [][]impl.Roll{nil, {rollTo(3)}, {{}}, make([]impl.Roll, longestChain+1), rollsBehind(2, longestChain)} {
			for _, now := range []int64{40, -1} {
				if got := impl.ChainFault(old, list, now); got != want {
					t.Errorf("ChainFault of %v and %d rollovers: %d, not %d", old, len(list), got, want)
				}
			}
		}
	}
}

// Each epoch meets each other one; just one more is taken.
func TestCheckRollOfEachEpoch(t *testing.T) {
	for epoch := int64(1); epoch <= largestEpoch; epoch++ {
		next := linkAt(epoch)
		r := impl.SignRoll(9, next).Roll
		for last := int64(1); last <= largestEpoch; last++ {
			old := impl.Pin{Name: next.Name, Active: r.By, Epoch: last, Until: 9}
			want := int64(impl.ErrOld)
			if epoch == last+1 {
				want = impl.OK
			}
			if got := impl.CheckRoll(old, r, 9); got != want {
				t.Fatalf("the epoch %d behind %d: %d, not %d", epoch, last, got, want)
			}
		}
	}
}

// Names meet each other two by two; a name that is written otherwise has a fault of its own.
func TestCheckRollOfEachName(t *testing.T) {
	for i := range pinNames {
		for j := range pinNames {
			next := pinOf(j, 3)
			want := int64(impl.ErrForm)
			if i == j {
				want = impl.OK
			}
			if got := impl.CheckRoll(pinOf(i, 2), impl.SignRoll(int64(i)+1, next).Roll, 0); got != want {
				t.Errorf("%q behind %q: %d, not %d", pinNames[j], pinNames[i], got, want)
			}
		}
	}
}

func TestCheckRollAtEachTime(t *testing.T) {
	r := rollTo(3)
	for _, until := range someTimes {
		old := linkAt(2)
		old.Until = until
		ask := func(now int64) {
			want := int64(impl.OK)
			switch {
			case now < 0 || now > largestTime:
				want = impl.ErrRange
			case now > until:
				want = impl.ErrOld
			}
			if got := impl.CheckRoll(old, r, now); got != want {
				t.Fatalf("until %d, by %d: %d, not %d", until, now, got, want)
			}
		}
		for now := max(until-300, -300); now <= until+300; now++ {
			ask(now)
		}
		for _, now := range slices.Concat(noTimes, someTimes) {
			ask(now)
		}
	}
}

// The pin that is to be need not be live: what is asked is the one that it follows.
func TestANextPinThatIsOver(t *testing.T) {
	next := linkAt(3)
	next.Until = 0
	r := impl.SignRoll(secretAt(2), next).Roll
	if got := impl.CheckRoll(linkAt(2), r, 40); got != impl.OK {
		t.Errorf("CheckRoll: %d", got)
	}
	if got := impl.ApplyRoll([]impl.Pin{linkAt(2)}, r, 40); !isPins(got, impl.PinsResult{Pins: []impl.Pin{next}}) {
		t.Errorf("ApplyRoll: %v", got)
	}
	behind := impl.SignRoll(secretAt(3), linkAt(4)).Roll
	if got := impl.ChainFault(linkAt(2), []impl.Roll{r}, 40); got != impl.OK {
		t.Errorf("a chain whose last one is over: %d", got)
	}
	if got := impl.ChainFault(linkAt(2), []impl.Roll{r, behind}, 40); got != impl.ErrOld {
		t.Errorf("a chain whose middle one is over: %d", got)
	}
	if got := impl.ChainFault(linkAt(2), []impl.Roll{r, behind}, 0); got != impl.OK {
		t.Errorf("a chain at the time at which its middle one is over next: %d", got)
	}
}

func TestApplyRollWrittenOut(t *testing.T) {
	a := impl.Pin{Name: "a.b", Active: 4, Backup: 16, Epoch: 2, Until: 50}
	next := impl.Pin{Name: "a.b", Active: 64, Epoch: 3, Until: 90}
	zero := impl.Pin{Name: "0", Active: 4, Epoch: 200, Until: 0}
	z := impl.Pin{Name: "z", Active: 4, Epoch: 2, Until: 50}
	y := impl.Pin{Name: "y", Active: 4, Epoch: 2, Until: 50}
	r := impl.Roll{Pin: next, By: 4, Sign: impl.Signed{Point: 538, Proof: 548}}
	for i, c := range []struct {
		list []impl.Pin
		r    impl.Roll
		now  int64
		want impl.PinsResult
	}{
		{[]impl.Pin{a}, r, 40, impl.PinsResult{Pins: []impl.Pin{next}}},
		{[]impl.Pin{a}, r, 50, impl.PinsResult{Pins: []impl.Pin{next}}},
		{[]impl.Pin{zero, a}, r, 40, impl.PinsResult{Pins: []impl.Pin{zero, next}}},
		{[]impl.Pin{a, z}, r, 40, impl.PinsResult{Pins: []impl.Pin{next, z}}},
		{[]impl.Pin{zero, a, y, z}, r, 40, impl.PinsResult{Pins: []impl.Pin{zero, next, y, z}}},
		{nil, r, 40, impl.PinsResult{Code: impl.ErrNone}},
		{[]impl.Pin{}, r, 51, impl.PinsResult{Code: impl.ErrNone}},
		{[]impl.Pin{zero, y, z}, r, 40, impl.PinsResult{Code: impl.ErrNone}},
		{[]impl.Pin{zero, y, z}, r, -1, impl.PinsResult{Code: impl.ErrNone}},
		{nil, r, math.MaxInt64, impl.PinsResult{Code: impl.ErrNone}},
		{nil, impl.Roll{}, 40, impl.PinsResult{Code: impl.ErrText}},
		{nil, impl.Roll{Pin: next, Sign: r.Sign}, 40, impl.PinsResult{Code: impl.ErrRange}},
		{[]impl.Pin{a}, r, 51, impl.PinsResult{Code: impl.ErrOld}},
		{[]impl.Pin{a}, r, -1, impl.PinsResult{Code: impl.ErrRange}},
		{[]impl.Pin{a}, r, 10000, impl.PinsResult{Code: impl.ErrRange}},
		{[]impl.Pin{a}, impl.SignRoll(3, next).Roll, 40, impl.PinsResult{Code: impl.ErrTrust}},
		{[]impl.Pin{a}, impl.Roll{Pin: next, By: 16, Sign: r.Sign}, 40, impl.PinsResult{Code: impl.ErrSign}},
		{[]impl.Pin{next}, r, 40, impl.PinsResult{Code: impl.ErrOld}},
		{[]impl.Pin{z, a}, r, 40, impl.PinsResult{Code: impl.ErrForm}},
		{[]impl.Pin{a, a}, r, 40, impl.PinsResult{Code: impl.ErrForm}},
		{[]impl.Pin{z, a}, impl.Roll{}, -1, impl.PinsResult{Code: impl.ErrForm}},
		{[]impl.Pin{zero, a, a, a, z}, r, 40, impl.PinsResult{Code: impl.ErrMany}},
		{make([]impl.Pin, 5), impl.Roll{}, 40, impl.PinsResult{Code: impl.ErrMany}},
		{make([]impl.Pin, 4), r, 40, impl.PinsResult{Code: impl.ErrText}},
	} {
		if got := impl.ApplyRoll(c.list, c.r, c.now); !isPins(got, c.want) {
			t.Errorf("number %d: ApplyRoll(%v, %v, %d): %v, not %v", i, c.list, c.r, c.now, got, c.want)
		}
	}
}

// A list that has a fault is told ahead of whatever the rollover or the time is.
func TestApplyRollToFaultyLists(t *testing.T) {
	book := newRollBook()
	for _, p := range faultyPins() {
		want := book.pin(p).code
		for place := range mostPins {
			list := fullPins(1)
			list[place] = p
			for _, r := range []impl.Roll{impl.SignRoll(2, pinOf(1, 2)).Roll, {}, {Pin: impl.Pin{Name: "A"}}} {
				if got := impl.ApplyRoll(list, r, 0); !isNoPins(got, want) {
					t.Fatalf("ApplyRoll(%v, %v): %v, not %d", list, r, got, want)
				}
			}
		}
	}
	for _, list := range [][]impl.Pin{pinsAt(1, 4, 1), pinsAt(1, 1, 1), pinsAt(1, 1, 4, 4), pinsAt(1, 4, 6, 9, 1)} {
		for _, r := range []impl.Roll{impl.SignRoll(2, pinOf(1, 2)).Roll, {}} {
			for _, now := range []int64{0, -1} {
				if got := impl.ApplyRoll(list, r, now); !isNoPins(got, impl.ErrForm) {
					t.Errorf("ApplyRoll(%v, %v, %d): %v", list, r, now, got)
				}
			}
		}
	}
	for _, n := range []int{mostPins + 1, 256, 65536} {
		if got := impl.ApplyRoll(make([]impl.Pin, n), impl.Roll{}, -1); !isNoPins(got, impl.ErrMany) {
			t.Errorf("ApplyRoll to %d zero values: %v", n, got)
		}
	}
}

func TestApplyRollAtEachPlace(t *testing.T) {
	book := newRollBook()
	var rolls []impl.Roll
	for place := range pinNames {
		for _, epoch := range []int64{5, 6, 7} {
			rolls = append(rolls, book.sign(int64(place)+1, pinOf(place, epoch)), book.sign(int64(place)+105, pinOf(place, epoch)), book.sign(1000, pinOf(place, epoch)))
		}
	}
	told := map[int64]int{}
	eachPlaces(func(places []int) {
		list := pinsAt(5, places...)
		for i, r := range rolls {
			now := int64(i*157) % 1200
			want := book.apply(list, r, now)
			told[want.Code]++
			if got := impl.ApplyRoll(list, r, now); !isPins(got, want) {
				t.Fatalf("ApplyRoll(%v, %v, %d): %v, not %v", list, r, now, got, want)
			}
		}
	})
	for _, code := range []int64{impl.OK, impl.ErrNone, impl.ErrOld, impl.ErrTrust} {
		if told[code] < 100 {
			t.Errorf("%d were told for %d", told[code], code)
		}
	}
}

// Too many are told ahead of whatever they are, and behind a first pin that has a fault.
func TestChainsOfEachLength(t *testing.T) {
	for n := range 2*longestChain + 3 {
		want := int64(impl.OK)
		if n > longestChain {
			want = impl.ErrMany
		}
		for _, epoch := range []int64{1, 2, 100, largestEpoch - 2*longestChain - 2} {
			if got := impl.ChainFault(linkAt(epoch), rollsBehind(epoch, n), 40); got != want {
				t.Errorf("%d rollovers behind the epoch %d: %d, not %d", n, epoch, got, want)
			}
		}
	}
	for _, n := range []int{longestChain + 1, 255, 256, 256 + 1, 65536 + 2, 70000} {
		for _, now := range []int64{40, -1, math.MinInt64} {
			if got := impl.ChainFault(linkAt(2), make([]impl.Roll, n), now); got != impl.ErrMany {
				t.Errorf("%d zero values: %d", n, got)
			}
		}
		if got := impl.ChainFault(impl.Pin{}, make([]impl.Roll, n), 40); got != impl.ErrText {
			t.Errorf("the zero value and %d of it: %d", n, got)
		}
	}
}

// A chain of none asks nothing of a time: neither whether it is one, nor whether the first pin is live.
func TestChainsOfNone(t *testing.T) {
	for _, list := range [][]impl.Roll{nil, {}} {
		for _, now := range slices.Concat(someTimes, noTimes) {
			if got := impl.ChainFault(linkAt(2), list, now); got != impl.OK {
				t.Errorf("a chain of none by %d: %d", now, got)
			}
		}
	}
	for _, now := range noTimes {
		if got := impl.ChainFault(linkAt(2), rollsBehind(2, 1), now); got != impl.ErrRange {
			t.Errorf("a chain of one by %d: %d", now, got)
		}
	}
}

// The last epochs are reached, and what is behind them is none.
func TestChainsToTheLastEpoch(t *testing.T) {
	list := rollsBehind(largestEpoch-3, 3)
	if got := impl.ChainFault(linkAt(largestEpoch-3), list, 40); got != impl.OK {
		t.Errorf("up to the last epoch: %d", got)
	}
	past := list[2]
	past.Pin.Epoch++
	if got := impl.ChainFault(linkAt(largestEpoch-3), append(list, past), 40); got != impl.ErrRange {
		t.Errorf("behind the last epoch: %d", got)
	}
	if got := impl.CheckRoll(linkAt(largestEpoch), past, 40); got != impl.ErrRange {
		t.Errorf("CheckRoll behind the last epoch: %d", got)
	}
}

// chainFlaws turn one rollover of a chain, each with the code that it is told for.
var chainFlaws = []struct {
	code int64
	turn func(*impl.Roll)
}{
	{impl.ErrText, func(r *impl.Roll) { *r = impl.Roll{} }},
	{impl.ErrMany, func(r *impl.Roll) { r.Pin.Name = longNames[0] }},
	{impl.ErrTaken, func(r *impl.Roll) { r.Pin.Backup = r.Pin.Active }},
	{impl.ErrRange, func(r *impl.Roll) { r.By = 0 }},
	{impl.ErrRange, func(r *impl.Roll) { r.Sign.Proof = -1 }},
	{impl.ErrForm, func(r *impl.Roll) { r.Pin.Name = "a.c" }},
	{impl.ErrForm, func(r *impl.Roll) { r.Pin.Name = "A.b" }},
	{impl.ErrOld, func(r *impl.Roll) { r.Pin.Epoch++ }},
	{impl.ErrOld, func(r *impl.Roll) { r.Pin.Epoch-- }},
	{impl.ErrTrust, func(r *impl.Roll) { *r = impl.SignRoll(1438, r.Pin).Roll }},
	{impl.ErrSign, func(r *impl.Roll) { r.Sign.Proof = (r.Sign.Proof + 1) % impl.GroupOrder }},
	{impl.ErrSign, func(r *impl.Roll) { r.Sign = impl.SignRoll(1438, r.Pin).Roll.Sign }},
	{impl.ErrSign, func(r *impl.Roll) { r.Pin.Until++ }},
}

// A rollover that is not so is told at each place of a chain of each length, and every beginning ahead of it is a chain.
func TestChainsWithOneThatIsNotSo(t *testing.T) {
	for n := 1; n <= longestChain; n++ {
		for place := range n {
			for i, flaw := range chainFlaws {
				list := rollsBehind(2, n)
				flaw.turn(&list[place])
				for cut := range n + 1 {
					want := int64(impl.OK)
					if cut > place {
						want = flaw.code
					}
					if got := impl.ChainFault(linkAt(2), list[:cut], 40); got != want {
						t.Fatalf("flaw %d at %d of %d: the first %d: %d, not %d", i, place, n, cut, got, want)
					}
				}
			}
		}
	}
}

// Of two that are not so the one ahead is told, whatever the codes are.
func TestChainsGoOneByOne(t *testing.T) {
	for _, ahead := range chainFlaws {
		for _, behind := range chainFlaws {
			for place := range longestChain - 1 {
				list := rollsBehind(2, longestChain)
				ahead.turn(&list[place])
				behind.turn(&list[place+1])
				if got := impl.ChainFault(linkAt(2), list, 40); got != ahead.code {
					t.Fatalf("%d ahead of %d at %d: %d", ahead.code, behind.code, place, got)
				}
			}
		}
	}
}

// A chain from which one is gone, or in which two stand the other way round or one stands twice, is none.
func TestChainsInAnotherOrder(t *testing.T) {
	first := linkAt(2)
	for n := 1; n <= longestChain; n++ {
		list := rollsBehind(2, n)
		for place := range n {
			if gone := slices.Delete(slices.Clone(list), place, place+1); place < n-1 && impl.ChainFault(first, gone, 40) != impl.ErrOld {
				t.Errorf("number %d of %d is gone: %d", place, n, impl.ChainFault(first, gone, 40))
			}
			if n < longestChain {
				if twice := slices.Insert(slices.Clone(list), place, list[place]); impl.ChainFault(first, twice, 40) != impl.ErrOld {
					t.Errorf("number %d of %d stands twice: %d", place, n, impl.ChainFault(first, twice, 40))
				}
			}
			for other := range place {
				turned := slices.Clone(list)
				turned[place], turned[other] = turned[other], turned[place]
				if got := impl.ChainFault(first, turned, 40); got != impl.ErrOld {
					t.Errorf("number %d and %d of %d: %d", other, place, n, got)
				}
			}
		}
		for epoch := int64(1); epoch <= 20; epoch++ {
			if got := impl.ChainFault(linkAt(epoch), list, 40); (got == impl.OK) != (epoch == 2) {
				t.Errorf("%d rollovers behind the epoch %d: %d", n, epoch, got)
			}
		}
	}
}

// Promise 9: of all who could sign just who has the active key or the backup is taken.
func TestANextPinIsTakenFromWhoHadTheLastOneAlone(t *testing.T) {
	next := linkAt(3)
	for secret := int64(1); secret < impl.GroupOrder; secret++ {
		r := impl.SignRoll(secret, next).Roll
		for _, backup := range []int64{0, linkAt(2).Backup} {
			old := linkAt(2)
			old.Backup = backup
			want := impl.PinsResult{Code: impl.ErrTrust}
			if secret == secretAt(2) || secret == backupAt(2) && backup != 0 {
				want = impl.PinsResult{Pins: []impl.Pin{next}}
			}
			if got := impl.CheckRoll(old, r, 40); got != want.Code {
				t.Errorf("secret %d, backup %d: CheckRoll: %d, not %d", secret, backup, got, want.Code)
			}
			if got := impl.ApplyRoll([]impl.Pin{old}, r, 40); !isPins(got, want) {
				t.Errorf("secret %d, backup %d: ApplyRoll: %v, not %v", secret, backup, got, want)
			}
			if got := impl.ChainFault(old, []impl.Roll{r}, 40); got != want.Code {
				t.Errorf("secret %d, backup %d: ChainFault: %d, not %d", secret, backup, got, want.Code)
			}
		}
	}
}

// Promise 9: who signs by another key and says that it was that of the last pin is told, and so is By without its signature.
func TestANextPinThatNobodySigned(t *testing.T) {
	book := newRollBook()
	old, next := linkAt(2), linkAt(3)
	right := rollTo(3)
	refusals := 0
	ask := func(r impl.Roll) {
		want := book.check(old, r, 40)
		if want == impl.ErrSign {
			refusals++
		}
		if got := impl.CheckRoll(old, r, 40); got != want {
			t.Errorf("CheckRoll of %v: %d, not %d", r, got, want)
		}
		if got := impl.ApplyRoll([]impl.Pin{old}, r, 40); got.Code != want {
			t.Errorf("ApplyRoll of %v: %v, not %d", r, got, want)
		}
	}
	for secret := int64(1); secret < impl.GroupOrder; secret++ {
		sign := book.sign(secret, next).Sign
		ask(impl.Roll{Pin: next, By: old.Active, Sign: sign})
		ask(impl.Roll{Pin: next, By: old.Backup, Sign: sign})
	}
	for proof := range int64(impl.GroupOrder) {
		ask(impl.Roll{Pin: next, By: right.By, Sign: impl.Signed{Point: right.Sign.Point, Proof: proof}})
	}
	for _, point := range publicNumbers() {
		ask(impl.Roll{Pin: next, By: right.By, Sign: impl.Signed{Point: point, Proof: right.Sign.Proof}})
	}
	if most := 2*(impl.GroupOrder-1) + impl.GroupOrder + impl.GroupOrder - 1; refusals < most-20 || refusals == most {
		t.Errorf("%d of %d were told for their signature", refusals, most)
	}
}

// Promise 9: what was signed of one pin is not taken for another one, whatever field is another.
func TestANextPinThatWasTurned(t *testing.T) {
	book := newRollBook()
	old, right := linkAt(2), rollTo(3)
	asks, refusals := 0, 0
	ask := func(turn func(*impl.Pin)) {
		r := right
		turn(&r.Pin)
		if r.Pin == right.Pin || book.fault(r) != impl.OK {
			return
		}
		asks++
		want := book.check(old, r, 40)
		if want == impl.ErrSign {
			refusals++
		}
		if got := impl.CheckRoll(old, r, 40); got != want {
			t.Errorf("CheckRoll of %v: %d, not %d", r, got, want)
		}
	}
	for _, public := range publicNumbers() {
		ask(func(p *impl.Pin) { p.Active = public })
		ask(func(p *impl.Pin) { p.Backup = public })
	}
	ask(func(p *impl.Pin) { p.Backup = 0 })
	for until := range int64(largestTime + 1) {
		ask(func(p *impl.Pin) { p.Until = until })
	}
	if asks < 12000 || refusals < asks-60 {
		t.Errorf("%d of %d were told for their signature", refusals, asks)
	}
}

// Promise 9: a rollover is taken once; behind it, and behind all that follow, it is old.
func TestANextPinIsTakenOnce(t *testing.T) {
	for _, beside := range [][]impl.Pin{nil, {pinOf(0, 9)}, {pinOf(8, 9), pinOf(9, 9), pinOf(10, 9)}} {
		list := impl.PutPin(beside, linkAt(1)).Pins
		rolls := rollsBehind(1, 20)
		for i, r := range rolls {
			got := impl.ApplyRoll(list, r, 40)
			if got.Code != impl.OK || impl.PinsFault(got.Pins) != impl.OK || len(got.Pins) != len(list) {
				t.Fatalf("ApplyRoll(%v, %v): %v", list, r, got)
			}
			if found := impl.FindPin(got.Pins, "a.b"); !isPin(found, r.Pin) {
				t.Fatalf("behind %v: %v", r, found)
			}
			for _, p := range beside {
				if found := impl.FindPin(got.Pins, p.Name); !isPin(found, p) {
					t.Fatalf("%q behind %v: %v", p.Name, r, found)
				}
			}
			list = got.Pins
			for j, other := range rolls {
				want := int64(impl.ErrOld)
				if j == i+1 {
					want = impl.OK
				}
				if again := impl.ApplyRoll(list, other, 40); again.Code != want || want != impl.OK && len(again.Pins) != 0 {
					t.Fatalf("number %d behind number %d: %v, not %d", j, i, again, want)
				}
			}
		}
	}
}

// Promise 9: of two rollovers of one epoch, by the active key and by the backup, either one is taken, and then the other is old.
func TestOneOfTwoNextPinsIsTaken(t *testing.T) {
	one, two := linkAt(3), linkAt(3)
	two.Active, two.Until = impl.KeyOf(1000).Key.Public, 77
	rolls := []impl.Roll{impl.SignRoll(secretAt(2), one).Roll, impl.SignRoll(backupAt(2), two).Roll}
	for i, r := range rolls {
		got := impl.ApplyRoll([]impl.Pin{linkAt(2)}, r, 40)
		if !isPins(got, impl.PinsResult{Pins: []impl.Pin{r.Pin}}) {
			t.Errorf("number %d: %v", i, got)
		}
		if again := impl.ApplyRoll(got.Pins, rolls[1-i], 40); !isNoPins(again, impl.ErrOld) {
			t.Errorf("the other one behind number %d: %v", i, again)
		}
	}
}

// mixedChain has rollovers of which most fit to the pin ahead, and some do not; state says which.
func mixedChain(book rollBook, state uint32, n int) (impl.Pin, []impl.Roll) {
	next := func(most uint32) int64 {
		state = state*1664525 + 1013904223
		return int64((state >> 16) % most)
	}
	first := linkAt(next(190) + 1)
	first.Until = next(100)
	var list []impl.Roll
	ahead := first
	for range n {
		p := impl.Pin{Name: ahead.Name, Active: book.list[next(1438)], Epoch: ahead.Epoch + 1, Until: 20 + next(80)}
		if next(2) == 0 {
			p.Backup = book.list[next(1438)]
		}
		secret := book.logs[ahead.Active]
		if next(3) == 0 && ahead.Backup != 0 {
			secret = book.logs[ahead.Backup]
		}
		switch next(40) {
		case 0:
			secret = next(1438) + 1
		case 1:
			p.Epoch++
		}
		r := book.sign(secret, p)
		if next(40) == 0 {
			r.Pin.Until++
		}
		list = append(list, r)
		ahead = p
	}
	return first, list
}

// Promise 9: each beginning of a chain is one, and a chain is what can be applied, one by one.
func TestEachBeginningOfAChainIsOne(t *testing.T) {
	book := newRollBook()
	told := map[int64]int{}
	for seed := range 3000 {
		first, list := mixedChain(book, uint32(seed)*2654435761+1, longestChain)
		now := int64(seed % 40)
		pins := []impl.Pin{first}
		code := int64(impl.OK)
		for cut := range longestChain + 1 {
			if cut > 0 && code == impl.OK {
				applied := impl.ApplyRoll(pins, list[cut-1], now)
				pins, code = applied.Pins, applied.Code
			}
			got, want := impl.ChainFault(first, list[:cut], now), book.chain(first, list[:cut], now)
			if got != want || got != code {
				t.Fatalf("the first %d of %v behind %v: %d, not %d; applied: %d", cut, list, first, got, want, code)
			}
			if code == impl.OK && cut > 0 && !slices.Equal(pins, []impl.Pin{list[cut-1].Pin}) {
				t.Fatalf("the first %d of %v are applied: %v", cut, list, pins)
			}
		}
		told[code]++
	}
	for _, code := range []int64{impl.OK, impl.ErrOld, impl.ErrTrust, impl.ErrSign} {
		if told[code] < 50 {
			t.Errorf("%d were told for %d", told[code], code)
		}
	}
}

// Promise 1: neither the pins and rollovers of a list nor what stands ahead of or behind them in their memory is changed.
func TestRollsChangeNoArguments(t *testing.T) {
	pins := slices.Concat(pinsAt(5, 0, 3), []impl.Pin{{Name: "a.b", Active: linkAt(2).Active, Backup: linkAt(2).Backup, Epoch: 2, Until: 5000}}, pinsAt(5, 8, 9, 11), faultyPins()[:3], pinsAt(5, 8, 3))
	rolls := slices.Concat(rollsBehind(2, longestChain+2), faultyRolls()[:5], rollsBehind(2, 3))
	wantPins, wantRolls := slices.Clone(pins), slices.Clone(rolls)
	applied := 0
	for from := range pins {
		for to := from; to <= len(pins); to++ {
			for _, r := range rolls {
				if impl.ApplyRoll(pins[from:to], r, 40).Code == impl.OK {
					applied++
				}
			}
			if !slices.Equal(pins, wantPins) || !slices.Equal(rolls, wantRolls) {
				t.Fatalf("from %d to %d: %v was changed to %v", from, to, wantPins, pins)
			}
		}
	}
	chains := 0
	for from := range rolls {
		for to := from; to <= len(rolls); to++ {
			for epoch := int64(1); epoch < 12; epoch++ {
				if to > from && impl.ChainFault(linkAt(epoch), rolls[from:to], 40) == impl.OK {
					chains++
				}
			}
			if !slices.Equal(rolls, wantRolls) {
				t.Fatalf("from %d to %d: %v was changed to %v", from, to, wantRolls, rolls)
			}
		}
	}
	if applied == 0 || chains == 0 {
		t.Errorf("%d were applied, %d were chains", applied, chains)
	}
}

// Promise 1: an answer is spoilt, and neither the argument nor another answer changes; so it is the other way round.
func TestPinsThatWereAppliedAreNewMemory(t *testing.T) {
	book := newRollBook()
	eachPlaces(func(places []int) {
		for _, place := range places {
			r := impl.SignRoll(int64(place)+1, pinOf(place, 6)).Roll
			list := slices.Grow(pinsAt(5, places...), 10)
			kept := slices.Clone(list)
			want := book.apply(kept, r, 0)
			if want.Code != impl.OK {
				t.Fatalf("%v is told for %d", r, want.Code)
			}
			first, second := impl.ApplyRoll(list, r, 0), impl.ApplyRoll(list, r, 0)
			spoilPins(first.Pins)
			if !slices.Equal(list, kept) || !isPins(second, want) {
				t.Fatalf("behind a spoilt answer: %v and %v, not %v and %v", list, second, kept, want)
			}
			spoilPins(list)
			if !isPins(second, want) {
				t.Fatalf("behind a spoilt list: %v, not %v", second, want)
			}
		}
	})
}

type rollAnswers struct {
	fault, check, chain, put int64
	sum                      impl.IntResult
	signed                   impl.RollResult
	pins                     [mostPins]impl.Pin
}

func askRoll(name string, x int64, y int64) rollAnswers {
	p := impl.Pin{Name: name, Active: x, Backup: 0, Epoch: 3, Until: y}
	old := linkAt(2)
	signed := impl.SignRoll(secretAt(2), p)
	r := signed.Roll
	r.Sign.Proof ^= y & 1
	put := impl.ApplyRoll([]impl.Pin{pinOf(0, 1), old, pinOf(11, 1)}, r, y)
	answers := rollAnswers{fault: impl.RollFault(impl.Roll{Pin: p, By: y, Sign: impl.Signed{Point: x, Proof: y}}), check: impl.CheckRoll(old, r, y), chain: impl.ChainFault(old, []impl.Roll{r}, x), put: put.Code, sum: impl.RollSum(p), signed: impl.SignRoll(x, p)}
	copy(answers.pins[:], put.Pins)
	return answers
}

// Promise 1: the same arguments have the same answers, whatever was asked in between, and however often.
func TestRollsHangOnTheirArgumentsAlone(t *testing.T) {
	type asking struct {
		name string
		x, y int64
	}
	first := map[asking]rollAnswers{}
	numbers := slices.Concat(noTimes, noPoints, someTimes, somePublics, noProofs)
	put, chains := 0, 0
	for _, name := range []string{"a.b", "a", "z", "A.b", "a.b.", "", "a..b", longNames[0]} {
		for _, x := range numbers {
			for _, y := range numbers {
				got := askRoll(name, x, y)
				first[asking{name, x, y}] = got
				if got.put == impl.OK {
					put++
				}
				if got.chain == impl.OK {
					chains++
				}
			}
		}
	}
	for asked, want := range first {
		if got := askRoll(asked.name, asked.x, asked.y); got != want {
			t.Errorf("%v: %v, then %v", asked, want, got)
		}
	}
	if put == 0 || chains == 0 {
		t.Errorf("%d were put, %d were chains", put, chains)
	}
}
