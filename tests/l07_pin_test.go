package tests

import (
	"bytes"
	"math"
	"slices"
	"strings"
	"testing"

	"loop.example/g00618/impl"
)

const (
	mostPins     = 4
	largestTime  = 9999
	largestEpoch = 200
	pinPacked    = 7
)

// noEpochs lie just outside the epochs, at the ends of an int64, and where an epoch would be if an int64 were cut short.
var noEpochs = []int64{math.MinInt64, math.MinInt64 + 1, -1 << 32, -256, -largestEpoch, -1, 0, largestEpoch + 1, largestEpoch + 2, 255, 256, 256 + 1, 65536 + 1, 1 << 32, 1<<32 + 1, math.MaxInt64 - 1, math.MaxInt64}

// noTimes lie just outside the times, at the ends of an int64, and where a time would be if an int64 were cut short.
var noTimes = []int64{math.MinInt64, math.MinInt64 + 1, -1 << 32, -65536, -largestTime, -2, -1, largestTime + 1, largestTime + 2, 65535, 65536, 65536 + 1, 1 << 32, 1<<32 + 1, math.MaxInt64 - 1, math.MaxInt64}

// noBackups are noPoints but for 0, which says that there is none.
var noBackups = slices.DeleteFunc(slices.Clone(noPoints), func(number int64) bool { return number == 0 })

var someEpochs = []int64{1, 2, 127, 128, largestEpoch - 1, largestEpoch}

var someTimes = []int64{0, 1, 9, 255, 256, 257, 4999, largestTime - 1, largestTime}

func wantPinFault(publics map[int64]bool, p impl.Pin) int64 {
	switch {
	case wantNameFault(p.Name) != impl.OK:
		return wantNameFault(p.Name)
	case wantNormal(p.Name) != p.Name:
		return impl.ErrForm
	case !publics[p.Active], p.Backup != 0 && !publics[p.Backup], p.Epoch < 1, p.Epoch > largestEpoch, p.Until < 0, p.Until > largestTime:
		return impl.ErrRange
	case p.Backup == p.Active:
		return impl.ErrTaken
	}
	return impl.OK
}

func wantPinsFault(publics map[int64]bool, list []impl.Pin) int64 {
	if len(list) > mostPins {
		return impl.ErrMany
	}
	for i := range list {
		if fault := wantPinFault(publics, list[i]); fault != impl.OK {
			return fault
		}
		if i > 0 && bytes.Compare([]byte(list[i-1].Name), []byte(list[i].Name)) >= 0 {
			return impl.ErrForm
		}
	}
	return impl.OK
}

// wantFound goes through the whole list, where the program has a map.
func wantFound(publics map[int64]bool, list []impl.Pin, name string) impl.PinResult {
	if fault := wantPinsFault(publics, list); fault != impl.OK {
		return impl.PinResult{Code: fault}
	}
	if fault := wantNameFault(name); fault != impl.OK {
		return impl.PinResult{Code: fault}
	}
	for _, p := range list {
		if p.Name == wantNormal(name) {
			return impl.PinResult{Pin: p}
		}
	}
	return impl.PinResult{Code: impl.ErrNone}
}

// wantPut puts p where it stands from the first on, where the program sorts.
func wantPut(publics map[int64]bool, list []impl.Pin, p impl.Pin) impl.PinsResult {
	if fault := wantPinsFault(publics, list); fault != impl.OK {
		return impl.PinsResult{Code: fault}
	}
	if fault := wantPinFault(publics, p); fault != impl.OK {
		return impl.PinsResult{Code: fault}
	}
	place := 0
	for place < len(list) && list[place].Name < p.Name {
		place++
	}
	switch {
	case place < len(list) && list[place].Name == p.Name && list[place].Epoch >= p.Epoch:
		return impl.PinsResult{Code: impl.ErrOld}
	case place < len(list) && list[place].Name == p.Name:
		return impl.PinsResult{Pins: slices.Concat(list[:place], []impl.Pin{p}, list[place+1:])}
	case len(list) >= mostPins:
		return impl.PinsResult{Code: impl.ErrFull}
	}
	return impl.PinsResult{Pins: slices.Concat(list[:place], []impl.Pin{p}, list[place:])}
}

func wantPinBytes(p impl.Pin) []byte {
	data := []byte{byte(p.Active / 256), byte(p.Active % 256), byte(p.Backup / 256), byte(p.Backup % 256), byte(p.Epoch), byte(p.Until / 256), byte(p.Until % 256)}
	return append(data, p.Name...)
}

func isPin(got impl.PinResult, want impl.Pin) bool {
	return got == impl.PinResult{Code: impl.OK, Pin: want}
}

func isNoPin(got impl.PinResult, code int64) bool {
	return got == impl.PinResult{Code: code}
}

func isPins(got impl.PinsResult, want impl.PinsResult) bool {
	return got.Code == want.Code && slices.Equal(got.Pins, want.Pins)
}

func isNoPins(got impl.PinsResult, code int64) bool {
	return got.Code == code && len(got.Pins) == 0
}

// plainPin has no fault, and no two numbers alike.
func plainPin() impl.Pin {
	return impl.Pin{Name: "a.b", Active: 1024, Backup: 16, Epoch: 2, Until: 772}
}

// pinNames rise, and have names between which bytes are compared otherwise than letters, digits or lengths are.
var pinNames = []string{"0", "10", "9", "a", "a-b", "a.b", "a0", "aa", "b", "srv.x", "z", "zz"}

// pinOf has no fault; its numbers tell of which name and epoch it is.
func pinOf(place int, epoch int64) impl.Pin {
	return impl.Pin{Name: pinNames[place], Active: impl.KeyOf(int64(place) + 1).Key.Public, Backup: impl.KeyOf(int64(place) + 100 + epoch).Key.Public, Epoch: epoch, Until: int64(place)*100 + epoch}
}

// pinsAt has the pins of these places of pinNames, each of that epoch.
func pinsAt(epoch int64, places ...int) []impl.Pin {
	var list []impl.Pin
	for _, place := range places {
		list = append(list, pinOf(place, epoch))
	}
	return list
}

// fullPins has as many as there may be.
func fullPins(epoch int64) []impl.Pin {
	return pinsAt(epoch, 1, 4, 6, 9)
}

// pinField is one of the numbers that a pin has, in the order of its bytes.
type pinField struct {
	name string
	of   func(*impl.Pin) *int64
	yes  []int64
	no   []int64
}

func pinFields() []pinField {
	return []pinField{
		{"Active", func(p *impl.Pin) *int64 { return &p.Active }, somePublics, noPoints},
		{"Backup", func(p *impl.Pin) *int64 { return &p.Backup }, append([]int64{0}, somePublics...), noBackups},
		{"Epoch", func(p *impl.Pin) *int64 { return &p.Epoch }, someEpochs, noEpochs},
		{"Until", func(p *impl.Pin) *int64 { return &p.Until }, someTimes, noTimes},
	}
}

func TestConstantsOfPins(t *testing.T) {
	if impl.MaxPins != 4 || impl.MaxTime != 9999 {
		t.Errorf("MaxPins: %d, MaxTime: %d", impl.MaxPins, impl.MaxTime)
	}
}

func TestPinFaultsWrittenOut(t *testing.T) {
	for _, c := range []struct {
		p    impl.Pin
		want int64
	}{
		{impl.Pin{Name: "a.b", Active: 4, Backup: 16, Epoch: 2, Until: 50}, impl.OK},
		{impl.Pin{Name: "a", Active: 4, Backup: 0, Epoch: 1, Until: 0}, impl.OK},
		{impl.Pin{Name: "a", Active: 2872, Backup: 2, Epoch: 200, Until: 9999}, impl.OK},
		{impl.Pin{Name: "abcdefghijklmnopqrst", Active: 2, Backup: 2872, Epoch: 200, Until: 9999}, impl.OK},
		{impl.Pin{}, impl.ErrText},
		{impl.Pin{Active: 4, Epoch: 1}, impl.ErrText},
		{impl.Pin{Name: "a..b", Active: 4, Epoch: 1}, impl.ErrText},
		{impl.Pin{Name: "abcdefghijklmnopqrstu", Active: 4, Epoch: 1}, impl.ErrMany},
		{impl.Pin{Name: "A", Active: 4, Epoch: 1}, impl.ErrForm},
		{impl.Pin{Name: "a.", Active: 4, Epoch: 1}, impl.ErrForm},
		{impl.Pin{Name: "A", Active: 4, Backup: 4, Epoch: 1}, impl.ErrForm},
		{impl.Pin{Name: "A", Active: 0, Backup: 0, Epoch: 0, Until: -1}, impl.ErrForm},
		{impl.Pin{Name: "a"}, impl.ErrRange},
		{impl.Pin{Name: "a", Active: 0, Backup: 0, Epoch: 1}, impl.ErrRange},
		{impl.Pin{Name: "a", Active: 0, Backup: 4, Epoch: 1}, impl.ErrRange},
		{impl.Pin{Name: "a", Active: 1, Backup: 1, Epoch: 1}, impl.ErrRange},
		{impl.Pin{Name: "a", Active: 4, Backup: 1, Epoch: 1}, impl.ErrRange},
		{impl.Pin{Name: "a", Active: 7, Backup: 7, Epoch: 1}, impl.ErrRange},
		{impl.Pin{Name: "a", Active: 4, Epoch: 0}, impl.ErrRange},
		{impl.Pin{Name: "a", Active: 4, Epoch: 201}, impl.ErrRange},
		{impl.Pin{Name: "a", Active: 4, Epoch: 1, Until: 10000}, impl.ErrRange},
		{impl.Pin{Name: "a", Active: 4, Epoch: 1, Until: -1}, impl.ErrRange},
		{impl.Pin{Name: "a", Active: 4, Backup: 4, Epoch: 0}, impl.ErrRange},
		{impl.Pin{Name: "a", Active: 4, Backup: 4, Epoch: 1, Until: 10000}, impl.ErrRange},
		{impl.Pin{Name: "a", Active: 4, Backup: 4, Epoch: 1}, impl.ErrTaken},
		{impl.Pin{Name: "a", Active: 2872, Backup: 2872, Epoch: 200, Until: 9999}, impl.ErrTaken},
	} {
		if got := impl.PinFault(c.p); got != c.want {
			t.Errorf("PinFault(%v): %d, not %d", c.p, got, c.want)
		}
		if got := impl.PinsFault([]impl.Pin{c.p}); got != c.want {
			t.Errorf("PinsFault of %v alone: %d, not %d", c.p, got, c.want)
		}
	}
}

// Each number goes through all edges by itself, and with each edge of each other number.
func TestPinFaultAtEveryEdge(t *testing.T) {
	publics := publicSet()
	fields := pinFields()
	for i, field := range fields {
		taken := 0
		for _, number := range slices.Concat(field.yes, field.no) {
			for _, other := range slices.Concat(fields[:i], fields[i+1:]) {
				for _, beside := range slices.Concat(other.yes, other.no) {
					p := plainPin()
					*field.of(&p), *other.of(&p) = number, beside
					want := wantPinFault(publics, p)
					if want == impl.OK {
						taken++
					}
					if got := impl.PinFault(p); got != want {
						t.Fatalf("PinFault(%v): %d, not %d", p, got, want)
					}
				}
			}
		}
		if taken < 50 {
			t.Errorf("%d were taken with edges of %s", taken, field.name)
		}
	}
}

func TestPinFaultOfEachNumber(t *testing.T) {
	publics := publicSet()
	for _, field := range pinFields() {
		for number := int64(-3); number <= largestTime+300; number++ {
			p := plainPin()
			*field.of(&p) = number
			if got, want := impl.PinFault(p), wantPinFault(publics, p); got != want {
				t.Errorf("%s %d: %d, not %d", field.name, number, got, want)
			}
		}
	}
}

// A backup that is the active one is told of each public number, and of no other number.
func TestABackupThatIsTheActiveOne(t *testing.T) {
	publics := publicSet()
	for number := int64(-3); number <= 2*impl.GroupPrime+5; number++ {
		p := plainPin()
		p.Active, p.Backup = number, number
		want := int64(impl.ErrRange)
		if publics[number] {
			want = impl.ErrTaken
		}
		if got := impl.PinFault(p); got != want {
			t.Errorf("PinFault of %d twice: %d, not %d", number, got, want)
		}
		if got := impl.PackPin(p); !isNoBytes(got, want) {
			t.Errorf("PackPin of %d twice: %v, not %d", number, got, want)
		}
		if got := impl.PutPin(nil, p); !isNoPins(got, want) {
			t.Errorf("PutPin of %d twice: %v, not %d", number, got, want)
		}
		if number >= 0 {
			if got := impl.ReadPin(wantPinBytes(p)); !isNoPin(got, impl.ErrText) {
				t.Errorf("ReadPin of %d twice: %v", number, got)
			}
		}
		if impl.IsLive(p, 0) {
			t.Errorf("it is live with %d twice", number)
		}
		p.Backup = 0
		if got := impl.PinFault(p); (got == impl.OK) != publics[number] {
			t.Errorf("PinFault of %d and no backup: %d", number, got)
		}
	}
}

// What a name is told for is told ahead of any number, and a number ahead of a backup that is the active one.
func TestPinFaultOfEachName(t *testing.T) {
	numbers := []impl.Pin{plainPin(), {}, {Active: 4, Backup: 4, Epoch: 1}, {Active: 4, Epoch: 1}, {Active: math.MinInt64, Backup: math.MaxInt64, Epoch: math.MinInt64, Until: math.MaxInt64}, {Active: 4, Backup: 4, Epoch: 0}}
	codes := []int64{impl.OK, impl.ErrRange, impl.ErrTaken, impl.OK, impl.ErrRange, impl.ErrRange}
	for _, c := range []struct {
		list []string
		code int64
	}{{normalNames, impl.OK}, {otherNames, impl.ErrForm}, {noNames, impl.ErrText}, {longNames, impl.ErrMany}} {
		for _, name := range c.list {
			for i, p := range numbers {
				p.Name = name
				want := c.code
				if want == impl.OK {
					want = codes[i]
				}
				if got := impl.PinFault(p); got != want {
					t.Errorf("PinFault(%v): %d, not %d", p, got, want)
				}
				if got := impl.PackPin(p); got.Code != want || (len(got.Bytes) == 0) == (want == impl.OK) {
					t.Errorf("PackPin(%v): %v, not %d", p, got, want)
				}
			}
		}
	}
}

// faultyPins has each field that does not fit by itself, and with others.
func faultyPins() []impl.Pin {
	list := []impl.Pin{{}}
	for _, field := range pinFields() {
		for _, number := range field.no {
			for _, name := range []string{"a.b", "A.b", "a.b.", "", "a..b", longNames[0], longNames[5]} {
				p := plainPin()
				p.Name = name
				*field.of(&p) = number
				list = append(list, p)
				p.Backup = p.Active
				list = append(list, p)
			}
		}
	}
	for _, name := range slices.Concat(otherNames, noNames, longNames) {
		p := plainPin()
		p.Name = name
		list = append(list, p)
	}
	for _, public := range publicNumbers() {
		p := plainPin()
		p.Active, p.Backup = public, public
		list = append(list, p)
	}
	return list
}

func TestFaultyPinsAreRefused(t *testing.T) {
	publics := publicSet()
	told := map[int64]int{}
	for _, p := range faultyPins() {
		want := wantPinFault(publics, p)
		told[want]++
		if got := impl.PinFault(p); got != want || got == impl.OK {
			t.Errorf("PinFault(%v): %d, not %d", p, got, want)
		}
		if got := impl.PackPin(p); !isNoBytes(got, want) {
			t.Errorf("PackPin(%v): %v, not %d", p, got, want)
		}
		for _, list := range [][]impl.Pin{nil, pinsAt(1, 0, 3), fullPins(1)} {
			if got := impl.PutPin(list, p); !isNoPins(got, want) {
				t.Errorf("PutPin(%v, %v): %v, not %d", list, p, got, want)
			}
		}
		for _, now := range slices.Concat(someTimes, noTimes) {
			if impl.IsLive(p, now) {
				t.Errorf("%v is live by %d", p, now)
			}
		}
	}
	for _, code := range []int64{impl.ErrMany, impl.ErrText, impl.ErrForm, impl.ErrRange, impl.ErrTaken} {
		if told[code] < 10 {
			t.Errorf("%d were told for %d", told[code], code)
		}
	}
}

// A pin with a fault is told at each place of a list, and ahead of what is wrong with a name or a pin beside the list.
func TestListsWithAFaultyPinAreRefused(t *testing.T) {
	publics := publicSet()
	for _, p := range faultyPins() {
		want := wantPinFault(publics, p)
		for place := range mostPins {
			list := fullPins(1)
			list[place] = p
			if got := impl.PinsFault(list); got != want {
				t.Fatalf("PinsFault(%v): %d, not %d", list, got, want)
			}
			for _, name := range []string{"a", "10", "A..", longNames[0]} {
				if got := impl.FindPin(list, name); !isNoPin(got, want) {
					t.Fatalf("FindPin(%v, %q): %v, not %d", list, name, got, want)
				}
			}
			for _, put := range []impl.Pin{plainPin(), pinOf(1, 2), pinOf(1, 1), {}, {Name: "A"}, {Name: longNames[0]}} {
				if got := impl.PutPin(list, put); !isNoPins(got, want) {
					t.Fatalf("PutPin(%v, %v): %v, not %d", list, put, got, want)
				}
			}
		}
	}
}

// Too many are told ahead of whatever they are.
func TestPinsFaultOfEachLength(t *testing.T) {
	all := pinsAt(1, 0, 1, 2, 3, 4, 5, 6, 7, 8, 9, 10, 11)
	for n := range len(all) + 1 {
		want := int64(impl.OK)
		if n > mostPins {
			want = impl.ErrMany
		}
		if got := impl.PinsFault(all[:n]); got != want {
			t.Errorf("%d pins: %d, not %d", n, got, want)
		}
	}
	for _, n := range []int{mostPins + 1, mostPins + 2, 255, 256, 256 + 1, 65536 + 2, 70000} {
		list := make([]impl.Pin, n)
		if got := impl.PinsFault(list); got != impl.ErrMany {
			t.Errorf("%d zero values: %d", n, got)
		}
		if got := impl.FindPin(list, ""); !isNoPin(got, impl.ErrMany) {
			t.Errorf("FindPin in %d zero values: %v", n, got)
		}
		if got := impl.PutPin(list, impl.Pin{Name: "A"}); !isNoPins(got, impl.ErrMany) {
			t.Errorf("PutPin among %d zero values: %v", n, got)
		}
		for i := range list {
			list[i] = plainPin()
		}
		if got := impl.PutPin(list, plainPin()); !isNoPins(got, impl.ErrMany) {
			t.Errorf("PutPin among %d alike: %v", n, got)
		}
	}
	for _, list := range [][]impl.Pin{nil, {}} {
		if got := impl.PinsFault(list); got != impl.OK {
			t.Errorf("no pins: %d", got)
		}
	}
}

// Of all names two by two: just those that rise byte by byte have no fault.
func TestPinsRiseByTheirNames(t *testing.T) {
	for i := range pinNames {
		for j := range pinNames {
			list := pinsAt(1, i, j)
			want := int64(impl.OK)
			if i >= j {
				want = impl.ErrForm
			}
			if got := impl.PinsFault(list); got != want {
				t.Errorf("%q and %q: %d, not %d", pinNames[i], pinNames[j], got, want)
			}
			if got := impl.FindPin(list, pinNames[i]); want != impl.OK && !isNoPin(got, want) {
				t.Errorf("FindPin in %q and %q: %v, not %d", pinNames[i], pinNames[j], got, want)
			}
			if got := impl.PutPin(list, pinOf(j, 9)); want != impl.OK && !isNoPins(got, want) {
				t.Errorf("PutPin among %q and %q: %v, not %d", pinNames[i], pinNames[j], got, want)
			}
		}
	}
	for _, epochs := range [][2]int64{{1, 2}, {2, 1}, {2, 2}} {
		list := []impl.Pin{pinOf(3, epochs[0]), pinOf(3, epochs[1])}
		if got := impl.PinsFault(list); got != impl.ErrForm {
			t.Errorf("two of one name, of the epochs %v: %d", epochs, got)
		}
	}
}

// Each four places of few names, so that what does not rise stands at each place, and alone or not.
func TestPinsFaultOfEachOrder(t *testing.T) {
	publics := publicSet()
	risen := 0
	for code := range 6 * 6 * 6 * 6 {
		list := pinsAt(1, code%6, code/6%6, code/36%6, code/216%6)
		want := wantPinsFault(publics, list)
		if want == impl.OK {
			risen++
		}
		if got := impl.PinsFault(list); got != want {
			t.Errorf("PinsFault(%v): %d, not %d", list, got, want)
		}
	}
	if risen != 15 {
		t.Errorf("%d lists rose", risen)
	}
}

// Pins are asked one by one: what does not rise is told ahead of a later fault, and behind an earlier one or its own.
func TestPinsFaultGoesOneByOne(t *testing.T) {
	taken := pinOf(11, 1)
	taken.Backup = taken.Active
	early := pinOf(0, 1)
	early.Epoch = 0
	for _, c := range []struct {
		list []impl.Pin
		want int64
	}{
		{[]impl.Pin{pinOf(3, 1), pinOf(2, 1), taken}, impl.ErrForm},
		{[]impl.Pin{taken, pinOf(3, 1), pinOf(2, 1)}, impl.ErrTaken},
		{[]impl.Pin{pinOf(3, 1), pinOf(3, 1), {}}, impl.ErrForm},
		{[]impl.Pin{pinOf(3, 1), {}, {}}, impl.ErrText},
		{[]impl.Pin{pinOf(3, 1), early}, impl.ErrRange},
		{[]impl.Pin{early, pinOf(3, 1), pinOf(2, 1)}, impl.ErrRange},
		{[]impl.Pin{pinOf(3, 1), pinOf(2, 1), early}, impl.ErrForm},
		{[]impl.Pin{taken, early}, impl.ErrTaken},
		{[]impl.Pin{early, taken}, impl.ErrRange},
		{[]impl.Pin{pinOf(3, 1), {Name: longNames[0]}, {}}, impl.ErrMany},
		{[]impl.Pin{{}, {Name: longNames[0]}}, impl.ErrText},
		{[]impl.Pin{pinOf(3, 1), pinOf(4, 1), pinOf(5, 1), pinOf(5, 1)}, impl.ErrForm},
		{[]impl.Pin{pinOf(3, 1), pinOf(4, 1), pinOf(5, 1), taken}, impl.ErrTaken},
		{[]impl.Pin{pinOf(3, 1), pinOf(2, 1), taken, early, {}}, impl.ErrMany},
	} {
		if got := impl.PinsFault(c.list); got != c.want {
			t.Errorf("PinsFault(%v): %d, not %d", c.list, got, c.want)
		}
		if got := impl.FindPin(c.list, "-"); !isNoPin(got, c.want) {
			t.Errorf("FindPin(%v): %v, not %d", c.list, got, c.want)
		}
		if got := impl.PutPin(c.list, impl.Pin{Name: "-"}); !isNoPins(got, c.want) {
			t.Errorf("PutPin(%v): %v, not %d", c.list, got, c.want)
		}
	}
}

func TestFindPinWrittenOut(t *testing.T) {
	a := impl.Pin{Name: "a.b", Active: 4, Backup: 16, Epoch: 2, Until: 50}
	z := impl.Pin{Name: "z", Active: 64, Epoch: 1, Until: 9}
	list := []impl.Pin{a, z}
	for _, c := range []struct {
		name string
		want impl.PinResult
	}{
		{"a.b", impl.PinResult{Pin: a}},
		{"A.B", impl.PinResult{Pin: a}},
		{"a.b.", impl.PinResult{Pin: a}},
		{"A.b.", impl.PinResult{Pin: a}},
		{"z", impl.PinResult{Pin: z}},
		{"Z.", impl.PinResult{Pin: z}},
		{"a", impl.PinResult{Code: impl.ErrNone}},
		{"b", impl.PinResult{Code: impl.ErrNone}},
		{"a.bb", impl.PinResult{Code: impl.ErrNone}},
		{"zz", impl.PinResult{Code: impl.ErrNone}},
		{"0", impl.PinResult{Code: impl.ErrNone}},
		{"", impl.PinResult{Code: impl.ErrText}},
		{"z..", impl.PinResult{Code: impl.ErrText}},
		{"-z", impl.PinResult{Code: impl.ErrText}},
		{"abcdefghijklmnopqrstu", impl.PinResult{Code: impl.ErrMany}},
	} {
		if got := impl.FindPin(list, c.name); got != c.want {
			t.Errorf("FindPin of %q: %v, not %v", c.name, got, c.want)
		}
	}
}

func TestFindPinOfEachName(t *testing.T) {
	publics := publicSet()
	names := slices.Concat(allNames(), pinNames, []string{"SRV.X.", "A-b", "A0.", "ZZ", "10."})
	found, missed := 0, 0
	for _, list := range [][]impl.Pin{nil, {}, pinsAt(1, 3), pinsAt(3, 0, 9), pinsAt(200, 2, 5, 10), fullPins(7), pinsAt(7, 0, 1, 2, 3), pinsAt(7, 8, 9, 10, 11)} {
		for _, name := range names {
			want := wantFound(publics, list, name)
			switch want.Code {
			case impl.OK:
				found++
			case impl.ErrNone:
				missed++
			}
			if got := impl.FindPin(list, name); got != want {
				t.Errorf("FindPin(%v, %q): %v, not %v", list, name, got, want)
			}
		}
	}
	if found < 20 || missed < 100 {
		t.Errorf("%d were found, %d were not", found, missed)
	}
}

func TestPutPinWrittenOut(t *testing.T) {
	a := impl.Pin{Name: "a", Active: 4, Backup: 16, Epoch: 2, Until: 50}
	older := impl.Pin{Name: "a", Active: 64, Epoch: 1, Until: 9999}
	alike := impl.Pin{Name: "a", Active: 64, Epoch: 2, Until: 9999}
	newer := impl.Pin{Name: "a", Active: 64, Backup: 4, Epoch: 3, Until: 0}
	last := impl.Pin{Name: "a", Active: 256, Epoch: 200, Until: 1}
	b := impl.Pin{Name: "b", Active: 4, Epoch: 200, Until: 1}
	c := impl.Pin{Name: "c", Active: 4, Epoch: 1, Until: 1}
	d := impl.Pin{Name: "d", Active: 4, Epoch: 9, Until: 1}
	e := impl.Pin{Name: "e", Active: 4, Epoch: 9, Until: 1}
	for i, x := range []struct {
		list []impl.Pin
		p    impl.Pin
		want impl.PinsResult
	}{
		{nil, a, impl.PinsResult{Pins: []impl.Pin{a}}},
		{[]impl.Pin{}, b, impl.PinsResult{Pins: []impl.Pin{b}}},
		{[]impl.Pin{b}, a, impl.PinsResult{Pins: []impl.Pin{a, b}}},
		{[]impl.Pin{a}, b, impl.PinsResult{Pins: []impl.Pin{a, b}}},
		{[]impl.Pin{a, c}, b, impl.PinsResult{Pins: []impl.Pin{a, b, c}}},
		{[]impl.Pin{a, b, c}, d, impl.PinsResult{Pins: []impl.Pin{a, b, c, d}}},
		{[]impl.Pin{b, c, d}, a, impl.PinsResult{Pins: []impl.Pin{a, b, c, d}}},
		{[]impl.Pin{a}, a, impl.PinsResult{Code: impl.ErrOld}},
		{[]impl.Pin{a}, older, impl.PinsResult{Code: impl.ErrOld}},
		{[]impl.Pin{a}, alike, impl.PinsResult{Code: impl.ErrOld}},
		{[]impl.Pin{a}, newer, impl.PinsResult{Pins: []impl.Pin{newer}}},
		{[]impl.Pin{a}, last, impl.PinsResult{Pins: []impl.Pin{last}}},
		{[]impl.Pin{last}, a, impl.PinsResult{Code: impl.ErrOld}},
		{[]impl.Pin{last}, last, impl.PinsResult{Code: impl.ErrOld}},
		{[]impl.Pin{older}, a, impl.PinsResult{Pins: []impl.Pin{a}}},
		{[]impl.Pin{a, b, c, d}, newer, impl.PinsResult{Pins: []impl.Pin{newer, b, c, d}}},
		{[]impl.Pin{a, b, c, d}, alike, impl.PinsResult{Code: impl.ErrOld}},
		{[]impl.Pin{a, b, c, d}, older, impl.PinsResult{Code: impl.ErrOld}},
		{[]impl.Pin{a, b, c, d}, e, impl.PinsResult{Code: impl.ErrFull}},
		{[]impl.Pin{b, c, d, e}, a, impl.PinsResult{Code: impl.ErrFull}},
		{[]impl.Pin{b, c, d, e}, impl.Pin{Name: "A", Active: 4, Epoch: 1}, impl.PinsResult{Code: impl.ErrForm}},
		{[]impl.Pin{a}, impl.Pin{Name: "A.", Active: 4, Epoch: 1}, impl.PinsResult{Code: impl.ErrForm}},
		{[]impl.Pin{a}, impl.Pin{Name: "a", Active: 4, Epoch: 201}, impl.PinsResult{Code: impl.ErrRange}},
		{[]impl.Pin{a}, impl.Pin{Name: "a", Active: 4, Epoch: 0}, impl.PinsResult{Code: impl.ErrRange}},
		{[]impl.Pin{a}, impl.Pin{Name: "a", Active: 4, Backup: 4, Epoch: 1}, impl.PinsResult{Code: impl.ErrTaken}},
		{[]impl.Pin{a, b, c, d}, impl.Pin{Name: "e", Active: 4, Backup: 4, Epoch: 1}, impl.PinsResult{Code: impl.ErrTaken}},
		{[]impl.Pin{b, a}, a, impl.PinsResult{Code: impl.ErrForm}},
		{[]impl.Pin{a, b, c, d, e}, a, impl.PinsResult{Code: impl.ErrMany}},
	} {
		if got := impl.PutPin(x.list, x.p); !isPins(got, x.want) {
			t.Errorf("number %d: PutPin(%v, %v): %v, not %v", i, x.list, x.p, got, x.want)
		}
	}
}

// eachPlaces tells all rising places of pinNames, as many as there may be pins.
func eachPlaces(tell func(places []int)) {
	for mask := range 1 << len(pinNames) {
		var places []int
		for place := range pinNames {
			if mask>>place&1 == 1 {
				places = append(places, place)
			}
		}
		if len(places) <= mostPins {
			tell(places)
		}
	}
}

func TestPutPinAtEachPlace(t *testing.T) {
	publics := publicSet()
	told := map[int64]int{}
	eachPlaces(func(places []int) {
		list := pinsAt(5, places...)
		for place := range pinNames {
			for _, epoch := range []int64{1, 4, 5, 6, largestEpoch} {
				p := pinOf(place, epoch)
				want := wantPut(publics, list, p)
				told[want.Code]++
				if got := impl.PutPin(list, p); !isPins(got, want) {
					t.Fatalf("PutPin(%v, %v): %v, not %v", list, p, got, want)
				}
			}
		}
	})
	for _, code := range []int64{impl.OK, impl.ErrOld, impl.ErrFull} {
		if told[code] < 1000 {
			t.Errorf("%d were told for %d", told[code], code)
		}
	}
}

// Each epoch meets each other one, where there is room and where there is none.
func TestPutPinOfEachEpoch(t *testing.T) {
	for _, beside := range [][]impl.Pin{nil, pinsAt(1, 8, 9, 10)} {
		for there := int64(1); there <= largestEpoch; there++ {
			list := append([]impl.Pin{pinOf(3, there)}, beside...)
			for epoch := int64(1); epoch <= largestEpoch; epoch++ {
				p := pinOf(3, epoch)
				want := impl.PinsResult{Code: impl.ErrOld}
				if epoch > there {
					want = impl.PinsResult{Pins: append([]impl.Pin{p}, beside...)}
				}
				if got := impl.PutPin(list, p); !isPins(got, want) {
					t.Fatalf("the epoch %d behind %d: %v, not %v", epoch, there, got, want)
				}
			}
		}
	}
}

func TestIsLiveWrittenOut(t *testing.T) {
	p := impl.Pin{Name: "a.b", Active: 4, Backup: 16, Epoch: 2, Until: 50}
	for _, c := range []struct {
		until, now int64
		want       bool
	}{
		{50, 50, true}, {50, 49, true}, {50, 0, true}, {50, 51, false}, {50, 9999, false}, {50, -1, false}, {50, 10000, false},
		{0, 0, true}, {0, 1, false}, {0, -1, false},
		{9999, 9999, true}, {9999, 9998, true}, {9999, 0, true}, {9999, 10000, false}, {9999, -1, false},
		{10000, 0, false}, {10000, 9999, false}, {10000, 10000, false}, {-1, 0, false}, {-1, -1, false},
		{9999, math.MinInt64, false}, {9999, math.MaxInt64, false}, {math.MaxInt64, 0, false}, {math.MinInt64, math.MinInt64, false}, {math.MaxInt64, math.MaxInt64, false},
	} {
		p.Until = c.until
		if got := impl.IsLive(p, c.now); got != c.want {
			t.Errorf("until %d, by %d: %v", c.until, c.now, got)
		}
	}
}

func TestIsLiveAtEachTime(t *testing.T) {
	publics := publicSet()
	for _, until := range slices.Concat(someTimes, noTimes) {
		p := plainPin()
		p.Until = until
		ask := func(now int64) {
			want := wantPinFault(publics, p) == impl.OK && 0 <= now && now <= until
			if got := impl.IsLive(p, now); got != want {
				t.Fatalf("until %d, by %d: %v", until, now, got)
			}
		}
		for now := int64(-300); now <= largestTime+300; now++ {
			ask(now)
		}
		for _, now := range noTimes {
			ask(now)
		}
	}
}

func TestPackPinWrittenOut(t *testing.T) {
	for _, c := range []struct {
		p    impl.Pin
		want string
	}{
		{impl.Pin{Name: "a.b", Active: 4, Backup: 16, Epoch: 2, Until: 50}, "\x00\x04\x00\x10\x02\x00\x32a.b"},
		{impl.Pin{Name: "z", Active: 64, Epoch: 1, Until: 0}, "\x00\x40\x00\x00\x01\x00\x00z"},
		{impl.Pin{Name: "abcdefghij.klmnopqrs", Active: 2872, Backup: 2, Epoch: 200, Until: 9999}, "\x0b\x38\x00\x02\xc8\x27\x0fabcdefghij.klmnopqrs"},
		{impl.Pin{Name: "srv.x", Active: 256, Backup: 1024, Epoch: 128, Until: 256}, "\x01\x00\x04\x00\x80\x01\x00srv.x"},
		{impl.Pin{Name: "0-9", Active: 1024, Backup: 2872, Epoch: 127, Until: 255}, "\x04\x00\x0b\x38\x7f\x00\xff0-9"},
	} {
		if got := impl.PackPin(c.p); got.Code != impl.OK || string(got.Bytes) != c.want {
			t.Errorf("PackPin(%v): %v, not %q", c.p, got, c.want)
		}
		if got := impl.ReadPin([]byte(c.want)); !isPin(got, c.p) {
			t.Errorf("ReadPin(%q): %v, not %v", c.want, got, c.p)
		}
	}
}

// checkReadPin asks what is read from the bytes of p, which may leave its bounds as far as bytes can.
func checkReadPin(t *testing.T, publics map[int64]bool, p impl.Pin) {
	t.Helper()
	got := impl.ReadPin(wantPinBytes(p))
	fault := wantPinFault(publics, p)
	if fault != impl.OK && !isNoPin(got, impl.ErrText) || fault == impl.OK && !isPin(got, p) {
		t.Fatalf("the bytes of %v are read as %v", p, got)
	}
}

// Each number of a pin goes through all that its bytes can tell.
func TestReadPinOfEachNumber(t *testing.T) {
	publics := publicSet()
	for _, field := range pinFields() {
		most := int64(65536)
		if field.name == "Epoch" {
			most = 256
		}
		for number := range most {
			p := plainPin()
			*field.of(&p) = number
			checkReadPin(t, publics, p)
		}
	}
}

func TestReadPinOfEachName(t *testing.T) {
	publics := publicSet()
	check := func(name string) {
		p := plainPin()
		p.Name = name
		checkReadPin(t, publics, p)
	}
	for _, name := range allNames() {
		check(name)
	}
	eachName("aZ0-._", 5, check)
	for b := range 256 {
		for _, around := range [][2]string{{"", ""}, {"a", ""}, {"", "a"}, {"a", "a"}, {"a.", ".a"}} {
			check(around[0] + string([]byte{byte(b)}) + around[1])
		}
	}
}

func TestReadPinOfOtherLengths(t *testing.T) {
	publics := publicSet()
	for _, name := range []string{"a", "a.b", "a-b.c-d", "abcdefghij.klmnopqrs"} {
		p := plainPin()
		p.Name = name
		packed := wantPinBytes(p)
		for cut := range packed {
			if cut <= pinPacked {
				if got := impl.ReadPin(packed[:cut]); !isNoPin(got, impl.ErrText) {
					t.Errorf("%d of %d bytes: %v", cut, len(packed), got)
				}
				continue
			}
			shorter := p
			shorter.Name = name[:cut-pinPacked]
			checkReadPin(t, publics, shorter)
		}
		for more := longestName - len(name) + 1; more <= 300; more++ {
			if got := impl.ReadPin(append(slices.Clone(packed), bytes.Repeat([]byte("a"), more)...)); !isNoPin(got, impl.ErrText) {
				t.Errorf("%d bytes behind %q: %v", more, name, got)
			}
		}
	}
	for _, data := range [][]byte{nil, {}, {0}, {0, 4}, {0, 4, 0, 16, 2, 0}, {0, 4, 0, 16, 2, 0, 50}, []byte("abcdef"), []byte("abcdefg"), make([]byte, 7), make([]byte, 8), make([]byte, 27), []byte("\x00\x04\x00\x10\x02\x00\x32a.b\x00"), bytes.Repeat([]byte{4}, 100000)} {
		if got := impl.ReadPin(data); !isNoPin(got, impl.ErrText) {
			t.Errorf("ReadPin of %d bytes: %v", len(data), got)
		}
	}
}

// What is read is just what was packed, be the bytes whatever they are.
func TestPinsThatAreReadArePackedBack(t *testing.T) {
	letters := []byte("abz09-.AZ_")
	read, refusals := 0, 0
	for seed := range 200000 {
		data := mixedBytes(seed % 30)
		for i := range data {
			data[i] += byte(seed / 30 * (i + 1))
			switch {
			case i == 0 || i == 2:
				data[i] %= 12
			case i == 5:
				data[i] %= 41
			case i >= pinPacked:
				data[i] = letters[int(data[i])%(6+seed%5)]
			}
		}
		got := impl.ReadPin(data)
		switch {
		case got.Code == impl.OK:
			read++
			if !isBytes(impl.PackPin(got.Pin), impl.BytesResult{Bytes: data}) {
				t.Fatalf("ReadPin(%v): %v", data, got)
			}
		case isNoPin(got, impl.ErrText):
			refusals++
		default:
			t.Fatalf("ReadPin(%v): %v", data, got)
		}
	}
	if read < 500 || refusals < 500 {
		t.Errorf("%d were read, %d were not", read, refusals)
	}
}

func TestEachPinIsReadBack(t *testing.T) {
	for _, name := range normalNames {
		for _, active := range somePublics {
			for _, backup := range append([]int64{0}, somePublics...) {
				for _, epoch := range someEpochs {
					for _, until := range someTimes {
						p := impl.Pin{Name: name, Active: active, Backup: backup, Epoch: epoch, Until: until}
						packed := impl.PackPin(p)
						if active == backup {
							if !isNoBytes(packed, impl.ErrTaken) {
								t.Fatalf("PackPin(%v): %v", p, packed)
							}
							continue
						}
						if !isBytes(packed, impl.BytesResult{Bytes: wantPinBytes(p)}) || !isPin(impl.ReadPin(packed.Bytes), p) {
							t.Fatalf("%v is packed as %v and read back as %v", p, packed, impl.ReadPin(packed.Bytes))
						}
					}
				}
			}
		}
	}
}

func TestSamePins(t *testing.T) {
	lists := [][]impl.Pin{nil, {{}}, {{}, {}}, pinsAt(1, 0), pinsAt(2, 0), pinsAt(1, 1), pinsAt(1, 0, 1), pinsAt(1, 1, 0), fullPins(1), fullPins(2), pinsAt(1, 0, 1, 2, 3, 4, 5), make([]impl.Pin, 300)}
	for i, a := range lists {
		for j, b := range lists {
			if got := impl.SamePins(a, slices.Clone(b)); got != (i == j) {
				t.Errorf("SamePins(%v, %v): %v", a, b, got)
			}
		}
	}
	for _, a := range [][]impl.Pin{nil, {}} {
		for _, b := range [][]impl.Pin{nil, {}} {
			if !impl.SamePins(a, b) {
				t.Errorf("no pins are not the same")
			}
		}
	}
}

// Lists of each length that differ at one place in one field, be there a fault or not, are not the same.
func TestSamePinsOfOneOtherField(t *testing.T) {
	turns := []func(*impl.Pin){
		func(p *impl.Pin) { p.Name += "a" },
		func(p *impl.Pin) { p.Name = strings.ToUpper(p.Name) + "." },
		func(p *impl.Pin) { p.Name = "" },
	}
	for _, field := range pinFields() {
		for _, by := range []int64{1, -1, 256, 65536, 1 << 32, math.MinInt64} {
			turns = append(turns, func(p *impl.Pin) { *field.of(p) += by })
		}
	}
	for n := range 7 {
		list := pinsAt(3, 0, 1, 2, 3, 4, 5)[:n]
		for place := range list {
			for i, turn := range turns {
				other := slices.Clone(list)
				turn(&other[place])
				if impl.SamePins(list, other) || impl.SamePins(other, list) || !impl.SamePins(other, slices.Clone(other)) {
					t.Errorf("number %d at %d of %d", i, place, n)
				}
			}
		}
		if n > 0 && (impl.SamePins(list, list[:n-1]) || impl.SamePins(list[:n-1], list) || impl.SamePins(list, list[1:])) {
			t.Errorf("%d pins, and one less", n)
		}
	}
}

// Promise 8: what was put is found by each way to write its name, and all others are as they were.
func TestWhatWasPinnedIsFound(t *testing.T) {
	put := 0
	eachPlaces(func(places []int) {
		list := pinsAt(5, places...)
		for place, name := range pinNames {
			p := pinOf(place, 6)
			got := impl.PutPin(list, p)
			if got.Code != impl.OK {
				continue
			}
			put++
			if impl.PinsFault(got.Pins) != impl.OK {
				t.Fatalf("PutPin(%v, %v): %v", list, p, got)
			}
			for _, way := range []string{name, name + ".", strings.ToUpper(name), strings.ToUpper(name) + "."} {
				if found := impl.FindPin(got.Pins, way); !isPin(found, p) {
					t.Fatalf("%q in %v: %v, not %v", way, got, found, p)
				}
			}
			for other, otherName := range pinNames {
				if other == place {
					continue
				}
				if ahead, behind := impl.FindPin(list, otherName), impl.FindPin(got.Pins, otherName); ahead != behind {
					t.Fatalf("%q was %v and is %v", otherName, ahead, behind)
				}
			}
		}
	})
	if put < 1000 {
		t.Errorf("%d were put", put)
	}
}

// Promise 8: through many puts, one after the other, what is found of a name has an epoch that does not go back.
func TestNoOlderPinTakesThePlaceOfANewerOne(t *testing.T) {
	names := 6
	for start := range 40 {
		var list []impl.Pin
		newest := make([]impl.Pin, names)
		told := map[int64]int{}
		state := uint32(start)*2654435761 + 1
		for range 400 {
			state = state*1664525 + 1013904223
			place, epoch := int(state>>16)%names, int64(state>>24)%largestEpoch+1
			p := pinOf(place, epoch)
			p.Until = int64(state>>8) % (largestTime + 1)
			got := impl.PutPin(list, p)
			told[got.Code]++
			switch {
			case newest[place].Epoch >= epoch:
				if !isNoPins(got, impl.ErrOld) {
					t.Fatalf("PutPin(%v, %v): %v", list, p, got)
				}
			case newest[place].Epoch == 0 && len(list) == mostPins:
				if !isNoPins(got, impl.ErrFull) {
					t.Fatalf("PutPin(%v, %v): %v", list, p, got)
				}
			default:
				if got.Code != impl.OK {
					t.Fatalf("PutPin(%v, %v): %v", list, p, got)
				}
				list, newest[place] = got.Pins, p
			}
			for i, want := range newest {
				found := impl.FindPin(list, pinNames[i])
				if want.Epoch == 0 && !isNoPin(found, impl.ErrNone) || want.Epoch > 0 && !isPin(found, want) {
					t.Fatalf("%q: %v, not %v", pinNames[i], found, want)
				}
			}
		}
		if told[impl.OK] < mostPins || told[impl.ErrOld] == 0 || told[impl.ErrFull] == 0 {
			t.Errorf("start %d: %v", start, told)
		}
	}
}

// Promise 8: the order in which pins of several names came is not seen.
func TestPinsRiseWhateverOrderTheyCameIn(t *testing.T) {
	places := []int{1, 4, 6, 9}
	orders := 0
	for code := range 256 {
		order := []int{code % 4, code / 4 % 4, code / 16 % 4, code / 64}
		if slices.Equal(slices.Compact(slices.Sorted(slices.Values(order))), []int{0, 1, 2, 3}) {
			orders++
			var list []impl.Pin
			for _, i := range order {
				list = impl.PutPin(list, pinOf(places[i], 1)).Pins
			}
			if !slices.Equal(list, fullPins(1)) || !impl.SamePins(list, fullPins(1)) {
				t.Errorf("in the order %v: %v", order, list)
			}
		}
	}
	if orders != 24 {
		t.Errorf("%d orders", orders)
	}
}

// Promise 1: neither the pins of a list nor what stands ahead of or behind them in their memory is changed.
func TestPinsChangeNoArguments(t *testing.T) {
	memory := slices.Concat(pinsAt(5, 0, 3, 5, 8, 9, 11), faultyPins()[:3], pinsAt(5, 8, 3, 3, 0))
	want := slices.Clone(memory)
	for from := range memory {
		for to := from; to <= len(memory); to++ {
			list := memory[from:to]
			impl.PinsFault(list)
			impl.SamePins(list, memory)
			for place := range pinNames {
				impl.FindPin(list, pinNames[place])
				for _, epoch := range []int64{4, 5, 6} {
					impl.PutPin(list, pinOf(place, epoch))
				}
			}
			if !slices.Equal(memory, want) {
				t.Fatalf("from %d to %d: %v was changed to %v", from, to, want, memory)
			}
		}
	}
}

// Promise 1: what stands ahead of or behind the bytes in their memory is not changed either.
func TestReadPinChangesNoArguments(t *testing.T) {
	packed := slices.Concat(wantPinBytes(plainPin()), []byte("A.B."), wantPinBytes(impl.Pin{Name: "HOST-1.", Active: 4, Epoch: 1}))
	want := slices.Clone(packed)
	for from := range packed {
		for to := from; to <= len(packed); to++ {
			impl.ReadPin(packed[from:to])
		}
	}
	if !bytes.Equal(packed, want) {
		t.Errorf("%v was changed to %v", want, packed)
	}
}

// spoilPins goes to the end of the memory that the pins of list lie in.
func spoilPins(list []impl.Pin) {
	list = list[:cap(list)]
	for i := range list {
		list[i] = impl.Pin{Name: "spoilt", Active: -1, Backup: -1, Epoch: -1, Until: -1}
	}
}

// Promise 1: an answer is spoilt, and neither the argument nor another answer changes; so it is the other way round.
func TestListsOfPinsAreNewMemory(t *testing.T) {
	publics := publicSet()
	eachPlaces(func(places []int) {
		for place := range pinNames {
			p := pinOf(place, 6)
			list := slices.Grow(pinsAt(5, places...), 10)
			kept := slices.Clone(list)
			want := wantPut(publics, kept, p)
			first, second := impl.PutPin(list, p), impl.PutPin(list, p)
			spoilPins(first.Pins)
			if !slices.Equal(list, kept) || !isPins(second, want) {
				t.Fatalf("behind a spoilt answer: %v and %v, not %v and %v", list, second, kept, want)
			}
			spoilPins(list)
			if !isPins(second, want) {
				t.Fatalf("behind a spoilt list: %v, not %v", second, want)
			}
		}
	})
}

// Promise 1: a pin that was found or read stays as it was when its list or its bytes are spoilt.
func TestPinsOutliveTheirArguments(t *testing.T) {
	list := fullPins(5)
	found := impl.FindPin(list, list[2].Name)
	spoilPins(list)
	if !isPin(found, fullPins(5)[2]) {
		t.Errorf("FindPin: %v", found)
	}
	for _, name := range normalNames {
		p := plainPin()
		p.Name = name
		data := wantPinBytes(p)
		read := impl.ReadPin(data)
		spoil(data)
		if !isPin(read, p) {
			t.Errorf("ReadPin: %v, not %v", read, p)
		}
	}
}

// Promise 1: no two answers share their memory.
func TestPackedPinsAreNewMemory(t *testing.T) {
	for _, name := range normalNames {
		p := plainPin()
		p.Name = name
		first, second := impl.PackPin(p), impl.PackPin(p)
		spoil(first.Bytes)
		third := impl.PackPin(p)
		for _, got := range []impl.BytesResult{second, third} {
			if !isBytes(got, impl.BytesResult{Bytes: wantPinBytes(p)}) {
				t.Errorf("PackPin(%v) behind a spoilt answer: %v", p, got)
			}
		}
		if p.Name != name {
			t.Errorf("%q was changed to %q", name, p.Name)
		}
	}
}

type pinAnswers struct {
	fault, faults, packed, put int64
	form                       string
	found, read                impl.PinResult
	live, same                 bool
	pins                       [mostPins]impl.Pin
}

func askPin(name string, x int64, y int64) pinAnswers {
	p := impl.Pin{Name: name, Active: x, Backup: y, Epoch: y, Until: x}
	list := []impl.Pin{pinOf(0, 1), p, pinOf(11, 1)}
	packed, put := impl.PackPin(p), impl.PutPin(pinsAt(3, 3, 5, 11), p)
	answers := pinAnswers{fault: impl.PinFault(p), faults: impl.PinsFault(list), packed: packed.Code, put: put.Code, form: string(packed.Bytes), found: impl.FindPin(list, name), read: impl.ReadPin(packed.Bytes), live: impl.IsLive(p, y), same: impl.SamePins(list, put.Pins)}
	copy(answers.pins[:], put.Pins)
	return answers
}

// Promise 1: the same arguments have the same answers, whatever was asked in between, and however often.
func TestPinsHangOnTheirArgumentsAlone(t *testing.T) {
	type asking struct {
		name string
		x, y int64
	}
	first := map[asking]pinAnswers{}
	numbers := slices.Concat(noTimes, noPoints, noEpochs, someTimes, someEpochs, somePublics)
	put, found := 0, 0
	for _, name := range slices.Concat(normalNames[:6], otherNames[:3], noNames[:3], longNames[:3]) {
		for _, x := range numbers {
			for _, y := range numbers {
				got := askPin(name, x, y)
				first[asking{name, x, y}] = got
				if got.put == impl.OK {
					put++
				}
				if got.found.Code == impl.OK {
					found++
				}
			}
		}
	}
	for asked, want := range first {
		if got := askPin(asked.name, asked.x, asked.y); got != want {
			t.Errorf("%v: %v, then %v", asked, want, got)
		}
	}
	if put == 0 || found == 0 {
		t.Errorf("%d were put, %d were found", put, found)
	}
}
