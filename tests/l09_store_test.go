package tests

import (
	"bytes"
	"maps"
	"math"
	"slices"
	"strings"
	"testing"

	"loop.example/g00618/impl"
)

const (
	mostRecords   = 12
	longestRecord = 40
	recordSum     = 2
)

// noKeeps are below 0; an int64 that is cut short has some of them above.
var noKeeps = []int64{math.MinInt64, math.MinInt64 + 1, -1<<32 + 3, -1 << 32, -65536 + 2, -256 + 1, -256, -mostRecords, -2, -1}

// largeKeeps are more than there is on any disk; an int64 that is cut short, or to which something is added, has some of them below 0.
var largeKeeps = []int64{mostRecords, mostRecords + 1, 127, 128, 255, 256, 32768, 65536, 1 << 31, 1 << 32, 1<<32 + 1, math.MaxInt64 - mostRecords, math.MaxInt64 - 1, math.MaxInt64}

// largeCounts are more than there may be; an int64 that is cut short has some of them where they might be.
var largeCounts = []int{mostRecords + 1, mostRecords + 2, 127, 128, 255, 256, 256 + 3, 65536, 65536 + 2, 70000}

var largeLengths = []int{longestRecord + 1, longestRecord + 2, 127, 128, 255, 256, 256 + 12, 1000, 1001, 65536, 65536 + 12, 70000}

func wantDiskFault(d impl.Disk) int64 {
	long := slices.ContainsFunc(d.Records, func(data []byte) bool { return len(data) > longestRecord })
	return firstOf(
		reason{len(d.Records) > mostRecords, impl.ErrMany},
		reason{long, impl.ErrMany},
		reason{d.Safe < 0 || d.Safe > int64(len(d.Records)), impl.ErrRange},
	)
}

func withSum(data []byte) []byte {
	sum := wantSum(data)
	return append(slices.Clone(data), byte(sum/256), byte(sum%256))
}

func wantPinRecord(p impl.Pin) []byte {
	return withSum(wantPinBytes(p))
}

// pinIn reads as if data were a record, and then tells whether it is the one of what was read.
func (b rollBook) pinIn(data []byte) (impl.Pin, bool) {
	if len(data) < pinPacked+recordSum {
		return impl.Pin{}, false
	}
	two := func(place int) int64 { return int64(data[place])*256 + int64(data[place+1]) }
	p := impl.Pin{Name: string(data[pinPacked : len(data)-recordSum]), Active: two(0), Backup: two(2), Epoch: int64(data[4]), Until: two(5)}
	return p, wantPinFault(b.publics, p) == impl.OK && bytes.Equal(data, wantPinRecord(p))
}

func (b rollBook) open(d impl.Disk) impl.StoreResult {
	if fault := wantDiskFault(d); fault != impl.OK {
		return impl.StoreResult{Code: fault}
	}
	var pins []impl.Pin
	for _, data := range d.Records {
		p, so := b.pinIn(data)
		if !so {
			return impl.StoreResult{Code: impl.ErrText}
		}
		put := wantPut(b.publics, pins, p)
		if put.Code != impl.OK {
			return impl.StoreResult{Code: put.Code}
		}
		pins = put.Pins
	}
	return impl.StoreResult{Store: impl.Store{Pins: pins, Disk: cloneDisk(d)}}
}

func (b rollBook) storeFault(s impl.Store) int64 {
	told := b.open(s.Disk)
	return firstOf(reason{told.Code != impl.OK, told.Code}, reason{!slices.Equal(told.Store.Pins, s.Pins), impl.ErrState})
}

func (b rollBook) note(s impl.Store, p impl.Pin) impl.StoreResult {
	fault, put := b.storeFault(s), wantPut(b.publics, s.Pins, p)
	code := firstOf(reason{fault != impl.OK, fault}, reason{put.Code != impl.OK, put.Code}, reason{len(s.Disk.Records) >= mostRecords, impl.ErrFull})
	if code != impl.OK {
		return impl.StoreResult{Code: code}
	}
	d := cloneDisk(s.Disk)
	d.Records = append(d.Records, wantPinRecord(p))
	return impl.StoreResult{Store: impl.Store{Pins: put.Pins, Disk: d}}
}

func (b rollBook) roll(s impl.Store, r impl.Roll, now int64) impl.StoreResult {
	fault, applied := b.storeFault(s), b.apply(s.Pins, r, now)
	if code := firstOf(reason{fault != impl.OK, fault}, reason{applied.Code != impl.OK, applied.Code}); code != impl.OK {
		return impl.StoreResult{Code: code}
	}
	return b.note(s, r.Pin)
}

func (b rollBook) sync(s impl.Store) impl.StoreResult {
	if fault := b.storeFault(s); fault != impl.OK {
		return impl.StoreResult{Code: fault}
	}
	synced := cloneStore(s)
	synced.Disk.Safe = int64(len(s.Disk.Records))
	return impl.StoreResult{Store: synced}
}

// crash goes record by record, where the program counts.
func (b rollBook) crash(s impl.Store, keep int64) impl.StoreResult {
	fault := b.storeFault(s)
	if code := firstOf(reason{fault != impl.OK, fault}, reason{keep < 0, impl.ErrRange}); code != impl.OK {
		return impl.StoreResult{Code: code}
	}
	left := impl.Disk{}
	for i, data := range s.Disk.Records {
		if int64(i) < s.Disk.Safe || int64(i)-s.Disk.Safe < keep {
			left.Records = append(left.Records, data)
			left.Safe++
		}
	}
	return b.open(left)
}

func (b rollBook) pack(s impl.Store) impl.StoreResult {
	if fault := b.storeFault(s); fault != impl.OK {
		return impl.StoreResult{Code: fault}
	}
	return impl.StoreResult{Store: storeOf(int64(len(s.Pins)), s.Pins...)}
}

func cloneDisk(d impl.Disk) impl.Disk {
	copied := impl.Disk{Safe: d.Safe}
	for _, data := range d.Records {
		copied.Records = append(copied.Records, slices.Clone(data))
	}
	return copied
}

func cloneStore(s impl.Store) impl.Store {
	return impl.Store{Pins: slices.Clone(s.Pins), Disk: cloneDisk(s.Disk)}
}

func equalStores(a impl.Store, b impl.Store) bool {
	return slices.Equal(a.Pins, b.Pins) && a.Disk.Safe == b.Disk.Safe && slices.EqualFunc(a.Disk.Records, b.Disk.Records, bytes.Equal)
}

func isStore(got impl.StoreResult, want impl.StoreResult) bool {
	return got.Code == want.Code && equalStores(got.Store, want.Store)
}

func isThisStore(got impl.StoreResult, want impl.Store) bool {
	return isStore(got, impl.StoreResult{Code: impl.OK, Store: want})
}

func isNoStore(got impl.StoreResult, code int64) bool {
	return isStore(got, impl.StoreResult{Code: code})
}

// diskOf has the records of these pins, be there a fault or not.
func diskOf(safe int64, noted ...impl.Pin) impl.Disk {
	d := impl.Disk{Safe: safe}
	for _, p := range noted {
		d.Records = append(d.Records, wantPinRecord(p))
	}
	return d
}

// storeOf has the last one of each name.
func storeOf(safe int64, noted ...impl.Pin) impl.Store {
	last := map[string]impl.Pin{}
	for _, p := range noted {
		last[p.Name] = p
	}
	s := impl.Store{Disk: diskOf(safe, noted...)}
	for _, name := range slices.Sorted(maps.Keys(last)) {
		s.Pins = append(s.Pins, last[name])
	}
	return s
}

// notes are n pins that can be noted one behind the other; their names come in no order, and each one comes back in newer epochs.
func notes(n int) []impl.Pin {
	var list []impl.Pin
	for i := range n {
		list = append(list, pinOf([]int{6, 1, 9, 4}[i%4], int64(i/4*3+1)))
	}
	return list
}

// eachStore tells the stores of each count of notes, with each number of safe ones.
func eachStore(tell func(s impl.Store, noted []impl.Pin, safe int)) {
	for n := range mostRecords + 1 {
		for safe := range n + 1 {
			tell(storeOf(int64(safe), notes(n)...), notes(n), safe)
		}
	}
}

// rollOf is signed by who has the active key of each pinOf of that place.
func rollOf(place int, epoch int64) impl.Roll {
	return impl.SignRoll(int64(place)+1, pinOf(place, epoch)).Roll
}

func TestConstantsOfStores(t *testing.T) {
	if impl.MaxRecords != 12 {
		t.Errorf("MaxRecords: %d", impl.MaxRecords)
	}
}

func TestRecordsOfPinsWrittenOut(t *testing.T) {
	for _, c := range []struct {
		p    impl.Pin
		want string
	}{
		{impl.Pin{Name: "a.b", Active: 4, Epoch: 1, Until: 50}, "\x00\x04\x00\x00\x01\x00\x32a.b\x36\x77"},
		{impl.Pin{Name: "a.b", Active: 64, Epoch: 2, Until: 90}, "\x00\x40\x00\x00\x02\x00\x5aa.b\x8e\x69"},
		{impl.Pin{Name: "z", Active: 64, Backup: 4, Epoch: 200, Until: 0}, "\x00\x40\x00\x04\xc8\x00\x00z\xa7\xe0"},
		{impl.Pin{Name: "abcdefghijklmnopqrst", Active: 2872, Backup: 2, Epoch: 200, Until: 9999}, "\x0b\x38\x00\x02\xc8\x27\x0fabcdefghijklmnopqrst\xcd\xba"},
		{impl.Pin{Name: "0-9", Active: 1024, Backup: 2872, Epoch: 127, Until: 255}, "\x04\x00\x0b\x38\x7f\x00\xff0-9\x12\x8b"},
		{impl.Pin{Name: "srv.x", Active: 256, Backup: 1024, Epoch: 128, Until: 256}, "\x01\x00\x04\x00\x80\x01\x00srv.x\xc5\x48"},
	} {
		want := impl.Store{Pins: []impl.Pin{c.p}, Disk: impl.Disk{Records: [][]byte{[]byte(c.want)}}}
		if got := impl.NotePin(impl.Store{}, c.p); !isThisStore(got, want) {
			t.Errorf("NotePin(%v): %v, not %q", c.p, got, c.want)
		}
		if got := impl.OpenDisk(want.Disk); !isThisStore(got, want) {
			t.Errorf("OpenDisk of %q: %v", c.want, got)
		}
		want.Disk.Safe = 1
		if got := impl.OpenDisk(want.Disk); !isThisStore(got, want) {
			t.Errorf("OpenDisk of %q, which is safe: %v", c.want, got)
		}
		if got := impl.PackStore(want); !isThisStore(got, want) {
			t.Errorf("PackStore of %q: %v", c.want, got)
		}
		if got := impl.StoreFault(want); got != impl.OK {
			t.Errorf("StoreFault of %q: %d", c.want, got)
		}
	}
}

// A new store is the zero value, be its lists nil or empty.
func TestTheNewStore(t *testing.T) {
	for _, s := range []impl.Store{{}, {Pins: []impl.Pin{}}, {Disk: impl.Disk{Records: [][]byte{}}}, {Pins: []impl.Pin{}, Disk: impl.Disk{Records: [][]byte{}}}} {
		if impl.DiskFault(s.Disk) != impl.OK || impl.StoreFault(s) != impl.OK || !impl.SameStores(s, impl.Store{}) || !impl.SameStores(impl.Store{}, s) {
			t.Errorf("%v is no new one", s)
		}
		for i, got := range []impl.StoreResult{impl.OpenDisk(s.Disk), impl.SyncStore(s), impl.CrashStore(s, 0), impl.CrashStore(s, 1), impl.CrashStore(s, math.MaxInt64), impl.PackStore(s)} {
			if !isThisStore(got, impl.Store{}) {
				t.Errorf("number %d of %v: %v", i, s, got)
			}
		}
		if got := impl.NotePin(s, plainPin()); !isThisStore(got, storeOf(0, plainPin())) {
			t.Errorf("NotePin(%v): %v", s, got)
		}
		if got := impl.RollStore(s, rollTo(3), 40); !isNoStore(got, impl.ErrNone) {
			t.Errorf("RollStore(%v): %v", s, got)
		}
		if got := impl.CrashStore(s, -1); !isNoStore(got, impl.ErrRange) {
			t.Errorf("CrashStore(%v): %v", s, got)
		}
	}
}

// faultyDisk is a disk, and what it is told for.
type faultyDisk struct {
	disk impl.Disk
	code int64
}

func emptyRecords(n int) [][]byte {
	return make([][]byte, n)
}

func TestDiskFaultsWrittenOut(t *testing.T) {
	full, long := make([]byte, 40), make([]byte, 41)
	for i, c := range []faultyDisk{
		{impl.Disk{}, impl.OK},
		{impl.Disk{Safe: 1}, impl.ErrRange},
		{impl.Disk{Safe: -1}, impl.ErrRange},
		{impl.Disk{Records: [][]byte{nil}}, impl.OK},
		{impl.Disk{Records: [][]byte{{}}, Safe: 1}, impl.OK},
		{impl.Disk{Records: [][]byte{full}, Safe: 1}, impl.OK},
		{impl.Disk{Records: [][]byte{full}, Safe: 2}, impl.ErrRange},
		{impl.Disk{Records: [][]byte{full}, Safe: -1}, impl.ErrRange},
		{impl.Disk{Records: [][]byte{long}}, impl.ErrMany},
		{impl.Disk{Records: [][]byte{long}, Safe: 2}, impl.ErrMany},
		{impl.Disk{Records: [][]byte{long}, Safe: -1}, impl.ErrMany},
		{impl.Disk{Records: [][]byte{full, full, long}}, impl.ErrMany},
		{impl.Disk{Records: [][]byte{full, nil, full}, Safe: 3}, impl.OK},
		{impl.Disk{Records: [][]byte{full, nil, full}, Safe: 4}, impl.ErrRange},
		{impl.Disk{Records: emptyRecords(12)}, impl.OK},
		{impl.Disk{Records: emptyRecords(12), Safe: 12}, impl.OK},
		{impl.Disk{Records: emptyRecords(12), Safe: 13}, impl.ErrRange},
		{impl.Disk{Records: emptyRecords(12), Safe: math.MaxInt64}, impl.ErrRange},
		{impl.Disk{Records: emptyRecords(12), Safe: math.MinInt64}, impl.ErrRange},
		{impl.Disk{Records: emptyRecords(13)}, impl.ErrMany},
		{impl.Disk{Records: emptyRecords(13), Safe: 13}, impl.ErrMany},
		{impl.Disk{Records: emptyRecords(13), Safe: -1}, impl.ErrMany},
	} {
		if got := impl.DiskFault(c.disk); got != c.code {
			t.Errorf("number %d: DiskFault(%v): %d, not %d", i, c.disk, got, c.code)
		}
	}
}

// someSafes lie around n, at the ends of an int64, and where n would be if an int64 were cut short.
func someSafes(n int64) []int64 {
	return []int64{math.MinInt64, math.MinInt64 + 1, n - 1<<32, n - 65536, n - 256, -2, -1, 0, 1, n / 2, n - 1, n, n + 1, n + 2, 256, n + 256, 65536, n + 65536, 1 << 32, n + 1<<32, math.MaxInt64 - 1, math.MaxInt64}
}

func TestDiskFaultOfEachCount(t *testing.T) {
	for _, n := range slices.Concat([]int{0, 1, 2, 3, 4, 5, 6, 7, 8, 9, 10, 11, 12}, largeCounts) {
		for _, safe := range someSafes(int64(n)) {
			d := impl.Disk{Records: emptyRecords(n), Safe: safe}
			want := int64(impl.OK)
			switch {
			case n > mostRecords:
				want = impl.ErrMany
			case safe < 0 || safe > int64(n):
				want = impl.ErrRange
			}
			if got := impl.DiskFault(d); got != want {
				t.Errorf("%d records, %d of them safe: %d, not %d", n, safe, got, want)
			}
			if want == impl.OK && n > 0 {
				want = impl.ErrText
			}
			if got := impl.OpenDisk(d); !isNoStore(got, want) {
				t.Errorf("OpenDisk of %d empty records, %d of them safe: %v, not %d", n, safe, got, want)
			}
		}
	}
}

// A record of each length stands at each place of disks of each count.
func TestDiskFaultOfEachLength(t *testing.T) {
	for n := 1; n <= mostRecords+1; n++ {
		for place := range n {
			records := emptyRecords(n)
			ask := func(length int) {
				records[place] = make([]byte, length)
				for _, safe := range []int64{-1, 0, int64(n), int64(n) + 1} {
					d := impl.Disk{Records: records, Safe: safe}
					want := wantDiskFault(d)
					if got := impl.DiskFault(d); got != want {
						t.Fatalf("%d bytes at %d of %d, %d safe: %d, not %d", length, place, n, safe, got, want)
					}
				}
			}
			for length := range longestRecord + 1 {
				ask(length)
			}
			for _, length := range largeLengths {
				ask(length)
			}
		}
	}
}

// faultyDisks are told for what a disk is, whatever its records say.
func faultyDisks() []faultyDisk {
	var list []faultyDisk
	for _, n := range []int{0, 1, 5, mostRecords} {
		for _, safe := range someSafes(int64(n)) {
			if d := diskOf(safe, notes(n)...); safe < 0 || safe > int64(n) {
				list = append(list, faultyDisk{d, impl.ErrRange})
			}
		}
	}
	for _, n := range largeCounts {
		for _, safe := range []int64{-1, 0, int64(n), int64(n) + 1} {
			list = append(list, faultyDisk{impl.Disk{Records: emptyRecords(n), Safe: safe}, impl.ErrMany})
		}
	}
	list = append(list, faultyDisk{diskOf(0, notes(mostRecords+1)...), impl.ErrMany}, faultyDisk{diskOf(13, notes(mostRecords+1)...), impl.ErrMany})
	for place := range mostRecords {
		for _, length := range largeLengths {
			d := diskOf(int64(place), notes(mostRecords)...)
			d.Records[place] = make([]byte, length)
			list = append(list, faultyDisk{d, impl.ErrMany})
			d.Safe = -1
			list = append(list, faultyDisk{d, impl.ErrMany})
		}
	}
	return list
}

func TestFaultyDisksAreRefused(t *testing.T) {
	for i, c := range faultyDisks() {
		if want := wantDiskFault(c.disk); want != c.code {
			t.Fatalf("number %d: %d, not %d", i, want, c.code)
		}
		if got := impl.DiskFault(c.disk); got != c.code {
			t.Errorf("number %d: DiskFault: %d, not %d", i, got, c.code)
		}
		if got := impl.OpenDisk(c.disk); !isNoStore(got, c.code) {
			t.Errorf("number %d: OpenDisk: %v, not %d", i, got, c.code)
		}
	}
}

func TestOpenDiskWrittenOut(t *testing.T) {
	a := impl.Pin{Name: "a", Active: 4, Backup: 16, Epoch: 2, Until: 50}
	newer := impl.Pin{Name: "a", Active: 64, Epoch: 3, Until: 9}
	alike := impl.Pin{Name: "a", Active: 64, Epoch: 2, Until: 9}
	b := impl.Pin{Name: "b", Active: 4, Epoch: 200, Until: 1}
	c := impl.Pin{Name: "c", Active: 4, Epoch: 1, Until: 1}
	d := impl.Pin{Name: "d", Active: 4, Epoch: 9, Until: 1}
	e := impl.Pin{Name: "e", Active: 4, Epoch: 9, Until: 1}
	none := impl.Pin{Name: "f", Active: 4, Backup: 4, Epoch: 1}
	for i, x := range []struct {
		noted []impl.Pin
		code  int64
		pins  []impl.Pin
	}{
		{nil, impl.OK, nil},
		{[]impl.Pin{a}, impl.OK, []impl.Pin{a}},
		{[]impl.Pin{b, a}, impl.OK, []impl.Pin{a, b}},
		{[]impl.Pin{a, newer}, impl.OK, []impl.Pin{newer}},
		{[]impl.Pin{a, b, newer}, impl.OK, []impl.Pin{newer, b}},
		{[]impl.Pin{d, c, b, a}, impl.OK, []impl.Pin{a, b, c, d}},
		{[]impl.Pin{d, c, b, a, newer}, impl.OK, []impl.Pin{newer, b, c, d}},
		{[]impl.Pin{a, a}, impl.ErrOld, nil},
		{[]impl.Pin{a, alike}, impl.ErrOld, nil},
		{[]impl.Pin{newer, a}, impl.ErrOld, nil},
		{[]impl.Pin{a, newer, a}, impl.ErrOld, nil},
		{[]impl.Pin{newer, b, c, a}, impl.ErrOld, nil},
		{[]impl.Pin{a, b, c, d, e}, impl.ErrFull, nil},
		{[]impl.Pin{e, d, c, b, a}, impl.ErrFull, nil},
		{[]impl.Pin{a, b, c, d, a}, impl.ErrOld, nil},
		{[]impl.Pin{none}, impl.ErrText, nil},
		{[]impl.Pin{a, none, a}, impl.ErrText, nil},
		{[]impl.Pin{a, a, none}, impl.ErrOld, nil},
		{[]impl.Pin{a, b, c, d, e, none}, impl.ErrFull, nil},
		{[]impl.Pin{a, b, c, d, none, e}, impl.ErrText, nil},
		{[]impl.Pin{a, b, c, d, e, a}, impl.ErrFull, nil},
		{[]impl.Pin{a, b, c, d, a, e}, impl.ErrOld, nil},
		{[]impl.Pin{none, a, b, c, d, e, none, none, none, none, none, none}, impl.ErrText, nil},
		{[]impl.Pin{none, a, b, c, d, e, none, none, none, none, none, none, none}, impl.ErrMany, nil},
	} {
		for safe := range len(x.noted) + 1 {
			disk := diskOf(int64(safe), x.noted...)
			want := impl.StoreResult{Code: x.code}
			if x.code == impl.OK {
				want.Store = impl.Store{Pins: x.pins, Disk: disk}
			}
			if got := impl.OpenDisk(disk); !isStore(got, want) {
				t.Errorf("number %d, %d safe: %v, not %v", i, safe, got, want)
			}
		}
	}
}

func TestOpenDiskOfEachCount(t *testing.T) {
	eachStore(func(s impl.Store, noted []impl.Pin, safe int) {
		if got := impl.OpenDisk(s.Disk); !isThisStore(got, s) {
			t.Errorf("%d records, %d safe: %v, not %v", len(noted), safe, got, s)
		}
		if got := impl.StoreFault(s); got != impl.OK {
			t.Errorf("%d records, %d safe: %d", len(noted), safe, got)
		}
	})
}

// Each epoch of a name meets each other one, with nothing and with another name in between.
func TestOpenDiskOfEachEpoch(t *testing.T) {
	records := map[int64][]byte{}
	for epoch := int64(1); epoch <= largestEpoch; epoch++ {
		records[epoch] = wantPinRecord(pinOf(3, epoch))
	}
	between := wantPinRecord(pinOf(8, 100))
	for ahead := int64(1); ahead <= largestEpoch; ahead++ {
		for behind := int64(1); behind <= largestEpoch; behind++ {
			pins := []impl.Pin{pinOf(3, behind)}
			d := impl.Disk{Records: [][]byte{records[ahead], records[behind]}}
			if (ahead+behind)%2 == 0 {
				d.Records = [][]byte{records[ahead], between, records[behind]}
				pins = append(pins, pinOf(8, 100))
			}
			want := impl.StoreResult{Code: impl.ErrOld}
			if behind > ahead {
				want = impl.StoreResult{Store: impl.Store{Pins: pins, Disk: d}}
			}
			if got := impl.OpenDisk(d); !isStore(got, want) {
				t.Fatalf("the epoch %d behind %d: %v, not %v", behind, ahead, got, want)
			}
		}
	}
}

// One name more than a list of pins holds is told where it comes, however often the others came.
func TestOpenDiskOfTooManyNames(t *testing.T) {
	for n := mostPins; n < mostRecords; n++ {
		for _, place := range []int{0, 3, 5, 8, 11} {
			noted := append(notes(n), pinOf(place, 1))
			if got := impl.OpenDisk(diskOf(0, noted...)); !isNoStore(got, impl.ErrFull) {
				t.Errorf("%q behind %d records: %v", pinNames[place], n, got)
			}
			if got := impl.OpenDisk(diskOf(0, noted[:n]...)); !isThisStore(got, storeOf(0, noted[:n]...)) {
				t.Errorf("%d records: %v", n, got)
			}
		}
	}
}

// checkOnDisk asks whether data is told to be a record just where it is one, alone and between others.
func checkOnDisk(t *testing.T, book rollBook, data []byte) bool {
	t.Helper()
	first, last := wantPinRecord(pinOf(0, 7)), wantPinRecord(pinOf(11, 7))
	for _, records := range [][][]byte{{data}, {first, data, last}} {
		d := impl.Disk{Records: records}
		if got, want := impl.OpenDisk(d), book.open(d); !isStore(got, want) {
			t.Fatalf("OpenDisk of %q: %v, not %v", records, got, want)
		}
	}
	_, so := book.pinIn(data)
	return so
}

// None of these that are cut at either end, or have a byte too many there, is a record.
func TestRecordsThatAreCutOrLonger(t *testing.T) {
	book := newRollBook()
	for _, name := range []string{"a", "a.b", "a-b.c-d", "abcdefghij.klmnopqrs", "abcdefghijklmnopqrst"} {
		p := plainPin()
		p.Name = name
		record := wantPinRecord(p)
		if !checkOnDisk(t, book, record) {
			t.Errorf("%q is no record", record)
		}
		for cut := range record {
			if checkOnDisk(t, book, record[:cut]) || checkOnDisk(t, book, record[len(record)-cut:]) {
				t.Errorf("%d bytes of %q are a record", cut, record)
			}
		}
		for b := range 256 {
			more := []byte{byte(b)}
			if checkOnDisk(t, book, slices.Concat(record, more)) || checkOnDisk(t, book, slices.Concat(more, record)) {
				t.Errorf("%q with a byte %d too many is a record", record, b)
			}
		}
		for length := len(record) + 1; length <= longestRecord; length++ {
			if checkOnDisk(t, book, append(slices.Clone(record), make([]byte, length-len(record))...)) {
				t.Errorf("%q with 0 up to %d bytes is a record", record, length)
			}
		}
		if got := impl.OpenDisk(impl.Disk{Records: [][]byte{wantPinBytes(p)}}); !isNoStore(got, impl.ErrText) {
			t.Errorf("a pin without its sum: %v", got)
		}
	}
}

// Bytes of each length, 0 and 40 among them, are no record even where their sum stands behind them.
func TestBytesOfEachLengthAreNoRecord(t *testing.T) {
	for length := range longestRecord + 1 {
		for _, data := range [][]byte{make([]byte, length), bytes.Repeat([]byte("a"), length), mixedBytes(length)} {
			if got := impl.OpenDisk(impl.Disk{Records: [][]byte{data}}); !isNoStore(got, impl.ErrText) {
				t.Errorf("OpenDisk of %q: %v", data, got)
			}
			if length < recordSum {
				continue
			}
			if got := impl.OpenDisk(impl.Disk{Records: [][]byte{withSum(data[recordSum:])}}); !isNoStore(got, impl.ErrText) {
				t.Errorf("OpenDisk of %q with its sum: %v", data[recordSum:], got)
			}
		}
	}
}

// A pin that has a fault has no record, though the sum of its bytes stands behind them.
func TestRecordsOfFaultyPins(t *testing.T) {
	book := newRollBook()
	refusals := 0
	for _, p := range faultyPins() {
		if packed := wantPinBytes(p); len(packed) > longestRecord-recordSum {
			if got := impl.OpenDisk(impl.Disk{Records: [][]byte{append(packed, 0, 0)}}); !isNoStore(got, impl.ErrMany) {
				t.Errorf("%d bytes: %v", len(packed)+recordSum, got)
			}
			continue
		}
		if !checkOnDisk(t, book, wantPinRecord(p)) {
			refusals++
		}
	}
	if refusals < 100 {
		t.Errorf("%d were told", refusals)
	}
}

func TestRecordsOfEachNumber(t *testing.T) {
	book := newRollBook()
	for _, field := range pinFields() {
		taken := 0
		for _, number := range slices.Concat(field.yes, field.no) {
			p := plainPin()
			*field.of(&p) = number
			if number >= 0 && number < 65536 && checkOnDisk(t, book, wantPinRecord(p)) {
				taken++
			}
		}
		if taken < 3 {
			t.Errorf("%d were taken of %s", taken, field.name)
		}
	}
}

// Of all that two bytes can tell behind a pin just its sum makes a record.
func TestRecordsOfEachSum(t *testing.T) {
	for _, p := range []impl.Pin{plainPin(), {Name: "z", Active: 2, Epoch: 1}, {Name: "abcdefghijklmnopqrst", Active: 2872, Backup: 2, Epoch: 200, Until: 9999}} {
		packed := wantPinBytes(p)
		sum := wantSum(packed)
		for number := range int64(65536) {
			d := impl.Disk{Records: [][]byte{append(slices.Clone(packed), byte(number/256), byte(number%256))}}
			want := impl.StoreResult{Code: impl.ErrText}
			if number == sum {
				want = impl.StoreResult{Store: impl.Store{Pins: []impl.Pin{p}, Disk: d}}
			}
			if got := impl.OpenDisk(d); !isStore(got, want) {
				t.Fatalf("the sum %d in the place of %d: %v, not %v", number, sum, got, want)
			}
		}
	}
}

// smallSumPin has a sum whose 65521 more is also told by two bytes.
func smallSumPin() impl.Pin {
	p := plainPin()
	for wantSum(wantPinBytes(p)) >= 65536-65521 {
		p.Until++
	}
	return p
}

func TestARecordWithASumThatIsNone(t *testing.T) {
	p := smallSumPin()
	packed := wantPinBytes(p)
	sum := wantSum(packed)
	if p.Until > largestTime {
		t.Fatalf("there is no pin with a small sum")
	}
	if got := impl.OpenDisk(diskOf(0, p)); !isThisStore(got, storeOf(0, p)) {
		t.Errorf("the sum %d: %v", sum, got)
	}
	more := append(slices.Clone(packed), byte((sum+65521)/256), byte((sum+65521)%256))
	if got := impl.OpenDisk(impl.Disk{Records: [][]byte{more}}); !isNoStore(got, impl.ErrText) {
		t.Errorf("the sum %d and 65521: %v", sum, got)
	}
}

// A pin with the sum of another one is told.
func TestRecordsWithTheSumOfAnother(t *testing.T) {
	book := newRollBook()
	list := append(notes(mostRecords), plainPin(), linkAt(1), linkAt(2))
	for i, p := range list {
		for j, other := range list {
			record, sum := wantPinBytes(p), wantPinRecord(other)
			so := checkOnDisk(t, book, append(record, sum[len(sum)-recordSum:]...))
			if so != (i == j) {
				t.Errorf("%v with the sum of %v: %v", p, other, so)
			}
		}
	}
}

// Promise 10: each byte of a journal is turned to each other one, be its record safe or not, and all that asks of the store tells it.
func TestAByteThatWasTurnedIsTold(t *testing.T) {
	s := storeOf(5, notes(mostRecords)...)
	for place, data := range s.Disk.Records {
		for at := range data {
			for mask := 1; mask < 256; mask++ {
				data[at] ^= byte(mask)
				if got := impl.OpenDisk(s.Disk); !isNoStore(got, impl.ErrText) {
					t.Fatalf("byte %d of record %d is turned by %d: %v", at, place, mask, got)
				}
				if mask%51 == 0 {
					if got := impl.StoreFault(s); got != impl.ErrText {
						t.Fatalf("byte %d of record %d is turned by %d: StoreFault: %d", at, place, mask, got)
					}
					for i, got := range othersOf(s) {
						if !isNoStore(got, impl.ErrText) {
							t.Fatalf("byte %d of record %d is turned by %d: number %d: %v", at, place, mask, i, got)
						}
					}
				}
				data[at] ^= byte(mask)
			}
		}
	}
	if got := impl.OpenDisk(s.Disk); !isThisStore(got, s) {
		t.Errorf("all is as it was: %v", got)
	}
}

// Promise 10: so it is of pins with each edge.
func TestAByteThatWasTurnedIsToldOfEachPin(t *testing.T) {
	for _, field := range pinFields() {
		for _, number := range field.yes {
			p := plainPin()
			*field.of(&p) = number
			if p.Active == p.Backup {
				continue
			}
			d := diskOf(1, p)
			data := d.Records[0]
			for at := range data {
				for mask := 1; mask < 256; mask++ {
					data[at] ^= byte(mask)
					if got := impl.OpenDisk(d); !isNoStore(got, impl.ErrText) {
						t.Fatalf("byte %d of %v is turned by %d: %v", at, p, mask, got)
					}
					data[at] ^= byte(mask)
				}
			}
		}
	}
}

// othersOf asks all that ask of a store first, by what has no fault and by what has one.
func othersOf(s impl.Store) []impl.StoreResult {
	return []impl.StoreResult{
		impl.NotePin(s, pinOf(1, 199)),
		impl.NotePin(s, pinOf(1, 1)),
		impl.NotePin(s, impl.Pin{}),
		impl.NotePin(s, impl.Pin{Name: longNames[0]}),
		impl.RollStore(s, rollOf(6, 8), 0),
		impl.RollStore(s, rollOf(0, 8), 0),
		impl.RollStore(s, rollOf(6, 8), -1),
		impl.RollStore(s, impl.Roll{}, math.MinInt64),
		impl.SyncStore(s),
		impl.CrashStore(s, 0),
		impl.CrashStore(s, math.MaxInt64),
		impl.CrashStore(s, -1),
		impl.CrashStore(s, math.MinInt64),
		impl.PackStore(s),
	}
}

// faultyStore is a store, and what it is told for.
type faultyStore struct {
	store impl.Store
	code  int64
}

// otherPins are lists that are not list, though most are near to it.
func otherPins(list []impl.Pin) [][]impl.Pin {
	others := [][]impl.Pin{
		append(slices.Clone(list), pinOf(11, 1)),
		append([]impl.Pin{pinOf(0, 1)}, list...),
		append(slices.Clone(list), impl.Pin{}),
		make([]impl.Pin, 300),
		slices.Concat(list, list, list, list, []impl.Pin{{}}),
	}
	for place, p := range list {
		others = append(others, slices.Delete(slices.Clone(list), place, place+1), slices.Insert(slices.Clone(list), place, p), list[:place], list[place+1:])
		for other := range place {
			turned := slices.Clone(list)
			turned[place], turned[other] = turned[other], turned[place]
			others = append(others, turned)
		}
		for _, turn := range pinTurns() {
			turned := slices.Clone(list)
			turn(&turned[place])
			others = append(others, turned)
		}
	}
	return others
}

func pinTurns() []func(*impl.Pin) {
	turns := []func(*impl.Pin){
		func(p *impl.Pin) { *p = impl.Pin{} },
		func(p *impl.Pin) { p.Name += "a" },
		func(p *impl.Pin) { p.Name += "." },
		func(p *impl.Pin) { p.Name = strings.ToUpper(p.Name) + "." },
		func(p *impl.Pin) { p.Name = "" },
		func(p *impl.Pin) { p.Backup = 0 },
		func(p *impl.Pin) { p.Backup = p.Active },
	}
	for _, field := range pinFields() {
		for _, by := range []int64{1, -1, 256, 65536, 1 << 32, math.MinInt64} {
			turns = append(turns, func(p *impl.Pin) { *field.of(p) += by })
		}
	}
	return turns
}

// storesWithOtherPins have a disk that has no fault, and tells other pins.
func storesWithOtherPins() []faultyStore {
	var list []faultyStore
	for _, n := range []int{0, 1, 2, 3, 4, 7, mostRecords} {
		s := storeOf(int64(n/2), notes(n)...)
		for _, pins := range otherPins(s.Pins) {
			list = append(list, faultyStore{impl.Store{Pins: pins, Disk: s.Disk}, impl.ErrState})
		}
		if n > mostPins {
			list = append(list, faultyStore{impl.Store{Pins: storeOf(0, notes(mostPins)...).Pins, Disk: s.Disk}, impl.ErrState})
			list = append(list, faultyStore{impl.Store{Pins: notes(n), Disk: s.Disk}, impl.ErrState})
		}
	}
	return list
}

// storesWithFaultyDisks have pins that would be right and pins that would not.
func storesWithFaultyDisks() []faultyStore {
	var list []faultyStore
	pins := storeOf(0, notes(mostRecords)...).Pins
	add := func(d impl.Disk, code int64) {
		for _, told := range [][]impl.Pin{nil, pins, pins[:2], {{}}, make([]impl.Pin, 5)} {
			list = append(list, faultyStore{impl.Store{Pins: told, Disk: d}, code})
		}
	}
	for _, c := range faultyDisks() {
		add(c.disk, c.code)
	}
	for place := range mostRecords {
		d := diskOf(3, notes(mostRecords)...)
		d.Records[place] = d.Records[place][:5]
		add(d, impl.ErrText)
		d = diskOf(3, notes(mostRecords)...)
		d.Records[place] = nil
		add(d, impl.ErrText)
		old := notes(mostRecords)
		old[place] = old[place%4]
		if place >= 4 {
			add(diskOf(3, old...), impl.ErrOld)
			many := notes(mostRecords)
			many[place] = pinOf(11, 1)
			add(diskOf(3, many...), impl.ErrFull)
		}
	}
	return list
}

func TestFaultyStoresAreRefused(t *testing.T) {
	told := map[int64]int{}
	for i, c := range slices.Concat(storesWithOtherPins(), storesWithFaultyDisks()) {
		told[c.code]++
		if got := impl.StoreFault(c.store); got != c.code {
			t.Fatalf("number %d: StoreFault: %d, not %d", i, got, c.code)
		}
		for j, got := range othersOf(c.store) {
			if !isNoStore(got, c.code) {
				t.Fatalf("number %d: call %d: %v, not %d", i, j, got, c.code)
			}
		}
	}
	for _, code := range []int64{impl.ErrMany, impl.ErrRange, impl.ErrText, impl.ErrFull, impl.ErrState, impl.ErrOld} {
		if told[code] < 20 {
			t.Errorf("%d were told for %d", told[code], code)
		}
	}
}

func TestNotePinWrittenOut(t *testing.T) {
	a := impl.Pin{Name: "a", Active: 4, Backup: 16, Epoch: 2, Until: 50}
	older := impl.Pin{Name: "a", Active: 4, Backup: 16, Epoch: 1, Until: 50}
	alike := impl.Pin{Name: "a", Active: 64, Epoch: 2, Until: 9999}
	newer := impl.Pin{Name: "a", Active: 64, Epoch: 3, Until: 9}
	last := impl.Pin{Name: "a", Active: 64, Epoch: 200, Until: 9}
	b := impl.Pin{Name: "b", Active: 4, Epoch: 200, Until: 1}
	c := impl.Pin{Name: "c", Active: 4, Epoch: 1, Until: 1}
	d := impl.Pin{Name: "d", Active: 4, Epoch: 9, Until: 1}
	e := impl.Pin{Name: "e", Active: 4, Epoch: 9, Until: 1}
	for i, x := range []struct {
		noted []impl.Pin
		p     impl.Pin
		code  int64
		pins  []impl.Pin
	}{
		{nil, a, impl.OK, []impl.Pin{a}},
		{[]impl.Pin{b}, a, impl.OK, []impl.Pin{a, b}},
		{[]impl.Pin{a}, b, impl.OK, []impl.Pin{a, b}},
		{[]impl.Pin{a}, newer, impl.OK, []impl.Pin{newer}},
		{[]impl.Pin{b, a}, newer, impl.OK, []impl.Pin{newer, b}},
		{[]impl.Pin{older, a}, last, impl.OK, []impl.Pin{last}},
		{[]impl.Pin{d, c, b}, a, impl.OK, []impl.Pin{a, b, c, d}},
		{[]impl.Pin{d, c, b, a}, newer, impl.OK, []impl.Pin{newer, b, c, d}},
		{[]impl.Pin{a}, a, impl.ErrOld, nil},
		{[]impl.Pin{a}, older, impl.ErrOld, nil},
		{[]impl.Pin{a}, alike, impl.ErrOld, nil},
		{[]impl.Pin{a, newer}, a, impl.ErrOld, nil},
		{[]impl.Pin{a, newer}, newer, impl.ErrOld, nil},
		{[]impl.Pin{last}, newer, impl.ErrOld, nil},
		{[]impl.Pin{d, c, b, a}, e, impl.ErrFull, nil},
		{[]impl.Pin{d, c, b, a}, alike, impl.ErrOld, nil},
		{[]impl.Pin{a}, impl.Pin{}, impl.ErrText, nil},
		{[]impl.Pin{a}, impl.Pin{Name: "A", Active: 4, Epoch: 9}, impl.ErrForm, nil},
		{[]impl.Pin{a}, impl.Pin{Name: "a.", Active: 4, Epoch: 9}, impl.ErrForm, nil},
		{[]impl.Pin{a}, impl.Pin{Name: "a", Active: 4, Epoch: 201}, impl.ErrRange, nil},
		{[]impl.Pin{a}, impl.Pin{Name: "a", Active: 4, Epoch: 0}, impl.ErrRange, nil},
		{[]impl.Pin{a}, impl.Pin{Name: "a", Active: 4, Backup: 4, Epoch: 1}, impl.ErrTaken, nil},
		{[]impl.Pin{a, b, c, d}, impl.Pin{Name: "e", Active: 4, Backup: 4, Epoch: 1}, impl.ErrTaken, nil},
		{[]impl.Pin{a}, impl.Pin{Name: "abcdefghijklmnopqrstu", Active: 4, Epoch: 9}, impl.ErrMany, nil},
	} {
		for safe := range len(x.noted) + 1 {
			s := storeOf(int64(safe), x.noted...)
			want := impl.StoreResult{Code: x.code}
			if x.code == impl.OK {
				want.Store = impl.Store{Pins: x.pins, Disk: diskOf(int64(safe), append(slices.Clone(x.noted), x.p)...)}
			}
			if got := impl.NotePin(s, x.p); !isStore(got, want) {
				t.Errorf("number %d, %d safe: %v, not %v", i, safe, got, want)
			}
		}
	}
}

func TestNotePinAtEachPlace(t *testing.T) {
	book := newRollBook()
	told := map[int64]int{}
	turn := 0
	eachPlaces(func(places []int) {
		slices.Reverse(places)
		s := storeOf(int64(len(places)/2), pinsAt(5, places...)...)
		for place := range pinNames {
			turn++
			p := pinOf(place, []int64{1, 4, 5, 6, largestEpoch}[turn%5])
			want := book.note(s, p)
			told[want.Code]++
			if got := impl.NotePin(s, p); !isStore(got, want) {
				t.Fatalf("NotePin(%v, %v): %v, not %v", s, p, got, want)
			}
		}
	})
	for _, code := range []int64{impl.OK, impl.ErrOld, impl.ErrFull} {
		if told[code] < 500 {
			t.Errorf("%d were told for %d", told[code], code)
		}
	}
}

func TestFaultyPinsAreNotNoted(t *testing.T) {
	publics := publicSet()
	stores := []impl.Store{{}, storeOf(1, notes(3)...), storeOf(0, notes(5)...), storeOf(12, notes(mostRecords)...)}
	for _, p := range faultyPins() {
		want := wantPinFault(publics, p)
		for _, s := range stores {
			if got := impl.NotePin(s, p); !isNoStore(got, want) {
				t.Errorf("NotePin(%v, %v): %v, not %d", s, p, got, want)
			}
		}
	}
}

// A disk that is full is told behind whatever is wrong with the pin.
func TestNotePinOnADiskThatIsFull(t *testing.T) {
	twoNames := func(n int) []impl.Pin {
		var list []impl.Pin
		for i := range n {
			list = append(list, pinOf(3+i%2, int64(i/2+10)))
		}
		return list
	}
	for n := range mostRecords + 1 {
		for safe := range n + 1 {
			s := storeOf(int64(safe), twoNames(n)...)
			for _, p := range []impl.Pin{pinOf(3, 100), pinOf(4, largestEpoch), pinOf(0, 1), pinOf(11, 50)} {
				want := impl.StoreResult{Code: impl.ErrFull}
				if n < mostRecords {
					want = impl.StoreResult{Store: storeOf(int64(safe), append(twoNames(n), p)...)}
				}
				if got := impl.NotePin(s, p); !isStore(got, want) {
					t.Errorf("%d records, %d safe: NotePin(%v): %v, not %v", n, safe, p, got, want)
				}
			}
			if n < 2 {
				continue
			}
			for _, p := range []impl.Pin{pinOf(3, 10), pinOf(4, 10), pinOf(3, 1), s.Pins[0], s.Pins[1]} {
				if got := impl.NotePin(s, p); !isNoStore(got, impl.ErrOld) {
					t.Errorf("%d records, %d safe: NotePin(%v): %v", n, safe, p, got)
				}
			}
		}
	}
}

func TestRollStoreWrittenOut(t *testing.T) {
	a := impl.Pin{Name: "a.b", Active: 4, Backup: 16, Epoch: 2, Until: 50}
	next := impl.Pin{Name: "a.b", Active: 64, Epoch: 3, Until: 90}
	zero := impl.Pin{Name: "0", Active: 4, Epoch: 200, Until: 0}
	z := impl.Pin{Name: "z", Active: 4, Epoch: 2, Until: 50}
	first := impl.Pin{Name: "a.b", Active: 256, Epoch: 1, Until: 0}
	r := impl.Roll{Pin: next, By: 4, Sign: impl.Signed{Point: 538, Proof: 548}}
	backup := impl.Roll{Pin: next, By: 16, Sign: impl.Signed{Point: 93, Proof: 1305}}
	for i, c := range []struct {
		noted []impl.Pin
		r     impl.Roll
		now   int64
		code  int64
		pins  []impl.Pin
	}{
		{[]impl.Pin{a}, r, 40, impl.OK, []impl.Pin{next}},
		{[]impl.Pin{a}, backup, 0, impl.OK, []impl.Pin{next}},
		{[]impl.Pin{a}, r, 50, impl.OK, []impl.Pin{next}},
		{[]impl.Pin{first, a}, r, 40, impl.OK, []impl.Pin{next}},
		{[]impl.Pin{z, a, zero}, r, 40, impl.OK, []impl.Pin{zero, next, z}},
		{[]impl.Pin{a}, r, 51, impl.ErrOld, nil},
		{[]impl.Pin{a}, r, -1, impl.ErrRange, nil},
		{[]impl.Pin{a}, r, 10000, impl.ErrRange, nil},
		{[]impl.Pin{a}, r, math.MinInt64, impl.ErrRange, nil},
		{[]impl.Pin{a}, r, math.MaxInt64, impl.ErrRange, nil},
		{[]impl.Pin{a, next}, r, 40, impl.ErrOld, nil},
		{[]impl.Pin{first}, r, 0, impl.ErrOld, nil},
		{[]impl.Pin{a}, impl.SignRoll(3, next).Roll, 40, impl.ErrTrust, nil},
		{[]impl.Pin{a}, impl.Roll{Pin: next, By: 16, Sign: r.Sign}, 40, impl.ErrSign, nil},
		{[]impl.Pin{a}, impl.SignRoll(1, impl.Pin{Name: "a.c", Active: 64, Epoch: 3}).Roll, 40, impl.ErrNone, nil},
		{[]impl.Pin{zero, z}, r, 40, impl.ErrNone, nil},
		{[]impl.Pin{zero, z}, r, -1, impl.ErrNone, nil},
		{nil, r, 40, impl.ErrNone, nil},
		{nil, impl.Roll{}, 40, impl.ErrText, nil},
		{[]impl.Pin{a}, impl.Roll{}, 40, impl.ErrText, nil},
		{[]impl.Pin{a}, impl.Roll{Pin: next, Sign: r.Sign}, 40, impl.ErrRange, nil},
		{[]impl.Pin{a}, impl.Roll{Pin: impl.Pin{Name: "a.b", Active: 4, Backup: 4, Epoch: 3}, By: 4, Sign: r.Sign}, 40, impl.ErrTaken, nil},
		{[]impl.Pin{a}, impl.Roll{Pin: impl.Pin{Name: "A.b", Active: 4, Epoch: 3}, By: 4, Sign: r.Sign}, 40, impl.ErrForm, nil},
		{[]impl.Pin{a}, impl.Roll{Pin: impl.Pin{Name: longNames[0]}}, 40, impl.ErrMany, nil},
	} {
		for safe := range len(c.noted) + 1 {
			s := storeOf(int64(safe), c.noted...)
			want := impl.StoreResult{Code: c.code}
			if c.code == impl.OK {
				want.Store = impl.Store{Pins: c.pins, Disk: diskOf(int64(safe), append(slices.Clone(c.noted), c.r.Pin)...)}
			}
			if got := impl.RollStore(s, c.r, c.now); !isStore(got, want) {
				t.Errorf("number %d, %d safe: %v, not %v", i, safe, got, want)
			}
		}
	}
}

func TestRollStoreAtEachPlace(t *testing.T) {
	book := newRollBook()
	told := map[int64]int{}
	turn := 0
	eachPlaces(func(places []int) {
		s := storeOf(int64(len(places)), pinsAt(5, places...)...)
		for place := range pinNames {
			turn++
			secret := []int64{int64(place) + 1, int64(place) + 105, 1000}[turn%3]
			r := book.sign(secret, pinOf(place, []int64{5, 6, 6, 6, 7}[turn%5]))
			now := int64(turn*157) % 1200
			want := book.roll(s, r, now)
			told[want.Code]++
			if got := impl.RollStore(s, r, now); !isStore(got, want) {
				t.Fatalf("RollStore(%v, %v, %d): %v, not %v", s, r, now, got, want)
			}
		}
	})
	for _, code := range []int64{impl.OK, impl.ErrNone, impl.ErrOld, impl.ErrTrust} {
		if told[code] < 100 {
			t.Errorf("%d were told for %d", told[code], code)
		}
	}
}

func TestFaultyRollsAreNotStored(t *testing.T) {
	book := newRollBook()
	stores := []impl.Store{{}, storeOf(1, linkAt(1), linkAt(2)), storeOf(0, notes(mostRecords)...)}
	for _, r := range faultyRolls() {
		want := book.fault(r)
		for i, s := range stores {
			for _, now := range []int64{40, -1} {
				if got := impl.RollStore(s, r, now); !isNoStore(got, want) {
					t.Errorf("store %d: RollStore(%v, %d): %v, not %d", i, r, now, got, want)
				}
			}
		}
	}
}

// Of all flaws that a rollover has, and a disk that is full, the first one is told.
func TestRollStoreTellsTheFirstFlaw(t *testing.T) {
	flaws := rollFlaws(func(p *impl.Pin) { p.Backup = p.Active }, impl.ErrTaken)[1:]
	var noted []impl.Pin
	for i := range int64(mostRecords - 2) {
		noted = append(noted, pinOf(8+int(i%2), i/2+1))
	}
	for mask := range 1 << len(flaws) {
		a := asked{linkAt(2), rollTo(3), 40}
		want := int64(impl.OK)
		for i := len(flaws) - 1; i >= 0; i-- {
			if mask>>i&1 == 1 {
				flaws[i].turn(&a)
				want = flaws[i].code
			}
		}
		// A name that nothing is pinned for is told ahead of all that is asked of the pin there.
		if a.r.Pin.Name != a.old.Name && mask&7 == 0 {
			want = impl.ErrNone
		}
		if got := impl.RollStore(storeOf(0, append(noted, a.old)...), a.r, a.now); got.Code != want || want != impl.OK && !isNoStore(got, want) {
			t.Fatalf("the flaws %b: RollStore(%v): %v, not %d", mask, a, got, want)
		}
		if want == impl.OK {
			want = impl.ErrFull
		}
		if got := impl.RollStore(storeOf(0, append(noted, pinOf(0, 1), a.old)...), a.r, a.now); !isNoStore(got, want) {
			t.Fatalf("the flaws %b on a full disk: RollStore(%v): %v, not %d", mask, a, got, want)
		}
	}
}

// A chain of rollovers fills a disk, and the next one finds no room, until the store is packed.
func TestRollStoreOnADiskThatIsFull(t *testing.T) {
	noted := []impl.Pin{linkAt(1)}
	s := storeOf(1, noted...)
	rolls := rollsBehind(1, mostRecords+3)
	for i, r := range rolls[:mostRecords-1] {
		noted = append(noted, r.Pin)
		got := impl.RollStore(s, r, 40)
		if !isThisStore(got, storeOf(1, noted...)) {
			t.Fatalf("number %d: %v", i, got)
		}
		if noting := impl.NotePin(s, r.Pin); !isStore(noting, got) {
			t.Fatalf("number %d: %v when it is noted, %v when it is rolled over to", i, noting, got)
		}
		if again := impl.RollStore(got.Store, r, 40); !isNoStore(again, impl.ErrOld) {
			t.Fatalf("number %d again: %v", i, again)
		}
		s = got.Store
	}
	next := rolls[mostRecords-1]
	if got := impl.RollStore(s, next, 40); !isNoStore(got, impl.ErrFull) {
		t.Errorf("behind %d records: %v", len(noted), got)
	}
	if got := impl.RollStore(s, next, 5001); !isNoStore(got, impl.ErrOld) {
		t.Errorf("behind %d records, with a pin that is over: %v", len(noted), got)
	}
	if got := impl.RollStore(impl.PackStore(s).Store, next, 40); !isThisStore(got, storeOf(1, linkAt(mostRecords), next.Pin)) {
		t.Errorf("behind a store that was packed: %v", got)
	}
}

func TestSyncStoreOfEachCount(t *testing.T) {
	eachStore(func(s impl.Store, noted []impl.Pin, safe int) {
		want := storeOf(int64(len(noted)), noted...)
		got := impl.SyncStore(s)
		if !isThisStore(got, want) {
			t.Errorf("%d records, %d safe: %v, not %v", len(noted), safe, got, want)
		}
		if again := impl.SyncStore(got.Store); !isThisStore(again, want) {
			t.Errorf("%d records twice: %v, not %v", len(noted), again, want)
		}
	})
}

// Promise 10: behind a crash there is what was safe, and of what came behind it the first ones, as many as were kept.
func TestCrashStoreOfEachCount(t *testing.T) {
	eachStore(func(s impl.Store, noted []impl.Pin, safe int) {
		check := func(keep int64, left int) {
			if got := impl.CrashStore(s, keep); !isThisStore(got, storeOf(int64(left), noted[:left]...)) {
				t.Errorf("%d records, %d safe, %d kept: %v, not %d records", len(noted), safe, keep, got, left)
			}
		}
		for keep := range mostRecords {
			check(int64(keep), min(safe+keep, len(noted)))
		}
		for _, keep := range largeKeeps {
			check(keep, len(noted))
		}
		for _, keep := range noKeeps {
			if got := impl.CrashStore(s, keep); !isNoStore(got, impl.ErrRange) {
				t.Errorf("%d records, %d safe, %d kept: %v", len(noted), safe, keep, got)
			}
		}
	})
}

func TestCrashStoreWrittenOut(t *testing.T) {
	a := impl.Pin{Name: "a", Active: 4, Epoch: 1, Until: 50}
	newer := impl.Pin{Name: "a", Active: 64, Epoch: 2, Until: 50}
	b := impl.Pin{Name: "b", Active: 256, Epoch: 9, Until: 50}
	for i, c := range []struct {
		safe, keep int64
		noted      []impl.Pin
		left       []impl.Pin
		pins       []impl.Pin
	}{
		{0, 0, []impl.Pin{a, b, newer}, nil, nil},
		{0, 1, []impl.Pin{a, b, newer}, []impl.Pin{a}, []impl.Pin{a}},
		{0, 2, []impl.Pin{a, b, newer}, []impl.Pin{a, b}, []impl.Pin{a, b}},
		{0, 3, []impl.Pin{a, b, newer}, []impl.Pin{a, b, newer}, []impl.Pin{newer, b}},
		{0, 4, []impl.Pin{a, b, newer}, []impl.Pin{a, b, newer}, []impl.Pin{newer, b}},
		{1, 0, []impl.Pin{a, b, newer}, []impl.Pin{a}, []impl.Pin{a}},
		{1, 1, []impl.Pin{a, b, newer}, []impl.Pin{a, b}, []impl.Pin{a, b}},
		{1, 2, []impl.Pin{a, b, newer}, []impl.Pin{a, b, newer}, []impl.Pin{newer, b}},
		{2, 0, []impl.Pin{a, newer, b}, []impl.Pin{a, newer}, []impl.Pin{newer}},
		{3, 0, []impl.Pin{a, newer, b}, []impl.Pin{a, newer, b}, []impl.Pin{newer, b}},
		{3, math.MaxInt64, []impl.Pin{a, newer, b}, []impl.Pin{a, newer, b}, []impl.Pin{newer, b}},
		{1, math.MaxInt64, []impl.Pin{b, a, newer}, []impl.Pin{b, a, newer}, []impl.Pin{newer, b}},
	} {
		want := impl.Store{Pins: c.pins, Disk: diskOf(int64(len(c.left)), c.left...)}
		if got := impl.CrashStore(storeOf(c.safe, c.noted...), c.keep); !isThisStore(got, want) {
			t.Errorf("number %d: %v, not %v", i, got, want)
		}
	}
}

// Promise 10: a crash behind a crash takes no more, and one behind a sync takes nothing.
func TestACrashTakesNothingThatIsSafe(t *testing.T) {
	eachStore(func(s impl.Store, noted []impl.Pin, safe int) {
		for _, keep := range []int64{0, 1, 3, math.MaxInt64} {
			if got := impl.CrashStore(impl.SyncStore(s).Store, keep); !isThisStore(got, storeOf(int64(len(noted)), noted...)) {
				t.Errorf("%d records that were synced, %d kept: %v", len(noted), keep, got)
			}
			once := impl.CrashStore(s, keep)
			for _, again := range []int64{0, 1, math.MaxInt64} {
				if got := impl.CrashStore(once.Store, again); !isStore(got, once) {
					t.Errorf("%d records, %d safe, %d kept, then %d: %v, not %v", len(noted), safe, keep, again, got, once)
				}
			}
		}
	})
}

func TestPackStoreWrittenOut(t *testing.T) {
	a := impl.Pin{Name: "a", Active: 4, Epoch: 1, Until: 50}
	newer := impl.Pin{Name: "a", Active: 64, Epoch: 2, Until: 50}
	last := impl.Pin{Name: "a", Active: 4, Epoch: 200, Until: 50}
	b := impl.Pin{Name: "b", Active: 256, Epoch: 9, Until: 50}
	c := impl.Pin{Name: "c", Active: 4, Epoch: 1, Until: 50}
	for i, x := range []struct {
		noted []impl.Pin
		pins  []impl.Pin
	}{
		{nil, nil},
		{[]impl.Pin{a}, []impl.Pin{a}},
		{[]impl.Pin{a, newer}, []impl.Pin{newer}},
		{[]impl.Pin{a, newer, last}, []impl.Pin{last}},
		{[]impl.Pin{b, a}, []impl.Pin{a, b}},
		{[]impl.Pin{c, a, b, newer}, []impl.Pin{newer, b, c}},
		{[]impl.Pin{a, c, newer, b, last}, []impl.Pin{last, b, c}},
	} {
		for safe := range len(x.noted) + 1 {
			want := impl.Store{Pins: x.pins, Disk: diskOf(int64(len(x.pins)), x.pins...)}
			if got := impl.PackStore(storeOf(int64(safe), x.noted...)); !isThisStore(got, want) {
				t.Errorf("number %d, %d safe: %v, not %v", i, safe, got, want)
			}
		}
	}
}

// Promise 10: a store that is packed has the same pins; what is packed is as it was, and survives a crash.
func TestPackStoreOfEachCount(t *testing.T) {
	eachStore(func(s impl.Store, noted []impl.Pin, safe int) {
		got := impl.PackStore(s)
		if !isThisStore(got, storeOf(int64(len(s.Pins)), s.Pins...)) || !impl.SamePins(got.Store.Pins, s.Pins) {
			t.Errorf("%d records, %d safe: %v", len(noted), safe, got)
		}
		for i, again := range []impl.StoreResult{impl.PackStore(got.Store), impl.SyncStore(got.Store), impl.CrashStore(got.Store, 0), impl.CrashStore(got.Store, 7), impl.OpenDisk(got.Store.Disk)} {
			if !isStore(again, got) {
				t.Errorf("%d records, %d safe, number %d: %v, not %v", len(noted), safe, i, again, got)
			}
		}
	})
}

// A full disk has room again when it was packed, but for its pins.
func TestPackingMakesRoom(t *testing.T) {
	full := storeOf(3, notes(mostRecords)...)
	next := pinOf(6, 100)
	if got := impl.NotePin(full, next); !isNoStore(got, impl.ErrFull) {
		t.Errorf("NotePin on a full disk: %v", got)
	}
	packed := impl.PackStore(full).Store
	want := storeOf(mostPins, append(slices.Clone(packed.Pins), next)...)
	if got := impl.NotePin(packed, next); !isThisStore(got, want) {
		t.Errorf("NotePin behind packing: %v, not %v", got, want)
	}
}

func TestSameStores(t *testing.T) {
	stores := []impl.Store{
		{},
		{Disk: impl.Disk{Safe: 1}},
		{Disk: impl.Disk{Records: emptyRecords(1)}},
		{Disk: impl.Disk{Records: emptyRecords(2)}},
		{Disk: impl.Disk{Records: [][]byte{{0}}}},
		{Disk: impl.Disk{Records: [][]byte{{0}, {}}}},
		{Disk: impl.Disk{Records: [][]byte{{}, {0}}}},
		{Disk: impl.Disk{Records: [][]byte{{0, 0}}}},
		{Disk: impl.Disk{Records: [][]byte{{0, 0}}, Safe: math.MinInt64}},
		{Disk: impl.Disk{Records: [][]byte{{0, 0}}, Safe: math.MaxInt64}},
		{Pins: []impl.Pin{{}}},
		{Pins: make([]impl.Pin, 300), Disk: impl.Disk{Records: emptyRecords(300)}},
		{Pins: make([]impl.Pin, 300), Disk: impl.Disk{Records: emptyRecords(301)}},
		{Pins: notes(1)},
		{Disk: diskOf(0, notes(1)...)},
		storeOf(0, notes(1)...),
		storeOf(1, notes(1)...),
		storeOf(0, notes(2)...),
		storeOf(0, pinOf(6, 1), pinOf(6, 2)),
		storeOf(0, pinOf(6, 2)),
		storeOf(0, pinOf(1, 1), pinOf(6, 1)),
		storeOf(12, notes(12)...),
		{Disk: impl.Disk{Records: [][]byte{make([]byte, 70000)}}},
		{Disk: impl.Disk{Records: [][]byte{make([]byte, 70001)}}},
	}
	for i, a := range stores {
		for j, b := range stores {
			if got := impl.SameStores(a, cloneStore(b)); got != (i == j) {
				t.Errorf("SameStores of number %d and %d: %v", i, j, got)
			}
		}
	}
	empty := impl.Store{Pins: []impl.Pin{}, Disk: impl.Disk{Records: [][]byte{{}, nil}}}
	if other := (impl.Store{Disk: impl.Disk{Records: [][]byte{nil, {}}}}); !impl.SameStores(empty, other) || !impl.SameStores(other, empty) {
		t.Errorf("empty lists and nil are not the same")
	}
}

// storeTurns turn one thing of a store that has a pin and a record at these places.
func storeTurns(pin int, record int) []func(*impl.Store) {
	turns := []func(*impl.Store){
		func(s *impl.Store) { s.Disk.Safe++ },
		func(s *impl.Store) { s.Disk.Safe-- },
		func(s *impl.Store) { s.Disk.Safe += 256 },
		func(s *impl.Store) { s.Disk.Safe += 1 << 32 },
		func(s *impl.Store) { s.Disk.Safe += math.MinInt64 },
		func(s *impl.Store) { s.Disk.Records = slices.Delete(s.Disk.Records, record, record+1) },
		func(s *impl.Store) { s.Disk.Records = slices.Insert(s.Disk.Records, record, []byte{}) },
		func(s *impl.Store) { s.Disk.Records = s.Disk.Records[:record] },
		func(s *impl.Store) { s.Disk.Records = append(s.Disk.Records, nil) },
		func(s *impl.Store) { s.Disk.Records[record] = nil },
		func(s *impl.Store) { s.Disk.Records[record] = append(s.Disk.Records[record], 0) },
		func(s *impl.Store) { s.Disk.Records[record] = s.Disk.Records[record][1:] },
		func(s *impl.Store) { s.Disk.Records[record] = s.Disk.Records[record][:5] },
		func(s *impl.Store) { s.Pins = slices.Delete(s.Pins, pin, pin+1) },
		func(s *impl.Store) { s.Pins = append(s.Pins, s.Pins[pin]) },
		func(s *impl.Store) { s.Pins = nil },
	}
	for _, turn := range pinTurns() {
		turns = append(turns, func(s *impl.Store) { turn(&s.Pins[pin]) })
	}
	for at := range wantPinRecord(notes(mostRecords)[record]) {
		turns = append(turns, func(s *impl.Store) { s.Disk.Records[record][at] ^= 1 }, func(s *impl.Store) { s.Disk.Records[record][at] ^= 128 })
	}
	return turns
}

// Stores that differ in one thing, be there a fault or not, are not the same.
func TestSameStoresOfOneOtherThing(t *testing.T) {
	for _, n := range []int{1, 2, 5, mostRecords} {
		s := storeOf(int64(n/2), notes(n)...)
		for record := range n {
			for i, turn := range storeTurns(record%len(s.Pins), record) {
				other := cloneStore(s)
				turn(&other)
				if impl.SameStores(s, other) != equalStores(s, other) || impl.SameStores(other, s) != equalStores(s, other) || !impl.SameStores(other, cloneStore(other)) {
					t.Errorf("number %d at %d of %d", i, record, n)
				}
				if equalStores(s, other) && i < 16 {
					t.Errorf("number %d at %d of %d turns nothing", i, record, n)
				}
			}
		}
	}
}

// mixer tells numbers that are the same in each run.
type mixer uint32

func (m *mixer) next(most int) int {
	*m = *m*1664525 + 1013904223
	return int(*m>>16) % most
}

// mixedDisk has records of which most fit to those ahead, and some do not.
func mixedDisk(m *mixer) impl.Disk {
	var d impl.Disk
	for i := range m.next(mostRecords + 3) {
		record := wantPinRecord(pinOf([]int{1, 4, 6, 9, 11}[m.next(5*20)/24], int64(i*3+m.next(4)+1)))
		switch m.next(40) {
		case 0:
			record[m.next(len(record))] ^= byte(1 + m.next(255))
		case 1:
			record = record[:m.next(len(record))]
		case 2:
			record = append(record, make([]byte, m.next(40))...)
		}
		d.Records = append(d.Records, record)
	}
	d.Safe = int64(m.next(len(d.Records)+2)) - int64(m.next(40)/39)
	return d
}

// mixedStore mostly has the pins that its disk tells.
func mixedStore(book rollBook, m *mixer) impl.Store {
	d := mixedDisk(m)
	s := impl.Store{Pins: slices.Clone(book.open(d).Store.Pins), Disk: d}
	if len(s.Pins) > 0 && m.next(10) == 0 {
		turns := pinTurns()
		turns[m.next(len(turns))](&s.Pins[m.next(len(s.Pins))])
	}
	return s
}

// All answers are those of the document's rules, be a store whatever it is.
func TestStoresOfAllKinds(t *testing.T) {
	book := newRollBook()
	told := map[int64]int{}
	for seed := range 6000 {
		m := mixer(seed*2654435761 + 1)
		s := mixedStore(book, &m)
		p := pinOf([]int{1, 4, 6, 9, 11}[m.next(5)], int64(m.next(60)+1))
		place := []int{1, 4, 6, 9}[m.next(4)]
		r := rollOf(place, 2)
		if found := slices.IndexFunc(s.Pins, func(p impl.Pin) bool { return p.Name == pinNames[place] }); found >= 0 && wantPinFault(book.publics, s.Pins[found]) == impl.OK {
			r = rollOf(place, s.Pins[found].Epoch+int64(m.next(8)+5)/6)
		}
		now, keep := int64(m.next(1100)), int64(m.next(15)-1)
		told[book.storeFault(s)]++
		if got, want := impl.DiskFault(s.Disk), wantDiskFault(s.Disk); got != want {
			t.Fatalf("DiskFault(%v): %d, not %d", s.Disk, got, want)
		}
		if got, want := impl.StoreFault(s), book.storeFault(s); got != want {
			t.Fatalf("StoreFault(%v): %d, not %d", s, got, want)
		}
		for i, pair := range [][2]impl.StoreResult{
			{impl.OpenDisk(s.Disk), book.open(s.Disk)},
			{impl.NotePin(s, p), book.note(s, p)},
			{impl.RollStore(s, r, now), book.roll(s, r, now)},
			{impl.SyncStore(s), book.sync(s)},
			{impl.CrashStore(s, keep), book.crash(s, keep)},
			{impl.PackStore(s), book.pack(s)},
		} {
			if !isStore(pair[0], pair[1]) {
				t.Fatalf("number %d of %v with %v, %v, %d, %d: %v, not %v", i, s, p, r, now, keep, pair[0], pair[1])
			}
		}
	}
	for _, code := range []int64{impl.OK, impl.ErrMany, impl.ErrRange, impl.ErrText, impl.ErrFull, impl.ErrState, impl.ErrOld} {
		if told[code] < 50 {
			t.Errorf("%d were told for %d", told[code], code)
		}
	}
}

// keeper has what was noted, in order, and how many of these are safe.
type keeper struct {
	noted []impl.Pin
	safe  int
}

func (k *keeper) store() impl.Store {
	return storeOf(int64(k.safe), k.noted...)
}

// note tells the code that noting p has, and remembers p where there is none.
func (k *keeper) note(p impl.Pin) int64 {
	epoch, found := int64(0), false
	names := map[string]bool{}
	for _, old := range k.noted {
		names[old.Name] = true
		if old.Name == p.Name {
			epoch, found = max(epoch, old.Epoch), true
		}
	}
	code := firstOf(reason{epoch >= p.Epoch, impl.ErrOld}, reason{!found && len(names) == mostPins, impl.ErrFull}, reason{len(k.noted) == mostRecords, impl.ErrFull})
	if code == impl.OK {
		k.noted = append(slices.Clone(k.noted), p)
	}
	return code
}

func (k *keeper) crash(keep int) {
	k.noted = k.noted[:min(k.safe+keep, len(k.noted))]
	k.safe = len(k.noted)
}

func (k *keeper) pack() {
	k.noted = k.store().Pins
	k.safe = len(k.noted)
}

// walk takes one step at random with the store and with who keeps the books, and tells both what they answer.
func (k *keeper) walk(m *mixer, s impl.Store) (impl.StoreResult, int64) {
	place := []int{1, 4, 6, 9, 11}[m.next(5)]
	switch m.next(12) {
	case 0:
		k.safe = len(k.noted)
		return impl.SyncStore(s), impl.OK
	case 1:
		keep := m.next(6)
		k.crash(keep)
		return impl.CrashStore(s, int64(keep)), impl.OK
	case 2:
		k.pack()
		return impl.PackStore(s), impl.OK
	case 3, 4, 5:
		r := rollOf(place, 2)
		old := slices.IndexFunc(s.Pins, func(p impl.Pin) bool { return p.Name == pinNames[place] })
		if old < 0 {
			return impl.RollStore(s, r, 0), impl.ErrNone
		}
		r = rollOf(place, s.Pins[old].Epoch+1)
		return impl.RollStore(s, r, 0), k.note(r.Pin)
	}
	p := pinOf(place, int64(m.next(20)+1))
	for _, old := range s.Pins {
		if old.Name == p.Name && m.next(2) == 0 {
			p.Epoch = min(old.Epoch+int64(m.next(3)), largestEpoch)
		}
	}
	return impl.NotePin(s, p), k.note(p)
}

// Promise 10: through many steps, one after the other, the journal has what was noted, and tells just the pins that there are.
func TestWhatWasNotedIsInTheJournal(t *testing.T) {
	told := map[int64]int{}
	for seed := range 60 {
		m := mixer(seed*2654435761 + 7)
		var k keeper
		var s impl.Store
		for step := range 150 {
			got, code := k.walk(&m, s)
			told[code]++
			if code != impl.OK {
				if !isNoStore(got, code) {
					t.Fatalf("seed %d, step %d: %v, not %d", seed, step, got, code)
				}
				continue
			}
			if !isThisStore(got, k.store()) {
				t.Fatalf("seed %d, step %d: %v, not %v", seed, step, got, k.store())
			}
			s = got.Store
			if impl.StoreFault(s) != impl.OK || !isThisStore(impl.OpenDisk(s.Disk), s) || !impl.SameStores(s, k.store()) {
				t.Fatalf("seed %d, step %d: %v", seed, step, s)
			}
		}
	}
	for _, code := range []int64{impl.OK, impl.ErrNone, impl.ErrOld, impl.ErrFull} {
		if told[code] < 100 {
			t.Errorf("%d were told for %d", told[code], code)
		}
	}
}

// Promise 10: nothing older comes back, however a store crashes or is packed behind what is safe.
func TestNoOlderPinComesBack(t *testing.T) {
	for seed := range 60 {
		m := mixer(seed*2654435761 + 11)
		var k keeper
		var s impl.Store
		safe := map[string]int64{}
		for step := range 150 {
			got, code := k.walk(&m, s)
			if code != impl.OK {
				continue
			}
			s = got.Store
			for _, p := range impl.CrashStore(s, 0).Store.Pins {
				if p.Epoch < safe[p.Name] {
					t.Fatalf("seed %d, step %d: %v behind the epoch %d", seed, step, p, safe[p.Name])
				}
				safe[p.Name] = p.Epoch
			}
			for name, epoch := range safe {
				found := impl.FindPin(s.Pins, name)
				if found.Code != impl.OK || found.Pin.Epoch < epoch {
					t.Fatalf("seed %d, step %d: %q: %v behind the epoch %d", seed, step, name, found, epoch)
				}
			}
		}
	}
}

// roomy is a store that stands with its lists and bytes in larger memory, of which all can be seen.
type roomy struct {
	store   impl.Store
	pins    []impl.Pin
	records [][]byte
	memory  []byte
}

func roomyOf(s impl.Store) roomy {
	r := roomy{pins: slices.Concat(pinsAt(5, 0), s.Pins, pinsAt(5, 11, 10)), records: [][]byte{{1}}}
	r.memory = append(slices.Concat(s.Disk.Records...), mixedBytes(100)...)
	place := 0
	for _, data := range s.Disk.Records {
		r.records = append(r.records, r.memory[place:place+len(data)])
		place += len(data)
	}
	r.records = append(r.records, []byte{2}, []byte{3})
	r.store = impl.Store{Pins: r.pins[1 : 1+len(s.Pins)], Disk: impl.Disk{Records: r.records[1 : 1+len(s.Disk.Records)], Safe: s.Disk.Safe}}
	return r
}

// isOf tells whether all is as it was when r was made of s.
func (r roomy) isOf(s impl.Store) bool {
	first := roomyOf(s)
	return equalStores(r.store, s) && slices.Equal(r.pins, first.pins) && slices.EqualFunc(r.records, first.records, bytes.Equal) && bytes.Equal(r.memory, first.memory)
}

func (r roomy) spoil() {
	spoilPins(r.pins)
	spoil(r.memory)
	spoilRecords(r.records)
}

// Promise 1: neither what a store has nor what stands ahead of or behind that in its memory is changed.
func TestStoresChangeNoArguments(t *testing.T) {
	stores := []impl.Store{{}, {Pins: notes(2)}, {Disk: impl.Disk{Safe: 7}}, {Disk: impl.Disk{Records: [][]byte{nil, make([]byte, 41), {1, 2}}}}}
	eachStore(func(s impl.Store, noted []impl.Pin, safe int) { stores = append(stores, s) })
	for _, c := range storesWithOtherPins() {
		stores = append(stores, c.store)
	}
	for i, s := range stores {
		r := roomyOf(s)
		impl.DiskFault(r.store.Disk)
		impl.OpenDisk(r.store.Disk)
		impl.StoreFault(r.store)
		othersOf(r.store)
		impl.SameStores(r.store, s)
		impl.SameStores(s, r.store)
		if !r.isOf(s) {
			t.Fatalf("number %d: %v was changed to %v", i, s, r)
		}
	}
}

func spoilRecords(records [][]byte) {
	records = records[:cap(records)]
	for i := range records {
		records[i] = []byte("spoilt")
	}
}

// spoilStore goes to the end of the memory that the lists of a store lie in.
func spoilStore(s impl.Store) {
	spoilPins(s.Pins)
	for _, data := range s.Disk.Records {
		spoil(data)
	}
	spoilRecords(s.Disk.Records)
}

// storeCalls are all that answer a store, by what they take where s is notes of at least one.
func storeCalls() []func(s impl.Store) impl.StoreResult {
	return []func(s impl.Store) impl.StoreResult{
		func(s impl.Store) impl.StoreResult { return impl.OpenDisk(s.Disk) },
		func(s impl.Store) impl.StoreResult { return impl.NotePin(s, pinOf(6, 100)) },
		func(s impl.Store) impl.StoreResult { return impl.RollStore(s, rollOf(6, 2), 0) },
		func(s impl.Store) impl.StoreResult { return impl.RollStore(s, rollOf(6, 5), 0) },
		func(s impl.Store) impl.StoreResult { return impl.RollStore(s, rollOf(6, 8), 0) },
		impl.SyncStore,
		func(s impl.Store) impl.StoreResult { return impl.CrashStore(s, 0) },
		func(s impl.Store) impl.StoreResult { return impl.CrashStore(s, 2) },
		func(s impl.Store) impl.StoreResult { return impl.CrashStore(s, math.MaxInt64) },
		impl.PackStore,
	}
}

// Promise 1: an answer is spoilt, and neither the argument nor another answer changes; so it is the other way round.
func TestStoresAreNewMemory(t *testing.T) {
	answered := 0
	eachStore(func(s impl.Store, noted []impl.Pin, safe int) {
		for i, call := range storeCalls() {
			r := roomyOf(s)
			first, second := call(r.store), call(r.store)
			want := impl.StoreResult{Code: second.Code, Store: cloneStore(second.Store)}
			if first.Code == impl.OK {
				answered++
			}
			spoilStore(first.Store)
			if !r.isOf(s) || !isStore(second, want) {
				t.Fatalf("call %d: %d records, %d safe: behind a spoilt answer: %v and %v, not %v", i, len(noted), safe, r, second, want)
			}
			r.spoil()
			if !isStore(second, want) {
				t.Fatalf("call %d: %d records, %d safe: behind a spoilt argument: %v, not %v", i, len(noted), safe, second, want)
			}
		}
	})
	if answered < 500 {
		t.Errorf("%d were answered", answered)
	}
}

// Promise 1: no two records of one answer share their memory, nor has one room up to the next.
func TestRecordsOfOneAnswerShareNothing(t *testing.T) {
	eachStore(func(s impl.Store, noted []impl.Pin, safe int) {
		for i, call := range storeCalls() {
			got := call(s)
			want := cloneStore(got.Store)
			for place, data := range got.Store.Disk.Records {
				spoil(data)
				want.Disk.Records[place] = slices.Clone(data)
				if !equalStores(got.Store, want) {
					t.Fatalf("call %d: %d records, %d safe: with record %d spoilt: %v, not %v", i, len(noted), safe, place, got.Store, want)
				}
			}
		}
	})
}

// Promise 1: where records of an argument share their memory, those of an answer do not.
func TestRecordsThatShareTheirMemory(t *testing.T) {
	record := wantPinRecord(plainPin())
	d := impl.Disk{Records: [][]byte{record, record}}
	if got := impl.OpenDisk(d); !isNoStore(got, impl.ErrOld) {
		t.Errorf("one record twice: %v", got)
	}
	memory := slices.Concat(wantPinRecord(pinOf(3, 1)), wantPinRecord(pinOf(3, 2)))
	half := len(memory) / 2
	s := impl.Store{Pins: pinsAt(2, 3), Disk: impl.Disk{Records: [][]byte{memory[:half], memory[half:]}}}
	for i, got := range []impl.StoreResult{impl.OpenDisk(s.Disk), impl.SyncStore(s), impl.CrashStore(s, 2), impl.NotePin(s, pinOf(3, 3))} {
		spoil(got.Store.Disk.Records[0])
		if !bytes.Equal(got.Store.Disk.Records[1], wantPinRecord(pinOf(3, 2))) || !bytes.Equal(memory[:half], wantPinRecord(pinOf(3, 1))) {
			t.Errorf("number %d: %v", i, got)
		}
	}
}

type storeAnswers struct {
	disk, fault int64
	same        bool
	text        string
}

// storeText has all of a store in bytes, so that answers can be compared.
func storeText(r impl.StoreResult) string {
	var text strings.Builder
	text.WriteByte(byte(r.Code))
	for _, p := range r.Store.Pins {
		text.Write(wantPinBytes(p))
		text.WriteByte('\n')
	}
	for _, data := range r.Store.Disk.Records {
		text.Write(data)
		text.WriteByte('\n')
	}
	text.WriteByte(byte(r.Store.Disk.Safe))
	return text.String()
}

func askStore(n int, x int64, y int64) storeAnswers {
	s := storeOf(0, notes(n)...)
	s.Disk.Safe = x
	p := pinOf(6, 8)
	p.Until = y
	r := rollOf(6, 5)
	r.Sign.Proof ^= y & 1
	var text strings.Builder
	for _, got := range []impl.StoreResult{impl.OpenDisk(s.Disk), impl.NotePin(s, p), impl.RollStore(s, r, y), impl.SyncStore(s), impl.CrashStore(s, y), impl.PackStore(s)} {
		text.WriteString(storeText(got))
	}
	return storeAnswers{disk: impl.DiskFault(s.Disk), fault: impl.StoreFault(s), same: impl.SameStores(s, storeOf(y, notes(n)...)), text: text.String()}
}

// Promise 1: the same arguments have the same answers, whatever was asked in between, and however often.
func TestStoresHangOnTheirArgumentsAlone(t *testing.T) {
	type asking struct {
		n    int
		x, y int64
	}
	first := map[asking]storeAnswers{}
	numbers := slices.Concat(noKeeps, []int64{0, 1, 2, 3, 5}, largeKeeps)
	faults := 0
	for _, n := range []int{0, 1, 5, mostRecords, mostRecords + 1} {
		for _, x := range numbers {
			for _, y := range numbers {
				got := askStore(n, x, y)
				first[asking{n, x, y}] = got
				if got.fault != impl.OK {
					faults++
				}
			}
		}
	}
	for asked, want := range first {
		if got := askStore(asked.n, asked.x, asked.y); got != want {
			t.Errorf("%v: %v, then %v", asked, want, got)
		}
	}
	if faults == 0 || faults == len(first) {
		t.Errorf("%d of %d had a fault", faults, len(first))
	}
}
