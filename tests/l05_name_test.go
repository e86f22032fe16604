package tests

import (
	"bytes"
	"math"
	"regexp"
	"slices"
	"strings"
	"testing"

	"loop.example/g00618/impl"
)

const (
	longestName  = 20
	largestUsage = 3
	packedHead   = 4
)

// nameForm tells the names as a pattern, so that it shares nothing with the program.
var nameForm = regexp.MustCompile(`\A[a-zA-Z0-9]([a-zA-Z0-9-]*[a-zA-Z0-9])?(\.[a-zA-Z0-9]([a-zA-Z0-9-]*[a-zA-Z0-9])?)*\.?\z`)

// noUsages lie just outside the usages, at the ends of an int64, and where a usage would be if an int64 were cut short.
var noUsages = []int64{math.MinInt64, math.MinInt64 + 1, -1 << 32, -256, -largestUsage, -1, largestUsage + 1, largestUsage + 2, 255, 256, 256 + largestUsage, 65536, 1 << 32, 1<<32 + largestUsage, math.MaxInt64 - 1, math.MaxInt64}

// noMatches lie just outside the matches, at the ends of an int64, and where a match would be if an int64 were cut short.
var noMatches = []int64{math.MinInt64, math.MinInt64 + 1, -1 << 32, -256, -2, -1, 2, 3, 255, 256, 256 + 1, 65536 + 1, 1 << 32, 1<<32 + 1, math.MaxInt64 - 1, math.MaxInt64}

var normalNames = []string{"a", "z", "0", "9", "a.b", "a-b", "a--b", "host-1", "srv.x", "0.0", "a.b-c.d", "1-2.3-4", "xn--a.b", "a.a.a.a.a.a.a.a.a.aa", "abcdefghij.klmnopqrs", "abcdefghijklmnopqrst", "a------------------z", "0123456789.0123-4567"}

// otherNames are names, but not normal ones.
var otherNames = []string{"A", "Z", "a.", "A.", "A.b.", "a.B", "aB", "a-B", "a-b.", "0.", "a.b.c.", "HOST-1", "ABCDEFGHIJ.KLMNOPQRS", "abcdefghijklmnopqrsT", "abcdefghijklmnopqrs.", "a.a.a.a.a.a.a.a.a.a."}

// noNames have a form that no name has, and no more bytes than a name may have.
var noNames = []string{"", ".", "..", "...", "-", "--", ".-", "-.", "-.-", ".a", "..a", "a..", "a...", "a..b", "a...b", ".a.", ".a.b", "a.b..", "-a", "a-", "-a-", "--a", "a--", "-.a", "a.-", "a.-.", "a.-.b", "a-.", "a-.b", "a.-b", "a.b-", "a.b-.", "a.-b.", "-a.b", "a-b-", "-a-b", "A-", "-A", "0-", "-0", " ", " a", "a ", "a b", "a\n", "\na", "a\x00", "\x00", "a_b", "a/b", "a:b", "a@b", "a[b", "a`b", "a{b", "a,b", "a+b", "é", "aé", "é.a", "\u212a", "a\u212a", "\u0130", "\xff", "a\x80b", "\xe1", "a.b\n", "a. ", "a .b", "-bcdefghijklmnopqrst", "abcdefghijklmnopqrs-", ".bcdefghijklmnopqrst", "abcdefghijklmnopqr..", "abcdefghij..klmnopqr", "abcdefghijklmnopqrs_"}

// longNames have more bytes than a name may have; some of them have the form of a name else, some have not.
var longNames = []string{"abcdefghij.abcdefghij", "abcdefghijklmnopqrstu", "abcdefghijklmnopqrst.", "ABCDEFGHIJKLMNOPQRST.", "a.a.a.a.a.a.a.a.a.a.a", "---------------------", ".....................", "-bcdefghijklmnopqrstu", "abcdefghijklmnopqrst-", "abcdefghijklmnopqrs..", "abcdefghijklmnopqrst\x00", "éééééééééé-", strings.Repeat(" ", 21), strings.Repeat("a", 40), strings.Repeat("a", 255), strings.Repeat("a", 256), strings.Repeat("a", 257), strings.Repeat("a.", 40000)}

func wantNameFault(name string) int64 {
	switch {
	case len(name) > longestName:
		return impl.ErrMany
	case !nameForm.MatchString(name):
		return impl.ErrText
	}
	return impl.OK
}

// wantNormal maps each byte by itself, and leaves out the last one if it is a dot.
func wantNormal(name string) string {
	var list []byte
	for i, b := range []byte(name) {
		switch {
		case b >= 65 && b <= 90:
			list = append(list, b+32)
		case b != '.' || i < len(name)-1:
			list = append(list, b)
		}
	}
	return string(list)
}

func wantNormalName(name string) impl.TextResult {
	if fault := wantNameFault(name); fault != impl.OK {
		return impl.TextResult{Code: fault}
	}
	return impl.TextResult{Text: wantNormal(name)}
}

func wantTlsaFault(x impl.Tlsa) int64 {
	switch {
	case wantNameFault(x.Name) != impl.OK:
		return wantNameFault(x.Name)
	case wantNormal(x.Name) != x.Name:
		return impl.ErrForm
	case x.Usage < 0 || x.Usage > largestUsage || x.Match < 0 || x.Match > 1 || !isLargestOrLess(x.Value):
		return impl.ErrRange
	}
	return impl.OK
}

func wantValue(public int64, match int64) int64 {
	if match == 1 {
		return wantTag("spki", public)
	}
	return public
}

func wantTlsaFor(publics map[int64]bool, name string, public int64, match int64) impl.TlsaResult {
	switch {
	case wantNameFault(name) != impl.OK:
		return impl.TlsaResult{Code: wantNameFault(name)}
	case !publics[public] || match < 0 || match > 1:
		return impl.TlsaResult{Code: impl.ErrRange}
	}
	return impl.TlsaResult{Tlsa: impl.Tlsa{Name: wantNormal(name), Usage: 3, Match: match, Value: wantValue(public, match)}}
}

// wantMatches asks what the document names one by one.
func wantMatches(publics map[int64]bool, x impl.Tlsa, name string, public int64) bool {
	return wantTlsaFault(x) == impl.OK && wantNameFault(name) == impl.OK && publics[public] && x.Usage == 3 && x.Name == wantNormal(name) && x.Value == wantValue(public, x.Match)
}

func wantTlsaBytes(x impl.Tlsa) []byte {
	return append([]byte{byte(x.Usage), byte(x.Match), byte(x.Value / 256), byte(x.Value % 256)}, x.Name...)
}

func isTlsa(got impl.TlsaResult, want impl.Tlsa) bool {
	return got == impl.TlsaResult{Code: impl.OK, Tlsa: want}
}

func isNoTlsa(got impl.TlsaResult, code int64) bool {
	return got == impl.TlsaResult{Code: code}
}

// plainTlsa has no fault, and a Value that is neither a public number nor the sum of one.
func plainTlsa() impl.Tlsa {
	return impl.Tlsa{Name: "a.b", Usage: 2, Match: 1, Value: 65048}
}

func allNames() []string {
	return slices.Concat(normalNames, otherNames, noNames, longNames)
}

func TestConstantsOfNames(t *testing.T) {
	if impl.MaxName != 20 {
		t.Errorf("MaxName: %d", impl.MaxName)
	}
}

func TestListedNames(t *testing.T) {
	for _, c := range []struct {
		list []string
		code int64
	}{{normalNames, impl.OK}, {otherNames, impl.OK}, {noNames, impl.ErrText}, {longNames, impl.ErrMany}} {
		for _, name := range c.list {
			if wantNameFault(name) != c.code {
				t.Fatalf("%q is listed for %d, which it is not", name, c.code)
			}
			if got := impl.NameFault(name); got != c.code {
				t.Errorf("NameFault(%q): %d, not %d", name, got, c.code)
			}
			if got, want := impl.NormalName(name), wantNormalName(name); got != want {
				t.Errorf("NormalName(%q): %v, not %v", name, got, want)
			}
		}
	}
}

func TestNormalNamesWrittenOut(t *testing.T) {
	for _, c := range [][2]string{
		{"A.b.", "a.b"},
		{"A.b", "a.b"},
		{"a", "a"},
		{"a.", "a"},
		{"Z.", "z"},
		{"ABCDEFGHIJKLMNOPQRST", "abcdefghijklmnopqrst"},
		{"UVWXYZ-0123456789.A.", "uvwxyz-0123456789.a"},
		{"a.a.a.a.a.a.a.a.a.a.", "a.a.a.a.a.a.a.a.a.a"},
		{"Host-1", "host-1"},
		{"X--Y", "x--y"},
	} {
		if got := impl.NormalName(c[0]); got != (impl.TextResult{Text: c[1]}) {
			t.Errorf("NormalName(%q): %v, not %q", c[0], got, c[1])
		}
	}
}

// eachName tells all texts of at most n of these bytes.
func eachName(letters string, n int, tell func(string)) {
	list := []string{""}
	for length := 0; ; length++ {
		for _, name := range list {
			tell(name)
		}
		if length == n {
			return
		}
		var longer []string
		for _, name := range list {
			for i := range len(letters) {
				longer = append(longer, name+letters[i:i+1])
			}
		}
		list = longer
	}
}

func TestNamesOfFewLetters(t *testing.T) {
	names := 0
	ask := func(name string) {
		want := wantNormalName(name)
		if want.Code == impl.OK {
			names++
		}
		if got := impl.NameFault(name); got != want.Code {
			t.Fatalf("NameFault(%q): %d, not %d", name, got, want.Code)
		}
		if got := impl.NormalName(name); got != want {
			t.Fatalf("NormalName(%q): %v, not %v", name, got, want)
		}
	}
	eachName("a-.", 9, ask)
	eachName("aZ0-._", 6, ask)
	if names < 2000 {
		t.Errorf("%d were names", names)
	}
}

// Each byte stands alone, at each end of a part, inside one, and next to each mark.
func TestEachByteInANameAtEachPlace(t *testing.T) {
	for b := range 256 {
		for _, around := range [][2]string{{"", ""}, {"a", ""}, {"", "a"}, {"a", "a"}, {"a.", ""}, {"", ".a"}, {"a.", ".a"}, {"a-", ""}, {"", "-a"}, {"a-", "-a"}, {"", "."}, {"a", "."}, {"a.", "."}, {"a-", "."}, {".", ""}, {"-", ""}, {"", "-"}, {"abcdefghijklmnopqrs", ""}, {"", "bcdefghijklmnopqrst"}, {"abcdefghijklmnopqr", "."}} {
			name := around[0] + string([]byte{byte(b)}) + around[1]
			if got, want := impl.NameFault(name), wantNameFault(name); got != want {
				t.Errorf("NameFault(%q): %d, not %d", name, got, want)
			}
			if got, want := impl.NormalName(name), wantNormalName(name); got != want {
				t.Errorf("NormalName(%q): %v, not %v", name, got, want)
			}
		}
	}
}

// The bytes next to each range are none of a name, but for the marks.
func TestBytesAtTheEndsOfTheirRanges(t *testing.T) {
	for _, name := range []string{"a", "z", "A", "Z", "0", "9"} {
		if got := impl.NameFault(name); got != impl.OK {
			t.Errorf("NameFault(%q): %d", name, got)
		}
	}
	for _, name := range []string{"`", "{", "@", "[", "/", ":", ",", "+", "_"} {
		for _, whole := range []string{name, "a" + name, name + "a", "a" + name + "a"} {
			if got := impl.NameFault(whole); got != impl.ErrText {
				t.Errorf("NameFault(%q): %d", whole, got)
			}
		}
	}
}

// A name that is too long is told to be so whatever it has in it, and a dot behind it all counts as a byte.
func TestNamesOfEachLength(t *testing.T) {
	for n := range 300 {
		want := int64(impl.OK)
		switch {
		case n > longestName:
			want = impl.ErrMany
		case n == 0:
			want = impl.ErrText
		}
		if got := impl.NameFault(strings.Repeat("a", n)); got != want {
			t.Errorf("%d bytes: %d, not %d", n, got, want)
		}
		for _, unit := range []string{"-", ".", "_", "\x00", "\xff"} {
			want := int64(impl.ErrText)
			if n > longestName {
				want = impl.ErrMany
			}
			name := strings.Repeat(unit, n)
			if got := impl.NormalName(name); got != (impl.TextResult{Code: want}) {
				t.Errorf("%d of %q: %v, not %d", n, unit, got, want)
			}
		}
		if n > 0 {
			name := strings.Repeat("A", n) + "."
			if got, want := impl.NormalName(name), wantNormalName(name); got != want {
				t.Errorf("%d bytes and a dot: %v, not %v", n, got, want)
			}
		}
	}
}

func TestTlsaFaultAtEveryEdge(t *testing.T) {
	usages := append(slices.Clone(noUsages), 0, 1, 2, 3)
	matches := append(slices.Clone(noMatches), 0, 1)
	values := append(slices.Clone(noSums), 0, 1, largestSum-1, largestSum)
	for _, name := range []string{"a", "abcdefghijklmnopqrst", "A", "a.", "", "-", "a..", longNames[0], longNames[5]} {
		for _, usage := range usages {
			for _, match := range matches {
				for _, value := range values {
					x := impl.Tlsa{Name: name, Usage: usage, Match: match, Value: value}
					if got, want := impl.TlsaFault(x), wantTlsaFault(x); got != want {
						t.Fatalf("TlsaFault(%v): %d, not %d", x, got, want)
					}
				}
			}
		}
	}
	if got := impl.TlsaFault(impl.Tlsa{}); got != impl.ErrText {
		t.Errorf("the zero value: %d", got)
	}
}

func TestTlsaFaultOfEachName(t *testing.T) {
	for _, c := range []struct {
		list []string
		code int64
	}{{normalNames, impl.OK}, {otherNames, impl.ErrForm}, {noNames, impl.ErrText}, {longNames, impl.ErrMany}} {
		for _, name := range c.list {
			x := plainTlsa()
			x.Name = name
			if got := impl.TlsaFault(x); got != c.code {
				t.Errorf("%q: %d, not %d", name, got, c.code)
			}
			// A number that leaves its bounds is told behind whatever the name is told for.
			want := c.code
			if want == impl.OK {
				want = impl.ErrRange
			}
			for _, y := range []impl.Tlsa{{Usage: 4}, {Usage: -1}, {Match: 2}, {Match: -1}, {Value: largestSum + 1}, {Value: -1}, {Usage: math.MinInt64, Match: math.MaxInt64, Value: math.MinInt64}} {
				y.Name = name
				if got := impl.TlsaFault(y); got != want {
					t.Errorf("TlsaFault(%v): %d, not %d", y, got, want)
				}
			}
		}
	}
}

// faultyTlsas has each field that does not fit by itself, and with names of each kind.
func faultyTlsas() []impl.Tlsa {
	var list []impl.Tlsa
	add := func(turn func(*impl.Tlsa)) {
		for _, name := range []string{"a.b", "A.b", "a.b.", "", "a..b", longNames[0], longNames[5]} {
			x := plainTlsa()
			x.Name = name
			turn(&x)
			list = append(list, x)
		}
	}
	for _, usage := range noUsages {
		add(func(x *impl.Tlsa) { x.Usage = usage })
	}
	for _, match := range noMatches {
		add(func(x *impl.Tlsa) { x.Match = match })
	}
	for _, value := range noSums {
		add(func(x *impl.Tlsa) { x.Value = value })
		add(func(x *impl.Tlsa) { x.Usage, x.Match, x.Value = value, value, value })
	}
	for _, name := range slices.Concat(otherNames, noNames, longNames) {
		x := plainTlsa()
		x.Name = name
		list = append(list, x)
	}
	return list
}

func TestFaultySuppliedKeysAreRefused(t *testing.T) {
	told := map[int64]int{}
	for _, x := range faultyTlsas() {
		want := wantTlsaFault(x)
		told[want]++
		if got := impl.TlsaFault(x); got != want || got == impl.OK {
			t.Errorf("TlsaFault(%v): %d, not %d", x, got, want)
		}
		if got := impl.PackTlsa(x); !isNoBytes(got, want) {
			t.Errorf("PackTlsa(%v): %v, not %d", x, got, want)
		}
		if impl.MatchesTlsa(x, x.Name, x.Value) || impl.MatchesTlsa(x, "a.b", 4) {
			t.Errorf("%v has a fault and matches", x)
		}
	}
	for _, code := range []int64{impl.ErrMany, impl.ErrText, impl.ErrForm, impl.ErrRange} {
		if told[code] < 10 {
			t.Errorf("%d were told for %d", told[code], code)
		}
	}
}

func TestPackTlsaWrittenOut(t *testing.T) {
	for _, c := range []struct {
		x    impl.Tlsa
		want string
	}{
		{impl.Tlsa{Name: "a.b", Usage: 3, Value: 4}, "\x03\x00\x00\x04a.b"},
		{impl.Tlsa{Name: "a.b", Usage: 3, Match: 1, Value: 60099}, "\x03\x01\xea\xc3a.b"},
		{impl.Tlsa{Name: "a"}, "\x00\x00\x00\x00a"},
		{impl.Tlsa{Name: "z", Usage: 1, Match: 1, Value: 258}, "\x01\x01\x01\x02z"},
		{impl.Tlsa{Name: "abcdefghij.klmnopqrs", Usage: 2, Match: 0, Value: 65520}, "\x02\x00\xff\xf0abcdefghij.klmnopqrs"},
		{impl.Tlsa{Name: "0-9", Usage: 0, Match: 1, Value: 255}, "\x00\x01\x00\xff0-9"},
		{impl.Tlsa{Name: "9", Usage: 3, Match: 1, Value: 256}, "\x03\x01\x01\x009"},
	} {
		if got := impl.PackTlsa(c.x); got.Code != impl.OK || string(got.Bytes) != c.want {
			t.Errorf("PackTlsa(%v): %v, not %q", c.x, got, c.want)
		}
		if got := impl.ReadTlsa([]byte(c.want)); !isTlsa(got, c.x) {
			t.Errorf("ReadTlsa(%q): %v, not %v", c.want, got, c.x)
		}
	}
}

// checkReadTlsa asks what is read from the bytes of x, which may leave its bounds as far as bytes can.
func checkReadTlsa(t *testing.T, x impl.Tlsa) {
	t.Helper()
	got := impl.ReadTlsa(wantTlsaBytes(x))
	if wantTlsaFault(x) != impl.OK && !isNoTlsa(got, impl.ErrText) || wantTlsaFault(x) == impl.OK && !isTlsa(got, x) {
		t.Fatalf("the bytes of %v are read as %v", x, got)
	}
}

func TestReadTlsaOfEachNumber(t *testing.T) {
	for value := range int64(65536) {
		for _, match := range []int64{0, 1} {
			x := plainTlsa()
			x.Match, x.Value = match, value
			checkReadTlsa(t, x)
		}
	}
	for usage := range int64(256) {
		for match := range int64(256) {
			x := plainTlsa()
			x.Usage, x.Match = usage, match
			checkReadTlsa(t, x)
		}
	}
}

func TestReadTlsaOfEachName(t *testing.T) {
	for _, name := range allNames() {
		x := plainTlsa()
		x.Name = name
		checkReadTlsa(t, x)
	}
	eachName("aZ0-._", 5, func(name string) {
		x := plainTlsa()
		x.Name = name
		checkReadTlsa(t, x)
	})
}

func TestReadTlsaOfOtherLengths(t *testing.T) {
	for _, name := range []string{"a", "a.b", "a-b.c-d", "abcdefghij.klmnopqrs"} {
		packed := impl.PackTlsa(impl.Tlsa{Name: name, Usage: 3, Match: 1, Value: 258}).Bytes
		if len(packed) != packedHead+len(name) {
			t.Fatalf("%q is packed in %d bytes", name, len(packed))
		}
		for cut := range packed {
			x := impl.Tlsa{Usage: 3, Match: 1, Value: 258}
			if cut > packedHead {
				x.Name = name[:cut-packedHead]
			}
			got := impl.ReadTlsa(packed[:cut])
			if wantTlsaFault(x) == impl.OK && !isTlsa(got, x) || wantTlsaFault(x) != impl.OK && !isNoTlsa(got, impl.ErrText) {
				t.Errorf("%d of %d bytes: %v", cut, len(packed), got)
			}
		}
		for more := longestName - len(name) + 1; more <= 300; more++ {
			if got := impl.ReadTlsa(append(slices.Clone(packed), bytes.Repeat([]byte("a"), more)...)); !isNoTlsa(got, impl.ErrText) {
				t.Errorf("%d bytes behind %q: %v", more, name, got)
			}
		}
	}
	for _, data := range [][]byte{nil, {}, {0}, {3, 0}, {3, 0, 0}, {3, 0, 0, 4}, {'a'}, {3, 'a'}, []byte("xy"), []byte("\x03\x00\x00\x04\x00"), []byte("\x03\x00\x00\x04a.b\x00"), make([]byte, 5), make([]byte, 100000)} {
		if got := impl.ReadTlsa(data); !isNoTlsa(got, impl.ErrText) {
			t.Errorf("ReadTlsa of %d bytes: %v", len(data), got)
		}
	}
}

// What is read is just what was packed: nothing else has those bytes.
func TestSuppliedKeysThatAreReadArePackedBack(t *testing.T) {
	letters := []byte("abz09-.AZ_")
	read := 0
	for seed := range 60000 {
		data := mixedBytes(seed % 30)
		for i := range data {
			data[i] += byte(seed / 30 * (i + 1))
		}
		if len(data) >= packedHead {
			data[0] %= 5
			data[1] %= 3
			for i := packedHead; i < len(data); i++ {
				data[i] = letters[int(data[i])%(6+seed%5)]
			}
		}
		got := impl.ReadTlsa(data)
		if got.Code != impl.OK {
			if !isNoTlsa(got, impl.ErrText) {
				t.Fatalf("ReadTlsa(%v): %v", data, got)
			}
			continue
		}
		read++
		if !isBytes(impl.PackTlsa(got.Tlsa), impl.BytesResult{Bytes: data}) {
			t.Fatalf("ReadTlsa(%v): %v", data, got)
		}
	}
	if read < 1000 {
		t.Errorf("%d were read", read)
	}
}

func TestTlsaForWrittenOut(t *testing.T) {
	for _, c := range []struct {
		name          string
		public, match int64
		want          impl.Tlsa
	}{
		{"A.b", 4, 0, impl.Tlsa{Name: "a.b", Usage: 3, Value: 4}},
		{"a.b", 4, 1, impl.Tlsa{Name: "a.b", Usage: 3, Match: 1, Value: 60099}},
		{"HOST-1.", 2, 1, impl.Tlsa{Name: "host-1", Usage: 3, Match: 1, Value: 60097}},
		{"z", 256, 1, impl.Tlsa{Name: "z", Usage: 3, Match: 1, Value: 60346}},
		{"z.", 2872, 0, impl.Tlsa{Name: "z", Usage: 3, Value: 2872}},
		{"ABCDEFGHIJKLMNOPQRST", 2872, 1, impl.Tlsa{Name: "abcdefghijklmnopqrst", Usage: 3, Match: 1, Value: 62912}},
	} {
		if got := impl.TlsaFor(c.name, c.public, c.match); !isTlsa(got, c.want) {
			t.Errorf("TlsaFor(%q, %d, %d): %v, not %v", c.name, c.public, c.match, got, c.want)
		}
		if !impl.MatchesTlsa(c.want, c.name, c.public) {
			t.Errorf("%v is not that of %q and %d", c.want, c.name, c.public)
		}
	}
}

func TestTlsaForEachPublic(t *testing.T) {
	publics := publicSet()
	for public := int64(-3); public <= 2*impl.GroupPrime+3; public++ {
		for match := int64(-1); match <= 2; match++ {
			if got, want := impl.TlsaFor("A.b.", public, match), wantTlsaFor(publics, "A.b.", public, match); got != want {
				t.Errorf("TlsaFor(A.b., %d, %d): %v, not %v", public, match, got, want)
			}
		}
	}
}

// A name's fault is told ahead of a public number that is none, and of a match that is none.
func TestTlsaForOfFaults(t *testing.T) {
	for _, name := range allNames() {
		fault := wantNameFault(name)
		want := fault
		if want == impl.OK {
			want = impl.ErrRange
		}
		for _, public := range noPoints {
			for _, match := range []int64{0, 1, 2, math.MinInt64, math.MaxInt64} {
				if got := impl.TlsaFor(name, public, match); !isNoTlsa(got, want) {
					t.Errorf("TlsaFor(%q, %d, %d): %v, not %d", name, public, match, got, want)
				}
			}
		}
		for _, match := range noMatches {
			if got := impl.TlsaFor(name, 4, match); !isNoTlsa(got, want) {
				t.Errorf("TlsaFor(%q, 4, %d): %v, not %d", name, match, got, want)
			}
		}
		if fault == impl.OK {
			continue
		}
		for _, match := range []int64{0, 1} {
			if got := impl.TlsaFor(name, 4, match); !isNoTlsa(got, fault) {
				t.Errorf("TlsaFor(%q, 4, %d): %v, not %d", name, match, got, fault)
			}
		}
	}
}

// The sums of two public numbers may be the same (those of 507 and 512 are), so the test asks for what the document's equations say.
func TestMatchesTlsaOfEachPublic(t *testing.T) {
	publics := publicSet()
	for _, own := range []int64{2, 4, 256, 507, 512, 513, 2872} {
		for _, match := range []int64{0, 1} {
			x := impl.Tlsa{Name: "a.b", Usage: 3, Match: match, Value: wantValue(own, match)}
			for public := int64(-3); public <= 2*impl.GroupPrime+3; public++ {
				if got, want := impl.MatchesTlsa(x, "A.B.", public), wantMatches(publics, x, "A.B.", public); got != want {
					t.Errorf("MatchesTlsa(%v, A.B., %d): %v", x, public, got)
				}
			}
		}
	}
	if !impl.MatchesTlsa(impl.TlsaFor("a", 507, 1).Tlsa, "a", 512) || impl.MatchesTlsa(impl.TlsaFor("a", 507, 0).Tlsa, "a", 512) {
		t.Error("507 and 512 have one sum, and are two numbers")
	}
}

// A Value that is that of the other Match is none.
func TestMatchesTlsaOfTheOtherMatch(t *testing.T) {
	for _, public := range publicNumbers() {
		itself := impl.Tlsa{Name: "a.b", Usage: 3, Match: 1, Value: public}
		sum := impl.Tlsa{Name: "a.b", Usage: 3, Match: 0, Value: wantTag("spki", public)}
		if impl.TlsaFault(itself) != impl.OK || impl.TlsaFault(sum) != impl.OK {
			t.Fatalf("%v or %v has a fault", itself, sum)
		}
		if impl.MatchesTlsa(itself, "a.b", public) || impl.MatchesTlsa(sum, "a.b", public) {
			t.Errorf("%v or %v is that of %d", itself, sum, public)
		}
		itself.Match, sum.Match = 0, 1
		if !impl.MatchesTlsa(itself, "a.b", public) || !impl.MatchesTlsa(sum, "a.b", public) {
			t.Errorf("%v or %v is not that of %d", itself, sum, public)
		}
	}
}

// A Value that is no public number, but is asked for as one, is not matched.
func TestMatchesTlsaOfNoPublics(t *testing.T) {
	for _, public := range noPoints {
		for _, match := range []int64{0, 1} {
			if impl.MatchesTlsa(impl.Tlsa{Name: "a.b", Usage: 3, Match: match, Value: public}, "a.b", public) {
				t.Errorf("%d is no public number, and matches by %d", public, match)
			}
			if isLargestOrLess(public) && impl.MatchesTlsa(impl.Tlsa{Name: "a.b", Usage: 3, Match: match, Value: wantTag("spki", public)}, "a.b", public) {
				t.Errorf("the sum of %d, which is no public number, matches by %d", public, match)
			}
		}
	}
}

// The zero value is no supplied key, not even that of what has none.
func TestMatchesTlsaOfTheZeroValue(t *testing.T) {
	for _, name := range allNames() {
		for _, public := range append(slices.Clone(noPoints), 2, 4, largestPublic) {
			if impl.MatchesTlsa(impl.Tlsa{}, name, public) {
				t.Errorf("the zero value is that of %q and %d", name, public)
			}
		}
	}
}

func TestMatchesTlsaOfEachUsageAndMatch(t *testing.T) {
	publics := publicSet()
	for _, usage := range append(slices.Clone(noUsages), 0, 1, 2, 3) {
		for _, match := range append(slices.Clone(noMatches), 0, 1) {
			for _, value := range []int64{4, wantTag("spki", 4), 16, 0, largestSum} {
				x := impl.Tlsa{Name: "a.b", Usage: usage, Match: match, Value: value}
				if got, want := impl.MatchesTlsa(x, "a.b", 4), wantMatches(publics, x, "a.b", 4); got != want {
					t.Errorf("MatchesTlsa(%v, a.b, 4): %v", x, got)
				}
			}
		}
	}
}

func TestMatchesTlsaOfEachName(t *testing.T) {
	publics := publicSet()
	matched := 0
	names := append(allNames(), "A.B", "a.B.", "HOST-1.", "SRV.x.", "ABCDEFGHIJKLMNOPQRST", "ab", "b.a")
	for _, own := range names {
		x := impl.Tlsa{Name: own, Usage: 3, Value: 4}
		for _, name := range names {
			want := wantMatches(publics, x, name, 4)
			if want {
				matched++
			}
			if got := impl.MatchesTlsa(x, name, 4); got != want {
				t.Errorf("MatchesTlsa(%v, %q, 4): %v", x, name, got)
			}
		}
	}
	if matched <= len(normalNames) {
		t.Errorf("%d were matched", matched)
	}
}

// Promise 6.
func TestANameIsNormalFromOnceOn(t *testing.T) {
	ask := func(name string) {
		once := impl.NormalName(name)
		if impl.NameFault(name) != impl.OK {
			if once != (impl.TextResult{Code: wantNameFault(name)}) {
				t.Fatalf("NormalName(%q): %v", name, once)
			}
			return
		}
		if twice := impl.NormalName(once.Text); once.Code != impl.OK || impl.NameFault(once.Text) != impl.OK || twice != once {
			t.Fatalf("%q is %v once and %v twice", name, once, twice)
		}
		if got := impl.TlsaFault(impl.Tlsa{Name: once.Text}); got != impl.OK {
			t.Fatalf("%q is normal, and has the fault %d", once.Text, got)
		}
	}
	for _, name := range allNames() {
		ask(name)
	}
	eachName("aB-.", 7, ask)
}

// Promise 6.
func TestASuppliedKeyIsReadBackAndIsThatOfItsName(t *testing.T) {
	for _, name := range slices.Concat(normalNames, otherNames) {
		for _, public := range publicNumbers() {
			for _, match := range []int64{0, 1} {
				made := impl.TlsaFor(name, public, match)
				if made.Code != impl.OK || impl.TlsaFault(made.Tlsa) != impl.OK || made.Tlsa.Name != impl.NormalName(name).Text {
					t.Fatalf("TlsaFor(%q, %d, %d): %v", name, public, match, made)
				}
				packed := impl.PackTlsa(made.Tlsa)
				read := impl.ReadTlsa(packed.Bytes)
				if packed.Code != impl.OK || read != made {
					t.Fatalf("%v is read back as %v", made, read)
				}
				if !impl.MatchesTlsa(read.Tlsa, name, public) || !impl.MatchesTlsa(read.Tlsa, made.Tlsa.Name, public) {
					t.Fatalf("%v is not that of %q and %d", read, name, public)
				}
				if impl.MatchesTlsa(read.Tlsa, "other.name", public) {
					t.Fatalf("%v is that of another name", read)
				}
			}
		}
	}
}

// Promise 6: supplied keys of each Usage, and of Values that belong to nobody, are read back too.
func TestEachSuppliedKeyIsReadBack(t *testing.T) {
	for _, name := range normalNames {
		for usage := range int64(largestUsage + 1) {
			for match := range int64(2) {
				for _, value := range someSums {
					x := impl.Tlsa{Name: name, Usage: usage, Match: match, Value: value}
					packed := impl.PackTlsa(x)
					if !isBytes(packed, impl.BytesResult{Bytes: wantTlsaBytes(x)}) || !isTlsa(impl.ReadTlsa(packed.Bytes), x) {
						t.Errorf("%v is packed as %v and read back as %v", x, packed, impl.ReadTlsa(packed.Bytes))
					}
				}
			}
		}
	}
}

// Promise 1: what stands ahead of or behind the bytes in their memory is not changed either.
func TestReadTlsaChangesNoArguments(t *testing.T) {
	packed := slices.Concat(wantTlsaBytes(plainTlsa()), []byte("A.B."), wantTlsaBytes(impl.Tlsa{Name: "HOST-1.", Usage: 3, Value: 4}))
	want := slices.Clone(packed)
	for from := range packed {
		for to := from; to <= len(packed); to++ {
			impl.ReadTlsa(packed[from:to])
		}
	}
	if !bytes.Equal(packed, want) {
		t.Errorf("%v was changed to %v", want, packed)
	}
}

// Promise 1: the bytes that a supplied key was read from are spoilt, and its Name stays as it was.
func TestSuppliedKeysOutliveTheirBytes(t *testing.T) {
	for _, name := range normalNames {
		x := impl.Tlsa{Name: name, Usage: 3, Match: 1, Value: 258}
		packed := impl.PackTlsa(x)
		read := impl.ReadTlsa(packed.Bytes)
		spoil(packed.Bytes)
		if !isTlsa(read, x) {
			t.Errorf("ReadTlsa: %v, not %v", read, x)
		}
	}
}

// Promise 1: no two answers share their memory.
func TestPackedSuppliedKeysAreNewMemory(t *testing.T) {
	for _, name := range normalNames {
		x := impl.Tlsa{Name: name, Usage: 2, Match: 1, Value: largestSum}
		first := impl.PackTlsa(x)
		second := impl.PackTlsa(x)
		spoil(first.Bytes)
		third := impl.PackTlsa(x)
		for _, got := range []impl.BytesResult{second, third} {
			if !isBytes(got, impl.BytesResult{Bytes: wantTlsaBytes(x)}) {
				t.Errorf("PackTlsa(%v) behind a spoilt answer: %v", x, got)
			}
		}
	}
}

type nameAnswers struct {
	name, fault, packed int64
	normal              impl.TextResult
	made, read          impl.TlsaResult
	form                string
	own, other          bool
}

func askName(name string, x int64, y int64) nameAnswers {
	supplied := impl.Tlsa{Name: name, Usage: x, Match: y, Value: x}
	packed := impl.PackTlsa(supplied)
	made := impl.TlsaFor(name, x, y)
	return nameAnswers{impl.NameFault(name), impl.TlsaFault(supplied), packed.Code, impl.NormalName(name), made, impl.ReadTlsa(packed.Bytes), string(packed.Bytes), impl.MatchesTlsa(made.Tlsa, name, x), impl.MatchesTlsa(supplied, name, y)}
}

// Promise 1: the same arguments have the same answers, whatever was asked in between.
func TestNamesHangOnTheirArgumentsAlone(t *testing.T) {
	type asking struct {
		name string
		x, y int64
	}
	first := map[asking]nameAnswers{}
	for _, name := range allNames() {
		for _, x := range slices.Concat(noUsages, noPoints, someSums, []int64{3, 4, 16}) {
			for _, y := range slices.Concat(noMatches, []int64{0, 1}) {
				first[asking{name, x, y}] = askName(name, x, y)
			}
		}
	}
	for asked, want := range first {
		if got := askName(asked.name, asked.x, asked.y); got != want {
			t.Errorf("%v: %v, then %v", asked, want, got)
		}
	}
}
