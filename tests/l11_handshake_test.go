package tests

import (
	"math"
	"slices"
	"strings"
	"testing"

	"loop.example/g00618/impl"
)

// greetBook is what the document's rules of the handshake are read by.
type greetBook struct {
	rollBook
}

func newGreetBook() greetBook {
	return greetBook{newRollBook()}
}

// shared goes by secrets, not by pows, so that it shares nothing with the program.
func (b greetBook) shared(secret int64, public int64) int64 {
	return b.list[b.logs[public]*secret%1439-1]
}

// heardBoth is of words of which nothing that is heard has a fault; the signature and Finish are not heard.
func heardBoth(h impl.Hello, r impl.Reply) int64 {
	return wantHeard(wantHelloBytes(h), twoBytes(replyFirst, r.Random, r.Share, r.Public))
}

func wantEnd(label string, shared int64, heard int64) int64 {
	return wantTag(label, wantTag("master", shared, heard))
}

func wantKeys(shared int64, heard int64, public int64) impl.Keys {
	return impl.Keys{Up: wantEnd("up", shared, heard), Down: wantEnd("down", shared, heard), Heard: heard, Key: public}
}

func (b greetBook) clientFault(c impl.Client) int64 {
	hello := wantHelloFault(b.publics, c.Hello)
	return firstOf(
		reason{!isSecretNumber(c.Secret), impl.ErrRange},
		reason{hello != impl.OK, hello},
		reason{b.logs[c.Hello.Share] != c.Secret, impl.ErrForm},
	)
}

func (b greetBook) start(secret int64, random int64, name string) impl.ClientResult {
	fault := wantNameFault(name)
	if code := firstOf(reason{!isSecretNumber(secret) || !isLargestOrLess(random), impl.ErrRange}, reason{fault != impl.OK, fault}); code != impl.OK {
		return impl.ClientResult{Code: code}
	}
	return impl.ClientResult{Client: impl.Client{Secret: secret, Hello: impl.Hello{Random: random, Share: b.list[secret-1], Name: wantNormal(name)}}}
}

func (b greetBook) answer(identity int64, secret int64, random int64, h impl.Hello) impl.TakenResult {
	fault := wantHelloFault(b.publics, h)
	code := firstOf(
		reason{!isSecretNumber(identity) || !isSecretNumber(secret) || !isLargestOrLess(random), impl.ErrRange},
		reason{fault != impl.OK, fault},
	)
	if code != impl.OK {
		return impl.TakenResult{Code: code}
	}
	r := impl.Reply{Random: random, Share: b.list[secret-1], Public: b.list[identity-1]}
	heard, shared := heardBoth(h, r), b.shared(secret, h.Share)
	r.Sign = wantSign(b.list, identity, wantTag("verify", heard))
	r.Finish = wantEnd("finish", shared, heard)
	return impl.TakenResult{Reply: r, Keys: wantKeys(shared, heard, r.Public)}
}

func (b greetBook) take(c impl.Client, r impl.Reply) impl.TakenResult {
	client, reply := b.clientFault(c), wantReplyFault(b.publics, r)
	if code := firstOf(reason{client != impl.OK, client}, reason{reply != impl.OK, reply}); code != impl.OK {
		return impl.TakenResult{Code: code}
	}
	heard, shared := heardBoth(c.Hello, r), b.shared(c.Secret, r.Share)
	code := firstOf(
		reason{!wantCheck(b.logs, r.Public, wantTag("verify", heard), r.Sign), impl.ErrSign},
		reason{r.Finish != wantEnd("finish", shared, heard), impl.ErrState},
	)
	if code != impl.OK {
		return impl.TakenResult{Code: code}
	}
	return impl.TakenResult{Reply: r, Keys: wantKeys(shared, heard, r.Public)}
}

func (b greetBook) keys(shared int64, heard int64, public int64) impl.TakenResult {
	if !b.publics[shared] || !isLargestOrLess(heard) || !b.publics[public] {
		return impl.TakenResult{Code: impl.ErrRange}
	}
	return impl.TakenResult{Keys: wantKeys(shared, heard, public)}
}

func (b greetBook) finish(shared int64, heard int64) impl.IntResult {
	if !b.publics[shared] || !isLargestOrLess(heard) {
		return refused()
	}
	return answered(wantEnd("finish", shared, heard))
}

func isNoClient(got impl.ClientResult, code int64) bool {
	return got == impl.ClientResult{Code: code}
}

func isNotTaken(got impl.TakenResult, code int64) bool {
	return got == impl.TakenResult{Code: code}
}

func (b greetBook) checkClient(t *testing.T, c impl.Client) int64 {
	t.Helper()
	got, want := impl.ClientFault(c), b.clientFault(c)
	if got != want {
		t.Fatalf("ClientFault(%v): %d, not %d", c, got, want)
	}
	return got
}

func (b greetBook) checkStart(t *testing.T, secret int64, random int64, name string) impl.ClientResult {
	t.Helper()
	got, want := impl.StartClient(secret, random, name), b.start(secret, random, name)
	if got != want {
		t.Fatalf("StartClient(%d, %d, %q): %v, not %v", secret, random, name, got, want)
	}
	return got
}

func (b greetBook) checkAnswer(t *testing.T, identity int64, secret int64, random int64, h impl.Hello) impl.TakenResult {
	t.Helper()
	got, want := impl.AnswerHello(identity, secret, random, h), b.answer(identity, secret, random, h)
	if got != want {
		t.Fatalf("AnswerHello(%d, %d, %d, %v): %v, not %v", identity, secret, random, h, got, want)
	}
	return got
}

func (b greetBook) checkTake(t *testing.T, c impl.Client, r impl.Reply) impl.TakenResult {
	t.Helper()
	got, want := impl.TakeReply(c, r), b.take(c, r)
	if got != want {
		t.Fatalf("TakeReply(%v, %v): %v, not %v", c, r, got, want)
	}
	return got
}

func (b greetBook) checkKeys(t *testing.T, shared int64, heard int64, public int64) impl.TakenResult {
	t.Helper()
	got, want := impl.KeysOf(shared, heard, public), b.keys(shared, heard, public)
	if got != want {
		t.Fatalf("KeysOf(%d, %d, %d): %v, not %v", shared, heard, public, got, want)
	}
	return got
}

func (b greetBook) checkFinish(t *testing.T, shared int64, heard int64) impl.IntResult {
	t.Helper()
	got, want := impl.FinishOf(shared, heard), b.finish(shared, heard)
	if got != want {
		t.Fatalf("FinishOf(%d, %d): %v, not %v", shared, heard, got, want)
	}
	return got
}

// Who talk in these tests: each one's secret is another.
const (
	clientSecret = 5
	serverSecret = 11
	serverOwn    = 7
	otherSecret  = 19
	otherOwn     = 23
)

// plainClient has no fault.
func plainClient() impl.Client {
	return impl.Client{Secret: clientSecret, Hello: impl.Hello{Random: 9, Share: 1024, Name: "a.b"}}
}

// plainGreeting is what the server replies to plainClient, as the document counts it.
func plainGreeting() impl.Reply {
	return impl.Reply{Random: 13, Share: 2480, Public: 1989, Sign: impl.Signed{Point: 714, Proof: 863}, Finish: 63733}
}

func TestHandshakesWrittenOut(t *testing.T) {
	for _, c := range []struct {
		client, hello              int64
		name                       string
		identity, server, answered int64
		h                          impl.Hello
		r                          impl.Reply
		keys                       impl.Keys
	}{
		{5, 9, "A.b", 7, 11, 13, plainClient().Hello, plainGreeting(), impl.Keys{Up: 309, Down: 31438, Heard: 65270, Key: 1989}},
		{1, 0, "a", 1, 1, 0, impl.Hello{Random: 0, Share: 4, Name: "a"}, impl.Reply{Random: 0, Share: 4, Public: 4, Sign: impl.Signed{Point: 1231, Proof: 1005}, Finish: 45017}, impl.Keys{Up: 47114, Down: 12722, Heard: 12418, Key: 4}},
		{1438, 65520, "ABCDEFGHIJ.KLMNOPQRS", 1438, 1438, 65520, impl.Hello{Random: 65520, Share: 720, Name: "abcdefghij.klmnopqrs"}, impl.Reply{Random: 65520, Share: 720, Public: 720, Sign: impl.Signed{Point: 2777, Proof: 370}, Finish: 23683}, impl.Keys{Up: 25780, Down: 56909, Heard: 57050, Key: 720}},
		{1, 0, "a", 1438, 2, 65520, impl.Hello{Random: 0, Share: 4, Name: "a"}, impl.Reply{Random: 65520, Share: 16, Public: 720, Sign: impl.Signed{Point: 1921, Proof: 69}, Finish: 53076}, impl.Keys{Up: 55173, Down: 20781, Heard: 51642, Key: 720}},
		{720, 258, "Host-1.", 256, 255, 257, impl.Hello{Random: 258, Share: 2, Name: "host-1"}, impl.Reply{Random: 257, Share: 1159, Public: 1757, Sign: impl.Signed{Point: 2364, Proof: 260}, Finish: 44006}, impl.Keys{Up: 46103, Down: 11711, Heard: 60149, Key: 1757}},
		{3, 3, "0", 3, 3, 3, impl.Hello{Random: 3, Share: 64, Name: "0"}, impl.Reply{Random: 3, Share: 64, Public: 64, Sign: impl.Signed{Point: 2592, Proof: 1203}, Finish: 14746}, impl.Keys{Up: 16843, Down: 47972, Heard: 36227, Key: 64}},
		{11, 13, "a.b", 5, 7, 9, impl.Hello{Random: 13, Share: 2480, Name: "a.b"}, impl.Reply{Random: 9, Share: 1989, Public: 1024, Sign: impl.Signed{Point: 375, Proof: 482}, Finish: 40901}, impl.Keys{Up: 42998, Down: 8606, Heard: 59467, Key: 1024}},
	} {
		client := impl.Client{Secret: c.client, Hello: c.h}
		if got := impl.StartClient(c.client, c.hello, c.name); got != (impl.ClientResult{Client: client}) {
			t.Errorf("StartClient(%d, %d, %q): %v, not %v", c.client, c.hello, c.name, got, client)
		}
		if got := impl.ClientFault(client); got != impl.OK {
			t.Errorf("ClientFault(%v): %d", client, got)
		}
		want := impl.TakenResult{Reply: c.r, Keys: c.keys}
		if got := impl.AnswerHello(c.identity, c.server, c.answered, c.h); got != want {
			t.Errorf("AnswerHello(%d, %d, %d, %v): %v, not %v", c.identity, c.server, c.answered, c.h, got, want)
		}
		if got := impl.TakeReply(client, c.r); got != want {
			t.Errorf("TakeReply(%v, %v): %v, not %v", client, c.r, got, want)
		}
	}
}

func TestKeysWrittenOut(t *testing.T) {
	for _, c := range []struct{ shared, heard, public, finish, up, down int64 }{
		{2, 0, 2, 38019, 40116, 5724},
		{4, 0, 4, 33079, 35176, 784},
		{4, 1, 4, 33080, 35177, 785},
		{256, 4, 16, 65208, 1784, 32913},
		{2872, 65520, 2872, 19576, 21673, 52802},
		{2872, 0, 2, 20827, 22924, 54053},
		{2, 65520, 2872, 36768, 38865, 4473},
		{1024, 256, 720, 2433, 4530, 35659},
		{64, 258, 4, 12279, 14376, 45505},
	} {
		want := impl.TakenResult{Keys: impl.Keys{Up: c.up, Down: c.down, Heard: c.heard, Key: c.public}}
		if got := impl.KeysOf(c.shared, c.heard, c.public); got != want {
			t.Errorf("KeysOf(%d, %d, %d): %v, not %v", c.shared, c.heard, c.public, got, want)
		}
		if got := impl.FinishOf(c.shared, c.heard); got != answered(c.finish) {
			t.Errorf("FinishOf(%d, %d): %v, not %d", c.shared, c.heard, got, c.finish)
		}
	}
}

// Each label is used for its own end alone, told here in the words of the chapters ahead.
func TestEachLabelHasItsEnd(t *testing.T) {
	derived := func(master impl.IntResult, label string) int64 {
		return impl.DeriveKey(master.Value, label).Value
	}
	for _, secret := range someSecrets {
		for _, random := range someSums {
			c := impl.StartClient(secret, random, "srv.x").Client
			a := impl.AnswerHello(serverOwn, serverSecret, largestSum-random, c.Hello)
			heard := impl.HeardOf(c.Hello, a.Reply).Value
			shared := impl.SharedOf(secret, a.Reply.Share).Value
			master := impl.TagSum("master", []int64{shared, heard})
			signed := impl.SignSum(serverOwn, impl.TagSum("verify", []int64{heard}).Value).Sign
			want := impl.TakenResult{
				Reply: impl.Reply{Random: largestSum - random, Share: impl.KeyOf(serverSecret).Key.Public, Public: impl.KeyOf(serverOwn).Key.Public, Sign: signed, Finish: derived(master, "finish")},
				Keys:  impl.Keys{Up: derived(master, "up"), Down: derived(master, "down"), Heard: heard, Key: impl.KeyOf(serverOwn).Key.Public},
			}
			if a != want {
				t.Fatalf("AnswerHello of %v: %v, not %v", c.Hello, a, want)
			}
			if a.Keys.Up == a.Keys.Down || a.Keys.Up == a.Reply.Finish || a.Keys.Down == a.Reply.Finish {
				t.Fatalf("two ends of %v have one number", a)
			}
			if got := impl.KeysOf(shared, heard, want.Keys.Key); got != (impl.TakenResult{Keys: want.Keys}) {
				t.Fatalf("KeysOf(%d, %d): %v, not %v", shared, heard, got, want.Keys)
			}
			if got := impl.FinishOf(shared, heard); got != answered(want.Reply.Finish) {
				t.Fatalf("FinishOf(%d, %d): %v, not %d", shared, heard, got, want.Reply.Finish)
			}
		}
	}
}

func TestKeysOfAtEveryEdge(t *testing.T) {
	book := newGreetBook()
	codes := map[int64]int{}
	for _, shared := range slices.Concat(noPoints, somePublics) {
		for _, heard := range slices.Concat(noSums, someSums) {
			book.checkFinish(t, shared, heard)
			for _, public := range slices.Concat(noPoints, somePublics) {
				codes[book.checkKeys(t, shared, heard, public).Code]++
			}
		}
	}
	if codes[impl.OK] != len(somePublics)*len(someSums)*len(somePublics) || codes[impl.ErrRange] < 1000 {
		t.Errorf("codes were told so often: %v", codes)
	}
}

// One argument that is none is told by itself, beside others that have no fault.
func TestKeysOfOneThatIsNone(t *testing.T) {
	for _, number := range noPoints {
		if got := impl.KeysOf(number, 258, 4); !isNotTaken(got, impl.ErrRange) {
			t.Errorf("shared %d: %v", number, got)
		}
		if got := impl.KeysOf(4, 258, number); !isNotTaken(got, impl.ErrRange) {
			t.Errorf("public %d: %v", number, got)
		}
		if got := impl.FinishOf(number, 258); got != refused() {
			t.Errorf("FinishOf(%d, 258): %v", number, got)
		}
	}
	for _, number := range noSums {
		if got := impl.KeysOf(4, number, 4); !isNotTaken(got, impl.ErrRange) {
			t.Errorf("heard %d: %v", number, got)
		}
		if got := impl.FinishOf(4, number); got != refused() {
			t.Errorf("FinishOf(4, %d): %v", number, got)
		}
	}
}

func TestKeysOfEachNumber(t *testing.T) {
	book := newGreetBook()
	taken := 0
	for number := int64(-3); number <= 2*impl.GroupPrime+5; number++ {
		if book.checkKeys(t, number, 258, 4).Code == impl.OK {
			taken++
		}
		book.checkKeys(t, 4, 258, number)
		book.checkFinish(t, number, 258)
	}
	if taken != impl.GroupOrder-1 {
		t.Errorf("%d numbers were shared", taken)
	}
	for heard := int64(0); heard <= 65536; heard += 5 {
		book.checkKeys(t, 64, heard, 256)
		book.checkFinish(t, 64, heard)
	}
}

func TestClientFaultWrittenOut(t *testing.T) {
	hello := plainClient().Hello
	with := func(turn func(*impl.Hello)) impl.Hello {
		h := hello
		turn(&h)
		return h
	}
	for _, c := range []struct {
		c    impl.Client
		want int64
	}{
		{plainClient(), impl.OK},
		{impl.Client{}, impl.ErrRange},
		{impl.Client{Secret: 0, Hello: hello}, impl.ErrRange},
		{impl.Client{Secret: -1, Hello: hello}, impl.ErrRange},
		{impl.Client{Secret: impl.GroupOrder, Hello: hello}, impl.ErrRange},
		{impl.Client{Secret: impl.GroupOrder + 5, Hello: hello}, impl.ErrRange},
		{impl.Client{Secret: 5 - impl.GroupOrder, Hello: hello}, impl.ErrRange},
		{impl.Client{Secret: math.MinInt64, Hello: hello}, impl.ErrRange},
		{impl.Client{Secret: math.MaxInt64, Hello: hello}, impl.ErrRange},
		{impl.Client{Secret: 4, Hello: hello}, impl.ErrForm},
		{impl.Client{Secret: 6, Hello: hello}, impl.ErrForm},
		{impl.Client{Secret: impl.GroupOrder - 5, Hello: hello}, impl.ErrForm},
		{impl.Client{Secret: impl.GroupOrder - 1, Hello: hello}, impl.ErrForm},
		{impl.Client{Secret: 5, Hello: with(func(h *impl.Hello) { h.Share = 256 })}, impl.ErrForm},
		{impl.Client{Secret: 5, Hello: with(func(h *impl.Hello) { h.Share = 2 })}, impl.ErrForm},
		{impl.Client{Secret: 4, Hello: with(func(h *impl.Hello) { h.Share = 256 })}, impl.OK},
		{impl.Client{Secret: 5, Hello: with(func(h *impl.Hello) { h.Share = 1 })}, impl.ErrRange},
		{impl.Client{Secret: 5, Hello: with(func(h *impl.Hello) { h.Share = 1024 + impl.GroupPrime })}, impl.ErrRange},
		{impl.Client{Secret: 5, Hello: with(func(h *impl.Hello) { h.Share = 0 })}, impl.ErrRange},
		{impl.Client{Secret: 5, Hello: with(func(h *impl.Hello) { h.Random = -1 })}, impl.ErrRange},
		{impl.Client{Secret: 5, Hello: with(func(h *impl.Hello) { h.Random = largestSum + 1 })}, impl.ErrRange},
		{impl.Client{Secret: 5, Hello: with(func(h *impl.Hello) { h.Random = 0 })}, impl.OK},
		{impl.Client{Secret: 5, Hello: with(func(h *impl.Hello) { h.Random = largestSum })}, impl.OK},
		{impl.Client{Secret: 5, Hello: with(func(h *impl.Hello) { h.Name = "" })}, impl.ErrText},
		{impl.Client{Secret: 5, Hello: with(func(h *impl.Hello) { h.Name = "A.b" })}, impl.ErrForm},
		{impl.Client{Secret: 5, Hello: with(func(h *impl.Hello) { h.Name = "a.b." })}, impl.ErrForm},
		{impl.Client{Secret: 5, Hello: with(func(h *impl.Hello) { h.Name = "abcdefghijklmnopqrst." })}, impl.ErrMany},
		{impl.Client{Secret: 6, Hello: with(func(h *impl.Hello) { h.Name = "" })}, impl.ErrText},
		{impl.Client{Secret: 6, Hello: with(func(h *impl.Hello) { h.Name = "abcdefghijklmnopqrstu" })}, impl.ErrMany},
		{impl.Client{Secret: 6, Hello: with(func(h *impl.Hello) { h.Random = -1 })}, impl.ErrRange},
		{impl.Client{Secret: 0, Hello: with(func(h *impl.Hello) { h.Name = "" })}, impl.ErrRange},
		{impl.Client{Secret: 0, Hello: with(func(h *impl.Hello) { h.Name = "A" })}, impl.ErrRange},
	} {
		if got := impl.ClientFault(c.c); got != c.want {
			t.Errorf("ClientFault(%v): %d, not %d", c.c, got, c.want)
		}
		got := impl.TakeReply(c.c, plainGreeting())
		if c.want != impl.OK && !isNotTaken(got, c.want) || c.want == impl.OK && c.c != plainClient() && !isNotTaken(got, impl.ErrSign) {
			t.Errorf("TakeReply(%v): %v, not %d", c.c, got, c.want)
		}
	}
}

func TestClientFaultAtEveryEdge(t *testing.T) {
	book := newGreetBook()
	codes := map[int64]int{}
	for _, secret := range slices.Concat(noSecrets, someSecrets) {
		shares := slices.Concat(noPoints, somePublics)
		if isSecretNumber(secret) {
			shares = append(shares, book.list[secret-1])
		}
		for _, share := range shares {
			for _, random := range []int64{-1, 0, 9, largestSum, largestSum + 1, math.MinInt64, math.MaxInt64} {
				for _, name := range []string{"a.b", "abcdefghij.klmnopqrs", "A.b", "a.", "", "a..b", longNames[0], longNames[5]} {
					c := impl.Client{Secret: secret, Hello: impl.Hello{Random: random, Share: share, Name: name}}
					codes[book.checkClient(t, c)]++
				}
			}
		}
	}
	for _, code := range []int64{impl.OK, impl.ErrRange, impl.ErrMany, impl.ErrText, impl.ErrForm} {
		if codes[code] < 50 {
			t.Errorf("%d were told for %d", codes[code], code)
		}
	}
}

// Of each secret one Share is its own, and of each Share one secret.
func TestClientFaultOfEachShare(t *testing.T) {
	book := newGreetBook()
	for _, secret := range someSecrets {
		c := plainClient()
		c.Secret = secret
		fits := 0
		for c.Hello.Share = -3; c.Hello.Share <= 2*impl.GroupPrime+5; c.Hello.Share++ {
			if book.checkClient(t, c) == impl.OK {
				fits++
			}
		}
		if fits != 1 {
			t.Errorf("%d Shares fit to the secret %d", fits, secret)
		}
	}
	for _, share := range somePublics {
		c := plainClient()
		c.Hello.Share = share
		fits := 0
		for c.Secret = -2 * impl.GroupOrder; c.Secret <= 3*impl.GroupOrder; c.Secret++ {
			if book.checkClient(t, c) == impl.OK {
				fits++
			}
		}
		if fits != 1 {
			t.Errorf("%d secrets fit to the Share %d", fits, share)
		}
	}
}

func TestClientFaultOfFaultyHellos(t *testing.T) {
	publics := publicSet()
	for _, h := range faultyHellos() {
		want := wantHelloFault(publics, h)
		for _, secret := range []int64{3, 4, 1} {
			if got := impl.ClientFault(impl.Client{Secret: secret, Hello: h}); got != want {
				t.Errorf("a client with %v: %d, not %d", h, got, want)
			}
		}
		for _, secret := range noSecrets {
			if got := impl.ClientFault(impl.Client{Secret: secret, Hello: h}); got != impl.ErrRange {
				t.Errorf("a client with the secret %d and %v: %d", secret, h, got)
			}
		}
	}
}

func TestStartClientAtEveryEdge(t *testing.T) {
	book := newGreetBook()
	codes := map[int64]int{}
	names := slices.Concat(normalNames[:4], otherNames[:6], noNames[:6], longNames[:6])
	for _, secret := range slices.Concat(noSecrets, someSecrets) {
		for _, random := range slices.Concat(noSums, someSums) {
			for _, name := range names {
				codes[book.checkStart(t, secret, random, name).Code]++
			}
		}
	}
	for _, code := range []int64{impl.OK, impl.ErrRange, impl.ErrMany, impl.ErrText} {
		if codes[code] < 500 {
			t.Errorf("%d were told for %d", codes[code], code)
		}
	}
	if len(codes) != 4 {
		t.Errorf("codes were told so often: %v", codes)
	}
}

func TestStartClientOfOneThatIsNone(t *testing.T) {
	for _, secret := range noSecrets {
		for _, name := range []string{"a.b", "A.b.", "", longNames[0]} {
			if got := impl.StartClient(secret, 9, name); !isNoClient(got, impl.ErrRange) {
				t.Errorf("secret %d, %q: %v", secret, name, got)
			}
		}
	}
	for _, random := range noSums {
		for _, name := range []string{"a.b", "A.b.", "", longNames[0]} {
			if got := impl.StartClient(5, random, name); !isNoClient(got, impl.ErrRange) {
				t.Errorf("random %d, %q: %v", random, name, got)
			}
		}
	}
}

// A name may be written in another way when a client starts, but is normal from there on.
func TestStartClientOfEachName(t *testing.T) {
	book := newGreetBook()
	for _, name := range append(allNames(), "HOST-1.", "A.B.C", "a.b.c.d") {
		got := book.checkStart(t, 5, 9, name)
		if got.Code != impl.OK {
			if !isNoClient(got, impl.NameFault(name)) {
				t.Errorf("StartClient of %q: %v", name, got)
			}
			continue
		}
		if got.Client.Hello.Name != impl.NormalName(name).Text || impl.ClientFault(got.Client) != impl.OK {
			t.Errorf("StartClient of %q: %v, with the fault %d", name, got, impl.ClientFault(got.Client))
		}
		if again := impl.StartClient(5, 9, got.Client.Hello.Name); again != got {
			t.Errorf("StartClient of %q: %v, and of that name %v", name, got, again)
		}
	}
	eachName("aZ-.", 4, func(name string) { book.checkStart(t, 1438, 65520, name) })
}

func TestStartClientOfEachSecret(t *testing.T) {
	book := newGreetBook()
	for secret := int64(-3); secret <= impl.GroupPrime+5; secret++ {
		got := book.checkStart(t, secret, 65520-secret, "A.b")
		if got.Code == impl.OK && impl.ClientFault(got.Client) != impl.OK {
			t.Errorf("%v has a fault", got)
		}
	}
	for random := int64(-3); random <= 65540; random++ {
		got := book.checkStart(t, 7, random, "a")
		if got.Code == impl.OK && impl.ClientFault(got.Client) != impl.OK {
			t.Errorf("%v has a fault", got)
		}
	}
}

// Each argument that is none stands alone, and beside each other one.
func TestAnswerHelloOfOneThatIsNone(t *testing.T) {
	hello := plainClient().Hello
	nameless := hello
	nameless.Name = ""
	check := func(identity int64, secret int64, random int64) {
		t.Helper()
		for _, h := range []impl.Hello{hello, nameless, {}} {
			if got := impl.AnswerHello(identity, secret, random, h); !isNotTaken(got, impl.ErrRange) {
				t.Errorf("AnswerHello(%d, %d, %d, %v): %v", identity, secret, random, h, got)
			}
		}
	}
	for i, secret := range noSecrets {
		check(secret, serverSecret, 13)
		check(serverOwn, secret, 13)
		check(secret, secret, 13)
		check(secret, serverSecret, noSums[i])
		check(serverOwn, secret, noSums[i])
		check(secret, noSecrets[0], noSums[i])
	}
	for _, random := range noSums {
		check(serverOwn, serverSecret, random)
	}
}

func TestAnswerHelloAtEveryEdge(t *testing.T) {
	book := newGreetBook()
	codes := map[int64]int{}
	hellos := []impl.Hello{plainClient().Hello, {Random: largestSum, Share: largestPublic, Name: "z"}, {Random: -1, Share: 4, Name: "a"}, {Share: 1, Name: "a"}, {Share: 4, Name: "A"}, {Share: 4, Name: "-"}, {Share: 4, Name: longNames[0]}}
	for _, identity := range slices.Concat(noSecrets, someSecrets) {
		for _, secret := range slices.Concat(noSecrets, someSecrets) {
			for _, random := range []int64{math.MinInt64, -1, 0, 1, 256, largestSum, largestSum + 1, 1 << 32, math.MaxInt64} {
				for _, h := range hellos {
					codes[book.checkAnswer(t, identity, secret, random, h).Code]++
				}
			}
		}
	}
	for _, code := range []int64{impl.OK, impl.ErrRange, impl.ErrMany, impl.ErrText, impl.ErrForm} {
		if codes[code] < 300 {
			t.Errorf("%d were told for %d", codes[code], code)
		}
	}
}

func TestAnswerHelloOfFaultyHellos(t *testing.T) {
	publics := publicSet()
	told := map[int64]int{}
	for _, h := range faultyHellos() {
		want := wantHelloFault(publics, h)
		told[want]++
		if got := impl.AnswerHello(serverOwn, serverSecret, 13, h); !isNotTaken(got, want) {
			t.Errorf("AnswerHello of %v: %v, not %d", h, got, want)
		}
	}
	for _, code := range []int64{impl.ErrMany, impl.ErrText, impl.ErrForm, impl.ErrRange} {
		if told[code] < 10 {
			t.Errorf("%d were told for %d", told[code], code)
		}
	}
}

func TestAnswerHelloOfEachSecret(t *testing.T) {
	book := newGreetBook()
	hello := plainClient().Hello
	for secret := int64(-3); secret <= impl.GroupOrder+5; secret++ {
		book.checkAnswer(t, secret, serverSecret, 13, hello)
		book.checkAnswer(t, serverOwn, secret, 13, hello)
		if isSecretNumber(secret) {
			hello.Share = book.list[secret-1]
			book.checkAnswer(t, serverOwn, serverSecret, 13, hello)
		}
	}
	for random := int64(0); random <= largestSum; random += 16 {
		hello.Random = largestSum - random
		book.checkAnswer(t, serverOwn, serverSecret, random, hello)
	}
}

func TestAnswerHelloOfEachName(t *testing.T) {
	book := newGreetBook()
	for _, name := range allNames() {
		hello := plainClient().Hello
		hello.Name = name
		book.checkAnswer(t, serverOwn, serverSecret, 13, hello)
	}
}

// Each flaw stands alone, and with each two of those asked behind it: the client, then the reply itself, then the signature, then Finish.
func TestTakeReplyTellsTheFirstFlaw(t *testing.T) {
	flaws := []struct {
		make func(*impl.Client, *impl.Reply)
		code int64
	}{
		{func(c *impl.Client, r *impl.Reply) { c.Secret = 0 }, impl.ErrRange},
		{func(c *impl.Client, r *impl.Reply) { c.Secret = impl.GroupOrder }, impl.ErrRange},
		{func(c *impl.Client, r *impl.Reply) { c.Secret = math.MinInt64 }, impl.ErrRange},
		{func(c *impl.Client, r *impl.Reply) { c.Hello.Random = -1 }, impl.ErrRange},
		{func(c *impl.Client, r *impl.Reply) { c.Hello.Random = math.MaxInt64 }, impl.ErrRange},
		{func(c *impl.Client, r *impl.Reply) { c.Hello.Share = 7 }, impl.ErrRange},
		{func(c *impl.Client, r *impl.Reply) { c.Hello.Name = "abcdefghijklmnopqrst." }, impl.ErrMany},
		{func(c *impl.Client, r *impl.Reply) { c.Hello.Name = "a..b" }, impl.ErrText},
		{func(c *impl.Client, r *impl.Reply) { c.Hello.Name = "A.b" }, impl.ErrForm},
		{func(c *impl.Client, r *impl.Reply) { c.Hello.Share = 256 }, impl.ErrForm},
		{func(c *impl.Client, r *impl.Reply) { c.Secret = 6 }, impl.ErrForm},
		{func(c *impl.Client, r *impl.Reply) { r.Random = largestSum + 1 }, impl.ErrRange},
		{func(c *impl.Client, r *impl.Reply) { r.Share = 1 }, impl.ErrRange},
		{func(c *impl.Client, r *impl.Reply) { r.Public = 7 }, impl.ErrRange},
		{func(c *impl.Client, r *impl.Reply) { r.Sign.Point = 0 }, impl.ErrRange},
		{func(c *impl.Client, r *impl.Reply) { r.Sign.Proof = impl.GroupOrder }, impl.ErrRange},
		{func(c *impl.Client, r *impl.Reply) { r.Finish = -1 }, impl.ErrRange},
		{func(c *impl.Client, r *impl.Reply) { r.Sign.Proof = 864 }, impl.ErrSign},
		{func(c *impl.Client, r *impl.Reply) { r.Finish = 63734 }, impl.ErrState},
	}
	if got := impl.TakeReply(plainClient(), plainGreeting()); got.Code != impl.OK {
		t.Fatalf("TakeReply: %v", got)
	}
	for i, first := range flaws {
		for _, second := range flaws[i:] {
			for _, third := range flaws[i:] {
				c, r := plainClient(), plainGreeting()
				third.make(&c, &r)
				second.make(&c, &r)
				first.make(&c, &r)
				if got := impl.TakeReply(c, r); !isNotTaken(got, first.code) {
					t.Fatalf("TakeReply(%v, %v): %v, not %d", c, r, got, first.code)
				}
			}
		}
	}
}

func TestTakeReplyOfFaultyReplies(t *testing.T) {
	clients := []impl.Client{plainClient(), {Secret: 1, Hello: impl.Hello{Share: 4, Name: "a"}}}
	faulty := impl.Client{Secret: clientSecret, Hello: impl.Hello{Share: 256, Name: "a"}}
	for _, r := range faultyReplies() {
		for _, c := range clients {
			if got := impl.TakeReply(c, r); !isNotTaken(got, impl.ErrRange) {
				t.Errorf("TakeReply of %v: %v", r, got)
			}
		}
		if got := impl.TakeReply(faulty, r); !isNotTaken(got, impl.ErrForm) {
			t.Errorf("TakeReply of %v by %v: %v", r, faulty, got)
		}
	}
}

func TestTakeReplyOfNoNumbers(t *testing.T) {
	for _, field := range replyFields() {
		for _, number := range field.no {
			r := plainGreeting()
			*field.of(&r) = number
			if got := impl.TakeReply(plainClient(), r); !isNotTaken(got, impl.ErrRange) {
				t.Errorf("%s %d: %v", field.name, number, got)
			}
		}
	}
}

func TestTakeReplyOfFaultyClients(t *testing.T) {
	book := newGreetBook()
	for _, secret := range slices.Concat(noSecrets, someSecrets) {
		c := plainClient()
		c.Secret = secret
		want := int64(impl.ErrForm)
		if !isSecretNumber(secret) {
			want = impl.ErrRange
		}
		if got := book.checkTake(t, c, plainGreeting()); !isNotTaken(got, want) {
			t.Errorf("TakeReply by the secret %d: %v", secret, got)
		}
	}
	for _, h := range faultyHellos() {
		if got := book.checkTake(t, impl.Client{Secret: clientSecret, Hello: h}, plainGreeting()); got.Code == impl.OK {
			t.Errorf("TakeReply by a client with %v: %v", h, got)
		}
	}
}

// Each number of a reply goes through what it may be: a turned one has no signature that fits, or another Finish.
func TestTakeReplyOfTurnedReplies(t *testing.T) {
	book := newGreetBook()
	for _, field := range replyFields() {
		step := int64(1)
		if field.name == "Random" || field.name == "Finish" {
			step = 13
		}
		codes := map[int64]int{}
		own := plainGreeting()
		kept := *field.of(&own)
		for number := kept % step; number <= largestSum && (step > 1 || number <= impl.GroupPrime); number += step {
			r := plainGreeting()
			*field.of(&r) = number
			got := book.checkTake(t, plainClient(), r)
			if number == kept {
				continue
			}
			codes[got.Code]++
			if got.Code == impl.OK && field.name != "Point" && field.name != "Random" {
				t.Errorf("%s %d: %v", field.name, number, got)
			}
		}
		// By chance one turned number may fit as well, but hardly ever both of what was signed and Finish.
		turned, want := int64(impl.ErrSign), 1000
		if field.name == "Finish" {
			turned = impl.ErrState
		}
		if codes[turned] < want || codes[impl.OK] > 1 {
			t.Errorf("%s: codes were told so often: %v", field.name, codes)
		}
	}
}

func TestTakeReplyOfEachFinish(t *testing.T) {
	taken := 0
	for finish := range int64(largestSum + 1) {
		r := plainGreeting()
		r.Finish = finish
		got := impl.TakeReply(plainClient(), r)
		if finish == plainGreeting().Finish && got.Code == impl.OK {
			taken++
			continue
		}
		if !isNotTaken(got, impl.ErrState) {
			t.Fatalf("Finish %d: %v", finish, got)
		}
	}
	if taken != 1 {
		t.Errorf("%d were taken", taken)
	}
}

// sumOfTwo is what a sum keeps of a number in two bytes: numbers that have it alike are one to each TagSum.
func sumOfTwo(number int64) int64 {
	return number/256*251 + number%256
}

// Who signed it, but has another secret than that of its Share, has no Finish that fits; no more has who reads a hello's Share alone.
func TestAFinishByAnotherSecret(t *testing.T) {
	book := newGreetBook()
	right := impl.SharedOf(clientSecret, plainGreeting().Share).Value
	heard := impl.HeardOf(plainClient().Hello, plainGreeting()).Value
	same := 0
	for secret := int64(1); secret < impl.GroupOrder; secret++ {
		r := plainGreeting()
		shared := impl.SharedOf(secret, plainClient().Hello.Share).Value
		r.Finish = impl.FinishOf(shared, heard).Value
		got := book.checkTake(t, plainClient(), r)
		// Since 507 and 512, for one, are alike to a sum, another shared number may have the same Finish.
		if sumOfTwo(shared) == sumOfTwo(right) {
			same++
			if got.Code != impl.OK {
				t.Errorf("a Finish by %d: %v", secret, got)
			}
			continue
		}
		if !isNotTaken(got, impl.ErrState) {
			t.Errorf("a Finish by %d: %v", secret, got)
		}
	}
	if same > 3 {
		t.Errorf("%d secrets have that Finish", same)
	}
}

func TestAFinishOverSomethingElse(t *testing.T) {
	book := newGreetBook()
	c := plainClient()
	right := impl.SharedOf(clientSecret, plainGreeting().Share).Value
	heard := impl.HeardOf(c.Hello, plainGreeting()).Value
	for i, finish := range []int64{
		impl.FinishOf(right, (heard+1)%(largestSum+1)).Value,
		impl.FinishOf(plainGreeting().Public, heard).Value,
		impl.FinishOf(plainGreeting().Share, heard).Value,
		impl.FinishOf(c.Hello.Share, heard).Value,
		impl.KeysOf(right, heard, 4).Keys.Up,
		impl.KeysOf(right, heard, 4).Keys.Down,
		impl.TagSum("master", []int64{right, heard}).Value,
		impl.TagSum("finish", []int64{right, heard}).Value,
		impl.DeriveKey(right, "finish").Value,
		impl.DeriveKey(heard, "finish").Value,
		heard,
		right,
	} {
		r := plainGreeting()
		r.Finish = finish
		if got := book.checkTake(t, c, r); !isNotTaken(got, impl.ErrState) {
			t.Errorf("number %d: %v", i, got)
		}
	}
}

// What was signed is just the sum verify over what was heard; the server's signature of anything else is none.
func TestASignatureOverSomethingElse(t *testing.T) {
	book := newGreetBook()
	heard := impl.HeardOf(plainClient().Hello, plainGreeting()).Value
	verify := impl.TagSum("verify", []int64{heard}).Value
	if signed := impl.SignSum(serverOwn, verify).Sign; signed != plainGreeting().Sign {
		t.Fatalf("the signature of the reply: %v", signed)
	}
	for i, sum := range []int64{
		heard,
		(verify + 1) % (largestSum + 1),
		impl.TagSum("verify", nil).Value,
		impl.TagSum("verify", []int64{verify}).Value,
		impl.TagSum("finish", []int64{heard}).Value,
		impl.TagSum("heard", []int64{heard}).Value,
		impl.TagSum("verify", []int64{heard, plainGreeting().Finish}).Value,
		plainGreeting().Finish,
	} {
		r := plainGreeting()
		r.Sign = impl.SignSum(serverOwn, sum).Sign
		if got := book.checkTake(t, plainClient(), r); !isNotTaken(got, impl.ErrSign) {
			t.Errorf("number %d: %v", i, got)
		}
	}
}

// Nobody but who has the identity signs a reply of it, except where challenges meet by chance.
func TestASignatureByAnotherSecret(t *testing.T) {
	book := newGreetBook()
	verify := impl.DeriveKey(impl.HeardOf(plainClient().Hello, plainGreeting()).Value, "verify").Value
	codes := map[int64]int{}
	for secret := int64(1); secret < impl.GroupOrder; secret++ {
		r := plainGreeting()
		r.Sign = impl.SignSum(secret, verify).Sign
		got := book.checkTake(t, plainClient(), r)
		codes[got.Code]++
		if secret == serverOwn && got.Code != impl.OK {
			t.Errorf("signed by who has the identity: %v", got)
		}
	}
	if codes[impl.OK] > 5 || codes[impl.OK]+codes[impl.ErrSign] != impl.GroupOrder-1 {
		t.Errorf("codes were told so often: %v", codes)
	}
}

// Whoever stands between both has a reply of its own to give, but none in the other's name.
func TestAReplyOfAnotherIdentity(t *testing.T) {
	book := newGreetBook()
	c := plainClient()
	own := impl.AnswerHello(otherOwn, otherSecret, 13, c.Hello)
	got := book.checkTake(t, c, own.Reply)
	if got != own || got.Keys.Key != impl.KeyOf(otherOwn).Key.Public || got.Keys.Key == plainGreeting().Public {
		t.Errorf("a reply of another identity: %v, not %v", got, own)
	}
	named := own.Reply
	named.Public = plainGreeting().Public
	if got := book.checkTake(t, c, named); !isNotTaken(got, impl.ErrSign) {
		t.Errorf("in the server's name: %v", got)
	}
	turned := plainGreeting()
	turned.Public = own.Reply.Public
	if got := book.checkTake(t, c, turned); !isNotTaken(got, impl.ErrSign) {
		t.Errorf("the server's reply with another Public: %v", got)
	}
	signed := turned
	signed.Sign = impl.SignSum(otherOwn, impl.TagSum("verify", []int64{impl.HeardOf(c.Hello, turned).Value}).Value).Sign
	if got := book.checkTake(t, c, signed); !isNotTaken(got, impl.ErrState) {
		t.Errorf("the server's Share, signed by another one: %v", got)
	}
	shared := plainGreeting()
	shared.Share = own.Reply.Share
	shared.Finish = impl.FinishOf(impl.SharedOf(otherSecret, c.Hello.Share).Value, impl.HeardOf(c.Hello, shared).Value).Value
	if got := book.checkTake(t, c, shared); !isNotTaken(got, impl.ErrSign) {
		t.Errorf("another Share in the server's reply: %v", got)
	}
}

// Each identity is told by Key: the client knows whose the keys are.
func TestTheClientKnowsWhoseTheKeysAre(t *testing.T) {
	c := plainClient()
	seen := map[int64]bool{}
	for identity := int64(1); identity < impl.GroupOrder; identity++ {
		a := impl.AnswerHello(identity, serverSecret, 13, c.Hello)
		x := impl.TakeReply(c, a.Reply)
		if x.Code != impl.OK || x != a || x.Keys.Key != impl.KeyOf(identity).Key.Public {
			t.Fatalf("the reply of %d: %v and %v", identity, a, x)
		}
		seen[x.Keys.Key] = true
	}
	if len(seen) != impl.GroupOrder-1 {
		t.Errorf("%d identities were told", len(seen))
	}
}

func TestAReplyToAnotherHello(t *testing.T) {
	book := newGreetBook()
	for i, c := range []impl.Client{
		impl.StartClient(clientSecret, 10, "a.b").Client,
		impl.StartClient(clientSecret, 0, "a.b").Client,
		impl.StartClient(clientSecret, largestSum, "a.b").Client,
		impl.StartClient(clientSecret, 9, "a.c").Client,
		impl.StartClient(clientSecret, 9, "a").Client,
		impl.StartClient(clientSecret, 9, "a.b-c").Client,
		impl.StartClient(clientSecret+1, 9, "a.b").Client,
		impl.StartClient(otherSecret, 9, "a.b").Client,
		impl.StartClient(serverSecret, 13, "a.b").Client,
		impl.StartClient(serverOwn, 13, "a.b").Client,
	} {
		if got := book.checkTake(t, c, plainGreeting()); !isNotTaken(got, impl.ErrSign) {
			t.Errorf("number %d: %v", i, got)
		}
	}
	if got := impl.TakeReply(impl.StartClient(clientSecret, 9, "A.B.").Client, plainGreeting()); got.Code != impl.OK {
		t.Errorf("the same name, written in another way: %v", got)
	}
	taken := 0
	for random := int64(0); random <= largestSum; random += 9 {
		if got := book.checkTake(t, impl.StartClient(clientSecret, random, "a.b").Client, plainGreeting()); got.Code == impl.OK {
			taken++
		}
	}
	if taken < 1 || taken > 2 {
		t.Errorf("%d hellos are answered by one reply", taken)
	}
}

// Promise 12: both have the same keys, and the reply is taken as it was.
func TestTwoWhoHeardEachOtherHaveTheSameKeys(t *testing.T) {
	publics := publicSet()
	for seed := range 20000 {
		m := mixer(seed*2654435761 + 11)
		secret := func() int64 { return int64(m.next(impl.GroupOrder-1)) + 1 }
		sum := func() int64 { return int64(m.next(largestSum + 1)) }
		name := slices.Concat(normalNames, otherNames)[m.next(len(normalNames)+len(otherNames))]
		started := impl.StartClient(secret(), sum(), name)
		if started.Code != impl.OK || impl.ClientFault(started.Client) != impl.OK {
			t.Fatalf("%v has a fault", started)
		}
		identity := secret()
		c := started.Client
		a := impl.AnswerHello(identity, secret(), sum(), c.Hello)
		if a.Code != impl.OK || impl.ReplyFault(a.Reply) != impl.OK {
			t.Fatalf("%v has a fault", a)
		}
		x := impl.TakeReply(c, a.Reply)
		if x.Code != impl.OK || x.Keys != a.Keys || x.Reply != a.Reply {
			t.Fatalf("%v was answered with %v and has %v", c, a, x)
		}
		public := impl.KeyOf(identity).Key.Public
		heard := impl.HeardOf(c.Hello, x.Reply)
		if x.Keys.Key != public || x.Reply.Public != public || heard != answered(x.Keys.Heard) || heard != wantHeardOf(publics, c.Hello, x.Reply) {
			t.Fatalf("%v took %v, of %d", c, x, identity)
		}
		if !impl.CheckSign(x.Reply.Public, impl.DeriveKey(heard.Value, "verify").Value, x.Reply.Sign) {
			t.Fatalf("%v took %v, which is not signed", c, x)
		}
	}
}

// Promise 12: what both say goes by bytes, and they have the same keys still.
func TestTwoWhoHeardEachOtherByBytes(t *testing.T) {
	for _, name := range normalNames {
		for _, random := range someSums {
			c := impl.StartClient(clientSecret, random, strings.ToUpper(name)).Client
			said := impl.ReadHello(impl.PackHello(c.Hello).Bytes)
			a := impl.AnswerHello(serverOwn, serverSecret, largestSum-random, said.Hello)
			replied := impl.ReadReply(impl.PackReply(a.Reply).Bytes)
			if x := impl.TakeReply(c, replied.Reply); said.Code != impl.OK || replied.Code != impl.OK || x.Code != impl.OK || x != a {
				t.Fatalf("%v said %v, heard %v, and has %v", c, said, replied, x)
			}
		}
	}
}

// Promise 12: a bit that is turned in the bytes of a reply is told, but where the sums of both are alike.
func TestABitOfAReplyThatWasTurned(t *testing.T) {
	book := newGreetBook()
	packed := impl.PackReply(plainGreeting()).Bytes
	codes := map[int64]int{}
	for place := range packed {
		for mask := 1; mask < 256; mask++ {
			data := slices.Clone(packed)
			data[place] ^= byte(mask)
			read := impl.ReadReply(data)
			if read.Code != impl.OK {
				continue
			}
			codes[book.checkTake(t, plainClient(), read.Reply).Code]++
		}
	}
	if codes[impl.OK] > 2 || codes[impl.ErrSign] < 500 || codes[impl.ErrState] < 300 {
		t.Errorf("codes were told so often: %v", codes)
	}
}

// mixedGreeting is a client and a reply of which some fit, and some do not for the one or the other thing.
func mixedGreeting(m *mixer) (impl.Client, impl.Reply) {
	secret := func() int64 { return int64(m.next(impl.GroupOrder-1)) + 1 }
	sum := func() int64 { return int64(m.next(largestSum + 1)) }
	public := func() int64 { return impl.KeyOf(secret()).Key.Public }
	own, identity := secret(), secret()
	c := impl.StartClient(own, sum(), normalNames[m.next(len(normalNames))]).Client
	r := impl.AnswerHello(identity, secret(), sum(), c.Hello).Reply
	turns := []func(){
		func() {},
		func() { c.Secret = secret() },
		func() { c.Secret = noSecrets[m.next(len(noSecrets))] },
		func() { c.Hello.Random = sum() },
		func() { c.Hello.Random = noSums[m.next(len(noSums))] },
		func() { c.Hello.Share = public() },
		func() { c.Hello.Share = noPoints[m.next(len(noPoints))] },
		func() { c.Hello.Name = normalNames[m.next(len(normalNames))] },
		func() { c.Hello.Name = otherNames[m.next(len(otherNames))] },
		func() { c.Hello.Name = noNames[m.next(len(noNames))] },
		func() { c.Hello.Name = longNames[m.next(len(longNames)-1)] },
		func() { c = impl.StartClient(secret(), sum(), "a.b").Client },
		func() { r.Random = sum() },
		func() { r.Share = public() },
		func() { r.Public = public() },
		func() { r.Sign.Point = public() },
		func() { r.Sign.Proof = int64(m.next(impl.GroupOrder)) },
		func() { r.Finish = sum() },
		func() { r.Share, r.Public = r.Public, r.Share },
		func() { fields := replyFields(); f := fields[m.next(6)]; *f.of(&r) = f.no[m.next(len(f.no))] },
	}
	for range []int{0, 1, 1, 1, 2}[m.next(5)] {
		turns[m.next(len(turns))]()
	}
	switch m.next(4) {
	case 0:
		// What was turned is signed anew by who answered, so that Finish is what is left to tell it.
		heard := impl.HeardOf(c.Hello, r)
		r.Sign = impl.SignSum(identity, impl.DeriveKey(heard.Value, "verify").Value).Sign
	case 1:
		// Whoever turned it has Finish anew, so that the signature is what is left to tell it.
		shared := impl.SharedOf(c.Secret, r.Share)
		if finish := impl.FinishOf(shared.Value, impl.HeardOf(c.Hello, r).Value); finish.Code == impl.OK {
			r.Finish = finish.Value
		}
	}
	return c, r
}

// All answers are those of the document's rules; promise 12: what is taken was signed by the key that it shows, over all that was heard.
func TestGreetingsOfAllKinds(t *testing.T) {
	book := newGreetBook()
	codes := map[int64]int{}
	for seed := range 20000 {
		m := mixer(seed*2654435761 + 5)
		c, r := mixedGreeting(&m)
		book.checkClient(t, c)
		got := book.checkTake(t, c, r)
		codes[got.Code]++
		if got.Code != impl.OK {
			if !isNotTaken(got, got.Code) {
				t.Fatalf("%v has a code", got)
			}
			continue
		}
		heard := impl.HeardOf(c.Hello, r)
		if got.Reply != r || got.Keys.Key != r.Public || heard != answered(got.Keys.Heard) || !impl.CheckSign(got.Keys.Key, impl.DeriveKey(heard.Value, "verify").Value, r.Sign) {
			t.Fatalf("%v took %v", c, got)
		}
	}
	for _, code := range []int64{impl.OK, impl.ErrForm, impl.ErrMany, impl.ErrRange, impl.ErrText, impl.ErrState, impl.ErrSign} {
		if codes[code] < 100 {
			t.Errorf("%d were told for %d", codes[code], code)
		}
	}
}

// Promise 1: an answer stays as it is when what was asked is turned behind it, and the other way round.
func TestHandshakesChangeNoArguments(t *testing.T) {
	for seed := range 2000 {
		m := mixer(seed*2654435761 + 3)
		c, r := mixedGreeting(&m)
		keptClient, keptReply := c, r
		taken, said := impl.TakeReply(c, r), impl.AnswerHello(serverOwn, serverSecret, 13, c.Hello)
		keptTaken, keptSaid := taken, said
		impl.ClientFault(c)
		if c != keptClient || r != keptReply {
			t.Fatalf("%v and %v were changed to %v and %v", keptClient, keptReply, c, r)
		}
		c, r = impl.Client{}, impl.Reply{}
		if taken != keptTaken || said != keptSaid {
			t.Fatalf("behind turned arguments: %v and %v, not %v and %v", taken, said, keptTaken, keptSaid)
		}
		taken.Reply, said.Keys = impl.Reply{}, impl.Keys{}
		if again := impl.TakeReply(keptClient, keptReply); again != keptTaken {
			t.Fatalf("behind a turned answer: %v, not %v", again, keptTaken)
		}
		if again := impl.AnswerHello(serverOwn, serverSecret, 13, keptClient.Hello); again != keptSaid {
			t.Fatalf("behind a turned answer: %v, not %v", again, keptSaid)
		}
	}
}

// Promise 1: the bytes that a name was made from are spoilt, and the client keeps its name.
func TestClientsOutliveTheirNames(t *testing.T) {
	for _, name := range slices.Concat(normalNames, otherNames) {
		data := []byte(name)
		started := impl.StartClient(5, 9, string(data))
		spoil(data)
		if started.Client.Hello.Name != wantNormal(name) {
			t.Errorf("%q: %v", name, started)
		}
	}
}

type greetAnswers struct {
	fault  int64
	start  impl.ClientResult
	said   impl.TakenResult
	taken  impl.TakenResult
	keys   impl.TakenResult
	finish impl.IntResult
}

func askGreeting(c impl.Client, r impl.Reply) greetAnswers {
	return greetAnswers{
		impl.ClientFault(c),
		impl.StartClient(c.Secret, c.Hello.Random, c.Hello.Name),
		impl.AnswerHello(r.Sign.Proof, c.Secret, r.Random, c.Hello),
		impl.TakeReply(c, r),
		impl.KeysOf(r.Share, c.Hello.Random, r.Public),
		impl.FinishOf(c.Hello.Share, r.Finish),
	}
}

// Promise 1: the same arguments have the same answers, whatever was asked in between.
func TestHandshakesHangOnTheirArgumentsAlone(t *testing.T) {
	var first []greetAnswers
	ask := func(seed int) greetAnswers {
		m := mixer(seed*2654435761 + 9)
		return askGreeting(mixedGreeting(&m))
	}
	const asks = 4000
	taken := 0
	for seed := range asks {
		got := ask(seed)
		first = append(first, got)
		if got.taken.Code == impl.OK {
			taken++
		}
	}
	for seed := asks - 1; seed >= 0; seed-- {
		if got := ask(seed); got != first[seed] {
			t.Errorf("number %d: %v, then %v", seed, first[seed], got)
		}
	}
	if taken < 500 {
		t.Errorf("%d were taken", taken)
	}
}

// Promise 1: every function answers at the ends of an int64, in each of its numbers.
func TestHandshakesOfExtremes(t *testing.T) {
	book := newGreetBook()
	ends := []int64{math.MinInt64, math.MinInt64 + 1, -1, 0, 1, 2, 4, 1438, 1439, largestPublic, largestSum, largestSum + 1, math.MaxInt64 - 1, math.MaxInt64}
	for _, x := range ends {
		for _, y := range ends {
			for _, z := range ends {
				book.checkKeys(t, x, y, z)
				book.checkFinish(t, x, y)
				book.checkStart(t, x, y, "a.b")
				h := impl.Hello{Random: y, Share: z, Name: "a"}
				book.checkAnswer(t, x, z, y, h)
				book.checkAnswer(t, x, y, z, plainClient().Hello)
				c := impl.Client{Secret: x, Hello: h}
				book.checkClient(t, c)
				book.checkTake(t, c, plainGreeting())
				book.checkTake(t, plainClient(), impl.Reply{Random: x, Share: y, Public: z, Sign: impl.Signed{Point: y, Proof: z}, Finish: x})
			}
		}
	}
	book.checkTake(t, impl.Client{}, impl.Reply{})
	book.checkTake(t, plainClient(), impl.Reply{})
	book.checkTake(t, impl.Client{}, plainGreeting())
}
