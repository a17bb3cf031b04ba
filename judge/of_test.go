package judge_test

import (
	"bytes"
	"encoding/hex"
	"slices"
	"testing"

	"braid/api"
	"braid/judge"
)

// P8.1: the verdicts have the numbers that the chapter tells.
func TestVerdictNumbers(t *testing.T) {
	if api.Malformed != malformed || api.TooLarge != tooLarge || api.BadSig != badSig {
		t.Error(api.Malformed, api.TooLarge, api.BadSig)
	}
}

// P8.1: the chapter's examples.
func TestExamples(t *testing.T) {
	checkVerdict(t, nil, malformed)
	checkVerdict(t, []byte{}, malformed)
	checkVerdict(t, make([]byte, 401), tooLarge)
	checkVerdict(t, []byte{111, 4, 0, 7, 1, 0, 0}, badSig)
	o := wantSigned(5, api.Op{Stamp: 7, Act: none()})
	checkFine(t, wantBytes(o), o)
}

// P8.1: signed operations with bytes and ids that were worked out apart from the program.
func TestKnown(t *testing.T) {
	first := []byte{111, 249, 4, 0, 0, 7, 1, 251, 13, 157, 215, 216, 251, 5, 17, 182, 16}
	firstID := known(t, first, api.Op{Author: 1024, Stamp: 7, Act: none(), Sig: api.Sig{E: 0x0d9dd7d8, S: 0x0511b610}},
		"827f5e9a79e57a00feb1b836bc22776361a9534c3b353010f97d0e2cdb0f0b70")
	known(t, []byte{111, 249, 4, 0, 0, 7, 2, 1, 97, 251, 7, 122, 239, 153, 251, 18, 141, 90, 244},
		api.Op{Author: 1024, Stamp: 7, Act: add("a"), Sig: api.Sig{E: 0x077aef99, S: 0x128d5af4}},
		"899024286940bae63d3e61dec47ee8f0c74a03db20d24c11473c6f9c69def338")
	known(t, slices.Concat([]byte{111, 16, 1}, firstID[:], []byte{249, 1, 44, 3, 2, 33, 126, 251, 23, 46, 164, 174, 251, 19, 112, 235, 32}),
		api.Op{Author: 16, Preds: []api.ID{firstID}, Stamp: 300, Act: remove("!~"), Sig: api.Sig{E: 0x172ea4ae, S: 0x1370eb20}},
		"573c8e098f42c16676c7f776709c660ac8546441dee44a323d4beffb27ff78a0")
	known(t, []byte{111, 251, 18, 211, 96, 140, 0, 252, 232, 212, 165, 16, 0, 4, 1, 120, 1, 3, 251, 7, 5, 134, 74, 251, 20, 144, 215, 165},
		api.Op{Author: 0x12d3608c, Stamp: maxStamp, Act: set("x", num(-2)), Sig: api.Sig{E: 0x0705864a, S: 0x1490d7a5}},
		"8c05e865a48a95bbb26c9ee5449b1f3ba0d18410ef90856690f08cc82556fd5b")
}

// known fails unless bytes are fine and have an operation, and an id to the base 16, which it returns.
func known(t *testing.T, b []byte, o api.Op, digits string) api.ID {
	t.Helper()
	checkFine(t, b, o)
	_, id, _ := judge.Of(b)
	if hex.EncodeToString(id[:]) != digits {
		t.Errorf("%v have the id %x, want %s", b, id, digits)
	}
	return id
}

// P8.1: signed operations with each kind of act, behind 0, 1 and up to MaxPreds predecessors, by each secret.
func TestFine(t *testing.T) {
	for _, plain := range plainOps() {
		for _, secret := range secrets() {
			o := wantSigned(secret, plain)
			checkFine(t, wantBytes(o), o)
		}
	}
}

// P8.1: a signature is right whichever number took the place of the nonce, also 0 and 1, and one of the public key 1, which no secret has.
func TestFineOtherNonces(t *testing.T) {
	for _, plain := range plainOps() {
		for _, secret := range []uint32{0, 1, 5, order - 1} {
			for _, k := range []uint64{0, 1, 2, 77777, order - 1} {
				o := plain
				o.Author = wantPower(4, uint64(secret))
				o.Sig = sigWith(k, secret, wantMessage(o))
				checkFine(t, wantBytes(o), o)
			}
		}
	}
}

// P8.1: more than MaxOpBytes bytes are TooLarge whatever they are, and as many, or fewer, never.
func TestTooLarge(t *testing.T) {
	for _, first := range [][]byte{nil, {111}, {255}, {111, 4, 0, 7, 1, 0, 0}, wantBytes(someOps()[0]), wantBytes(someOps()[5])} {
		for _, filler := range []byte{0, 1, 97, 111, 255} {
			for _, n := range []int{maxBytes + 1, maxBytes + 2, 512, 2000, 10000, 200001, 3000000} {
				b := append(bytes.Clone(first), bytes.Repeat([]byte{filler}, n-len(first))...)
				checkVerdict(t, b, tooLarge)
				checkVerdict(t, b[:maxBytes], malformed)
				checkVerdict(t, b[:maxBytes-1], malformed)
			}
		}
	}
	for n := range maxBytes + 1 {
		checkVerdict(t, make([]byte, n), malformed)
		checkVerdict(t, bytes.Repeat([]byte{111}, n), malformed)
	}
}

// P8.1: bytes that would be fine if more, or fewer, of them were looked at.
func TestTooLargeFirst(t *testing.T) {
	// A text that fills the bytes: were there no limits, they would be those of a signed operation.
	for _, size := range []int{31, 100, 350, 380, 400, 500, 1500} {
		o := wantSigned(5, api.Op{Act: set("x", text(string(bytes.Repeat([]byte("t"), size))))})
		want := uint8(malformed)
		if len(wantBytes(o)) > maxBytes {
			want = tooLarge
		}
		checkVerdict(t, wantBytes(o), want)
	}
	for _, n := range []int{5, 11, 12, 13, 60} {
		o := wantSigned(5, api.Op{Preds: ids(n), Act: none()})
		want := uint8(malformed)
		if len(wantBytes(o)) > maxBytes {
			want = tooLarge
		}
		checkVerdict(t, wantBytes(o), want)
	}
}

// P8.1: what is no operation is Malformed, also where its signature is right.
func TestMalformedSigned(t *testing.T) {
	down, twice := ids(2), ids(2)
	slices.Reverse(down)
	twice[1] = twice[0]
	for i, plain := range []api.Op{
		{},
		{Preds: ids(5), Act: none()},
		{Preds: down, Act: none()},
		{Preds: twice, Act: none()},
		{Stamp: maxStamp + 1, Act: none()},
		{Stamp: 1<<64 - 1, Act: none()},
		{Act: api.Act{Kind: 5, Key: "a"}},
		{Act: api.Act{Kind: 255, Key: "a"}},
		{Act: add("")},
		{Act: add("a b")},
		{Act: remove("\x7f")},
		{Act: remove("aaaaaaaaaaaaaaaaaaaaa")},
		{Act: set("", num(1))},
		{Act: set("x", api.Value{})},
		{Act: set("x", api.Value{Kind: 4})},
		{Act: set("x", flt(0x7ff8000000000001))},
		{Act: set("x", text("a\nb"))},
		{Act: set("x", text("aaaaaaaaaaaaaaaaaaaaaaaaaaaaaaa"))},
	} {
		o := wantSigned(5, plain)
		if !isRight(o) || isValid(o) {
			t.Fatalf("%d: %v is valid, or not signed", i, o)
		}
		checkVerdict(t, wantBytes(o), malformed)
	}
}

// P8.1: the same for messages that are no operation's as their numbers are longer than they need to be, or as something else begins them.
func TestMalformedMessages(t *testing.T) {
	for _, m := range [][]byte{
		{111, 248, 4, 0, 7, 1}, {111, 249, 0, 4, 0, 7, 1}, {111, 4, 248, 0, 7, 1}, {111, 4, 0, 248, 7, 1}, {111, 4, 0, 7, 2, 248, 1, 97},
		{111, 4, 0, 7, 4, 1, 97, 1, 248, 3}, {110, 4, 0, 7, 1}, {0, 4, 0, 7, 1}, {4, 0, 7, 1}, {111, 111, 4, 0, 7, 1},
		{111, 4, 0, 7, 1, 0}, {111, 4, 0, 7, 1, 1, 97}, {111, 4, 0, 7, 2, 1, 97, 1, 3},
	} {
		checkVerdict(t, behind(m, wantSig(1, m)), malformed)
	}
	for _, s := range []api.Sig{{E: order}, {S: order}, {E: 1<<32 - 1}, {S: 1<<32 - 1}} {
		checkVerdict(t, behind([]byte{111, 4, 0, 7, 1}, s), malformed)
	}
	// The numbers of the signature are as short as may be, too.
	for _, tail := range [][]byte{{248, 0, 0}, {0, 248, 0}, {249, 0, 1, 0}, {252, 0, 0, 0, 0, 5, 0}, {255, 0, 0, 0, 0, 0, 0, 0, 0, 0}} {
		checkVerdict(t, append([]byte{111, 4, 0, 7, 1}, tail...), malformed)
	}
	// Numbers of more than 32 bits, of which the last 32 would do.
	o := wantSigned(1, api.Op{Stamp: 7, Act: none()})
	for _, high := range []uint64{1 << 32, 1 << 33, 1 << 63} {
		e, s := wantNumber(uint64(o.Sig.E)), wantNumber(uint64(o.Sig.S))
		checkVerdict(t, slices.Concat(wantMessage(o), wantNumber(high+uint64(o.Sig.E)), s), malformed)
		checkVerdict(t, slices.Concat(wantMessage(o), e, wantNumber(high+uint64(o.Sig.S))), malformed)
		checkVerdict(t, slices.Concat([]byte{111}, wantNumber(high+4), []byte{0, 7, 1}, e, s), malformed)
	}
}
