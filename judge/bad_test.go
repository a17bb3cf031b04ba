package judge_test

import (
	"bytes"
	"math/rand"
	"slices"
	"testing"

	"braid/api"
)

// P8.1: operations that nobody signed.
func TestNotSigned(t *testing.T) {
	for _, o := range plainOps() {
		o.Author = 4
		for _, s := range []api.Sig{{}, {E: 5, S: 6}, {E: 1}, {S: 1}, {E: order - 1, S: order - 1}, {E: 247, S: 248}} {
			o.Sig = s
			checkVerdict(t, wantBytes(o), badSig)
		}
	}
}

// P8.1: E and S that are one more or less, modulo Q, that are each other's, or another operation's or secret's.
func TestOtherSig(t *testing.T) {
	for _, plain := range plainOps() {
		o := wantSigned(5, plain)
		other := plain
		other.Stamp = (plain.Stamp + 1) % maxStamp
		e, s := o.Sig.E, o.Sig.S
		for _, sig := range []api.Sig{
			{E: (e + 1) % order, S: s}, {E: (e + order - 1) % order, S: s},
			{E: e, S: (s + 1) % order}, {E: e, S: (s + order - 1) % order},
			{E: (e + 1) % order, S: (s + 1) % order}, {E: s, S: e}, {E: e}, {S: s}, {E: order - e, S: order - s},
			wantSigned(5, other).Sig, wantSigned(6, plain).Sig,
		} {
			o.Sig = sig
			checkVerdict(t, wantBytes(o), badSig)
		}
	}
}

// P8.1: E and S with the order of the group added stand for the same, but are no exponents.
func TestSigBeyond(t *testing.T) {
	for _, o := range someOps() {
		e, s := o, o
		e.Sig.E += order
		s.Sig.S += order
		checkVerdict(t, wantBytes(e), malformed)
		checkVerdict(t, wantBytes(s), malformed)
	}
}

// P8.1: the signature of one author is not that of another one; one who is not in the group makes bytes Malformed.
func TestOtherAuthor(t *testing.T) {
	for _, plain := range plainOps() {
		o := wantSigned(5, plain)
		for _, author := range []uint32{1, 2, 3, 4, 16, 4096, 250000002, modulus - 5} {
			o.Author = author
			checkVerdict(t, wantBytes(o), badSig)
		}
		for _, author := range []uint32{0, 5, 10, modulus - 1, modulus, modulus + 4, modulus + 1024, 1<<32 - 1} {
			o.Author = author
			checkVerdict(t, wantBytes(o), malformed)
		}
	}
}

// P8.1: signatures are of all that is in an operation.
func TestOtherMessage(t *testing.T) {
	base := wantSigned(5, api.Op{Preds: ids(2), Stamp: 7, Act: set("x", num(3))})
	for i, change := range []func(o *api.Op){
		func(o *api.Op) { o.Preds = nil },
		func(o *api.Op) { o.Preds = ids(1) },
		func(o *api.Op) { o.Preds = ids(3) },
		func(o *api.Op) { o.Preds = ids(4)[2:] },
		func(o *api.Op) { o.Preds = ids(2); o.Preds[1][31] ^= 1 },
		func(o *api.Op) { o.Stamp = 6 },
		func(o *api.Op) { o.Stamp = 248 },
		func(o *api.Op) { o.Act = none() },
		func(o *api.Op) { o.Act = add("x") },
		func(o *api.Op) { o.Act = remove("x") },
		func(o *api.Op) { o.Act.Key = "y" },
		func(o *api.Op) { o.Act.Key = "xx" },
		func(o *api.Op) { o.Act.Value = num(-3) },
		func(o *api.Op) { o.Act.Value = flt(3) },
		func(o *api.Op) { o.Act.Value = text("3") },
	} {
		o := base
		change(&o)
		if !isValid(o) {
			t.Fatalf("%d: %v is not valid", i, o)
		}
		checkVerdict(t, wantBytes(o), badSig)
	}
}

// P8.1: signed operations that are cut anywhere, at either end; the rest stands up to the capacity, and is not looked at.
func TestCut(t *testing.T) {
	for _, o := range someOps() {
		b := wantBytes(o)
		for i := range b {
			checkVerdict(t, b[:i], malformed)
			checkVerdict(t, bytes.Clone(b[:i]), malformed)
			checkVerdict(t, b[i+1:], malformed)
		}
		memory := append(bytes.Clone(b), b...)
		checkFine(t, memory[:len(b)], o)
		checkFine(t, memory[len(b):], o)
	}
}

// P8.1: signed operations with bytes behind or before them.
func TestBehind(t *testing.T) {
	for _, o := range someOps() {
		b := wantBytes(o)
		for c := range 256 {
			checkVerdict(t, append(bytes.Clone(b), byte(c)), malformed)
			checkVerdict(t, append([]byte{byte(c)}, b...), malformed)
		}
		for _, more := range [][]byte{{0, 0}, {5, 6}, b[:10], make([]byte, 100)} {
			checkVerdict(t, slices.Concat(b, more), malformed)
			checkVerdict(t, slices.Concat(more, b), malformed)
		}
	}
	short := wantBytes(someOps()[0])
	checkVerdict(t, slices.Concat(short, short), malformed)
}

// P8.1: signed operations with any one byte changed to any other one: none of them is fine, and each kind of verdict is there.
func TestChanged(t *testing.T) {
	counts := [10]int{}
	for _, o := range someOps() {
		b := wantBytes(o)
		for i := range b {
			was := b[i]
			for c := range 256 {
				if b[i] = byte(c); b[i] != was {
					counts[checkLike(t, b)]++
				}
			}
			b[i] = was
		}
		for i := range b {
			b[i] ^= 1
			verdict := checkLike(t, b)
			checkVerdict(t, b, verdict)
			b[i] ^= 1
		}
	}
	if counts[fine] != 0 || counts[malformed] < 1000 || counts[badSig] < 1000 || counts[tooLarge] != 0 {
		t.Errorf("the verdicts are %v", counts)
	}
}

// P8.1: signed operations with one byte more, or less, anywhere.
func TestInserted(t *testing.T) {
	for _, o := range someOps() {
		b := wantBytes(o)
		for i := range len(b) + 1 {
			for _, c := range []byte{0, 1, 97, 111, 248, 255} {
				if more := slices.Insert(bytes.Clone(b), i, c); checkLike(t, more) == fine {
					t.Errorf("%s are fine", some(more))
				}
			}
			if i < len(b) {
				if less := slices.Delete(bytes.Clone(b), i, i+1); checkLike(t, less) == fine {
					t.Errorf("%s are fine", some(less))
				}
			}
		}
	}
}

// P8.1: any bytes at all: what signed operations become by some changes, and what was drawn.
func TestAnyBytes(t *testing.T) {
	draw := rand.New(rand.NewSource(8))
	whole := someOps()
	counts := [10]int{}
	for range 60000 {
		counts[checkLike(t, drawn(draw, whole))]++
	}
	if counts[fine] < 1000 || counts[malformed] < 1000 || counts[tooLarge] < 1000 || counts[badSig] < 1000 {
		t.Errorf("the verdicts are %v", counts)
	}
}

// drawn returns bytes like those of an operation, or drawn ones.
func drawn(draw *rand.Rand, whole []api.Op) []byte {
	if draw.Intn(8) == 0 {
		b := make([]byte, draw.Intn(2*maxBytes))
		draw.Read(b)
		return b
	}
	b := wantBytes(whole[draw.Intn(len(whole))])
	for range draw.Intn(4) {
		i := draw.Intn(len(b))
		switch draw.Intn(5) {
		case 0:
			b[i] = byte(draw.Intn(256))
		case 1:
			b[i] ^= 1 << draw.Intn(8)
		case 2:
			b = slices.Insert(b, i, byte(draw.Intn(256)))
		case 3:
			b = append(b[:i:i], b...)
		default:
			b = append(b, make([]byte, draw.Intn(maxBytes))...)
		}
	}
	return b
}
