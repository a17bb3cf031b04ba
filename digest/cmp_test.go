package digest_test

import (
	"testing"

	"braid/api"
	"braid/digest"
)

// ordered returns ids in increasing order, each one once.
func ordered() []api.ID {
	l := []api.ID{{}}
	for i := 31; i >= 0; i-- {
		for _, x := range []byte{1, 127, 128, 255} {
			var id api.ID
			id[i] = x
			l = append(l, id)
			// What stands behind the first difference does not matter.
			for j := i + 1; j < len(id); j++ {
				id[j] = 255
			}
			if id != l[len(l)-1] {
				l = append(l, id)
			}
		}
	}
	return l
}

// P1.3 and P1.4: bytewise from the first byte on, without signs, and a total order.
func TestCmp(t *testing.T) {
	l := ordered()
	for i, a := range l {
		for j, b := range l {
			want := 0
			if i < j {
				want = -1
			}
			if i > j {
				want = 1
			}
			if got := digest.Cmp(a, b); got != want {
				t.Errorf("Cmp(%x, %x) = %d, want %d", a, b, got, want)
			}
		}
	}
}

// P1.3: each byte counts, and the first difference decides.
func TestCmpEachByte(t *testing.T) {
	base := api.ID(pattern(32))
	for i := range base {
		base[i] = 1 + base[i]%254
	}
	for i := range base {
		less, more := base, base
		less[i]--
		more[i]++
		for j := i + 1; j < len(base); j++ {
			less[j], more[j] = 255, 0
		}
		if digest.Cmp(less, base) != -1 || digest.Cmp(base, less) != 1 || digest.Cmp(more, base) != 1 || digest.Cmp(base, more) != -1 {
			t.Errorf("the byte %d does not decide", i)
		}
		if digest.Cmp(base, base) != 0 {
			t.Error("an id is not equal to itself")
		}
	}
}
