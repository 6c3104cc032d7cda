package sne_test

import (
	"math/big"
	"testing"

	"pursuivant/api"
	"pursuivant/sne"
)

const (
	round = int64(1) << 32
	top   = int64(1) << 62
)

// nearest looks for it among all that may be near.
func nearest(seq uint32, to int64) (int64, bool) {
	var best *big.Int
	var away *big.Int
	for k := to/round - 2; k <= to/round+2; k++ {
		n := new(big.Int).Add(new(big.Int).Mul(big.NewInt(k), big.NewInt(round)), big.NewInt(int64(seq)))
		if n.Sign() < 0 {
			continue
		}
		d := new(big.Int).Abs(new(big.Int).Sub(n, big.NewInt(to)))
		if best == nil || d.Cmp(away) <= 0 {
			best, away = n, d
		}
	}
	if best.Cmp(big.NewInt(top)) > 0 {
		return 0, false
	}
	return best.Int64(), true
}

func numbers() []int64 {
	var l []int64
	for _, n := range []int64{0, 1 << 31, round, 3 * round / 2, 2 * round, 5*round + 77, top - round, top - round/2, top} {
		for d := int64(-2); d <= 2; d++ {
			if m := n + d; m >= 0 && m <= top {
				l = append(l, m)
			}
		}
	}
	return l
}

// P11.1, P11.3: the nearest one, its bounds, its distance.
func TestNear(t *testing.T) {
	for _, r := range []struct {
		seq      uint32
		to, near int64
	}{{5, 4294967290, 4294967301}, {4294967290, 5, 4294967290}, {0, 2147483648, 4294967296}, {0, 2147483647, 0}, {0, top, top}} {
		if n, e := sne.Near(r.seq, r.to); n != r.near || e != api.OK {
			t.Error(r, n, e)
		}
	}
	tops := 0
	for _, to := range numbers() {
		for _, seq := range []uint32{0, 1, 2, 5, 76, 77, 78, 1<<31 - 1, 1 << 31, 1<<31 + 1, 1<<32 - 2, 1<<32 - 1} {
			want, is := nearest(seq, to)
			n, e := sne.Near(seq, to)
			if is && (n != want || e != api.OK) || !is && (n != 0 || e != api.ErrTop) {
				t.Fatal(seq, to, n, e, want)
			}
			if !is {
				tops++
				continue
			}
			if n >= round && (n <= to-1<<31 || n > to+1<<31) || uint32(n) != seq {
				t.Fatal("too far", seq, to, n)
			}
		}
		for _, d := range []int64{-1<<31 + 1, -7, 0, 9, 1<<31 - 1, 1 << 31} {
			if n := to + d; n >= 0 && n <= top {
				if got, e := sne.Near(uint32(n), to); got != n || e != api.OK {
					t.Fatal("of a number that is near", to, n, got, e)
				}
			}
		}
	}
	if tops == 0 {
		t.Error("nothing above 2^62 was asked for")
	}
	for _, to := range []int64{-1, -1 << 63, top + 1, 1<<63 - 1} {
		n, e := sne.Near(3, to)
		x, f := sne.Ext(to)
		m, g := sne.Of(to)
		if n != 0 || x != 0 || m != nil || e != api.ErrArg || f != api.ErrArg || g != api.ErrArg {
			t.Error(to, n, x, m, e, f, g)
		}
	}
}

// P11.1: the extension.
func TestExt(t *testing.T) {
	for _, n := range numbers() {
		if x, e := sne.Ext(n); int64(x) != n>>32 || e != api.OK {
			t.Error(n, x, e)
		}
	}
}

// P11.2, P11.3: a mark looks, takes, and never gets less.
func TestMark(t *testing.T) {
	m := sne.New(4294967290)
	if m.Value() != 4294967290 {
		t.Error(m.Value())
	}
	if n, e := m.Look(5); n != 4294967301 || e != api.OK || m.Value() != 4294967290 {
		t.Error(n, e, m.Value())
	}
	c := m.Copy()
	if n, e := m.Take(5); n != 4294967301 || e != api.OK || m.Value() != 4294967301 {
		t.Error(n, e, m.Value())
	}
	if c.Value() != 4294967290 || sne.Same(m, c) {
		t.Error("a copy goes on apart")
	}
	if n, e := m.Take(4294967280); n != 4294967280 || e != api.OK || m.Value() != 4294967301 {
		t.Error("a mark gets less", n, e, m.Value())
	}
	c.Take(5)
	if !sne.Same(m, c) {
		t.Error("the same")
	}
	if z, e := sne.Of(0); e != api.OK || !sne.Same(z, sne.New(0)) || z.Copy() == nil {
		t.Error("the mark 0 is one", z, e)
	}
	u, e := sne.Of(top)
	if e != api.OK || u.Value() != top {
		t.Error(u, e)
	}
	for _, ask := range []func(uint32) (int64, api.Errno){u.Look, u.Take} {
		if n, e := ask(3); n != 0 || e != api.ErrTop || u.Value() != top {
			t.Error(n, e, u.Value())
		}
	}
	refused, _ := sne.Of(-1)
	for _, none := range []*sne.Mark{nil, {}, refused} {
		a, e := none.Look(1)
		b, f := none.Take(1)
		if a != 0 || b != 0 || e != api.ErrNil || f != api.ErrNil || none.Value() != 0 || none.Copy() != nil {
			t.Error("none answers")
		}
		if sne.Same(none, sne.New(0)) || sne.Same(sne.New(0), none) || !sne.Same(none, nil) || !sne.Same(nil, none) {
			t.Error("a nil one is like a nil one alone")
		}
	}
	if sne.Same(sne.New(1), sne.New(2)) || !sne.Same(sne.New(0), sne.New(0)) {
		t.Error("Same")
	}
}
