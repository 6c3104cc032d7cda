package rto_test

import (
	"testing"

	"pursuivant/api"
	"pursuivant/rto"
)

func clock(t *testing.T, first, least, most, tries int) *rto.Clock {
	t.Helper()
	c, e := rto.New(api.Rto{First: first, Least: least, Most: most, Tries: tries})
	if e != api.OK {
		t.Fatal(e)
	}
	return c
}

// P14.1: bounds that may be, and may not.
func TestNew(t *testing.T) {
	for _, n := range [][4]int{{1, 1, 1, 1}, {65536, 65536, 65536, 100}, {3, 1, 65536, 8}} {
		r := api.Rto{First: n[0], Least: n[1], Most: n[2], Tries: n[3]}
		if c, e := rto.New(r); e != api.OK || c.Wait() != r.First || c.Runs() || c.Tries() != 0 {
			t.Error(r, e)
		}
	}
	for _, n := range [][4]int{
		{}, {0, 0, 5, 1}, {3, 0, 5, 1}, {3, 4, 5, 1}, {6, 4, 5, 1}, {3, 1, 65537, 1}, {-1, -2, 5, 1},
		{3, 1, 5, 0}, {3, 1, 5, 101}, {3, 1, 5, -1}, {1 << 62, 1, 1<<63 - 1, 1},
	} {
		r := api.Rto{First: n[0], Least: n[1], Most: n[2], Tries: n[3]}
		if c, e := rto.New(r); c != nil || e != api.ErrArg {
			t.Error(r, c, e)
		}
	}
}

// P14.1: what runs, is due, is late.
func TestStartDueLate(t *testing.T) {
	c := clock(t, 3, 1, 64, 2)
	late := func(now int, again bool, e api.Errno) {
		t.Helper()
		if is, f := c.Late(now); is != again || f != e {
			t.Error(now, is, f)
		}
	}
	late(5, false, api.ErrDue) // it does not run
	if c.Due(1000) || c.Start(10) != api.OK || !c.Runs() || c.Due(12) || !c.Due(13) || c.Due(9) || c.Due(-1) || c.Due(api.MaxNumber+1) || !c.Due(api.MaxNumber) {
		t.Error("Due")
	}
	late(12, false, api.ErrDue)
	late(9, false, api.ErrArg)
	late(-1, false, api.ErrArg)
	late(api.MaxNumber+1, false, api.ErrArg)
	if c.Start(9) != api.ErrArg || c.Start(-1) != api.ErrArg || c.Start(api.MaxNumber+1) != api.ErrArg {
		t.Error("Start ahead of the tick since which it runs")
	}
	late(13, true, api.OK)
	if c.Wait() != 6 || c.Tries() != 1 {
		t.Error(c.Wait(), c.Tries())
	}
	late(14, false, api.ErrDue)
	late(12, false, api.ErrArg)
	late(19, true, api.OK)
	if c.Wait() != 12 || c.Tries() != 2 {
		t.Error(c.Wait(), c.Tries())
	}
	late(31, false, api.OK)
	if c.Runs() || c.Due(1000) {
		t.Error("it runs on")
	}
	late(1000, false, api.ErrDue)
	if c.Copy().Start(0) != api.OK {
		t.Error("it does not run: any tick may be the one since which it does")
	}
	if c.Start(4) != api.OK || c.Tries() != 0 || c.Wait() != 12 || c.Stop() != api.OK || c.Runs() || c.Wait() != 3 || c.Tries() != 0 {
		t.Error("Start, Stop", c.Wait())
	}
	// The wait is at most Most.
	c = clock(t, 3, 1, 10, 9)
	c.Start(0)
	for i, w := range []int{6, 10, 10} {
		c.Late(1000 * (i + 1))
		if c.Wait() != w {
			t.Error(c.Wait(), w)
		}
		c.Start(1000 * (i + 1))
	}
}

// P14.1: what samples teach.
func TestSample(t *testing.T) {
	c := clock(t, 3, 1, 64, 2)
	for i, r := range []struct{ ticks, wait int }{
		{4, 12}, {4, 10}, // 8*4 and 8; 32 and 6
		{12, 18},    // err 8: 40, 6+8-1=13
		{0, 19},     // err -5: 35, 13+5-3=15: 4+15
		{65536, 64}, // above Most
	} {
		if e := c.Sample(r.ticks); e != api.OK || c.Wait() != r.wait {
			t.Error(i, e, c.Wait())
		}
	}
	before := c.Copy()
	for _, n := range []int{-1, 65537, -1 << 63, 1<<63 - 1} {
		if e := c.Sample(n); e != api.ErrArg || !rto.Same(c, before) {
			t.Error(n, e)
		}
	}
	c = clock(t, 3, 1, 64, 2)
	if c.Sample(10); c.Wait() != 10+20 {
		t.Error(c.Wait())
	}
	c = clock(t, 30, 20, 40, 3)
	c.Sample(0)
	if c.Wait() != 20 {
		t.Error("below Least", c.Wait())
	}
	c.Start(5)
	c.Late(25)
	if c.Wait() != 40 {
		t.Error(c.Wait())
	}
	c.Sample(0)
	if c.Wait() != 20 || !c.Runs() || c.Tries() != 1 {
		t.Error("a sample, while it runs", c.Wait(), c.Runs(), c.Tries())
	}
	c = clock(t, 9, 1, 40, 3)
	c.Sample(0)
	if c.Wait() != 1 {
		t.Error("the spread is at least 1", c.Wait())
	}
}

// P14.2: copies, what is the same, none.
func TestCopySame(t *testing.T) {
	c := clock(t, 3, 1, 64, 2)
	d := c.Copy()
	if !rto.Same(c, d) {
		t.Error("a copy")
	}
	d.Start(4)
	if c.Runs() || rto.Same(c, d) {
		t.Error("a copy goes on apart")
	}
	d.Stop()
	if !rto.Same(c, d) {
		t.Error("it stands as ahead")
	}
	d.Sample(3)
	if rto.Same(c, d) || rto.Same(c, clock(t, 3, 1, 64, 3)) {
		t.Error("another one")
	}
	refused, _ := rto.New(api.Rto{})
	for _, none := range []*rto.Clock{nil, {}, refused} {
		is, e := none.Late(-1)
		if is || e != api.ErrNil || none.Sample(-1) != api.ErrNil || none.Start(-1) != api.ErrNil || none.Stop() != api.ErrNil || none.Due(5) || none.Wait() != 0 || none.Tries() != 0 || none.Runs() || none.Copy() != nil {
			t.Error("none answers")
		}
		if rto.Same(none, c) || rto.Same(c, none) || !rto.Same(none, nil) || !rto.Same(nil, none) {
			t.Error("a nil one is like a nil one alone")
		}
	}
}

// P14.3: the wait keeps to its bounds; it ends; it learns what is always the same.
func TestFollows(t *testing.T) {
	x := uint32(7)
	c := clock(t, 5, 2, 50, 4)
	now := 0
	for range 5000 {
		x = x*1664525 + 1013904223
		n := int(x >> 16 % 100)
		switch x >> 8 % 5 {
		case 0:
			c.Sample(n * n)
		case 1:
			c.Start(now)
		case 2:
			c.Stop()
		default:
			now += n
			c.Late(now)
		}
		if c.Wait() < 2 || c.Wait() > 50 || c.Tries() > 4 {
			t.Fatal(c.Wait(), c.Tries())
		}
	}
	c = clock(t, 5, 2, 50, 4)
	c.Start(0)
	ticks := 0
	for ; c.Runs(); ticks++ {
		if c.Due(ticks) {
			c.Late(ticks)
		}
	}
	if ticks-1 != 5+10+20+40+50 || ticks-1 > 5*50 {
		t.Error(ticks)
	}
	for _, first := range []int{0, 90, 3000} {
		for _, r := range []int{0, 1, 7, 100, 999} {
			c := clock(t, 5, 1, 65536, 4)
			c.Sample(first)
			for range 200 {
				c.Sample(r)
			}
			if w := c.Wait(); w < r+1 || w > r+3 {
				t.Error(first, r, w)
			}
		}
	}
}
