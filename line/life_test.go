package line_test

import (
	"slices"
	"testing"

	"pursuivant/api"
	"pursuivant/update"
)

type picks uint32

func (p *picks) pick(n int) int {
	*p = *p*1664525 + 1013904223
	return int(uint32(*p) >> 10 % uint32(n))
}

// life is two lines, and of each what it said since it opened, session by session.
type life struct {
	*two
	picks picks
	said  [2][][]api.Update
	seen  [2]int // tidings that were looked at
	next  int
}

// look goes through new tidings: opens and closes take turns, updates are a beginning of what the other one said in one of its sessions.
func (l *life) look() {
	l.t.Helper()
	for i := range l.sides {
		s := &l.sides[i]
		for ; l.seen[i] < len(s.tidings); l.seen[i]++ {
			if s.tidings[l.seen[i]].Kind == api.DeedOpen {
				l.said[i] = append(l.said[i], nil)
			}
		}
		var heard []api.Update
		open := false
		for _, x := range s.tidings {
			if (x.Kind == api.DeedOpen) == open {
				l.t.Fatal("out of turn", kinds(s.tidings))
			}
			switch x.Kind {
			case api.DeedOpen:
				open, heard = true, nil
			case api.DeedClose:
				open = false
			case api.DeedUpdate:
				heard = append(heard, x.Update)
				if !slices.ContainsFunc(l.said[1-i], func(said []api.Update) bool {
					return len(said) >= len(heard) && slices.EqualFunc(said[:len(heard)], heard, update.Same)
				}) {
					l.t.Fatal("what was told was not said so")
				}
			}
		}
	}
}

func (l *life) wild() {
	i := l.picks.pick(2)
	s := &l.sides[i]
	n := len(s.coming)
	switch what := l.picks.pick(100); {
	case what < 50 && n > 0:
		l.come(i, l.picks.pick(min(n, 4)), false)
	case what < 56 && n > 0:
		l.come(i, l.picks.pick(n), true)
	case what < 62 && n > 0:
		at := l.picks.pick(n)
		s.coming = slices.Delete(s.coming, at, at+1)
	case what < 68 && n > 0: // forged out of what was sent
		at := l.picks.pick(n)
		f := s.coming[at]
		switch l.picks.pick(5) {
		case 0:
			f.Auth.Tag[l.picks.pick(12)] ^= 1 << l.picks.pick(8)
		case 1:
			f.Flags ^= api.Rst
		case 2:
			f.Seq++
		case 3:
			f.Has, f.Auth = false, api.Auth{}
		case 4:
			f.Data = []byte("forged")
		}
		was := s.line.State()
		segs, tidings, drop, e := s.line.Come(s.keys, f)
		now := s.line.State()
		if len(segs)+len(tidings) > 0 || drop == api.DropNone || e != api.OK || now.Stream != was.Stream || now.Fsm.At != was.Fsm.At {
			l.t.Fatal("a forged segment did something", f, drop)
		}
	case what < 80:
		l.tick(i)
	case what < 98 && s.line.Ready():
		u := news(l.next)
		l.next++
		l.say(i, u)
		at := len(l.said[i]) - 1
		l.said[i][at] = append(l.said[i][at], u)
	case what == 98:
		l.want(i, l.picks.pick(3) > 0)
	}
	l.look()
}

// P28.3: whatever comes: tidings in turn, updates a beginning; in the end both come up, and all is told.
func TestLives(t *testing.T) {
	opened := 0
	for seed := range 60 {
		a, b := of(1, 2), of(2, 1)
		a.Peering.Passive = seed%4 == 1
		b.Peering.Own.Hold = uint16(3 + seed%20)
		a.ISN = uint32(1<<32 - 1000*seed)
		l := &life{two: both(t, a, b), picks: picks(seed * 31337)}
		l.want(0, true)
		l.want(1, true)
		for range 1500 {
			l.wild()
		}
		l.want(0, true)
		l.want(1, true)
		l.ticks(300)
		l.look()
		l.at(api.FsmEstablished, api.FsmEstablished)
		for i := range l.sides {
			for n := range 20 {
				u := news(1000000 + n)
				l.say(i, u)
				at := len(l.said[i]) - 1
				l.said[i][at] = append(l.said[i][at], u)
				l.all()
			}
			l.look()
			opened += len(l.said[i])
			heard := l.sides[1-i].tidings
			if !update.Same(heard[len(heard)-1].Update, news(1000019)) {
				t.Fatal(seed, "the last update was not told")
			}
		}
	}
	if opened < 150 {
		t.Error("few sessions opened: ", opened)
	}
}
