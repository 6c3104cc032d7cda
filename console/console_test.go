package console_test

import (
	"strconv"
	"strings"
	"testing"

	"pursuivant/api"
	"pursuivant/console"
	"pursuivant/script"
	"pursuivant/seg"
	"pursuivant/world"
)

// answers checks what lines are answered, one by one, by a console.
func answers(t *testing.T, c *console.Console, rows ...string) {
	t.Helper()
	for _, row := range rows {
		line, want, _ := strings.Cut(row, " -> ")
		got, e := c.Line(line)
		if want == "error 420" {
			if got != "" || e != api.ErrLine {
				t.Errorf("%q: %q %v", line, got, e)
			}
			continue
		}
		if got != want || e != api.OK {
			t.Errorf("%q: %q %v, not %q", line, got, e, want)
		}
	}
}

// up is a console whose two routers are up.
func up(t *testing.T) *console.Console {
	t.Helper()
	c := console.New()
	answers(t, c, "plain 2 9 3 outer -> ok", "key 0 2 1 2 cmac 6b -> ok", "key 1 1 2 1 cmac 6b -> ok", "want 0 0 -> ok", "want 1 0 -> ok")
	deliver(t, c)
	return c
}

func deliver(t *testing.T, c *console.Console) {
	t.Helper()
	for {
		if b, _ := c.Line("bag"); b == "none" {
			return
		}
		answers(t, c, "deliver 0 -> ok")
	}
}

// P32.1: the rows of the examples.
func TestRows(t *testing.T) {
	c := console.New()
	answers(t, c, "plain 2 9 3 outer -> ok", "key 0 2 1 2 cmac 6b -> ok", "want 0 0 -> ok", "datagram 0 -> 1>2 s 1.2 0", "line 0 0 -> connect calls wanted 0 0.0.0.0.0",
		"own 1 10.0.0.0/8 0 9 - -> ok", "routes 1 -> 10.0.0.0/8=own:-", "best 1 167772161 -> 10.0.0.0/8=own:- only 1", "routes 0 -> none")
	answers(t, console.New(), "plain 5 9 3 outer -> error 2", "tick 7 -> error 5", "own 0 10.0.0.1/8 0 9 - -> error 420", "foo -> error 420")
}

// P32.1: all lines, of routers that are up.
func TestLines(t *testing.T) {
	c := up(t)
	answers(t, c, "line 0 0 -> established open wanted 0 0.0.0.0.0", "line 1 0 -> established open wanted 0 0.0.0.0.0", "counts 0 -> 0 0 0", "keys 0 -> 2:1:2", "keys 1 -> 1:2:1", "bag -> none",
		"own 0 10.0.0.0/8 2 9 77 -> ok", "own 0 10.1.0.0/16 0 4294967295 - -> ok", "own 1 10.0.0.0/8 0 9 0 -> ok")
	deliver(t, c)
	answers(t, c,
		"routes 0 -> 10.0.0.0/8=own:- 10.1.0.0/16=own:-", "routes 1 -> 10.0.0.0/8=own:- 10.1.0.0/16=1:1",
		"best 1 167837697 -> 10.1.0.0/16=1:1 only 1", "best 1 167772161 -> 10.0.0.0/8=own:- own 2", "best 1 0 -> none", "counts 1 -> 0 0 2",
		"lost 1 10.0.0.0/8 -> ok", "lost 1 10.0.0.0/8 -> error 5")
	deliver(t, c)
	answers(t, c, "best 1 167772161 -> 10.0.0.0/8=1:1 only 1",
		"key 0 2 3 4 hmac 00ff -> ok", "keys 0 -> 2:1:2 2:3:4", "prefer 0 2 3 -> ok", "unkey 0 2 3 -> error 201", "unkey 0 2 1 -> ok", "keys 0 -> 2:3:4", "prefer 0 2 1 -> error 5",
		"key 0 2 3 5 hmac 00 -> error 200", "key 0 2 5 6 hmac - -> error 2", "key 0 2 5 6 hmac "+strings.Repeat("ab", 80)+" -> ok", "key 0 2 6 7 hmac "+strings.Repeat("ab", 81)+" -> error 2",
		"forge 010203 -> ok", "forge 0000000000000002 -> ok", "forge - -> ok", "bag -> 3 8 0", "datagram 0 -> junk", "datagram 5 -> junk", "double 1 -> error 190", "counts 1 -> 1 0 2", "drop 1 -> ok", "bag -> 3 0", "deliver 0 -> error 5", "drop 4294967295 -> ok", "bag -> none",
		"deliver 0 -> error 5", "double 0 -> error 5", "drop 0 -> error 5", "datagram 0 -> error 5",
		"leave 1 0 -> ok", "line 1 0 -> idle none not 0 0.0.0.0.0")
	b, _ := c.Line("datagram 0")
	if !strings.HasPrefix(b, "2>1 a 2.1 ") {
		t.Error(b)
	}
}

// P32.1: sessions' and streams' names, flags, drops.
func TestNames(t *testing.T) {
	c := console.New()
	answers(t, c, "plain 2 9 3 outer -> ok", "line 0 0 -> idle none not 0 0.0.0.0.0", "want 0 0 -> ok", "line 0 0 -> connect none wanted 0 0.0.0.0.0",
		"key 0 2 1 2 cmac 6b -> ok", "key 1 1 2 1 cmac 6b -> ok", "tick 0 -> ok", "tick 0 -> ok", "tick 0 -> ok", "line 0 0 -> connect calls wanted 0 0.0.0.0.0",
		"want 1 0 -> ok", "bag -> 45 45", "datagram 1 -> 2>1 s 2.1 0", "deliver 0 -> ok", "line 1 0 -> connect heard wanted 0 0.0.0.0.0", "datagram 1 -> 2>1 sa 2.1 0", "deliver 0 -> ok", "line 0 0 -> connect heard wanted 0 0.0.0.0.0",
		"deliver 0 -> ok", "line 0 0 -> opensent open wanted 0 0.0.0.0.0")
	forge := func(want string, s api.Seg) {
		t.Helper()
		b, e := seg.Raw(s)
		if e != api.OK {
			t.Fatal(e)
		}
		x := ""
		for _, y := range b {
			x += string("0123456789abcdef"[y>>4]) + string("0123456789abcdef"[y&15])
		}
		d := console.New()
		answers(t, d, "plain 2 9 3 outer -> ok", "forge "+x+" -> ok", "datagram 0 -> "+want)
	}
	forge("1>2 - - 0", api.Seg{From: 1, To: 2})
	forge("4294967295>0 safr - 64", api.Seg{From: 1<<32 - 1, Flags: 15, Data: make([]byte, 64)})
	forge("7>8 fr 255.0 1", api.Seg{From: 7, To: 8, Flags: 12, Has: true, Auth: api.Auth{Key: 255}, Data: []byte{1}})
	// A session that waits for the other one's opening, and for its MsgKeep.
	for range 60 {
		c.Line("deliver 0")
		x, _ := c.Line("line 0 0")
		if strings.HasPrefix(x, "openconfirm open") {
			return
		}
	}
	t.Error("never openconfirm")
}

// P32.1: inner routers; one whose peer left.
func TestInner(t *testing.T) {
	c := console.New()
	answers(t, c, "plain 3 0 1 inner -> ok", "key 0 2 1 1 hmac aa -> ok", "key 1 1 1 1 hmac aa -> ok", "want 0 0 -> ok", "want 1 0 -> ok")
	deliver(t, c)
	answers(t, c, "own 0 0.0.0.0/0 1 5 - -> ok")
	deliver(t, c)
	answers(t, c, "routes 1 -> 0.0.0.0/0=1:-", "best 1 4294967295 -> 0.0.0.0/0=1:- only 1", "best 2 0 -> none", "line 2 1 -> idle none not 0 0.0.0.0.0")
	// Once the other one is gone, and calls end, one awaits.
	answers(t, c, "leave 1 0 -> ok", "deliver 0 -> ok")
	deliver(t, c)
	x, _ := c.Line("line 0 0")
	if !strings.HasPrefix(x, "idle none wanted") && !strings.HasPrefix(x, "active listen wanted") {
		t.Error(x)
	}
}

// P32.1, P32.3: a Med is said, or none is: seven bytes more.
func TestMed(t *testing.T) {
	var sizes []string
	for _, med := range []string{"-", "0", "4294967295"} {
		c := up(t)
		answers(t, c, "own 0 10.0.0.0/8 0 9 "+med+" -> ok")
		b, _ := c.Line("bag")
		sizes = append(sizes, b)
	}
	a, _ := strconv.Atoi(sizes[0])
	if b, _ := strconv.Atoi(sizes[1]); b != a+7 || sizes[1] != sizes[2] {
		t.Error(sizes)
	}
}

// P32.1, P32.3: lines that may not be: they change nothing.
func TestWrong(t *testing.T) {
	right := []string{
		"plain 2 9 3 outer", "key 0 2 1 2 cmac 6b", "unkey 0 2 1", "prefer 0 2 1", "want 0 0", "leave 0 0", "own 0 10.0.0.0/8 0 9 -", "lost 0 10.0.0.0/8", "tick 0", "deliver 0", "double 0", "drop 0", "forge 00",
		"routes 0", "best 0 0", "line 0 0", "counts 0", "keys 0", "bag", "datagram 0",
	}
	c := console.New()
	wrong := func(line string) {
		t.Helper()
		if got, e := c.Line(line); got != "" || e != api.ErrLine {
			t.Errorf("%q: %q %v", line, got, e)
		}
	}
	for _, line := range right {
		if _, e := c.Line(line); e != api.OK {
			t.Error(line, e)
		}
		words := strings.Split(line, " ")
		wrong(line + " ")
		wrong(" " + line)
		wrong(line + " 0")
		wrong(line + "\n")
		wrong(strings.ToUpper(words[0]) + line[len(words[0]):])
		for i := range words {
			if i > 0 {
				wrong(strings.Join(words[:i], " "))
			}
			for _, w := range []string{"", "x", "+1", "-1", "01", "4294967296", "99999999999999999999", "1.0", "\xff", "٣", "--", "1 "} {
				if i == len(words)-1 && (words[0] == "key" || words[0] == "forge") && len(w)%2 == 0 && w != "" && strings.Trim(w, "0123456789") == "" {
					continue // digits are bytes
				}
				other := append([]string{}, words...)
				other[i] = w
				wrong(strings.Join(other, " "))
			}
		}
	}
	for _, line := range []string{
		"", " ", "plain 2 65536 3 outer", "plain 2 9 3 both", "key 0 2 256 2 cmac 6b", "key 0 2 1 256 cmac 6b", "key 0 2 1 2 md5 6b", "key 0 2 1 2 cmac 6B", "key 0 2 1 2 cmac 6", "key 0 2 1 2 cmac 6g", "unkey 0 2 256",
		"own 0 10.0.0.0/8 256 9 -", "own 0 10.0.0.1/8 0 9 -", "own 0 10.0.0.0/08 0 9 -", "own 0 10.0.0.0/8 0 - 9", "forge " + strings.Repeat("00", 1001), "forge 0", "forge", "tick -", "bag 0", "datagram -1",
	} {
		wrong(line)
	}
	answers(t, c, "bag -> 1", "forge "+strings.Repeat("0f", 1000)+" -> ok", "bag -> 1 1000")
	// A plain world that may not be leaves what there was.
	answers(t, c, "plain 5 9 3 outer -> error 2", "plain 2 2 3 outer -> error 2", "plain 2 9 0 outer -> error 2", "plain 0 9 3 inner -> error 2", "plain 4294967295 9 4294967295 inner -> error 2", "bag -> 1 1000", "plain 1 0 65535 inner -> ok", "bag -> none", "plain 2 65535 1 outer -> ok", "key 0 2 255 255 hmac 00 -> ok", "own 0 0.0.0.0/0 255 9 - -> error 2", "bag -> none")
}

// P32.1: errors of what lines ask.
func TestErrors(t *testing.T) {
	c := console.New()
	for _, line := range []string{"key 0 2 1 2 cmac 6b", "unkey 0 2 1", "prefer 0 2 1", "want 0 0", "leave 0 0", "double 0", "drop 0", "own 0 10.0.0.0/8 0 9 -", "lost 0 10.0.0.0/8", "tick 0", "deliver 0", "forge 00", "routes 0", "best 0 0", "line 0 0", "counts 0", "keys 0", "bag", "datagram 0"} {
		answers(t, c, line+" -> error 5")
	}
	answers(t, c, "plain 2 9 3 outer -> ok")
	for _, line := range []string{"key 2 2 1 2 cmac 6b", "unkey 2 2 1", "prefer 2 2 1", "want 2 0", "want 0 1", "leave 0 4294967295", "own 2 10.0.0.0/8 0 9 -", "lost 2 10.0.0.0/8", "tick 4294967295", "routes 2", "best 2 0", "line 2 0", "line 0 1", "line 2 9", "counts 2", "keys 2"} {
		answers(t, c, line+" -> error 4")
	}
	answers(t, c, "own 0 10.0.0.0/8 3 9 - -> error 2", "own 0 10.0.0.0/8 0 0 - -> error 2", "unkey 0 2 1 -> error 5", "lost 0 10.0.0.0/8 -> error 5")
	for n := range 64 {
		answers(t, c, "own 0 10.0."+strconv.Itoa(n)+".0/24 0 9 - -> ok")
	}
	answers(t, c, "own 0 10.0.64.0/24 0 9 - -> error 340")
	for n := range 16 {
		answers(t, c, "key 0 9 "+strconv.Itoa(n)+" "+strconv.Itoa(n)+" hmac 00 -> ok")
	}
	answers(t, c, "key 0 9 16 16 hmac 00 -> error 3")
	for _, none := range []*console.Console{nil, {}} {
		for _, line := range []string{"bag", "", "plain 2 9 3 outer"} {
			if got, e := none.Line(line); got != "" || e != api.ErrNil {
				t.Error(got, e)
			}
		}
	}
}

// P32.2: texts.
func TestRun(t *testing.T) {
	for i, r := range []struct {
		text, want string
		e          api.Errno
	}{
		{"", "", 0}, {"\n", "", 0}, {"\n\n\n", "", 0}, {"bag", "error 5\n", 0}, {"bag\n", "error 5\n", 0}, {"\nfoo\n\nbag\n\n", "error 420\nerror 5\n", 0}, {" ", "error 420\n", 0}, {"bag\r\n", "error 420\n", 0},
		{"plain 1 0 1 inner\nbag\nforge -\nbag", "ok\nnone\nok\n0\n", 0}, {"\xff\xfe\x00", "error 420\n", 0},
		{strings.Repeat("\n", 1999), "", 0}, {strings.Repeat("\n", 2000), "", api.ErrLong}, {strings.Repeat("x\n", 1999) + "x", strings.Repeat("error 420\n", 2000), 0}, {strings.Repeat("x\n", 2000), "", api.ErrLong},
		{strings.Repeat(" ", api.MaxText), "error 420\n", 0}, {strings.Repeat(" ", api.MaxText+1), "", api.ErrLong}, {strings.Repeat("\n", 1<<21), "", api.ErrLong},
	} {
		if got, e := console.Run(r.text); got != r.want || e != r.e {
			t.Error(i, len(got), e)
		}
	}
	one, _ := console.Run("plain 2 9 3 outer\nforge 00")
	if two, _ := console.Run("bag"); one != "ok\nok\n" || two != "error 5\n" {
		t.Error("each text has a console of its own")
	}
}

// P32.3: the answers of a text and another one begin with those of the first one; lines tell what the layers tell.
func TestFollows(t *testing.T) {
	first := "plain 2 9 3 outer\nkey 0 2 1 2 cmac 6b\nfoo\nkey 1 1 2 1 cmac 6b\nwant 0 0\nwant 1 0"
	second := "deliver 0\ndeliver 0\n\nbag\nline 0 0\nplain 1 0 1 inner\nbag"
	a, _ := console.Run(first)
	both, e := console.Run(first + "\n" + second)
	if e != api.OK || !strings.HasPrefix(both, a) || both == a {
		t.Error(a, both)
	}
	routers, _ := script.Plain(2, 9, 3, false)
	w, _ := world.New(routers...)
	c := console.New()
	c.Line("plain 2 9 3 outer")
	turns := []struct {
		line string
		turn api.Turn
	}{
		{"key 0 2 1 2 cmac 6b", api.Turn{Kind: api.TurnKey, Mkt: api.Mkt{Peer: 2, Send: 1, Recv: 2, Alg: api.AlgCmac, Master: "k"}}},
		{"key 1 1 2 1 cmac 6b", api.Turn{Kind: api.TurnKey, Who: 1, Mkt: api.Mkt{Peer: 1, Send: 2, Recv: 1, Alg: api.AlgCmac, Master: "k"}}},
		{"want 0 0", api.Turn{Kind: api.TurnWant}}, {"want 1 0", api.Turn{Kind: api.TurnWant, Who: 1}},
		{"own 1 10.0.0.0/8 1 9 5", api.Turn{Kind: api.TurnOwn, Who: 1, Prefix: api.Prefix{Addr: 0x0a000000, Len: 8}, Attrs: api.Attrs{Origin: 1, Next: 9, HasMed: true, Med: 5}}},
	}
	for _, x := range turns {
		got, _ := c.Line(x.line)
		if e := w.Turn(x.turn); e != api.OK || got != "ok" {
			t.Error(x.line, got, e)
		}
	}
	for n := range 60 {
		pick := n * 7 % 5
		got, _ := c.Line("deliver " + strconv.Itoa(pick))
		want := "ok"
		if e := w.Turn(api.Turn{Kind: api.TurnDeliver, N: pick}); e != api.OK {
			want = "error " + strconv.Itoa(int(e))
		}
		var sizes []string
		for _, b := range w.Bag() {
			sizes = append(sizes, strconv.Itoa(len(b)))
		}
		bag, _ := c.Line("bag")
		if got != want || len(sizes) > 0 && bag != strings.Join(sizes, " ") {
			t.Fatal(n, got, want, bag, sizes)
		}
	}
	s, _ := w.Speaker(0)
	b, is := s.Rib().To(0x0a000001)
	if got, _ := c.Line("best 0 167772161"); !is || got != "10.0.0.0/8=2:2 only 1" || b.Many != 1 {
		t.Error(got, b, is)
	}
}

func FuzzRun(f *testing.F) {
	f.Add("plain 2 9 3 outer\nkey 0 2 1 2 cmac 6b\nwant 0 0\ndatagram 0\nline 0 0\nbag\ntick 0\ndeliver 0\nbest 0 1")
	f.Fuzz(func(t *testing.T, text string) {
		a, e := console.Run(text)
		b, f := console.Run(text + "\nbag")
		if e == api.OK && f == api.OK && !strings.HasPrefix(b, a) {
			t.Error(a, b)
		}
	})
}
