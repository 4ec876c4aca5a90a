package key

import (
	"fmt"
	"math"
	"math/big"
	"strings"
	"testing"

	"alfil/api"
	"alfil/forsyth"
	"alfil/legal"
	"alfil/move"
	"alfil/pos"
)

// odd are numbers that are nothing here; some would be something if they were cut to fewer bits, or their sign were lost.
var odd = []int{-1, -2, -3, -4, -8, -16, -32, -64, -1032, -1056, -1057, -1064, 64, 65, 127, 128, 255, 256, 257, 271, 1<<16 + 1, 1<<16 + 15, 1 << 31, 1 << 32, 1<<32 + 1, 1<<32 + 15, 1<<32 + 20, math.MinInt32, math.MaxInt32, math.MinInt, math.MinInt + 1, math.MinInt + 15, math.MaxInt - 1056, math.MaxInt - 1055, math.MaxInt - 1, math.MaxInt}

// keys are some that needn't be any position's.
var keys = []uint64{0, 1, 2, 1 << 31, 1 << 32, 1 << 63, math.MaxUint64, math.MaxUint64 - 1, 0x0123456789abcdef, 0xaaaaaaaaaaaaaaaa}

// power is two to the n.
func power(n uint) *big.Int { return new(big.Int).Lsh(big.NewInt(1), n) }

// hex is a number of sixteen signs.
func hex(text string) *big.Int {
	n, _ := new(big.Int).SetString(text, 16)
	return n
}

// turned is x xor x/2^n.
func turned(x *big.Int, n uint) *big.Int {
	return new(big.Int).Xor(x, new(big.Int).Quo(x, power(n)))
}

// around is x modulo 2^64.
func around(x *big.Int) *big.Int { return new(big.Int).Mod(x, power(64)) }

// reckoned is a number's mix by the chapter's words, in numbers of any size.
func reckoned(n *big.Int) uint64 {
	first := hex("9e3779b97f4a7c15")
	x := new(big.Int).Mul(around(n), first)
	x = around(x.Add(x, first))
	x = around(x.Mul(turned(x, 30), hex("bf58476d1ce4e5b9")))
	x = around(x.Mul(turned(x, 27), hex("94d049bb133111eb")))
	return turned(x, 31).Uint64()
}

// mixes are the mixes that were reckoned, so that each is once.
type mixes map[int]uint64

// of is what is added to a key by n and more.
func (all mixes) of(n, more int) uint64 {
	if more > math.MaxInt-n {
		return reckoned(new(big.Int).Add(big.NewInt(int64(n)), big.NewInt(int64(more))))
	}
	if _, is := all[n+more]; !is {
		all[n+more] = reckoned(big.NewInt(int64(n + more)))
	}
	return all[n+more]
}

// key is p's by the chapter's words, step by step.
func (all mixes) key(p api.Pos) uint64 {
	var k uint64
	for s := 0; s < 64; s++ {
		if p.At[s] != 0 {
			k ^= all.of(16*s, int(p.At[s])+8)
		}
	}
	if p.Turn == 1 {
		k ^= all.of(1024, 0)
	}
	for _, right := range []int{1, 2, 4, 8} {
		if uint(p.Castle)/uint(right)%2 == 1 {
			k ^= all.of(1032, right)
		}
	}
	if p.Ep > -1 {
		k ^= all.of(1056, p.Ep)
	}
	return k
}

// show is a position, short enough to be read where a test fails.
func show(p api.Pos) string {
	var men []string
	for s, m := range p.At {
		if m != 0 {
			men = append(men, fmt.Sprint(s, ":", m))
		}
	}
	return fmt.Sprintf("%.300s, %d %d %d", strings.Join(men, " "), p.Turn, p.Castle, p.Ep)
}

// draw is what follows n among numbers that look as if they were drawn.
func draw(n uint64) uint64 { return n*6364136223846793005 + 1442695040888963407 }

// drawn are positions of any numbers whatever; one in three squares or more is empty.
func drawn(many int) []api.Pos {
	out := make([]api.Pos, many)
	n := uint64(17)
	next := func() int {
		n = draw(n)
		return int(n >> 33)
	}
	for i := range out {
		p := &out[i]
		for s := range p.At {
			if next()%3 != 0 {
				p.At[s] = int8(next())
			}
		}
		p.Turn, p.Castle, p.Ep = next()%4-1, next()%64-32, next()%90-10
		switch next() % 8 {
		case 0:
			p.Turn = odd[next()%len(odd)]
		case 1:
			p.Castle = odd[next()%len(odd)]
		case 2:
			p.Ep = odd[next()%len(odd)]
		}
	}
	return out
}

// bare is an empty board, with White to move.
func bare() api.Pos { return api.Pos{Ep: -1} }

// at is a position of a Forsyth text.
func at(t *testing.T, text string, turn, castle, ep int) api.Pos {
	t.Helper()
	b, _, e := forsyth.Read(text)
	if e != api.OK {
		t.Fatal(text, e)
	}
	return api.Pos{At: b, Turn: turn, Castle: castle, Ep: ep}
}

// leads holds p's key made afresh, q's likewise, and each from the other's by what is unlike.
func leads(t *testing.T, all mixes, p, q api.Pos) bool {
	t.Helper()
	k, to := all.key(p), all.key(q)
	if Of(p) != k || Of(q) != to {
		t.Errorf("%s: %x, not %x; %s: %x, not %x", show(p), Of(p), k, show(q), Of(q), to)
		return false
	}
	if on, back := Behind(k, p, q), Behind(to, q, p); on != to || back != k {
		t.Errorf("%s to %s: %x, not %x, and back %x, not %x", show(p), show(q), on, to, back, k)
		return false
	}
	return true
}

// P17.1: the chapter's example, small numbers and great ones, those that keys are made of, and those whose products lose much.
func TestMix(t *testing.T) {
	for n, want := range map[uint64]uint64{
		0: 0xe220a8397b1dcdaf, 1: 0x6e789e6aa1b965f4, 2: 0x06c45d188009454f, 3: 0xf88bb8a8724c81ec, 4: 0x1b39896a51a8749b, 5: 0x53cb9f0c747ea2ea, 9: 0xf3b8488c368cb0a6,
		1024: 0x6d6409c74776d986, 1033: 0xa601bd724de89bbc, 1034: 0x8aac30d865ab3cb7, 1036: 0x20192f04754c32b2, 1040: 0xe668587f1d4a037f, 1056: 0x398e82b74e12edbe, 1119: 0x61357519fe182f2a,
		1<<32 - 1: 0xbeeb67eaf1fc5e61, 1 << 32: 0x46093cf9861ec2e4, 1<<63 - 1: 0x25c26ea579cea98a, 1 << 63: 0x481ec0a212a9f3db, 1<<64 - 2: 0x336503c6b835bec0, 1<<64 - 1: 0, 1<<64 - 120: 0xbfa05d77ebfb45eb,
		0x9e3779b97f4a7c15: 0xd2c3b9900679fff1, 0xbf58476d1ce4e5b9: 0xc8c54f98ac0c921e, 0x94d049bb133111eb: 0x5f15f740f7f4396b, 0x0123456789abcdef: 0x7b11d1c47d7a6dd1, 0xfedcba9876543210: 0x9c7b2536212d373e,
	} {
		if got := Mix(n); got != want {
			t.Errorf("%d: %x, not %x", n, got, want)
		}
	}
}

// P17.1: many numbers, held against the chapter's words in numbers of any size.
func TestMixReckoned(t *testing.T) {
	var all []uint64
	for n := uint64(0); n < 1200; n++ {
		all = append(all, n, -n, n*0x9e3779b97f4a7c15)
	}
	for bit := range 64 {
		for near := uint64(0); near < 8; near++ {
			all = append(all, 1<<bit+near, 1<<bit-near)
		}
	}
	for n := uint64(1); len(all) < 8000; n = draw(n) {
		all = append(all, n, ^n)
	}
	for _, n := range all {
		if got, want := Mix(n), reckoned(new(big.Int).SetUint64(n)); got != want {
			t.Fatalf("%d: %x, not %x", n, got, want)
		}
	}
}

// P17.1: keys that were reckoned apart from the program.
func TestOf(t *testing.T) {
	first := pos.First()
	black, unright := first, first
	black.Turn, unright.Castle = api.Black, 0
	for _, c := range []struct {
		p    api.Pos
		want uint64
	}{
		{first, 0x75b65e687db4dfd5}, {black, 0x18d257af3ac20653}, {unright, 0x9f6aa4b93df14913},
		{at(t, "rnbqkbnr/pppppppp/8/8/4P3/8/PPPP1PPP/RNBQKBNR", 1, 15, 20), 0x9eb3a3a0ac2b091d},
		{at(t, "4k3/8/8/8/8/8/8/4K3", 0, 0, -1), 0xed74855d357c9306}, {at(t, "4k3/8/8/8/8/8/8/4K3", 1, 0, -1), 0x80108c9a720a4a80},
		{bare(), 0}, {api.Pos{Turn: 1, Ep: -1}, 0x6d6409c74776d986}, {api.Pos{}, 0x398e82b74e12edbe}, {api.Pos{Castle: 15, Ep: -1}, 0xeadcfad1404596c6},
	} {
		if got := Of(c.p); got != c.want {
			t.Errorf("%s: %x, not %x", show(c.p), got, c.want)
		}
	}
}

// P17.1: each number alone on each square, men and none; an empty square adds nothing.
func TestOfSquare(t *testing.T) {
	all := mixes{}
	for s := range 64 {
		for m := -128; m <= 127; m++ {
			p := bare()
			p.At[s] = int8(m)
			want := all.of(16*s, m+8)
			if m == 0 {
				want = 0
			}
			if got := Of(p); got != want {
				t.Fatalf("%d on %d: %x, not %x", m, s, got, want)
			}
		}
	}
}

// P17.1: Black to move adds a mix; White to move adds none, and so does a turn that is no side.
func TestOfTurn(t *testing.T) {
	for _, p := range []api.Pos{bare(), pos.First()} {
		white := Of(p)
		p.Turn = 1
		if got := Of(p); got != white^0x6d6409c74776d986 {
			t.Errorf("Black to move: %x, not %x", got, white^0x6d6409c74776d986)
		}
		for _, turn := range append([]int{2, 3, 4, 8}, odd...) {
			p.Turn = turn
			if got := Of(p); got != white {
				t.Errorf("turn %d: %x, not %x", turn, got, white)
			}
		}
	}
}

// P17.1: each right to castle adds its mix: alone, with others, all and none; other bits add nothing.
func TestOfCastle(t *testing.T) {
	adds := map[int]uint64{1: 0xa601bd724de89bbc, 2: 0x8aac30d865ab3cb7, 4: 0x20192f04754c32b2, 8: 0xe668587f1d4a037f}
	var all []int
	for castle := -300; castle <= 300; castle++ {
		all = append(all, castle)
	}
	for _, p := range []api.Pos{bare(), pos.First()} {
		p.Castle = 0
		without := Of(p)
		for _, castle := range append(all, odd...) {
			want := without
			for right, add := range adds {
				if castle&right == right {
					want ^= add
				}
			}
			p.Castle = castle
			if got := Of(p); got != want {
				t.Errorf("rights %d: %x, not %x", castle, got, want)
			}
		}
	}
}

// P17.1: an Ep from 0 on adds its mix, whether it is a square or not; one below 0 adds none.
func TestOfEp(t *testing.T) {
	all := mixes{}
	for _, p := range []api.Pos{bare(), pos.First()} {
		p.Ep = -1
		without := Of(p)
		for ep := -200; ep < 1200; ep++ {
			want := without
			if ep >= 0 {
				want ^= all.of(1056, ep)
			}
			p.Ep = ep
			if got := Of(p); got != want {
				t.Fatalf("Ep %d: %x, not %x", ep, got, want)
			}
		}
	}
	for ep, want := range map[int]uint64{0: 0x398e82b74e12edbe, 63: 0x61357519fe182f2a, -2: 0, -1056: 0, -1057: 0, math.MinInt: 0, math.MaxInt - 1056: 0x25c26ea579cea98a, math.MaxInt - 1055: 0x481ec0a212a9f3db, 1<<32 - 1 - 1056: 0xbeeb67eaf1fc5e61} {
		if got := Of(api.Pos{Ep: ep}); got != want {
			t.Errorf("Ep %d: %x, not %x", ep, got, want)
		}
	}
}

// P17.1, P17.2: positions of any numbers whatever, and the way from each one's key to any other's and back.
func TestAny(t *testing.T) {
	all := mixes{}
	some := drawn(60)
	for _, n := range odd {
		some = append(some, api.Pos{Turn: n, Ep: -1}, api.Pos{Castle: n, Ep: -1}, api.Pos{Ep: n}, api.Pos{Turn: n, Castle: n, Ep: n})
	}
	for _, m := range []int8{-128, -127, -120, -121, -8, -9, -7, 7, 119, 120, 121, 127} {
		p := pos.First()
		for s := range p.At {
			p.At[s] = m
		}
		some = append(some, p)
	}
	some = append(some, bare(), pos.First())
	for _, p := range some {
		for _, q := range some {
			if !leads(t, all, p, q) {
				return
			}
		}
	}
}

// games are some from the first position, that have moves of each kind.
var games = []string{
	"e2e4 e7e5 g1f3 b8c6 f1b5 a7a6 b5c6 d7c6 e1g1 f7f6 d2d4 e5d4 f3d4 c6c5 d4b3 d8d1 f1d1",
	"d2d4 d7d5 c1f4 c8f5 b1c3 b8c6 d1d2 d8d7 e1c1 e8c8 h2h3 h7h6",
	"g1f3 g8f6 g2g3 g7g6 f1g2 f8g7 h1g1 e8g8 g1h1 a7a6",
	"e2e4 a7a6 e4e5 d7d5 e5d6 h7h6 d6c7 h6h5 c7b8q a8b8 h2h4",
	"h2h4 b7b5 h4h5 b5b4 a2a4 b4a3 b2b3 g7g5 h5g6 a3a2 g6h7 a2b1n h7g8r h8g8 a1b1",
	"a2a4 b7b5 a4b5 a7a6 b5a6 c8a6 a1a6 a8a6 b1a3 a6a3 b2a3 h7h5 g2g4 h5g4 h2h4 g4h3 h1h3 h8h3 g1h3",
	"e2e4 e7e5 e1e2 e8e7 e2e1 e7e8",
	"b2b4 g7g5 b4b5 a7a5 b5a6 g5g4 a6b7 g4g3 b7a8b g3h2 a8e4 h2g1b h1h7 h8h7 e4h7",
}

// played are the positions of a game; each move must be legal.
func played(t *testing.T, p api.Pos, game string) []api.Pos {
	t.Helper()
	rules := legal.New()
	out := []api.Pos{p}
	for _, text := range strings.Fields(game) {
		m, _ := move.Parse(text)
		q, e := rules.Play(p, m)
		if e != api.OK {
			t.Fatal(game, text, e)
		}
		out = append(out, q)
		p = q
	}
	return out
}

// P17.1, P17.2: the positions of games: each key afresh, each from the one ahead, and from any other of the game.
func TestGames(t *testing.T) {
	all := mixes{}
	for _, game := range games {
		line := played(t, pos.First(), game)
		k := Of(line[0])
		for i, p := range line {
			k = Behind(k, line[max(i-1, 0)], p)
			if want := all.key(p); k != want {
				t.Fatalf("%s, %d moves: %x, not %x", game, i, k, want)
			}
			for _, q := range line {
				if !leads(t, all, p, q) {
					return
				}
			}
		}
	}
}

// P17.1, P17.2: what a move of each kind adds to a key, told by hand: the men that go and come, the side, the rights, Ep.
func TestMoves(t *testing.T) {
	all := mixes{}
	rooks, pawns := "r3k2r/8/8/8/8/8/8/R3K2R", "r3k2r/1P4P1/8/3pP3/5Pp1/8/p1p5/R3K2R"
	for _, c := range []struct {
		p    api.Pos
		m    string
		adds []int
	}{
		{pos.First(), "g1f3", []int{16*6 + 10, 16*21 + 10, 1024}},
		{pos.First(), "e2e3", []int{16*12 + 9, 16*20 + 9, 1024}},
		{pos.First(), "e2e4", []int{16*12 + 9, 16*28 + 9, 1024, 1056 + 20}},
		{at(t, rooks, 1, 15, -1), "a8b8", []int{16*56 + 4, 16*57 + 4, 1024, 1032 + 8}},
		{at(t, rooks, 0, 15, -1), "e1e2", []int{16*4 + 14, 16*12 + 14, 1024, 1032 + 1, 1032 + 2}},
		{at(t, rooks, 0, 15, -1), "h1h8", []int{16*7 + 12, 16*63 + 12, 16*63 + 4, 1024, 1032 + 1, 1032 + 4}},
		{at(t, rooks, 0, 15, -1), "e1g1", []int{16*4 + 14, 16*6 + 14, 16*7 + 12, 16*5 + 12, 1024, 1032 + 1, 1032 + 2}},
		{at(t, rooks, 0, 15, -1), "e1c1", []int{16*4 + 14, 16*2 + 14, 16*0 + 12, 16*3 + 12, 1024, 1032 + 1, 1032 + 2}},
		{at(t, rooks, 1, 15, -1), "e8g8", []int{16*60 + 2, 16*62 + 2, 16*63 + 4, 16*61 + 4, 1024, 1032 + 4, 1032 + 8}},
		{at(t, rooks, 1, 15, -1), "e8c8", []int{16*60 + 2, 16*58 + 2, 16*56 + 4, 16*59 + 4, 1024, 1032 + 4, 1032 + 8}},
		{at(t, pawns, 0, 15, 43), "e5d6", []int{16*36 + 9, 16*43 + 9, 16*35 + 7, 1024, 1056 + 43}},
		{at(t, pawns, 0, 15, 43), "e5e6", []int{16*36 + 9, 16*44 + 9, 1024, 1056 + 43}},
		{at(t, pawns, 1, 15, 21), "g4f3", []int{16*30 + 7, 16*21 + 7, 16*29 + 9, 1024, 1056 + 21}},
		{at(t, pawns, 0, 15, -1), "b7b8n", []int{16*49 + 9, 16*57 + 10, 1024}},
		{at(t, pawns, 0, 15, -1), "b7a8q", []int{16*49 + 9, 16*56 + 13, 16*56 + 4, 1024, 1032 + 8}},
		{at(t, pawns, 0, 15, -1), "g7h8b", []int{16*54 + 9, 16*63 + 11, 16*63 + 4, 1024, 1032 + 4}},
		{at(t, pawns, 1, 15, -1), "c2c1r", []int{16*10 + 7, 16*2 + 4, 1024}},
		{at(t, "4k3/4p3/8/8/8/8/8/4K3", 1, 0, -1), "e7e5", []int{16*52 + 7, 16*36 + 7, 1024, 1056 + 44}},
		{at(t, "4k3/4p3/8/8/8/8/8/4K3", 1, 0, -1), "e8d7", []int{16*60 + 2, 16*51 + 2, 1024}},
	} {
		var add uint64
		for _, n := range c.adds {
			add ^= all.of(n, 0)
		}
		q := played(t, c.p, c.m)[1]
		k := Of(c.p)
		if Of(q) != k^add || Behind(k, c.p, q) != k^add || Behind(k^add, q, c.p) != k {
			t.Errorf("%s %s: %x %x and back %x, not %x and %x", show(c.p), c.m, Of(q), Behind(k, c.p, q), Behind(k^add, q, c.p), k^add, k)
		}
	}
}

// P17.2: what is alike changes no key, whatever key that is.
func TestBehindAlike(t *testing.T) {
	for _, p := range append(drawn(40), bare(), pos.First(), api.Pos{}) {
		for _, k := range append(keys, Of(p)) {
			if got := Behind(k, p, p); got != k {
				t.Fatalf("%s, %x: %x", show(p), k, got)
			}
		}
	}
}

// P17.2: two that differ in one square alone, men or none there, and numbers that are neither.
func TestBehindSquare(t *testing.T) {
	all := mixes{}
	some := []int8{0, 1, 2, 3, 4, 5, 6, 7, 8, 16, 119, 120, 127, -1, -2, -3, -4, -5, -6, -7, -8, -9, -16, -121, -128}
	for s := range 64 {
		for _, m := range some {
			for _, n := range some {
				p, q := pos.First(), pos.First()
				p.At[s], q.At[s] = m, n
				if !leads(t, all, p, q) {
					return
				}
			}
		}
	}
}

// P17.2: two that differ in the side alone, in rights alone, in Ep alone, and in all of them and all squares at once.
func TestBehindRest(t *testing.T) {
	all := mixes{}
	sets := map[string]func(p *api.Pos, n int){
		"side":   func(p *api.Pos, n int) { p.Turn = n },
		"rights": func(p *api.Pos, n int) { p.Castle = n },
		"Ep":     func(p *api.Pos, n int) { p.Ep = n },
		"all": func(p *api.Pos, n int) {
			p.Turn, p.Castle, p.Ep = n, n, n
			for s := range p.At {
				p.At[s] = int8(n + s)
			}
		},
	}
	numbers := odd
	for n := range 64 {
		numbers = append(numbers, n)
	}
	for what, set := range sets {
		for _, from := range numbers {
			for _, to := range numbers {
				p, q := pos.First(), pos.First()
				set(&p, from)
				set(&q, to)
				if !leads(t, all, p, q) {
					t.Errorf("%s: %d to %d", what, from, to)
					return
				}
			}
		}
	}
}

// P17.2: a key that isn't p's is changed by the same, by what is unlike alone.
func TestBehindOther(t *testing.T) {
	all := mixes{}
	some := append(drawn(20), bare(), pos.First())
	for _, p := range some {
		for _, q := range some {
			for _, k := range keys {
				if got, want := Behind(k, p, q), k^all.key(p)^all.key(q); got != want {
					t.Fatalf("%x, %s to %s: %x, not %x", k, show(p), show(q), got, want)
				}
			}
		}
	}
}

// P17.1: keys tell apart the positions of the games, but where two are the same.
func TestApart(t *testing.T) {
	told := map[uint64]api.Pos{}
	for _, game := range games {
		for _, p := range played(t, pos.First(), game) {
			if q, is := told[Of(p)]; is && q != p {
				t.Errorf("%s and %s: %x", show(p), show(q), Of(p))
			}
			told[Of(p)] = p
		}
	}
}

// P17.1, P17.2: the same is answered again, whatever was asked between.
func TestAgain(t *testing.T) {
	some := drawn(30)
	var first []uint64
	for range 3 {
		var now []uint64
		for i, p := range some {
			q := some[len(some)-1-i]
			now = append(now, Of(p), Behind(Of(p), p, q), Mix(uint64(i)))
		}
		if first == nil {
			first = now
		}
		for i, k := range now {
			if k != first[i] {
				t.Fatalf("%d: %x, then %x", i, first[i], k)
			}
		}
	}
}
