package task

import (
	"math"
	"sort"
	"strconv"
	"strings"
	"testing"
	"unsafe"

	"alfil/api"
	"alfil/board"
	"alfil/forsyth"
	"alfil/roll"
)

// names are all names of squares, in their order, written out so that no test leans on the program's own sums.
const names = "a1 b1 c1 d1 e1 f1 g1 h1 " +
	"a2 b2 c2 d2 e2 f2 g2 h2 " +
	"a3 b3 c3 d3 e3 f3 g3 h3 " +
	"a4 b4 c4 d4 e4 f4 g4 h4 " +
	"a5 b5 c5 d5 e5 f5 g5 h5 " +
	"a6 b6 c6 d6 e6 f6 g6 h6 " +
	"a7 b7 c7 d7 e7 f7 g7 h7 " +
	"a8 b8 c8 d8 e8 f8 g8 h8"

// castles are the letters of all sums of rights, from 1 on.
const castles = "K Q KQ k Kk Qk KQk q Kq Qq KQq kq Kkq Qkq KQkq"

// home is a Forsyth text of kings and rooks at home, and of men by which e3 is a square that was passed.
const home = "r3k2r/8/8/8/4P3/8/8/R3K2R"

// strange are bytes and signs of which hardly any goes on anywhere.
var strange = []string{"x", "X", " ", "\t", "\r", "\r\n", "0", "\x00", "é", "♔", "\xff", "\x80", "\xe2\x99", "\ufeff", "١"}

// odd are numbers that are nothing here; some would be something if they were cut to fewer bits, or their sign were lost.
var odd = []int{-2, -3, -5, -15, -64, -1000, 1001, 1002, 1024, 1<<16 - 1, 1 << 16, 1<<16 + 1, 1<<32 - 1, 1 << 32, 1<<32 + 1, math.MinInt32, math.MaxInt32, math.MinInt, math.MinInt + 1, math.MaxInt - 1, math.MaxInt}

// text is lines, each ended by a line feed.
func text(lines ...string) string { return strings.Join(lines, "\n") + "\n" }

// mate is the beginning of a text whose options are to come: a mate in two moves.
func mate() string { return text("begin", "forsyth "+home, "stip #2") }

// mated is the task that mate begins, without options.
func mated() api.Task { return plain(home, api.Stip{Kind: 1, Goal: 1, N: 2}, 0) }

// plain is a task without options.
func plain(rows string, s api.Stip, turn int) api.Task {
	b, _, e := forsyth.Read(rows)
	if e != api.OK {
		panic(rows)
	}
	return api.Task{Pos: api.Pos{At: b, Turn: turn, Ep: -1}, Stip: s, Retro: -1}
}

// with is k with something else.
func with(k api.Task, change func(k *api.Task)) api.Task {
	change(&k)
	return k
}

// reads holds the task of a text.
func reads(t *testing.T, s string, want api.Task) {
	t.Helper()
	if k, at, e := Read(s); k != want || at != len(s) || e != api.OK {
		t.Errorf("%q: %v %d %d, not %v", s, k, at, e, want)
	}
}

// wrong holds the place of the first byte with which no text goes on, whatever stands behind it.
func wrong(t *testing.T, s string, at int) {
	t.Helper()
	for _, b := range []string{"", "x", "\n", "0", "\nend\n", "option try\nend\n", "♔", "\xff"} {
		if !fails(t, s[:at+1]+b, at, api.ErrText) || !fails(t, s+b, at, api.ErrText) {
			return
		}
	}
}

// open holds that a text is but the beginning of one.
func open(t *testing.T, s string) {
	t.Helper()
	fails(t, s, len(s), api.ErrEnd)
}

// fails holds an error of a text.
func fails(t *testing.T, s string, place int, want api.Errno) bool {
	t.Helper()
	k, at, e := Read(s)
	if k != (api.Task{}) || at != place || e != want {
		t.Errorf("%.400q: %v %d %d, not %d %d", s, k, at, e, place, want)
		return false
	}
	return true
}

// writes holds the text of a task, and what is read of that.
func writes(t *testing.T, k api.Task, want string) {
	t.Helper()
	if s, e := Write(k); s != want || e != api.OK {
		t.Errorf("%v: %q %d, not %q", k, s, e, want)
		return
	}
	reads(t, want, k)
}

// P16.1, P16.2: a whole problem with a Forsyth text, without options.
func TestReadForsyth(t *testing.T) {
	s := text("begin", "forsyth 8/8/8/8/8/1K6/8/k6R", "stip #1", "end")
	k, at, e := Read(s)
	if at != len(s) || e != api.OK {
		t.Fatal(at, e)
	}
	var b api.Board
	b[0], b[7], b[17] = -6, 4, 6
	want := api.Task{Pos: api.Pos{At: b, Turn: 0, Castle: 0, Ep: -1}, Stip: api.Stip{Kind: 1, Goal: 1, N: 1}, Retro: -1}
	if k != want {
		t.Fatal(k)
	}
	writes(t, k, s)
}

// P16.1, P16.2: a whole problem with a roll; it is written by a Forsyth text.
func TestReadRoll(t *testing.T) {
	var b api.Board
	b[6], b[8], b[60], b[63] = 6, 1, -6, -5
	want := api.Task{Pos: api.Pos{At: b, Ep: -1}, Stip: api.Stip{Kind: 2, Goal: 2, N: 3}, Retro: -1}
	for _, men := range []string{"white Kg1 Pa2 black Ke8 Qh8", "white Pa2 Kg1 black Qh8 Ke8"} {
		reads(t, text("begin", "pieces "+men, "stip s=3", "end"), want)
	}
	writes(t, want, text("begin", "forsyth 4k2q/8/8/8/8/8/P7/6K1", "stip s=3", "end"))
	reads(t, text("begin", "pieces white black", "stip #1", "end"), plain("8/8/8/8/8/8/8/8", api.Stip{Kind: 1, Goal: 1, N: 1}, 0))
	reads(t, text("begin", "pieces white Pa1 black", "stip #1", "end"), plain("8/8/8/8/8/8/8/P7", api.Stip{Kind: 1, Goal: 1, N: 1}, 0))
	reads(t, text("begin", "pieces white black Nh8", "stip #1", "end"), plain("7n/8/8/8/8/8/8/8", api.Stip{Kind: 1, Goal: 1, N: 1}, 0))
}

// P16.1, P16.2: boards as they come: whatever stands on them, digits that follow one another; the shortest text is written.
func TestReadBoards(t *testing.T) {
	for rows, short := range map[string]string{
		"8/8/8/8/8/8/8/8":                             "8/8/8/8/8/8/8/8",
		"44/17/1223/11111111/8/8/71/3221":             "8/8/8/8/8/8/8/8",
		"rnbqkbnr/pppppppp/8/8/8/8/PPPPPPPP/RNBQKBNR": "rnbqkbnr/pppppppp/8/8/8/8/PPPPPPPP/RNBQKBNR",
		"12k112/8/8/8/8/8/8/KKKKPPPP":                 "3k4/8/8/8/8/8/8/KKKKPPPP",
		"pppppppp/8/8/8/8/8/8/11Q11111":               "pppppppp/8/8/8/8/8/8/2Q5",
	} {
		reads(t, text("begin", "forsyth "+rows, "stip #1", "end"), plain(short, api.Stip{Kind: 1, Goal: 1, N: 1}, 0))
		writes(t, plain(rows, api.Stip{Kind: 1, Goal: 1, N: 1}, 0), text("begin", "forsyth "+short, "stip #1", "end"))
	}
}

// aims are stipulations of every kind, and who begins.
var aims = []struct {
	text string
	s    api.Stip
	turn int
}{
	{"#1", api.Stip{Kind: 1, Goal: 1, N: 1}, 0}, {"=64", api.Stip{Kind: 1, Goal: 2, N: 64}, 0},
	{"s#2", api.Stip{Kind: 2, Goal: 1, N: 2}, 0}, {"s=12", api.Stip{Kind: 2, Goal: 2, N: 12}, 0},
	{"r#3", api.Stip{Kind: 3, Goal: 1, N: 3}, 0}, {"r=1", api.Stip{Kind: 3, Goal: 2, N: 1}, 0},
	{"semi-r#2", api.Stip{Kind: 4, Goal: 1, N: 2}, 0}, {"semi-r=5", api.Stip{Kind: 4, Goal: 2, N: 5}, 0},
	{"h#3", api.Stip{Kind: 5, Goal: 1, N: 3}, 1}, {"h=10", api.Stip{Kind: 5, Goal: 2, N: 10}, 1},
	{"h#0.5", api.Stip{Kind: 5, Goal: 1, N: 0, Half: true}, 0}, {"h=2.5", api.Stip{Kind: 5, Goal: 2, N: 2, Half: true}, 0},
	{"ser-h#7", api.Stip{Kind: 6, Goal: 1, N: 7}, 1}, {"ser-h=1", api.Stip{Kind: 6, Goal: 2, N: 1}, 1},
	{"ser-#6", api.Stip{Kind: 7, Goal: 1, N: 6}, 0}, {"ser-=20", api.Stip{Kind: 7, Goal: 2, N: 20}, 0},
	{"dia 1", api.Stip{Kind: 8, N: 1}, 0}, {"dia 64", api.Stip{Kind: 8, N: 64}, 0},
}

// P16.1, P16.2: a stipulation of every kind: who begins is to move, where no side is named, and who is named, where one is; a side is written only if it is the other one.
func TestReadStip(t *testing.T) {
	for _, a := range aims {
		head := text("begin", "forsyth "+home, "stip "+a.text)
		k := plain(home, a.s, a.turn)
		writes(t, k, head+"end\n")
		for turn, name := range []string{"white", "black"} {
			line := "option side " + name + "\n"
			reads(t, head+line+"end\n", plain(home, a.s, turn))
			if turn != a.turn {
				writes(t, plain(home, a.s, turn), head+line+"end\n")
			}
		}
	}
}

// P16.1: a stipulation as layer 15 has it: it goes on as far as it can, and its line ends there.
func TestReadStipWrong(t *testing.T) {
	head := text("begin", "forsyth "+home) + "stip "
	for s, at := range map[string]int{
		"\n": 0, "x": 0, "#\n": 1, "#0": 1, "#65": 2, "#2.5": 2, "#2 ": 2, "#2x": 2, "=2\r\n": 2, "s#2.": 3, "ser-\n": 4, "ser-x": 4, "semi-#": 5, "h#0\n": 3, "h#2.\n": 4, "h#2.4": 4, "h#2.5\r": 5, "h#2.55": 5, "h=64.5.": 6, "h#2#": 3,
		"dia4": 3, "dia 0": 4, "dia 65": 5, "dia 2.5": 5, "dia 4\x00": 5, "h#2♔": 3, "\xff": 0, "-1": 0, " #2": 0,
	} {
		wrong(t, head+s, len(head)+at)
	}
	for _, s := range []string{"", "s", "semi-", "ser-h", "h", "#", "#2", "#64", "h#0", "h#0.", "h#0.5", "h#2", "h#2.", "h#64.5", "di", "dia", "dia ", "dia 6", "dia 64"} {
		open(t, head+s)
	}
}

// given are lines of options, each with what it makes of a task.
var given = []struct {
	line   string
	change func(k *api.Task)
}{
	{"option try", func(k *api.Task) { k.Try = true }},
	{"option set", func(k *api.Task) { k.Set = true }},
	{"option side black", func(k *api.Task) { k.Pos.Turn = 1 }},
	{"option maxsol 12", func(k *api.Task) { k.Max = 12 }},
	{"option castle Kq", func(k *api.Task) { k.Pos.Castle = 9 }},
	{"option ep e3", func(k *api.Task) { k.Pos.Ep = 20 }},
	{"option retro 0", func(k *api.Task) { k.Retro = 0 }},
}

// P16.1, P16.2: each option alone, and some of them in every choice, written in the document's order.
func TestOptions(t *testing.T) {
	for choice := range 1 << len(given) {
		k, s, back := mated(), mate(), mate()
		for n, o := range given {
			if choice&(1<<n) != 0 {
				o.change(&k)
				s += o.line + "\n"
			}
		}
		for n := len(given) - 1; n >= 0; n-- {
			if choice&(1<<n) != 0 {
				back += given[n].line + "\n"
			}
		}
		writes(t, k, s+"end\n")
		reads(t, back+"end\n", k)
		open(t, s)
		open(t, back)
	}
}

// orders calls f with each order of what is in all, from a place on.
func orders(all []int, from int, f func(all []int)) {
	if from == len(all) {
		f(all)
		return
	}
	for n := from; n < len(all); n++ {
		all[from], all[n] = all[n], all[from]
		orders(all, from+1, f)
		all[from], all[n] = all[n], all[from]
	}
}

// P16.1: all options in every order tell the same; behind them nothing but the end comes.
func TestOptionsOrder(t *testing.T) {
	want := mated()
	for _, o := range given {
		o.change(&want)
	}
	many := 0
	orders([]int{0, 1, 2, 3, 4, 5, 6}, 0, func(all []int) {
		s := mate()
		for _, n := range all {
			s += given[n].line + "\n"
		}
		reads(t, s+"end\n", want)
		fails(t, s+"option try\n", len(s), api.ErrText)
		fails(t, s+"o", len(s), api.ErrText)
		many++
	})
	if many != 5040 {
		t.Error(many)
	}
}

// P16.1: an option that comes twice is wrong where no other option goes on, and is the only one that is.
func TestOptionsTwice(t *testing.T) {
	for _, c := range []struct {
		first, again string
		at           int // behind option and its blank
	}{
		{"try", "try", 0}, {"set", "set", 1}, {"side white", "side white", 1}, {"side white", "side black", 1}, {"side black", "side white", 1}, {"side black", "side black", 1},
		{"maxsol 1", "maxsol 1", 0}, {"maxsol 7", "maxsol 1000", 0}, {"castle K", "castle K", 0}, {"castle K", "castle Q", 0}, {"castle KQ", "castle kq", 0},
		{"ep e3", "ep e3", 0}, {"ep e3", "ep a6", 0}, {"retro 0", "retro 0", 0}, {"retro 0", "retro 4", 0},
	} {
		head := mate() + "option " + c.first + "\n"
		line := "option " + c.again + "\n"
		wrong(t, head+line, len(head)+7+c.at)
		// Others between leave it wrong.
		between := "option maxsol 3\n"
		if strings.HasPrefix(c.first, "maxsol") {
			between = "option retro 1\n"
		}
		wrong(t, head+between+line, len(head)+len(between)+7+c.at)
		wrong(t, head+line+"end\n", len(head)+7+c.at)
	}
	// With both that begin so, none goes on by an s.
	for _, both := range []string{"option set\noption side white\n", "option side black\noption set\n"} {
		for _, again := range []string{"option set\n", "option side white\n", "option side black\n"} {
			wrong(t, mate()+both+again, len(mate())+len(both)+7)
		}
	}
	// The first of both leaves the other one.
	reads(t, mate()+"option set\noption side white\nend\n", with(mated(), func(k *api.Task) { k.Set = true }))
	reads(t, mate()+"option side white\noption set\nend\n", with(mated(), func(k *api.Task) { k.Set = true }))
}

// optionEnds holds what stands behind option and its blank, and where it is wrong.
func optionEnds(t *testing.T, cases map[string]int) {
	t.Helper()
	for s, at := range cases {
		for _, ahead := range []string{mate(), mate() + "option try\n"} {
			wrong(t, ahead+"option "+s, len(ahead)+7+at)
		}
	}
}

// optionOpens holds what may still go on behind option and its blank.
func optionOpens(t *testing.T, cases ...string) {
	t.Helper()
	for _, s := range cases {
		open(t, mate()+"option "+s)
		open(t, mate()+"option try\noption "+s)
	}
}

// P16.1: words of options: what isn't one, what stands behind one.
func TestOptionsWrong(t *testing.T) {
	head := mate()
	for s, at := range map[string]int{"x": 0, "\n": 0, " option try": 0, "opt\n": 3, "option\n": 6, "options": 6, "optiontry": 6, "Option": 0, "option  try": 7, "option\ttry": 6, "option x": 7, "option \n": 7, "option end": 8, "option Try": 7, "option option": 7, "try\n": 0, "set\n": 0, "en\n": 2, "END": 0, "stip #2\n": 0, "begin\n": 0, "forsyth 8": 0, "oend": 1, "\r\n": 0, "\xff": 0, "é": 0, "\x00": 0} {
		wrong(t, head+s, len(head)+at)
	}
	optionEnds(t, map[string]int{
		"set ": 3, "set white": 3, "setx": 3, "sett": 3, "se\n": 2, "s\n": 1, "sx": 1, "sat": 1, "set\r\n": 3, "set\xff": 3,
		"side\n": 4, "side \n": 5, "side  white": 5, "side x": 5, "side White": 5, "side bl\n": 7, "side white ": 10, "side blackx": 10, "side white black": 10, "side w\n": 6, "side wb": 6, "side 0": 5, "sidewhite": 4, "side white\r\n": 10, "side wh♔": 7,
		"castl\n": 5, "maxsol\n": 6, "maxsol1": 6, "mat": 2, "retr ": 4, "retro\n": 5, "e3": 1, "ep\n": 2, "epe3": 2, "é": 0, "♔": 0, "\xff": 0, "\x00": 0,
	})
	optionOpens(t, "", "s", "se", "set", "si", "side", "side ", "side w", "side whit", "side white", "side b", "side black", "m", "maxsol", "maxsol ", "c", "castle", "castle ", "e", "ep", "ep ", "r", "retr", "retro", "retro ")
	wrong(t, head+"option try ", len(head)+10)
	wrong(t, head+"option trys\n", len(head)+10)
	wrong(t, head+"option tr\n", len(head)+9)
	wrong(t, head+"option try\r\n", len(head)+10)
	open(t, head+"option t")
	open(t, head+"option try")
	open(t, head+"option try\n")
}

// P16.1, P16.2: maxsol's numbers, all of them, and those that are none.
func TestMaxsol(t *testing.T) {
	for n := 1; n <= 1000; n++ {
		writes(t, with(mated(), func(k *api.Task) { k.Max = n }), mate()+"option maxsol "+strconv.Itoa(n)+"\nend\n")
	}
	optionEnds(t, map[string]int{
		"maxsol 0": 7, "maxsol 00": 7, "maxsol 01": 7, "maxsol 1001": 10, "maxsol 1002": 10, "maxsol 1010": 10, "maxsol 2000": 10, "maxsol 9999": 10, "maxsol 10000": 11, "maxsol 4294967297": 10, "maxsol \n": 7, "maxsol  1": 7, "maxsol -1": 7, "maxsol +1": 7, "maxsol x": 7, "maxsol 1 ": 8, "maxsol 1x": 8, "maxsol 10.5": 9, "maxsol 999\r\n": 10, "maxsol 1000 ": 11, "maxsol ١": 7, "maxsol 1\xff": 8, "maxsol 12 13": 9,
	})
	optionOpens(t, "maxsol 1", "maxsol 9", "maxsol 10", "maxsol 100", "maxsol 1000", "maxsol 999", "maxsol 1000\n")
}

// P16.1, P16.2: retro's numbers, all of them, and those that are none.
func TestRetro(t *testing.T) {
	for n := range 5 {
		writes(t, with(mated(), func(k *api.Task) { k.Retro = n }), mate()+"option retro "+strconv.Itoa(n)+"\nend\n")
	}
	optionEnds(t, map[string]int{
		"retro 5": 6, "retro 6": 6, "retro 9": 6, "retro 00": 7, "retro 01": 7, "retro 10": 7, "retro 40": 7, "retro 44": 7, "retro -1": 6, "retro \n": 6, "retro x": 6, "retro 0 ": 7, "retro 4.5": 7, "retro  1": 6, "retro 3\r": 7, "retro ٣": 6, "retro 2x": 7, "retro 1\n\n": 8,
	})
	optionOpens(t, "retro 0", "retro 1", "retro 4", "retro 4\n")
}

// P16.1, P16.2: castle's letters: every sum of rights, backed or not, and each text of up to five letters that is none.
func TestCastle(t *testing.T) {
	sums := map[string]int{}
	for n, s := range strings.Split(castles, " ") {
		sums[s] = n + 1
		writes(t, with(mated(), func(k *api.Task) { k.Pos.Castle = n + 1 }), mate()+"option castle "+s+"\nend\n")
		unbacked := with(plain("8/8/8/8/8/8/8/8", api.Stip{Kind: 5, Goal: 1, N: 3}, 1), func(k *api.Task) { k.Pos.Castle = n + 1 })
		writes(t, unbacked, text("begin", "forsyth 8/8/8/8/8/8/8/8", "stip h#3", "option castle "+s, "end"))
		open(t, mate()+"option castle "+s)
	}
	if len(sums) != 15 {
		t.Fatal(len(sums))
	}
	begins := func(s string) bool {
		for whole := range sums {
			if strings.HasPrefix(whole, s) {
				return true
			}
		}
		return false
	}
	ahead := mate() + "option castle "
	texts := []string{""}
	for n := 0; n < len(texts); n++ {
		s := texts[n]
		at := 0
		for at < len(s) && begins(s[:at+1]) {
			at++
		}
		switch {
		case at < len(s):
			fails(t, ahead+s+"\nend\n", len(ahead)+at, api.ErrText)
			fails(t, ahead+s, len(ahead)+at, api.ErrText)
		case s == "":
			open(t, ahead)
			wrong(t, ahead+"\n", len(ahead))
		default:
			reads(t, ahead+s+"\nend\n", with(mated(), func(k *api.Task) { k.Pos.Castle = sums[s] }))
		}
		if len(s) < 5 {
			texts = append(texts, s+"K", s+"Q", s+"k", s+"q")
		}
	}
	optionEnds(t, map[string]int{"castle -": 7, "castle x": 7, "castle  K": 7, "castle K Q": 8, "castle K,Q": 8, "castle KQkq ": 11, "castle Kx": 8, "castle ♔": 7, "castle K\xff": 8, "castle KQkqK": 11, "castle KK": 8, "castle qk": 8, "castle QK": 8, "castle kQ": 8, "castle 1": 7, "castle K\r\n": 8})
}

// P16.1, P16.2: ep's squares, all of them, whatever stands there, and what is no square's name.
func TestEp(t *testing.T) {
	for n, name := range strings.Split(names, " ") {
		writes(t, with(mated(), func(k *api.Task) { k.Pos.Ep = n }), mate()+"option ep "+name+"\nend\n")
	}
	optionEnds(t, map[string]int{"ep \n": 3, "ep i1": 3, "ep `1": 3, "ep a0": 4, "ep a9": 4, "ep e9": 4, "ep A1": 3, "ep a\n": 4, "ep aa": 4, "ep -": 3, "ep  e3": 3, "ep e3 ": 5, "ep e33": 5, "ep e3\r\n": 5, "ep 33": 3, "ep é3": 3, "ep e٣": 4, "ep e\xff": 4, "ep h8h": 5})
	optionOpens(t, "ep a", "ep h", "ep a1", "ep h8", "ep h8\n")
}

// P16.1: lines in another order, missing, or with something else.
func TestLines(t *testing.T) {
	rows, aim := "forsyth "+home, "stip #2"
	for _, c := range []struct {
		s  string
		at int
	}{
		{text(rows, aim, "end"), 0}, {"\nbegin\n", 0}, {"x", 0}, {"Begin", 0}, {"end\n", 0}, {"bégin", 1}, {"begi\n", 4}, {"begin ", 5}, {"begins", 5}, {"begin\r\n", 5}, {" begin", 0}, {"\ufeffbegin\n", 0}, {"\xff", 0}, {"b\x00", 1}, {"♔", 0},
		{"begin\nx", 6}, {"begin\n\n", 6}, {text("begin", aim, rows, "end"), 6}, {text("begin", "begin"), 6}, {text("begin", "end"), 6}, {text("begin", "option try"), 6}, {"begin\nfx", 7}, {"begin\nforsyth\n", 13}, {"begin\nforsythe", 13}, {"begin\nforsyth8/", 13}, {"begin\nForsyth", 6}, {"begin\npx", 7}, {"begin\npieces\n", 12}, {"begin\npieces8", 12}, {"begin\npiece ", 11}, {"begin\nforsyth  8", 14}, {"begin\npieces  white", 13},
		{text("begin", rows, "end"), 7 + len(rows)}, {text("begin", rows, rows), 7 + len(rows)}, {text("begin", rows, "option try", aim), 7 + len(rows)}, {text("begin", rows, "pieces white black"), 7 + len(rows)}, {text("begin", rows, ""), 7 + len(rows)}, {text("begin", rows, "stip\n"), 7 + len(rows) + 4}, {text("begin", rows, "stip#2"), 7 + len(rows) + 4}, {text("begin", rows, "sip"), 7 + len(rows) + 1}, {text("begin", rows, "stip "), 7 + len(rows) + 5}, {text("begin", rows, "Stip #2"), 7 + len(rows)},
		{mate() + aim + "\n", len(mate())}, {mate() + "\n", len(mate())}, {mate() + "enx", len(mate()) + 2}, {mate() + "end ", len(mate()) + 3}, {mate() + "ends", len(mate()) + 3}, {mate() + "end\r\n", len(mate()) + 3}, {mate() + "end\xff", len(mate()) + 3},
	} {
		wrong(t, c.s, c.at)
	}
}

// P16.1: whatever stands behind the end is wrong from its first byte on.
func TestBehindEnd(t *testing.T) {
	for _, whole := range []string{mate() + "end\n", mate() + "option try\noption retro 4\nend\n", text("begin", "pieces white Ka1 black", "stip dia 3", "end")} {
		for _, b := range append([]string{"\n", "end\n", "begin\n", "option set\n", whole, "e", "\n\n"}, strange...) {
			fails(t, whole+b, len(whole), api.ErrText)
		}
	}
}

// P16.1: a Forsyth text that is wrong, or whose line ends ahead of its own end.
func TestForsythWrong(t *testing.T) {
	head := "begin\nforsyth "
	for s, at := range map[string]int{
		"\n": 0, "8/9": 2, "9": 0, "0": 0, "/": 0, "x": 0, " 8": 0, "8\n": 1, "8/\n": 2, "7\n": 1, "7/": 1, "8/8\n": 3, "8/8/8/8/8/8/8\n": 13, "8/8/8/8/8/8/8/\n": 14, "8/8/8/8/8/8/8/7\n": 15, "8/8/8/8/8/8/8/8/": 15, "8/8/8/8/8/8/8/8 ": 15, "8/8/8/8/8/8/8/81": 15, "8/8/8/8/8/8/8/8\r\n": 15, "88": 1, "54": 1, "8/K8": 3, "8/ppppppppp": 10, "8/♔7": 2, "8/é": 2, "8/\xff": 2, "8/8/\x00": 4, "k\n": 1, "rnbqkbnr\n": 8, "white": 0, "8/8\nstip #2\nend\n": 3, "8/x\n": 2, "8/8x\n": 3,
	} {
		wrong(t, head+s, len(head)+at)
	}
	for _, s := range []string{"", "8", "k", "7", "8/", "8/8", "8/8/8/8/8/8/8", "8/8/8/8/8/8/8/", "8/8/8/8/8/8/8/7", "8/8/8/8/8/8/8/8", "rnbqkbnr/pppppppp/8/8/8/8/PPPPPPPP/RNBQKBNR"} {
		open(t, head+s)
	}
	open(t, head+"8/8/8/8/8/8/8/8\n")
}

// P16.1: a roll that is wrong, at a square that was named already at its rank's digit, or whose line ends ahead of its own end.
func TestRollWrong(t *testing.T) {
	head := "begin\npieces "
	for s, at := range map[string]int{
		"white Kg1 black Kg1": 18, "white Kg1 Pg1": 12, "white Kg1 Kg1\n": 12, "white black Ka1 Qa1\n": 18, "white Ka1 Ka2 Ka3 black Ka2": 26,
		"\n": 0, "w\n": 1, "white\n": 5, "white \n": 6, "white K\n": 7, "white Kg\n": 8, "white Kg1\n": 9, "white Kg1 \n": 10, "white Kg1 b\n": 11, "white Kg1 blac\n": 14, "white black \n": 12, "white Kg1 black K\n": 17, "white Kg1 black Kh\n": 18,
		"black": 0, "White": 0, "white  K": 6, "white Kg9": 8, "white Kg0": 8, "white Ki1": 7, "white kg1": 6, "white K♔": 7, "white ♔": 6, "white\t": 5, "white Kg1,": 9, "white Kg1 black Kg2 white": 20, "white Kg1 black\r\n": 15, "white black \xff": 12, "white black\x00": 11, "whiteKg1": 5, "8/8": 0, "white black x\n": 12, "white Kg1 black Kg1 x\n": 18,
	} {
		wrong(t, head+s, len(head)+at)
	}
	for _, s := range []string{"", "w", "white", "white ", "white K", "white Kg", "white Kg1", "white Kg1 ", "white b", "white black", "white black ", "white black K", "white black Kg", "white Kg1 black Kg2"} {
		open(t, head+s)
	}
	open(t, head+"white black\n")
	// A file all of whose squares are named isn't wrong ahead of the rank.
	full := "white Pa1 Pa2 Pa3 Pa4 Pa5 Pa6 Pa7 Pa8 black Pa"
	open(t, head+full)
	for rank := 1; rank <= 8; rank++ {
		wrong(t, head+full+strconv.Itoa(rank), len(head)+len(full))
	}
}

// P16.1: the beginnings of texts: each but the whole one is the beginning of one, the empty one among them.
func TestBeginnings(t *testing.T) {
	open(t, "")
	s := text("begin", "forsyth 44/r3k2r/8/8/4P3/8/8/R3K2R", "stip h#2.5", "option maxsol 100", "option castle Qkq", "option set", "option ep e3", "option try", "option retro 4", "option side black", "end")
	p := text("begin", "pieces white Ke1 Rh1 black Ke8 Qa2", "stip dia 20", "option side white", "end")
	for _, whole := range []string{s, p} {
		for end := range len(whole) {
			open(t, whole[:end])
		}
		if k, at, e := Read(whole); k.Stip.N == 0 || at != len(whole) || e != api.OK {
			t.Error(k, at, e)
		}
	}
}

// value is what a line of an option tells.
type value struct {
	name string
	n    int
}

// grammar is what lines there may be, and how they begin.
type grammar struct {
	options map[string]value
	begins  map[string]map[string]bool // the options of which a line begins so
	stips   map[string]api.Stip
	opens   map[string]bool // how stipulations begin
}

// rules are all lines of options and all stipulations, put together one by one.
func rules() grammar {
	g := grammar{options: map[string]value{"try": {"try", 1}, "set": {"set", 1}, "side white": {"side", 0}, "side black": {"side", 1}}, begins: map[string]map[string]bool{}, stips: map[string]api.Stip{}, opens: map[string]bool{}}
	for n := 1; n <= 1000; n++ {
		g.options["maxsol "+strconv.Itoa(n)] = value{"maxsol", n}
	}
	for n, s := range strings.Split(castles, " ") {
		g.options["castle "+s] = value{"castle", n + 1}
	}
	for n, s := range strings.Split(names, " ") {
		g.options["ep "+s] = value{"ep", n}
	}
	for n := range 5 {
		g.options["retro "+strconv.Itoa(n)] = value{"retro", n}
	}
	for s, v := range g.options {
		line := "option " + s
		for end := range len(line) + 1 {
			if g.begins[line[:end]] == nil {
				g.begins[line[:end]] = map[string]bool{}
			}
			g.begins[line[:end]][v.name] = true
		}
	}
	for n := range 65 {
		for kind, head := range map[int]string{1: "", 2: "s", 3: "r", 4: "semi-r", 5: "h", 6: "ser-h", 7: "ser-"} {
			for goal, sign := range map[int]string{1: "#", 2: "="} {
				if n > 0 {
					g.stips[head+sign+strconv.Itoa(n)] = api.Stip{Kind: kind, Goal: goal, N: n}
				}
				if kind == 5 {
					g.stips[head+sign+strconv.Itoa(n)+".5"] = api.Stip{Kind: 5, Goal: goal, N: n, Half: true}
				}
			}
		}
		if n > 0 {
			g.stips["dia "+strconv.Itoa(n)] = api.Stip{Kind: 8, N: n}
		}
	}
	for s := range g.stips {
		for end := range len(s) + 1 {
			g.opens[s[:end]] = true
		}
	}
	return g
}

// diagramOf is the board of a line; whether it may go on, and whether it is whole.
func diagramOf(line string) (b api.Board, goes, whole bool) {
	for word, read := range map[string]func(string) (api.Board, int, api.Errno){"forsyth ": forsyth.Read, "pieces ": roll.Read} {
		if strings.HasPrefix(word, line) {
			return b, true, false
		}
		if rest, is := strings.CutPrefix(line, word); is {
			b, _, e := read(rest)
			return b, e != api.ErrText, e == api.OK
		}
	}
	return b, false, false
}

// begun is who begins.
func begun(s api.Stip) int {
	if s.Kind == 6 || s.Kind == 5 && !s.Half {
		return 1
	}
	return 0
}

// may tells the task of a text, whether one goes on with it, and whether it is whole: line by line, by what a line may be alone.
func (g grammar) may(t string) (k api.Task, goes, whole bool) {
	k.Pos.Ep, k.Retro = -1, -1
	lines := strings.Split(t, "\n")
	last := len(lines) - 1
	used := map[string]bool{}
	over := false
	for n, line := range lines {
		open := n == last
		switch {
		case over:
			return k, line == "" && open, line == "" && open
		case n == 0 && (line == "begin" || open && strings.HasPrefix("begin", line)):
		case n == 1:
			b, goes, whole := diagramOf(line)
			if !goes || !open && !whole {
				return k, false, false
			}
			k.Pos.At = b
		case n == 2:
			s, is := g.stips[strings.TrimPrefix(line, "stip ")]
			is = is && strings.HasPrefix(line, "stip ")
			rest, behind := strings.CutPrefix(line, "stip ")
			if !is && !(open && (strings.HasPrefix("stip ", line) || behind && g.opens[rest])) {
				return k, false, false
			}
			k.Stip, k.Pos.Turn = s, begun(s)
		case n > 2 && (line == "end" || open && strings.HasPrefix("end", line)):
			over = !open
		case n > 2 && open:
			free := false
			for name := range g.begins[line] {
				free = free || !used[name]
			}
			return k, free, false
		case n > 2 && strings.HasPrefix(line, "option "):
			v, is := g.options[line[7:]]
			if !is || used[v.name] {
				return k, false, false
			}
			used[v.name] = true
			v.tell(&k)
		default:
			return k, false, false
		}
	}
	return k, true, false
}

// tell sets what a line tells.
func (v value) tell(k *api.Task) {
	switch v.name {
	case "try":
		k.Try = true
	case "set":
		k.Set = true
	case "side":
		k.Pos.Turn = v.n
	case "maxsol":
		k.Max = v.n
	case "castle":
		k.Pos.Castle = v.n
	case "ep":
		k.Pos.Ep = v.n
	case "retro":
		k.Retro = v.n
	}
}

// agrees holds what is read of a text against the grammar.
func (g grammar) agrees(t *testing.T, s string) bool {
	want, place, err := api.Task{}, len(s), api.ErrEnd
	k, goes, whole := g.may(s)
	switch {
	case whole:
		want, err = k, api.OK
	case !goes:
		// The empty text goes on, and where one doesn't none that is longer does.
		place = sort.Search(len(s), func(n int) bool {
			_, goes, _ := g.may(s[:n+1])
			return !goes
		})
		err = api.ErrText
	}
	k, at, e := Read(s)
	if k != want || at != place || e != err {
		t.Errorf("%q: %v %d %d, not %v %d %d", s, k, at, e, want, place, err)
		return false
	}
	return true
}

// P16.1: texts with a byte or a sign more, less, or another one, held against a reading of its own.
func TestReadNear(t *testing.T) {
	g := rules()
	for _, s := range []string{
		text("begin", "forsyth 8/5k2/8/8/8/8/8/K6R", "stip #2", "option try", "option set", "option side white", "option maxsol 10", "option castle Kq", "option ep e3", "option retro 4", "end"),
		text("begin", "forsyth 8/8/8/8/8/1K6/8/k6R", "stip h#2.5", "option retro 0", "option castle KQkq", "option side black", "option ep a6", "end"),
		text("begin", "pieces white Kg1 Ra2 black Ke8", "stip ser-h=10", "option maxsol 100", "option set", "option castle k", "end"),
		text("begin", "pieces white black", "stip dia 6", "end"),
	} {
		for at := range len(s) + 1 {
			right := g.agrees(t, s[:at])
			for _, sign := range "abeghikKnopqQrstwxPR 01456/#.=\n♔" {
				right = right && g.agrees(t, s[:at]+string(sign)+s[at:])
				if at < len(s) {
					right = right && g.agrees(t, s[:at]+string(sign)+s[at+1:])
				}
			}
			for _, b := range []string{"\x00", "\x80", "\xff", "\xe2\x99", "\r", "option try\n", "end\n", "option castle Q\n"} {
				right = right && g.agrees(t, s[:at]+b+s[at:])
			}
			if at < len(s) {
				right = right && g.agrees(t, s[:at]+s[at+1:])
			}
			if !right {
				return
			}
		}
	}
}

// P16.1: up to four lines of options out of some, whole, with a byte less, and with one more, held against a reading of its own.
func TestOptionsNear(t *testing.T) {
	g := rules()
	lines := []string{"option try\n", "option set\n", "option side white\n", "option side black\n", "option maxsol 1000\n", "option castle KQkq\n", "option castle q\n", "option ep h8\n", "option retro 4\n", "end\n", "option retro 5\n", "\n"}
	texts := []string{""}
	for n := 0; n < len(texts); n++ {
		s := mate() + texts[n]
		for _, b := range []string{s, s[:len(s)-1], s + "o", s + "option s", s + "option e", s + "e", s + "x"} {
			if !g.agrees(t, b) {
				return
			}
		}
		if strings.Count(texts[n], "\n") < 4 {
			for _, line := range lines {
				texts = append(texts, texts[n]+line)
			}
		}
	}
}

// P16.1: lines in every order and choice up to six, held against a reading of its own.
func TestLinesNear(t *testing.T) {
	g := rules()
	lines := []string{"begin\n", "forsyth 8/8/8/8/8/8/8/8\n", "pieces white black\n", "stip h#3\n", "option set\n", "end\n"}
	texts := []string{""}
	for n := 0; n < len(texts); n++ {
		if !g.agrees(t, texts[n]) {
			return
		}
		if strings.Count(texts[n], "\n") < 6 {
			for _, line := range lines {
				texts = append(texts, texts[n]+line)
			}
		}
	}
}

// P16.1: long texts end, too.
func TestReadLong(t *testing.T) {
	many := 1 << 20
	fails(t, strings.Repeat("begin\n", many), 6, api.ErrText)
	fails(t, "begin\nforsyth "+strings.Repeat("8/", many), 14+15, api.ErrText)
	fails(t, "begin\nforsyth "+strings.Repeat("x", many), 14, api.ErrText)
	fails(t, "begin\npieces white"+strings.Repeat(" Ka1", many), 13+12, api.ErrText)
	fails(t, mate()+strings.Repeat("option try\n", many), len(mate())+18, api.ErrText)
	fails(t, mate()+"option maxsol "+strings.Repeat("1", many), len(mate())+14+3, api.ErrText)
	fails(t, mate()+"end\n"+strings.Repeat("\n", many), len(mate())+4, api.ErrText)
}

// P16.1: what is wrong with a task's position is what is wrong with it, whatever else the task has.
func TestCheck(t *testing.T) {
	for _, c := range []struct {
		rows             string
		turn, castle, ep int
		want             api.Errno
	}{
		{"8/8/8/8/8/1K6/8/k6R", 0, 0, -1, api.ErrTouch}, {"8/8/8/8/8/1K6/8/k6R", 1, 0, -1, api.OK}, {"8/8/8/8/8/1K6/8/k7", 0, 0, -1, api.OK},
		{"8/8/8/8/8/8/8/8", 0, 0, -1, api.ErrKings}, {"8/8/8/8/8/8/8/4K3", 0, 0, -1, api.ErrKings}, {"4k3/8/8/8/8/8/8/4KK2", 0, 0, -1, api.ErrKings}, {"4k3/8/8/8/8/8/8/P3K3", 0, 0, -1, api.ErrPawns}, {"4k2p/8/8/8/8/8/8/4K3", 0, 0, -1, api.ErrPawns},
		{"rnbqkbnr/pppppppp/8/8/8/P7/PPPPPPPP/RNBQKBNR", 0, 0, -1, api.ErrMen}, {"8/8/8/8/8/2k5/1K6/8", 0, 0, -1, api.ErrTouch}, {home, 1, 0, -1, api.OK}, {home, 0, 15, -1, api.OK}, {home, 1, 15, 20, api.OK}, {home, 0, 15, 20, api.ErrPassant}, {home, 1, 15, 28, api.ErrPassant}, {home, 1, 0, 44, api.ErrPassant},
		{"4k3/8/8/8/8/8/8/4K2R", 0, 1, -1, api.OK}, {"4k3/8/8/8/8/8/8/4K2R", 0, 2, -1, api.ErrCastle}, {"4k3/8/8/8/8/8/8/4K2R", 0, 5, -1, api.ErrCastle}, {"4k3/8/8/8/8/8/8/4K2R", 0, 4, 20, api.ErrCastle},
		{home, 2, 0, -1, api.ErrArg}, {home, -1, 0, -1, api.ErrArg}, {home, 0, 16, -1, api.ErrArg}, {home, 0, -1, -1, api.ErrArg}, {home, 0, 0, -2, api.ErrArg}, {home, 0, 0, 64, api.ErrArg}, {"8/8/8/8/8/8/8/8", 2, 16, 64, api.ErrKings},
	} {
		k := plain(c.rows, api.Stip{Kind: 1, Goal: 1, N: 2}, c.turn)
		k.Pos.Castle, k.Pos.Ep = c.castle, c.ep
		others := []api.Task{k, with(k, func(k *api.Task) { k.Stip = api.Stip{} }), with(k, func(k *api.Task) { k.Stip, k.Try, k.Set = api.Stip{Kind: 5, Goal: 2, N: 3}, true, true }), with(k, func(k *api.Task) { k.Max, k.Retro = -1, 5 })}
		for _, k := range others {
			if e := Check(k); e != c.want {
				t.Errorf("%v: %d, not %d", k, e, c.want)
			}
		}
	}
	if e := Check(api.Task{}); e != api.ErrKings {
		t.Error(e)
	}
	for _, man := range []int8{7, -7, 127, -128} {
		if e := Check(with(mated(), func(k *api.Task) { k.Pos.At[30] = man })); e != api.ErrArg {
			t.Error(man, e)
		}
	}
}

// P16.1: a text is read though its position is none; Check tells so.
func TestReadUnchecked(t *testing.T) {
	for s, want := range map[string]api.Errno{
		text("begin", "forsyth 8/8/8/8/8/8/8/4K3", "stip #1", "end"):                                api.ErrKings,
		text("begin", "forsyth 4k3/8/8/8/8/8/8/P3K3", "stip #1", "end"):                             api.ErrPawns,
		text("begin", "forsyth 4k3/8/8/8/8/8/8/4K3", "stip #1", "option castle q", "end"):           api.ErrCastle,
		text("begin", "forsyth 4k3/8/8/8/8/8/8/4K3", "stip #1", "option ep a1", "end"):              api.ErrPassant,
		text("begin", "forsyth 4k3/8/8/8/8/8/8/4K3", "stip #1", "end"):                              api.OK,
		text("begin", "forsyth 4k3/8/8/8/8/8/8/4RK2", "stip #1", "end"):                             api.ErrTouch,
		text("begin", "forsyth 4k3/8/8/8/8/8/8/4RK2", "stip h#1", "end"):                            api.OK,
		text("begin", "forsyth 4k3/8/8/8/8/8/8/4RK2", "stip h#1", "option side white", "end"):       api.ErrTouch,
		text("begin", "pieces white Ka1 black Kb1", "stip ser-#1", "end"):                           api.ErrTouch,
		text("begin", "pieces white Ke1 Pe4 black Ke8", "stip h#2", "option ep e3", "end"):          api.OK,
		text("begin", "pieces white Ke1 Pe4 black Ke8", "stip h#2.5", "option ep e3", "end"):        api.ErrPassant,
		text("begin", "pieces white Ke1 Ra1 black Ke8 Rh8", "stip #2", "option castle Qk", "end"):   api.OK,
		text("begin", "pieces white Ke1 Ra1 black Ke8 Rh8", "stip #2", "option castle KQk", "end"):  api.ErrCastle,
		text("begin", "pieces white Ke1 Ra1 black Ke8 Rh8", "stip #2", "option castle KQkq", "end"): api.ErrCastle,
	} {
		k, at, e := Read(s)
		if at != len(s) || e != api.OK || Check(k) != want {
			t.Errorf("%q: %d %d %d, not %d", s, at, e, Check(k), want)
		}
	}
}

// tidy is the text of a task, put together by a table.
func tidy(rows, aim string, begins int, k api.Task) string {
	s := text("begin", "forsyth "+rows, "stip "+aim)
	letters, squares := strings.Split(castles, " "), strings.Split(names, " ")
	for _, o := range []struct {
		told bool
		line func() string
	}{
		{k.Try, func() string { return "try" }},
		{k.Set, func() string { return "set" }},
		{k.Pos.Turn != begins, func() string { return "side " + []string{"white", "black"}[k.Pos.Turn] }},
		{k.Max > 0, func() string { return "maxsol " + strconv.Itoa(k.Max) }},
		{k.Pos.Castle > 0, func() string { return "castle " + letters[k.Pos.Castle-1] }},
		{k.Pos.Ep >= 0, func() string { return "ep " + squares[k.Pos.Ep] }},
		{k.Retro >= 0, func() string { return "retro " + strconv.Itoa(k.Retro) }},
	} {
		if o.told {
			s += "option " + o.line() + "\n"
		}
	}
	return s + "end\n"
}

// P16.1, P16.2: tasks of all kinds are written, and what is written is read.
func TestWrite(t *testing.T) {
	for n, a := range aims {
		k := plain(home, a.s, 0)
		for castle := range 16 {
			for _, ep := range []int{-1, 0, 20, 47, 63} {
				for _, max := range []int{0, 1, 999, 1000} {
					for _, retro := range []int{-1, 0, 4} {
						bits := castle + ep + max + retro + n
						for turn := range 2 {
							k.Pos.Turn, k.Pos.Castle, k.Pos.Ep, k.Max, k.Retro = turn, castle, ep, max, retro
							k.Try, k.Set = bits%2 == 0, bits%3 == 0
							writes(t, k, tidy(home, a.text, a.turn, k))
						}
					}
				}
			}
		}
	}
}

// P16.2: what a task may not have, alone, and beside everything else that goes.
func TestWriteWrong(t *testing.T) {
	full := mated()
	for _, o := range given {
		o.change(&full)
	}
	refuses := func(change func(k *api.Task)) {
		t.Helper()
		for _, k := range []api.Task{mated(), full} {
			change(&k)
			if s, e := Write(k); s != "" || e != api.ErrArg {
				t.Errorf("%v: %q %d", k, s, e)
			}
		}
	}
	for _, n := range odd {
		refuses(func(k *api.Task) { k.Pos.Turn = n })
		refuses(func(k *api.Task) { k.Pos.Castle = n })
		refuses(func(k *api.Task) { k.Pos.Ep = n })
		refuses(func(k *api.Task) { k.Max = n })
		refuses(func(k *api.Task) { k.Retro = n })
		refuses(func(k *api.Task) { k.Stip.Kind = n })
		refuses(func(k *api.Task) { k.Stip.Goal = n })
		refuses(func(k *api.Task) { k.Stip.N = n })
	}
	for _, n := range []int{-1, 2, 3, 256, 257} {
		refuses(func(k *api.Task) { k.Pos.Turn = n })
	}
	for _, n := range []int{-1, 16, 17, 31, 256, 271} {
		refuses(func(k *api.Task) { k.Pos.Castle = n })
	}
	for _, n := range []int{64, 65, 100, 255, 256} {
		refuses(func(k *api.Task) { k.Pos.Ep = n })
	}
	for _, n := range []int{5, 6, 9, 10, 255, 256, 260} {
		refuses(func(k *api.Task) { k.Retro = n })
	}
	refuses(func(k *api.Task) { k.Max = -1 })
	for _, s := range []api.Stip{{}, {Kind: 1, Goal: 1}, {Kind: 1, Goal: 1, N: 65}, {Kind: 1, Goal: 3, N: 1}, {Kind: 9, Goal: 1, N: 1}, {Kind: 8, Goal: 1, N: 1}, {Kind: 5, Goal: 1}, {Kind: 5, Goal: 1, N: 65, Half: true}, {Kind: 1, Goal: 1, N: 2, Half: true}, {Kind: 8, N: 3, Half: true}, {Kind: 0, Goal: 1, N: 1}} {
		refuses(func(k *api.Task) { k.Stip = s })
	}
	for s := range 64 {
		for _, man := range []int8{7, -7, 8, 64, 127, -127, -128} {
			refuses(func(k *api.Task) { k.Pos.At[s] = man })
		}
	}
	if s, e := Write(api.Task{}); s != "" || e != api.ErrArg {
		t.Error(s, e)
	}
}

// P16.2: what is wrong with a position alone doesn't bar its text.
func TestWriteUnchecked(t *testing.T) {
	k := plain("8/8/8/8/8/8/8/8", api.Stip{Kind: 1, Goal: 1, N: 1}, 0)
	writes(t, k, text("begin", "forsyth 8/8/8/8/8/8/8/8", "stip #1", "end"))
	k.Pos.Castle, k.Pos.Ep = 15, 0
	writes(t, k, text("begin", "forsyth 8/8/8/8/8/8/8/8", "stip #1", "option castle KQkq", "option ep a1", "end"))
	crowd := strings.Repeat("PPPPPPPP/", 7) + "kkkkkkkk"
	writes(t, plain(crowd, api.Stip{Kind: 8, N: 2}, 1), text("begin", "forsyth "+crowd, "stip dia 2", "option side black", "end"))
}

// P16.2: any man on any square is written, and read again.
func TestWriteMen(t *testing.T) {
	for s := range 64 {
		for m := -6; m <= 6; m++ {
			b, _ := board.Put(board.First(), s, m)
			k := api.Task{Pos: api.Pos{At: b, Turn: s % 2, Ep: s - 1}, Stip: api.Stip{Kind: 7, Goal: 2, N: s + 1}, Max: s, Retro: s%6 - 1}
			written, e := Write(k)
			got, at, err := Read(written)
			if e != api.OK || got != k || at != len(written) || err != api.OK {
				t.Errorf("%v: %q %d, read %v %d %d", k, written, e, got, at, err)
			}
		}
	}
}

// P16.2, R4: a text that is written is new memory.
func TestWriteNew(t *testing.T) {
	for _, k := range []api.Task{mated(), plain("8/8/8/8/8/8/8/8", api.Stip{Kind: 8, N: 1}, 0)} {
		first, _ := Write(k)
		again, _ := Write(k)
		if unsafe.StringData(first) == unsafe.StringData(again) {
			t.Error("shared", first)
		}
	}
}

// P16.1, P16.2, R5: what is answered doesn't hang on what was asked ahead: options that were read may come in the next text again.
func TestAgain(t *testing.T) {
	all := mate()
	want := mated()
	for _, o := range given {
		o.change(&want)
		all += o.line + "\n"
	}
	all += "end\n"
	for range 50 {
		reads(t, all, want)
		fails(t, mate()+"option side x", len(mate())+12, api.ErrText)
		fails(t, "", 0, api.ErrEnd)
		reads(t, mate()+"end\n", mated())
		writes(t, want, all)
		writes(t, mated(), mate()+"end\n")
		if Check(want) != api.OK || Check(mated()) != api.OK || Check(api.Task{}) != api.ErrKings {
			t.Fatal("check")
		}
	}
}
