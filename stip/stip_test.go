package stip

import (
	"math"
	"strconv"
	"strings"
	"testing"
	"unsafe"

	"alfil/api"
)

// ahead are texts that stand ahead of a stipulation's; some end within a sign of several bytes, or as a stipulation begins.
var ahead = []string{"", "x", "7", "s", "ser-", "h#2.", "dia ", "stip ", "\n", "é", "\xe2\x99", "\xff", "\x00", strings.Repeat("ab\n", 40)}

// behind are texts that stand behind a whole one; none begins with a digit, or a point.
var behind = []string{" ", "x", "\n", "#", "=", "-", "/", ":", ",", ",5", "é", "♔", "٣", "\xff", "\x80", "\x00", "\nend\n", "s#2", " 2"}

// odd are numbers that are nothing here; some would be something if they were cut to fewer bits, or their sign were lost.
var odd = []int{-1, -2, -5, -64, 256, 257, 1<<8 + 5, 1 << 16, 1<<16 + 1, 1 << 32, 1<<32 + 1, 1<<32 + 5, math.MinInt32, math.MaxInt32, math.MinInt, math.MinInt + 1, math.MaxInt - 1, math.MaxInt}

// of is a stipulation.
func of(kind, goal, n int) api.Stip { return api.Stip{Kind: kind, Goal: goal, N: n} }

// more is a stipulation of the kind h with half a move more.
func more(goal, n int) api.Stip { return api.Stip{Kind: api.Help, Goal: goal, N: n, Half: true} }

func ends(at int) api.Step  { return api.Step{At: at} }
func wrong(at int) api.Step { return api.Step{At: at, E: api.ErrText} }
func open(at int) api.Step  { return api.Step{At: at, E: api.ErrEnd} }

// whole are all texts with their stipulations, put together number by number.
func whole() map[string]api.Stip {
	out := map[string]api.Stip{}
	for n := 1; n <= 64; n++ {
		d := strconv.Itoa(n)
		for head, s := range map[string]api.Stip{
			"#": of(1, 1, n), "s#": of(2, 1, n), "r#": of(3, 1, n), "semi-r#": of(4, 1, n), "h#": of(5, 1, n), "ser-h#": of(6, 1, n), "ser-#": of(7, 1, n),
			"=": of(1, 2, n), "s=": of(2, 2, n), "r=": of(3, 2, n), "semi-r=": of(4, 2, n), "h=": of(5, 2, n), "ser-h=": of(6, 2, n), "ser-=": of(7, 2, n),
			"dia ": of(8, 0, n),
		} {
			out[head+d] = s
		}
		out["h#"+d+".5"], out["h="+d+".5"] = more(1, n), more(2, n)
	}
	out["h#0.5"], out["h=0.5"] = more(1, 0), more(2, 0)
	return out
}

// reads holds what is read of a text at its beginning, and behind others, against a step of the text alone.
func reads(t *testing.T, text string, s api.Stip, step api.Step) {
	t.Helper()
	for _, a := range ahead {
		want := step
		want.At += len(a)
		if got, end := Read(a+text, len(a)); got != s || end != want {
			t.Errorf("%q behind %q: %v %v, not %v %v", text, a, got, end, s, want)
			return
		}
	}
}

// fails holds a step that tells an error.
func fails(t *testing.T, text string, step api.Step) {
	t.Helper()
	reads(t, text, api.Stip{}, step)
}

// P15.1: a stipulation of each kind with either goal, numbers of one digit and of two, half a move more, a proof game; with more behind and with none; and written again.
func TestRead(t *testing.T) {
	for text, s := range map[string]api.Stip{
		"#1": of(1, 1, 1), "#2": of(1, 1, 2), "#9": of(1, 1, 9), "#10": of(1, 1, 10), "#64": of(1, 1, 64), "=1": of(1, 2, 1), "=3": of(1, 2, 3), "=64": of(1, 2, 64), "=20": of(1, 2, 20),
		"s#2": of(2, 1, 2), "s#64": of(2, 1, 64), "s=1": of(2, 2, 1), "s=17": of(2, 2, 17),
		"r#3": of(3, 1, 3), "r#12": of(3, 1, 12), "r=1": of(3, 2, 1), "r=64": of(3, 2, 64),
		"semi-r#2": of(4, 1, 2), "semi-r#12": of(4, 1, 12), "semi-r=5": of(4, 2, 5), "semi-r=64": of(4, 2, 64),
		"h#1": of(5, 1, 1), "h#3": of(5, 1, 3), "h#64": of(5, 1, 64), "h=2": of(5, 2, 2), "h=11": of(5, 2, 11),
		"h#0.5": more(1, 0), "h#2.5": more(1, 2), "h#3.5": more(1, 3), "h#10.5": more(1, 10), "h#64.5": more(1, 64), "h=0.5": more(2, 0), "h=1.5": more(2, 1), "h=63.5": more(2, 63), "h=64.5": more(2, 64),
		"ser-h#7": of(6, 1, 7), "ser-h#64": of(6, 1, 64), "ser-h=1": of(6, 2, 1), "ser-h=30": of(6, 2, 30),
		"ser-#6": of(7, 1, 6), "ser-#19": of(7, 1, 19), "ser-=9": of(7, 2, 9), "ser-=64": of(7, 2, 64),
		"dia 1": of(8, 0, 1), "dia 4": of(8, 0, 4), "dia 10": of(8, 0, 10), "dia 64": of(8, 0, 64),
	} {
		reads(t, text, s, ends(len(text)))
		for _, b := range behind {
			reads(t, text+b, s, ends(len(text)))
		}
		if got, is := Write(s); got != text || !is {
			t.Errorf("%v: %q %v, not %q", s, got, is, text)
		}
	}
}

// P15.1: every text there is, alone and with another behind it, and written again.
func TestReadWhole(t *testing.T) {
	all := whole()
	if len(all) != 15*64+2*65 {
		t.Fatal(len(all))
	}
	for text, s := range all {
		if got, step := Read(text, 0); got != s || step != ends(len(text)) {
			t.Errorf("%q: %v %v", text, got, step)
		}
		if got, step := Read("x"+text+"\nend\n", 1); got != s || step != ends(len(text)+1) {
			t.Errorf("%q with more behind: %v %v", text, got, step)
		}
		if got, is := Write(s); got != text || !is {
			t.Errorf("%v: %q %v, not %q", s, got, is, text)
		}
	}
}

// P15.1: it goes on as far as it can: a point belongs to it where half a move more may be, and to what stands behind where none may.
func TestReadOn(t *testing.T) {
	for _, c := range []struct {
		text string
		s    api.Stip
		end  int
	}{
		{"#2.5", of(1, 1, 2), 2}, {"=2.5", of(1, 2, 2), 2}, {"#2.", of(1, 1, 2), 2}, {"#64.5", of(1, 1, 64), 3}, {"s#2.5", of(2, 1, 2), 3}, {"r=2.5", of(3, 2, 2), 3}, {"semi-r#2.5", of(4, 1, 2), 8},
		{"ser-h#2.5", of(6, 1, 2), 7}, {"ser-h=2.", of(6, 2, 2), 7}, {"ser-#2.5", of(7, 1, 2), 6}, {"ser-=12.x", of(7, 2, 12), 7}, {"dia 2.5", of(8, 0, 2), 5}, {"dia 12.", of(8, 0, 12), 6},
		{"h#2.55", more(1, 2), 5}, {"h#2.50", more(1, 2), 5}, {"h#2.5.5", more(1, 2), 5}, {"h#0.5.", more(1, 0), 5}, {"h#0.59", more(1, 0), 5}, {"h=64.5h=1", more(2, 64), 6},
		{"h#2 .5", of(5, 1, 2), 3}, {"h#2,5", of(5, 1, 2), 3}, {"h#25", of(5, 1, 25), 4}, {"h#2\n.5", of(5, 1, 2), 3}, {"h#2#", of(5, 1, 2), 3}, {"h#2·5", of(5, 1, 2), 3},
		{"#1#1", of(1, 1, 1), 2}, {"#6x4", of(1, 1, 6), 2}, {"dia 6 4", of(8, 0, 6), 5},
	} {
		reads(t, c.text, c.s, ends(c.end))
	}
}

// P15.1: behind a point stands 5, where half a move more may be, or the text is wrong there.
func TestReadPoint(t *testing.T) {
	for _, head := range []string{"h#2", "h=2", "h#0", "h=0", "h#10", "h#64", "h=64"} {
		at := len(head) + 1
		fails(t, head+".", open(at))
		for _, b := range []string{"4", "6", "0", "05", ".5", " 5", "x", "\n", "é", "♔", "٥", "\xff", "\x00", "-5", "#"} {
			fails(t, head+"."+b, wrong(at))
		}
	}
}

// P15.1: help in no moves is one with half a move more alone.
func TestReadNought(t *testing.T) {
	for _, head := range []string{"h#0", "h=0"} {
		fails(t, head, open(3))
		for _, b := range append([]string{"0", "1", "5", "0.5", "2.5"}, behind...) {
			fails(t, head+b, wrong(3))
		}
	}
	reads(t, "h#0.5", more(1, 0), ends(5))
	reads(t, "h=0.5", more(2, 0), ends(5))
	for _, head := range []string{"#", "=", "s#", "s=", "r#", "r=", "semi-r#", "semi-r=", "ser-h#", "ser-h=", "ser-#", "ser-=", "dia "} {
		for _, b := range []string{"0", "00", "01", "0.5", "05", "0\n", "064"} {
			fails(t, head+b, wrong(len(head)))
		}
	}
}

// P15.1: numbers up to 64: the digit by which one is above that is wrong.
func TestReadNumber(t *testing.T) {
	for _, head := range []string{"#", "=", "s#", "s=", "r#", "r=", "semi-r#", "semi-r=", "h#", "h=", "ser-h#", "ser-h=", "ser-#", "ser-=", "dia "} {
		at := len(head)
		fails(t, head, open(at))
		for text, place := range map[string]int{
			"65": 1, "69": 1, "70": 1, "99": 1, "640": 2, "641": 2, "100": 2, "128": 2, "650": 1, "65.5": 1, "640.5": 2, "99999999999999999999": 1, "18446744073709551617": 2, "4294967298": 2,
			"x": 0, " 2": 0, "-1": 0, "+1": 0, ".5": 0, "#1": 0, "=1": 0, "/": 0, ":": 0, "é": 0, "٣": 0, "\xff1": 0, "\n": 0, "\x00": 0, "a1": 0,
		} {
			fails(t, head+text, wrong(at+place))
			fails(t, head+text+"\nend\n", wrong(at+place))
		}
	}
}

// P15.1: where no kind and no goal goes on; kinds begin as others do.
func TestReadWrong(t *testing.T) {
	for text, at := range map[string]int{
		"q": 0, "1": 0, "2#": 0, " #2": 0, "\n#2": 0, "-#": 0, ".5": 0, "H#2": 0, "S#2": 0, "Dia 4": 0, "mate": 0, "é": 0, "♔": 0, "\xff": 0, "\x00": 0, "+": 0, "pser-#3": 0, "emi-r#1": 0,
		"##2": 1, "#=2": 1, "==1": 1, "=#1": 1, "# 2": 1, "#-1": 1,
		"s2": 1, "sh#2": 1, "ss#2": 1, "sr#2": 1, "s-#2": 1, "s #2": 1, "s+": 1, "s##": 2, "s=#": 2,
		"se#2": 2, "sE": 1, "sé": 1, "sem#": 3, "ser#2": 3, "serh#2": 3, "ses": 2, "semi#2": 4, "semir#2": 4, "semi-#2": 5, "semi-h#2": 5, "semi-s#": 5, "semi r": 4, "semi-r2": 6, "semi-rr#": 6, "semi-r-": 6,
		"ser-2": 4, "ser-s#2": 4, "ser-r#2": 4, "ser--#": 4, "ser h#": 3, "ser-h2": 5, "ser-hh#": 5, "ser-h-#": 5, "ser-\n": 4, "ser-h\n": 5, "ser-H#": 4, "ser-dia 2": 4,
		"r2": 1, "rh#": 1, "r-#": 1, "rs#2": 1, "r.": 1, "h2": 1, "hs#2": 1, "hh#2": 1, "h.5": 1, "h-#": 1, "h#.5": 2, "h=.5": 2, "h\n": 1,
		"d#": 1, "di ": 2, "dia#": 3, "dia=": 3, "dia4": 3, "dia\n": 3, "dia\t4": 3, "dia  4": 4, "dia #4": 4, "dia x": 4, "dia\u00a04": 3, "diag": 3, "dua": 1, "dia.5": 3, "dia .5": 4,
		"s♔": 1, "ser-\xff": 4, "semi-\x00": 5, "dia\x00": 3, "h\u2260": 1, "s\u2009#": 1,
	} {
		fails(t, text, wrong(at))
		for _, b := range behind {
			fails(t, text+b, wrong(at))
		}
	}
}

// P15.1: a text that ends within a kind, ahead of the goal, of the number, of a blank, of what stands behind a point.
func TestReadEnd(t *testing.T) {
	for _, text := range []string{
		"", "s", "se", "sem", "semi", "semi-", "semi-r", "ser", "ser-", "ser-h", "r", "h", "d", "di", "dia",
		"#", "=", "s#", "s=", "r#", "r=", "semi-r#", "semi-r=", "h#", "h=", "ser-h#", "ser-h=", "ser-#", "ser-=", "dia ",
		"h#0", "h=0", "h#0.", "h=0.", "h#2.", "h#64.", "h=10.",
	} {
		fails(t, text, open(len(text)))
	}
}

// P15.1: at what is no place.
func TestReadPlace(t *testing.T) {
	for _, text := range []string{"", "#", "#2", "h#2.5", "dia 4", "x", "♔"} {
		places := []int{len(text) + 1, len(text) + 2, len(text) + 256, len(text) + 1<<16, len(text) + 1<<32, -len(text) - 1}
		for _, at := range append(places, odd...) {
			if s, step := Read(text, at); s != (api.Stip{}) || step != (api.Step{E: api.ErrArg}) {
				t.Errorf("%q at %d: %v %v", text, at, s, step)
			}
		}
		for at := range len(text) + 1 {
			if _, step := Read(text, at); step.E == api.ErrArg || step.At < at {
				t.Errorf("%q at %d: %v", text, at, step)
			}
		}
	}
}

// beginnings are all texts with which one of them begins.
func beginnings(all map[string]api.Stip) map[string]int {
	out := map[string]int{}
	for text := range all {
		for end := range len(text) + 1 {
			out[text[:end]]++
		}
	}
	return out
}

// goThrough goes on, byte by byte, while there is a text that has all bytes up to here; no number ends ahead of a digit.
func goThrough(text string, all map[string]api.Stip, begins map[string]int) (api.Stip, api.Step) {
	end := 0
	for end < len(text) && begins[text[:end+1]] > 0 {
		end++
	}
	s, is := all[text[:end]]
	digit := end < len(text) && strings.Contains("0123456789", text[end:end+1])
	switch {
	case is && (s.Half || !digit):
		return s, ends(end)
	case end == len(text):
		return api.Stip{}, open(end)
	}
	return api.Stip{}, wrong(end)
}

// P15.1: each text with a byte more, less, or another one, held against a reading of its own.
func TestReadNear(t *testing.T) {
	all := whole()
	begins := beginnings(all)
	check := func(text string) bool {
		want, step := goThrough(text, all, begins)
		got, end := Read(text, 0)
		if got != want || end != step {
			t.Errorf("%q: %v %v, not %v %v", text, got, end, want, step)
		}
		return got == want && end == step
	}
	for text := range all {
		for at := range len(text) + 1 {
			right := check(text[:at])
			for _, sign := range "#=shr-emid .0156x\n♔" {
				right = check(text[:at]+string(sign)+text[at:]) && right
				if at < len(text) {
					right = check(text[:at]+string(sign)+text[at+1:]) && right
				}
			}
			if at < len(text) {
				right = check(text[:at]+text[at+1:]) && right
			}
			if !right {
				return
			}
		}
	}
}

// P15.1: every text of up to six signs out of a few, held against a reading of its own.
func TestReadAll(t *testing.T) {
	all := whole()
	begins := beginnings(all)
	texts := []string{""}
	for n := 0; n < len(texts); n++ {
		text := texts[n]
		want, step := goThrough(text, all, begins)
		if got, end := Read(text, 0); got != want || end != step {
			t.Fatalf("%q: %v %v, not %v %v", text, got, end, want, step)
		}
		if len(text) < 6 {
			for _, sign := range "h#0456." {
				texts = append(texts, text+string(sign))
			}
		}
	}
}

// P15.1: what isn't right has no text.
func TestWriteWrong(t *testing.T) {
	for _, s := range unright() {
		if text, is := Write(s); text != "" || is {
			t.Errorf("%v: %q %v", s, text, is)
		}
	}
}

// unright are stipulations that have no text.
func unright() []api.Stip {
	out := []api.Stip{
		{}, {N: 2}, {Kind: 1}, {Kind: 1, N: 2}, {Goal: 1, N: 2}, {Kind: 9, Goal: 1, N: 2}, {Kind: 9, N: 2}, {Kind: 1, Goal: 3, N: 2},
		{Kind: 8}, {Kind: 8, Goal: 1, N: 2}, {Kind: 8, Goal: 2, N: 2}, {Kind: 8, N: 65}, {Kind: 8, N: 4, Half: true}, {Kind: 8, Half: true}, {Kind: 5, N: 2, Half: true}, {Kind: 5, N: 2},
		more(1, -1), more(2, -1), more(1, 65), more(2, 65), more(0, 2), more(3, 2), {Half: true}, {Goal: 1, N: 2, Half: true}, {Kind: 9, Goal: 1, N: 2, Half: true},
	}
	for kind := 1; kind <= 8; kind++ {
		goals := []int{1, 2}
		if kind == 8 {
			goals = []int{0}
		}
		for _, goal := range goals {
			for _, n := range append([]int{0, 65, 66, 100, 128, 1000}, odd...) {
				out = append(out, of(kind, goal, n))
				if n != 0 || kind != 5 {
					out = append(out, api.Stip{Kind: kind, Goal: goal, N: n, Half: true})
				}
			}
			for n := 1; n <= 64; n++ {
				if kind != 5 {
					out = append(out, api.Stip{Kind: kind, Goal: goal, N: n, Half: true})
				}
			}
		}
		for _, goal := range append([]int{3, 4, 8, 258}, odd...) {
			out = append(out, of(kind, goal, 2), api.Stip{Kind: kind, Goal: goal, N: 2, Half: true})
		}
	}
	for _, kind := range append([]int{0, 9, 10, 16, 264}, odd...) {
		for goal := range 3 {
			out = append(out, of(kind, goal, 2), api.Stip{Kind: kind, Goal: goal, N: 2, Half: true})
		}
	}
	return out
}

// P15.1: of all stipulations near the bounds those that are read are written, and no others.
func TestWriteAll(t *testing.T) {
	texts := map[api.Stip]string{}
	for text, s := range whole() {
		texts[s] = text
	}
	for kind := -1; kind <= 10; kind++ {
		for goal := -1; goal <= 4; goal++ {
			for n := -2; n <= 130; n++ {
				for _, half := range []bool{false, true} {
					s := api.Stip{Kind: kind, Goal: goal, N: n, Half: half}
					want, right := texts[s]
					if got, is := Write(s); got != want || is != right {
						t.Fatalf("%v: %q %v, not %q", s, got, is, want)
					}
				}
			}
		}
	}
}

// plays is what P15.2 says of stipulations with either goal.
type plays struct {
	kind, n       int
	half          bool
	begins, plies int
}

// played are stipulations of each kind, with who begins and how many plies they have, reckoned by hand.
var played = []plays{
	{1, 1, false, 0, 0}, {1, 2, false, 0, 0}, {1, 64, false, 0, 0},
	{2, 1, false, 0, 0}, {2, 3, false, 0, 0}, {2, 64, false, 0, 0},
	{3, 1, false, 0, 0}, {3, 2, false, 0, 0}, {3, 64, false, 0, 0},
	{4, 1, false, 0, 0}, {4, 2, false, 0, 0}, {4, 64, false, 0, 0},
	{5, 1, false, 1, 2}, {5, 2, false, 1, 4}, {5, 3, false, 1, 6}, {5, 64, false, 1, 128},
	{5, 0, true, 0, 1}, {5, 1, true, 0, 3}, {5, 2, true, 0, 5}, {5, 64, true, 0, 129},
	{6, 1, false, 1, 2}, {6, 2, false, 1, 3}, {6, 7, false, 1, 8}, {6, 64, false, 1, 65},
	{7, 1, false, 0, 1}, {7, 2, false, 0, 2}, {7, 9, false, 0, 9}, {7, 64, false, 0, 64},
	{8, 1, false, 0, 0}, {8, 4, false, 0, 0}, {8, 64, false, 0, 0},
}

// both are the stipulations that are meant, with each goal there may be.
func (p plays) both() []api.Stip {
	if p.kind == 8 {
		return []api.Stip{{Kind: 8, N: p.n}}
	}
	return []api.Stip{{Kind: p.kind, Goal: 1, N: p.n, Half: p.half}, {Kind: p.kind, Goal: 2, N: p.n, Half: p.half}}
}

// P15.2: who begins, and how many plies, for each kind.
func TestBeginsPlies(t *testing.T) {
	for _, p := range played {
		for _, s := range p.both() {
			if got := Begins(s); got != p.begins {
				t.Errorf("%v: %d begins, not %d", s, got, p.begins)
			}
			if got := Plies(s); got != p.plies {
				t.Errorf("%v: %d plies, not %d", s, got, p.plies)
			}
		}
	}
}

// P15.2: who begins and how many plies, for every text there is, told by the text alone.
func TestBeginsPliesAll(t *testing.T) {
	for text, s := range whole() {
		begins, plies := 0, 0
		switch {
		case strings.HasPrefix(text, "ser-h"):
			begins, plies = 1, s.N+1
		case strings.HasPrefix(text, "ser-"):
			plies = s.N
		case strings.HasPrefix(text, "h") && strings.HasSuffix(text, ".5"):
			plies = s.N + s.N + 1
		case strings.HasPrefix(text, "h"):
			begins, plies = 1, s.N+s.N
		}
		if b, p := Begins(s), Plies(s); b != begins || p != plies {
			t.Errorf("%q: %d %d, not %d %d", text, b, p, begins, plies)
		}
	}
}

// P15.2: of what isn't right nobody begins, and there are no plies and no movers.
func TestUnright(t *testing.T) {
	for _, s := range unright() {
		if b, p := Begins(s), Plies(s); b != -1 || p != -1 {
			t.Errorf("%v: %d begins, %d plies", s, b, p)
		}
		for _, ply := range []int{-2, -1, 0, 1, 2, s.N - 1, s.N, s.N + 1} {
			for _, first := range []int{-1, 0, 1, 2} {
				if got := Mover(s, first, ply); got != -1 {
					t.Errorf("%v, %d begins, ply %d: %d", s, first, ply, got)
				}
			}
		}
	}
}

// P15.2: who makes each ply, for either side that begins, as a text of sides.
func TestMover(t *testing.T) {
	for _, c := range []struct {
		s     api.Stip
		first int
		sides string
	}{
		{of(5, 1, 1), 1, "10"}, {of(5, 1, 1), 0, "01"}, {of(5, 2, 2), 1, "1010"}, {of(5, 2, 2), 0, "0101"}, {of(5, 1, 3), 1, "101010"},
		{more(1, 0), 0, "0"}, {more(1, 0), 1, "1"}, {more(2, 1), 0, "010"}, {more(2, 1), 1, "101"}, {more(1, 2), 0, "01010"}, {more(1, 2), 1, "10101"},
		{of(6, 1, 1), 1, "10"}, {of(6, 1, 1), 0, "01"}, {of(6, 2, 2), 1, "110"}, {of(6, 1, 3), 1, "1110"}, {of(6, 1, 3), 0, "0001"}, {of(6, 2, 4), 0, "00001"}, {of(6, 1, 5), 1, "111110"},
		{of(7, 1, 1), 0, "0"}, {of(7, 1, 1), 1, "1"}, {of(7, 2, 2), 0, "00"}, {of(7, 1, 4), 0, "0000"}, {of(7, 2, 4), 1, "1111"}, {of(7, 1, 5), 0, "00000"},
		{of(5, 1, 64), 1, strings.Repeat("10", 64)}, {of(5, 2, 64), 0, strings.Repeat("01", 64)}, {more(1, 64), 0, strings.Repeat("01", 64) + "0"}, {more(2, 64), 1, strings.Repeat("10", 64) + "1"},
		{of(6, 1, 64), 1, strings.Repeat("1", 64) + "0"}, {of(6, 2, 64), 0, strings.Repeat("0", 64) + "1"}, {of(7, 1, 64), 0, strings.Repeat("0", 64)}, {of(7, 2, 64), 1, strings.Repeat("1", 64)},
	} {
		for ply, sign := range c.sides {
			if got := Mover(c.s, c.first, ply); got != int(sign-'0') {
				t.Errorf("%v, %d begins, ply %d: %d, not %c", c.s, c.first, ply, got, sign)
			}
		}
		last := len(c.sides)
		for _, ply := range append([]int{last, last + 1, last + 2, 2 * last, last + 256, last + 1<<32, 1000}, odd...) {
			if got := Mover(c.s, c.first, ply); got != -1 {
				t.Errorf("%v, %d begins, ply %d: %d", c.s, c.first, ply, got)
			}
		}
		for _, first := range append([]int{2, 3}, odd...) {
			for _, ply := range []int{-1, 0, 1, last - 1, last} {
				if got := Mover(c.s, first, ply); got != -1 {
					t.Errorf("%v, %d begins, ply %d: %d", c.s, first, ply, got)
				}
			}
		}
	}
}

// P15.2: kinds without lines have no movers.
func TestMoverNone(t *testing.T) {
	for _, p := range played {
		if p.plies > 0 {
			continue
		}
		for _, s := range p.both() {
			for _, first := range []int{0, 1} {
				for _, ply := range append([]int{0, 1, 2, s.N - 1, s.N, s.N + 1}, odd...) {
					if got := Mover(s, first, ply); got != -1 {
						t.Errorf("%v, %d begins, ply %d: %d", s, first, ply, got)
					}
				}
			}
		}
	}
}

// P15.1, R4: a text that is written is new memory.
func TestWriteNew(t *testing.T) {
	for _, s := range []api.Stip{of(1, 1, 2), of(5, 2, 10), more(1, 0), of(8, 0, 4)} {
		first, _ := Write(s)
		again, _ := Write(s)
		if unsafe.StringData(first) == unsafe.StringData(again) {
			t.Error("shared", first)
		}
	}
}

// P15.1, P15.2, R5: what is answered doesn't hang on what was asked ahead.
func TestAgain(t *testing.T) {
	for range 3 {
		if s, step := Read("h#2.5", 0); s != more(1, 2) || step != ends(5) {
			t.Error(s, step)
		}
		Read("h#2.4", 0)
		Read("x", -1)
		if s, step := Read("h#2", 0); s != of(5, 1, 2) || step != ends(3) {
			t.Error(s, step)
		}
		if text, is := Write(of(8, 0, 4)); text != "dia 4" || !is {
			t.Error(text)
		}
		if Begins(more(1, 2)) != 0 || Plies(more(1, 2)) != 5 || Mover(more(1, 2), 0, 4) != 0 || Begins(of(5, 1, 2)) != 1 {
			t.Error("h")
		}
		Begins(api.Stip{})
	}
}
