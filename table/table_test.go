package table

import (
	"fmt"
	"math"
	"math/big"
	"slices"
	"strings"
	"testing"

	"alfil/api"
	"alfil/key"
	"alfil/legal"
	"alfil/pos"
)

// entire is an entry, as it is told here.
type entire struct {
	p            api.Pos
	depth, value int
}

// plain is a table by the chapter's words alone.
type plain struct {
	is  []bool
	all []entire
}

// begins is the home of a position and a depth, reckoned in numbers of any size.
func begins(p api.Pos, depth, places int) int {
	sum := new(big.Int).SetUint64(key.Of(p))
	sum.Add(sum, big.NewInt(int64(depth)))
	sum.Mod(sum, new(big.Int).Lsh(big.NewInt(1), 64))
	return int(sum.Mod(sum, big.NewInt(int64(places))).Int64())
}

// row is the places from home on, four or fewer.
func row(home, places int) []int {
	var out []int
	for i := home; len(out) < 4 && len(out) < places; i++ {
		if i == places {
			i = 0
		}
		out = append(out, i)
	}
	return out
}

// newPlain is one of so many places.
func newPlain(places int) *plain {
	return &plain{is: make([]bool, places), all: make([]entire, places)}
}

// find is where in the row the entry stands; -1, if there is none.
func (k *plain) find(p api.Pos, depth int) int {
	for _, i := range row(begins(p, depth, len(k.all)), len(k.all)) {
		if k.is[i] && k.all[i].p == p && k.all[i].depth == depth {
			return i
		}
	}
	return -1
}

// put is the chapter's three ways to put an entry, one behind the other.
func (k *plain) put(p api.Pos, depth, value int) {
	if i := k.find(p, depth); i >= 0 {
		k.all[i].value = value
		return
	}
	places := row(begins(p, depth, len(k.all)), len(k.all))
	for _, i := range places {
		if !k.is[i] {
			k.is[i], k.all[i] = true, entire{p, depth, value}
			return
		}
	}
	least := places[0]
	for _, i := range places[1:] {
		if k.all[i].depth < k.all[least].depth {
			least = i
		}
	}
	k.all[least] = entire{p, depth, value}
}

// get is the value of the entry that stands in the row.
func (k *plain) get(p api.Pos, depth int) (int, bool) {
	if i := k.find(p, depth); i >= 0 {
		return k.all[i].value, true
	}
	return 0, false
}

// many is how many entries there are.
func (k *plain) many() int {
	n := 0
	for _, is := range k.is {
		if is {
			n++
		}
	}
	return n
}

// pair is a table, and one that is kept by the chapter's words.
type pair struct {
	t    *testing.T
	got  *Table
	want *plain
}

// newPair is two new ones of so many places.
func newPair(t *testing.T, places int) *pair {
	return &pair{t, New(places), newPlain(places)}
}

// holds holds what is got of p and depth.
func (b *pair) holds(p api.Pos, depth int) bool {
	b.t.Helper()
	value, is := b.want.get(p, depth)
	if got, has := b.got.Get(p, depth); got != value || has != is {
		b.t.Errorf("%d places, %s at %d: %d %t, not %d %t", len(b.want.all), show(p), depth, got, has, value, is)
		return false
	}
	return true
}

// numbers holds how many entries and places there are.
func (b *pair) numbers() bool {
	b.t.Helper()
	if b.got.Len() != b.want.many() || b.got.Places() != len(b.want.all) {
		b.t.Errorf("%d entries in %d places, not %d in %d", b.got.Len(), b.got.Places(), b.want.many(), len(b.want.all))
		return false
	}
	return true
}

// put puts an entry in both.
func (b *pair) put(p api.Pos, depth, value int) bool {
	b.t.Helper()
	b.got.Put(p, depth, value)
	b.want.put(p, depth, value)
	return b.holds(p, depth)
}

// clear empties both.
func (b *pair) clear() {
	b.got.Clear()
	b.want = newPlain(len(b.want.all))
}

// asked is a position and a depth.
type asked struct {
	p     api.Pos
	depth int
}

// whole holds all of these, and the numbers.
func (b *pair) whole(all []asked) bool {
	b.t.Helper()
	for _, a := range all {
		if !b.holds(a.p, a.depth) {
			return false
		}
	}
	return b.numbers()
}

// show is a position, short enough to be read where a test fails.
func show(p api.Pos) string {
	var all []string
	for s, m := range p.At {
		if m != 0 {
			all = append(all, fmt.Sprint(s, ":", m))
		}
	}
	return fmt.Sprintf("%.200s, %d %d %d", strings.Join(all, " "), p.Turn, p.Castle, p.Ep)
}

// odd are numbers that are nothing here; some would be something if they were cut to fewer bits.
var odd = []int{-1, -2, -3, -8, -16, -64, -1056, 64, 65, 127, 128, 255, 256, 1<<16 - 1, 1 << 16, 1<<16 + 1, 1 << 31, 1 << 32, 1<<32 + 1, 1<<32 + 3, math.MinInt32, math.MaxInt32, math.MinInt, math.MinInt + 1, math.MinInt + 2, math.MaxInt - 1, math.MaxInt}

// depths are some, below 0 and above, the least and the greatest among them.
var depths = []int{0, 1, 2, 3, 4, 64, -1, -2, -64, 1 << 31, 1<<32 + 1, -1 << 32, math.MinInt, math.MinInt + 1, math.MaxInt - 1, math.MaxInt}

// sizes are numbers of places that are tried: small ones, at which rows go round or are short, and such as no power of two is.
var sizes = []int{1, 2, 3, 4, 5, 6, 7, 8, 9, 10, 11, 12, 13, 16, 17, 31, 64, 65, 100, 127, 256, 1000, 4095}

// lot is a source of numbers that look as if they were drawn.
type lot uint64

// next is the next one, below n.
func (l *lot) next(n int) int {
	*l = *l*6364136223846793005 + 1442695040888963407
	return int(*l>>33) % n
}

// played are the positions of a course of legal moves from the first position on.
func played(many int) []api.Pos {
	rules := legal.New()
	l := lot(5)
	p := pos.First()
	out := []api.Pos{p}
	for len(out) < many {
		all := rules.Moves(p)
		if len(all) == 0 {
			p = pos.First()
			continue
		}
		p, _ = rules.Play(p, all[l.next(len(all))])
		out = append(out, p)
	}
	return out
}

// drawn are positions of any numbers whatever.
func drawn(many int) []api.Pos {
	out := make([]api.Pos, many)
	l := lot(18)
	for i := range out {
		p := &out[i]
		for s := range p.At {
			if l.next(3) != 0 {
				p.At[s] = int8(l.next(256))
			}
		}
		p.Turn, p.Castle, p.Ep = l.next(4)-1, l.next(64)-32, l.next(90)-10
		switch l.next(8) {
		case 0:
			p.Turn = odd[l.next(len(odd))]
		case 1:
			p.Castle = odd[l.next(len(odd))]
		case 2:
			p.Ep = odd[l.next(len(odd))]
		}
	}
	return out
}

// near are positions that are like p but for one square, the side, the rights, or Ep alone.
func near(p api.Pos) []api.Pos {
	var out []api.Pos
	for s := range p.At {
		for _, m := range []int8{0, 1, -1, 6, -6, 17, 127, -128} {
			q := p
			q.At[s] = m
			out = append(out, q)
		}
	}
	for n := range 20 {
		side, rights, ep := p, p, p
		side.Turn, rights.Castle, ep.Ep = n, n, n
		out = append(out, side, rights, ep)
	}
	for _, n := range odd {
		side, rights, ep := p, p, p
		side.Turn, rights.Castle, ep.Ep = n, n, n
		out = append(out, side, rights, ep)
	}
	return slices.DeleteFunc(out, func(q api.Pos) bool { return q == p })
}

// ones are positions, one for each number; no two of them are the same.
func ones(n int) api.Pos { return api.Pos{Ep: n} }

// homed are positions by number of places, home and depth, that were sought once.
type homed map[[3]int][]api.Pos

// at is the nth position whose home at the depth is this.
func (h homed) at(places, home, depth, nth int) api.Pos {
	which := [3]int{places, home, depth}
	for len(h[which]) <= nth {
		from := 0
		if n := len(h[which]); n > 0 {
			from = h[which][n-1].Ep + 1
		}
		for home != begins(ones(from), depth, places) {
			from++
		}
		h[which] = append(h[which], ones(from))
	}
	return h[which][nth]
}

// P18.1: the chapter's example.
func TestExample(t *testing.T) {
	x := New(1)
	p := pos.First()
	x.Put(p, 1, 7)
	if value, is := x.Get(p, 1); value != 7 || !is {
		t.Error(value, is)
	}
	if value, is := x.Get(p, 2); value != 0 || is {
		t.Error(value, is)
	}
}

// P18.1, P18.2: a new table is empty, and has so many places, but not fewer than 1 nor more than 65536.
func TestNew(t *testing.T) {
	for places, want := range map[int]int{
		1: 1, 2: 2, 3: 3, 4: 4, 5: 5, 100: 100, 32767: 32767, 32768: 32768, 65535: 65535, 65536: 65536,
		65537: 65536, 1 << 17: 65536, 1 << 31: 65536, 1<<31 - 1: 65536, 1 << 32: 65536, 1<<32 + 7: 65536, math.MaxInt - 1: 65536, math.MaxInt: 65536,
		0: 1, -1: 1, -2: 1, -100: 1, -65536: 1, -1 << 31: 1, -1 << 32: 1, 7 - 1<<32: 1, math.MinInt + 1: 1, math.MinInt: 1,
	} {
		x := New(places)
		if x == nil || x.Places() != want || x.Len() != 0 {
			t.Fatalf("%d: %d places, %d entries", places, x.Places(), x.Len())
		}
		for i, depth := range depths {
			if value, is := x.Get(ones(i), depth); value != 0 || is {
				t.Errorf("%d: %d %t at %d", places, value, is, depth)
			}
		}
		x.Put(pos.First(), 3, 9)
		if value, is := x.Get(pos.First(), 3); value != 9 || !is || x.Len() != 1 || x.Places() != want {
			t.Errorf("%d: %d %t, %d entries", places, value, is, x.Len())
		}
		x.Clear()
		if x.Len() != 0 || x.Places() != want {
			t.Errorf("%d: %d places, %d entries behind Clear", places, x.Places(), x.Len())
		}
	}
}

// P18.1: what is held within its bounds has as many places as it tells: one of 65536 takes 65536 depths of a position, and then no more.
func TestMost(t *testing.T) {
	for _, places := range []int{65536, 65537, 1 << 40, math.MaxInt} {
		x := New(places)
		p := pos.First()
		for depth := range 65536 {
			x.Put(p, depth, -depth)
			if x.Len() != depth+1 {
				t.Fatalf("%d: %d entries of %d", places, x.Len(), depth+1)
			}
		}
		for depth := range 65536 {
			if value, is := x.Get(p, depth); value != -depth || !is {
				t.Fatalf("%d: %d %t at %d", places, value, is, depth)
			}
		}
		// Each depth's home is the place behind that of the depth ahead of it, and 65536 comes home to where 0, 1, 2, 3 stand.
		x.Put(p, 65536, 5)
		if _, is := x.Get(p, 0); is || x.Len() != 65536 {
			t.Errorf("%d: the least depth stays, %d entries", places, x.Len())
		}
		if value, is := x.Get(p, 65536); value != 5 || !is {
			t.Errorf("%d: %d %t", places, value, is)
		}
	}
}

// P18.1: a full row of entries with one home, whatever their depths: the newcomer takes the place of the least one, the first from home on.
func TestFull(t *testing.T) {
	h := homed{}
	for places := 1; places <= 7; places++ {
		for home := range places {
			long := min(places, 4)
			for n := range int(math.Pow(3, float64(long))) {
				was := make([]int, long)
				for i := range was {
					was[i] = n%3 - 1
					n /= 3
				}
				for _, newcomer := range []int{-5, 0, 5} {
					if !full(t, h, places, home, was, newcomer) {
						return
					}
				}
			}
		}
	}
}

// full puts entries with these depths, then the newcomer, all with one home.
func full(t *testing.T, h homed, places, home int, was []int, newcomer int) bool {
	t.Helper()
	x := New(places)
	all := make([]api.Pos, len(was))
	for i, depth := range was {
		all[i] = h.at(places, home, depth, i)
		x.Put(all[i], depth, i+1)
	}
	last := h.at(places, home, newcomer, len(was))
	before := x.Len()
	x.Put(last, newcomer, 77)
	gone := slices.Index(was, slices.Min(was))
	for i, depth := range was {
		value, is := x.Get(all[i], depth)
		if is != (i != gone) || is && value != i+1 || !is && value != 0 {
			t.Errorf("%d places, home %d, depths %v, then %d: the entry %d is %d %t", places, home, was, newcomer, i, value, is)
			return false
		}
	}
	if value, is := x.Get(last, newcomer); value != 77 || !is || before != len(was) || x.Len() != len(was) {
		t.Errorf("%d places, home %d, depths %v, then %d: %d %t, %d and %d entries", places, home, was, newcomer, value, is, before, x.Len())
		return false
	}
	return true
}

// P18.1: each place is taken by an entry whose home it is: the newcomer takes one of its own row, which may go round, and of no other, whatever stands there.
func TestRow(t *testing.T) {
	h := homed{}
	for places := 1; places <= 7; places++ {
		for n := range int(math.Pow(3, float64(places))) {
			was := make([]int, places)
			for i := range was {
				was[i] = n%3 + 1
				n /= 3
			}
			for home := range places {
				if !rowed(t, h, was, home) {
					return
				}
			}
		}
	}
}

// filled is a table whose places are taken by entries of these depths, each at home; and their positions.
func filled(h homed, was []int) (*Table, []api.Pos) {
	x := New(len(was))
	all := make([]api.Pos, len(was))
	for i, depth := range was {
		all[i] = h.at(len(was), i, depth, 0)
		x.Put(all[i], depth, 100+i)
	}
	return x, all
}

// rowed puts a newcomer with this home among entries of these depths.
func rowed(t *testing.T, h homed, was []int, home int) bool {
	t.Helper()
	x, all := filled(h, was)
	gone := home
	for _, i := range row(home, len(was)) {
		if was[i] < was[gone] {
			gone = i
		}
	}
	x.Put(h.at(len(was), home, 9, 0), 9, 77)
	for i, depth := range was {
		if value, is := x.Get(all[i], depth); is != (i != gone) || is && value != 100+i {
			t.Errorf("depths %v, home %d: the entry %d is %d %t", was, home, i, value, is)
			return false
		}
	}
	if value, is := x.Get(h.at(len(was), home, 9, 0), 9); value != 77 || !is || x.Len() != len(was) {
		t.Errorf("depths %v, home %d: %d %t, %d entries", was, home, value, is, x.Len())
		return false
	}
	return true
}

// reached are the places, rising, that an entry of p and depth may take, by what a table shows: in each of many tables another place has the least depth.
func reached(h homed, p api.Pos, depth, places int) []int {
	var out []int
	for i := range places {
		was := slices.Repeat([]int{9}, places)
		was[i] = 8
		x, all := filled(h, was)
		x.Put(p, depth, 77)
		if _, is := x.Get(all[i], 8); !is {
			out = append(out, i)
		}
	}
	return out
}

// P18.1: rows that were reckoned apart from the program: the keys are 75b65e687db4dfd5, 80108c9a720a4a80, and 0.
func TestHome(t *testing.T) {
	none := api.Pos{Ep: -1}
	kings := api.Pos{Turn: api.Black, Ep: -1}
	kings.At[4], kings.At[60] = api.King, -api.King
	h := homed{}
	for _, c := range []struct {
		p             api.Pos
		depth, places int
		want          []int
	}{
		{pos.First(), 0, 5, []int{0, 1, 3, 4}}, {pos.First(), 0, 7, []int{2, 3, 4, 5}}, {pos.First(), 0, 10, []int{3, 4, 5, 6}}, {pos.First(), 0, 13, []int{8, 9, 10, 11}},
		{pos.First(), 5, 10, []int{0, 1, 8, 9}}, {pos.First(), -1, 10, []int{2, 3, 4, 5}}, {pos.First(), math.MaxInt, 13, []int{2, 3, 4, 5}},
		{pos.First(), math.MinInt, 5, []int{1, 2, 3, 4}}, {pos.First(), math.MinInt, 7, []int{3, 4, 5, 6}}, {pos.First(), math.MinInt, 10, []int{1, 2, 3, 4}}, {pos.First(), math.MinInt, 13, []int{3, 4, 5, 6}},
		{kings, 0, 5, []int{0, 1, 2, 4}}, {kings, 0, 7, []int{1, 2, 3, 4}}, {kings, 1, 10, []int{5, 6, 7, 8}}, {kings, -1, 13, []int{0, 1, 11, 12}}, {kings, 5, 13, []int{4, 5, 6, 7}},
		{kings, math.MaxInt, 5, []int{0, 1, 2, 3}}, {kings, math.MaxInt, 7, []int{0, 1, 2, 6}}, {kings, math.MaxInt, 10, []int{5, 6, 7, 8}}, {kings, math.MaxInt, 13, []int{3, 4, 5, 6}}, {kings, math.MinInt, 10, []int{6, 7, 8, 9}},
		{none, 0, 7, []int{0, 1, 2, 3}}, {none, 1, 10, []int{1, 2, 3, 4}}, {none, 5, 7, []int{0, 1, 5, 6}}, {none, math.MaxInt, 10, []int{0, 7, 8, 9}},
		{none, -1, 5, []int{0, 1, 2, 3}}, {none, -1, 7, []int{1, 2, 3, 4}}, {none, -1, 10, []int{5, 6, 7, 8}}, {none, -1, 13, []int{2, 3, 4, 5}}, {none, math.MinInt, 13, []int{8, 9, 10, 11}},
	} {
		if got := reached(h, c.p, c.depth, c.places); !slices.Equal(got, c.want) {
			t.Errorf("%s at %d, %d places: %v, not %v", show(c.p), c.depth, c.places, got, c.want)
		}
	}
}

// P18.1: rows of any positions, any depths, such as go round at 2^64 among them, and as many places as tell a number's rest well.
func TestHomes(t *testing.T) {
	h := homed{}
	all := append(drawn(12), pos.First(), api.Pos{}, api.Pos{Ep: -1}, ones(7))
	for _, places := range []int{5, 6, 7, 10, 11, 13} {
		for _, p := range all {
			k := key.Of(p)
			some := append(depths, int(-k), int(-k-1), int(-k+1), int(-k+5), int(^k))
			for _, depth := range some {
				want := row(begins(p, depth, places), places)
				slices.Sort(want)
				if got := reached(h, p, depth, places); !slices.Equal(got, want) {
					t.Fatalf("%s at %d, %d places: %v, not %v", show(p), depth, places, got, want)
				}
			}
		}
	}
}

// P18.1: an entry stands in the first empty place of its row, also where others stand behind it, whose home is there; then all the row is full, and the least depth goes.
func TestEmptyPlace(t *testing.T) {
	const places = 8
	h := homed{}
	for _, c := range []struct {
		ahead, then []int // the homes of those that stand there, and of those that come
		depths      []int // of all of them
		gone        int   // which of them makes room for one more that has the home of the last one
	}{
		{[]int{2}, []int{0, 0, 0}, []int{1, 5, 5, 5}, 0},
		{[]int{2}, []int{0, 0, 0}, []int{5, 5, 5, 1}, 3},
		{[]int{2}, []int{0, 0, 0}, []int{5, 5, 1, 1}, 2},
		{[]int{2}, []int{0, 0, 0}, []int{1, 5, 5, 1}, 0},
		{[]int{2}, []int{0, 0, 0}, []int{5, 1, 1, 1}, 1},
		{[]int{1, 2}, []int{0, 0}, []int{1, 1, 5, 1}, 0},
		{[]int{1, 3}, []int{0, 0}, []int{5, 1, 5, 1}, 3},
		{[]int{1, 3}, []int{0, 0}, []int{5, 1, 5, 5}, 1},
		{[]int{0, 3}, []int{0, 0}, []int{5, 1, 5, 1}, 3},
		{[]int{0, 3}, []int{0, 0}, []int{5, 1, 1, 1}, 2},
		{[]int{7}, []int{5, 5, 5}, []int{1, 5, 5, 1}, 0},
		{[]int{0}, []int{5, 5, 5}, []int{5, 5, 5, 1}, 3},
		{[]int{0}, []int{6, 6, 6}, []int{1, 5, 5, 1}, 0},
		{[]int{0}, []int{6, 6, 6}, []int{5, 5, 1, 1}, 2},
		{[]int{1}, []int{7, 7, 7}, []int{1, 5, 5, 1}, 0},
		{[]int{1}, []int{7, 7, 7}, []int{5, 5, 1, 1}, 2},
		{[]int{1, 2}, []int{7, 7}, []int{1, 1, 5, 1}, 3},
		{[]int{1, 2}, []int{7, 7}, []int{1, 1, 5, 5}, 0},
	} {
		x := New(places)
		homes := append(slices.Clone(c.ahead), c.then...)
		all := make([]api.Pos, len(homes))
		for i, home := range homes {
			all[i] = h.at(places, home, c.depths[i], i)
			x.Put(all[i], c.depths[i], i)
			if x.Len() != i+1 {
				t.Fatalf("%v: %d entries of %d", c, x.Len(), i+1)
			}
		}
		x.Put(h.at(places, homes[len(homes)-1], 7, 0), 7, 77)
		for i := range all {
			if value, is := x.Get(all[i], c.depths[i]); is != (i != c.gone) || is && value != i {
				t.Fatalf("%v: the entry %d is %d %t", c, i, value, is)
			}
		}
	}
}

// P18.1: each set of places that are taken, and each home of who comes then; what follows shows where it stands.
func TestEmptyPlaces(t *testing.T) {
	h := homed{}
	for places := 1; places <= 8; places++ {
		for set := range 1 << places {
			for home := range places {
				b := newPair(t, places)
				var all []asked
				put := func(home, depth int) bool {
					a := asked{h.at(places, home, depth, len(all)), depth}
					all = append(all, a)
					return b.put(a.p, a.depth, len(all)) && b.numbers()
				}
				for i := range places {
					if set>>i&1 == 1 && !put(i, 2+i%2) {
						return
					}
				}
				if !put(home, 1) || !b.whole(all) {
					t.Errorf("places %b, home %d", set, home)
					return
				}
				for i := range places {
					if !put((home+i*3)%places, 4) || !b.whole(all) {
						t.Errorf("places %b, home %d, %d more", set, home, i)
						return
					}
				}
			}
		}
	}
}

// P18.1: an entry that is put again has the new value, and no other goes: in a row with empty places, and in a full one, whatever its depth is.
func TestAgainPut(t *testing.T) {
	h := homed{}
	for places := 1; places <= 6; places++ {
		for home := range places {
			long := min(places, 4)
			for many := 1; many <= long; many++ {
				for again := range many {
					x := New(places)
					value := make([]int, many)
					for i := range many {
						x.Put(h.at(places, home, 3-i%2, i), 3-i%2, i)
						value[i] = i
					}
					for _, v := range []int{50, 0, -1, 50, math.MinInt, math.MaxInt} {
						x.Put(h.at(places, home, 3-again%2, again), 3-again%2, v)
						value[again] = v
						for i, want := range value {
							if got, is := x.Get(h.at(places, home, 3-i%2, i), 3-i%2); got != want || !is || x.Len() != many {
								t.Fatalf("%d places, home %d, %d of %d again: the entry %d is %d %t, not %d; %d entries", places, home, again, many, i, got, is, want, x.Len())
							}
						}
					}
				}
			}
		}
	}
}

// P18.1: any value is told as it is; one of 0 is there, and what isn't there is 0 and false.
func TestValues(t *testing.T) {
	x := New(64)
	p := pos.First()
	for depth, value := range append([]int{0, 1, 2, 0, 255, 256}, odd...) {
		if got, is := x.Get(p, depth); got != 0 || is {
			t.Errorf("depth %d: %d %t", depth, got, is)
		}
		x.Put(p, depth, value)
		if got, is := x.Get(p, depth); got != value || !is {
			t.Errorf("depth %d: %d %t, not %d", depth, got, is, value)
		}
	}
}

// P18.1: the depths of one position are entries of their own, those below 0, the least and the greatest too.
func TestDepths(t *testing.T) {
	for _, p := range append(drawn(20), pos.First(), api.Pos{}) {
		// Among so many places these depths' homes stand far enough apart.
		x := New(10007)
		for i, depth := range depths {
			if _, is := x.Get(p, depth); is {
				t.Fatalf("%s: there is one at %d", show(p), depth)
			}
			x.Put(p, depth, i)
		}
		for i, depth := range depths {
			if value, is := x.Get(p, depth); value != i || !is || x.Len() != len(depths) {
				t.Fatalf("%s at %d: %d %t, not %d; %d entries", show(p), depth, value, is, i, x.Len())
			}
		}
	}
}

// orders are all orders of a list.
func orders(all []int) [][]int {
	if len(all) < 2 {
		return [][]int{all}
	}
	var out [][]int
	for i, n := range all {
		rest := slices.Delete(slices.Clone(all), i, i+1)
		for _, o := range orders(rest) {
			out = append(out, append([]int{n}, o...))
		}
	}
	return out
}

// P18.1: the least depth goes, in whatever order they were put, below 0 and at the ends of the numbers too.
func TestLeast(t *testing.T) {
	for _, some := range [][]int{
		{math.MinInt, -1, 0, math.MaxInt}, {math.MinInt, math.MinInt + 1, math.MaxInt - 1, math.MaxInt}, {-3, -2, -1, 0}, {1, 2, 3, 4},
		{-1 << 32, -1, 1, 1 << 32}, {1<<32 + 1, 1<<32 + 2, 1 << 33, 3 << 33}, {2, 1 << 32, 1<<32 + 1, 1 << 40}, {-1 << 62, 0, 1 << 61, 1 << 62}, {0, 255, 256, 257},
	} {
		for _, order := range orders(some) {
			x := New(4)
			for _, depth := range order {
				x.Put(pos.First(), depth, 1)
			}
			// All four places are in each row.
			for n := range 3 {
				x.Put(ones(n), math.MaxInt, 2)
				for i, depth := range some {
					if _, is := x.Get(pos.First(), depth); is != (i > n) || x.Len() != 4 {
						t.Fatalf("%v, %d more: %d is there: %t; %d entries", order, n+1, depth, is, x.Len())
					}
				}
			}
		}
	}
}

// course goes a long way of Put, Get and Clear over these positions and depths, and holds each step.
func course(b *pair, l *lot, all []api.Pos, at []int, steps int) bool {
	b.t.Helper()
	var whole []asked
	for _, p := range all {
		for _, depth := range at {
			whole = append(whole, asked{p, depth})
		}
	}
	for n := range steps {
		a := whole[l.next(len(whole))]
		held := true
		switch what := l.next(400); {
		case what == 0:
			b.clear()
		case what < 240:
			held = b.put(a.p, a.depth, l.next(7)-3)
		default:
			held = b.holds(a.p, a.depth)
		}
		if held && n%25 == 0 {
			held = b.whole(whole)
		}
		if !held || !b.numbers() {
			b.t.Errorf("behind %d steps", n)
			return false
		}
	}
	return b.whole(whole)
}

// P18.1, P18.2: long courses, in tables of many numbers of places, each step held against a table that is kept by the chapter's words.
func TestCourses(t *testing.T) {
	l := lot(1)
	first, wild := played(60), drawn(60)
	for _, places := range sizes {
		for _, c := range []struct {
			all []api.Pos
			at  []int
		}{
			{first[:6], []int{1, 2, 3}}, {first[:20], []int{4}}, {first[:1], []int{0, 1, 2, 3, 4, 5, 6, 7, 8, 9, 10}}, {first, []int{0, 1, 2}},
			{wild[:6], depths}, {wild, []int{-1, 0, 1}}, {near(pos.First())[:40], []int{2, 3}},
		} {
			if !course(newPair(t, places), &l, c.all, c.at, 600) {
				return
			}
		}
	}
}

// P18.1, P18.2: tables of many places, with more entries than they have room for, and what is left of them all.
func TestLarge(t *testing.T) {
	for _, places := range []int{65536, 65535, 10007} {
		b := newPair(t, places)
		l := lot(3)
		for range 150000 {
			if !b.put(ones(l.next(40000)), l.next(3), l.next(100)) {
				return
			}
		}
		var all []asked
		for n := range 40000 {
			all = append(all, asked{ones(n), 0}, asked{ones(n), 1}, asked{ones(n), 2})
		}
		if !b.whole(all) {
			return
		}
	}
}

// P18.2: how many entries there are, at each step: one more for a new one that finds an empty place, no more for one that makes another go, or is put again.
func TestLen(t *testing.T) {
	for places := 1; places <= 9; places++ {
		x := New(places)
		h := homed{}
		for i := range places {
			for range 2 {
				x.Put(h.at(places, i, 1, 0), 1, 0)
				if x.Len() != i+1 || x.Places() != places {
					t.Errorf("%d entries of %d in %d places, not %d", x.Len(), i+1, x.Places(), places)
				}
			}
		}
		for i := range 20 {
			x.Put(ones(i), i, i)
			if x.Len() != places || x.Places() != places {
				t.Errorf("%d entries in %d places, not %d", x.Len(), x.Places(), places)
			}
		}
	}
}

// P18.2: behind Clear nothing is there, and there are as many places; what goes on goes as in a new table beside it.
func TestClear(t *testing.T) {
	l := lot(9)
	some := played(50)
	for _, places := range sizes {
		x := New(places)
		for _, many := range []int{0, 1, 3, 10, 200, 1000} {
			for range many {
				x.Put(some[l.next(len(some))], l.next(4), l.next(9))
			}
			x.Clear()
			fresh := New(places)
			for range 300 {
				p, depth, value := some[l.next(len(some))], l.next(4), l.next(9)
				before, was := fresh.Get(p, depth)
				if got, is := x.Get(p, depth); got != before || is != was || x.Len() != fresh.Len() || x.Places() != places {
					t.Fatalf("%d places, %d put ahead: %d %t, %d entries, not %d %t, %d", places, many, got, is, x.Len(), before, was, fresh.Len())
				}
				x.Put(p, depth, value)
				fresh.Put(p, depth, value)
			}
		}
	}
}

// P18.2: a table that is cleared at once, again and again, or when it is full, has nothing.
func TestClearAll(t *testing.T) {
	for _, places := range []int{1, 2, 4, 5, 100, 65536} {
		x := New(places)
		for range 3 {
			x.Clear()
			x.Clear()
			for n := range 300 {
				if value, is := x.Get(ones(n), n%3); value != 0 || is {
					t.Fatalf("%d places: %d %t", places, value, is)
				}
			}
			if x.Len() != 0 || x.Places() != places {
				t.Fatalf("%d entries in %d places, not %d", x.Len(), x.Places(), places)
			}
			for n := range 300 {
				x.Put(ones(n), n%3, n+1)
			}
		}
	}
}

// P18.3: what is got is what was put last of that very position and depth, and not ahead of the last Clear; it is there at once; Len is how many are there.
func TestGot(t *testing.T) {
	l := lot(4)
	some := append(played(20), drawn(20)...)
	for _, places := range sizes {
		x := New(places)
		last := map[asked]int{}
		for n := range 3000 {
			if n%700 == 699 {
				x.Clear()
				clear(last)
			}
			a := asked{some[l.next(len(some))], depths[l.next(len(depths))]}
			last[a] = n
			x.Put(a.p, a.depth, n)
			if value, is := x.Get(a.p, a.depth); value != n || !is {
				t.Fatalf("%d places: %d %t, not %d", places, value, is, n)
			}
			if n%100 == 0 && !left(t, x, some, last) {
				return
			}
		}
	}
}

// left holds what is left of all that was put.
func left(t *testing.T, x *Table, some []api.Pos, last map[asked]int) bool {
	t.Helper()
	many := 0
	for _, p := range some {
		for _, depth := range depths {
			value, is := x.Get(p, depth)
			if is {
				many++
			}
			was, put := last[asked{p, depth}]
			if is && (!put || value != was) || !is && value != 0 {
				t.Errorf("%s at %d: %d %t, and what was put is %d %t", show(p), depth, value, is, was, put)
				return false
			}
		}
	}
	if x.Len() != many {
		t.Errorf("%d entries, and %d are there", x.Len(), many)
		return false
	}
	return true
}

// alike holds that two positions, of which one has the first depth and one the second, are entries of their own.
func alike(t *testing.T, p, q api.Pos, depth, other int) bool {
	t.Helper()
	x := New(8)
	x.Put(p, depth, 1)
	if value, is := x.Get(q, other); value != 0 || is {
		t.Errorf("%s at %d is there as %s at %d", show(q), other, show(p), depth)
		return false
	}
	x.Put(q, other, 2)
	first, is := x.Get(p, depth)
	second, too := x.Get(q, other)
	if first != 1 || !is || second != 2 || !too || x.Len() != 2 {
		t.Errorf("%s at %d, %s at %d: %d %t, %d %t, %d entries", show(p), depth, show(q), other, first, is, second, too, x.Len())
		return false
	}
	x = New(1)
	x.Put(p, depth, 3)
	x.Put(q, other, 4)
	first, is = x.Get(p, depth)
	second, too = x.Get(q, other)
	if first != 0 || is || second != 4 || !too || x.Len() != 1 {
		t.Errorf("%s at %d, %s at %d, in one place: %d %t, %d %t, %d entries", show(p), depth, show(q), other, first, is, second, too, x.Len())
		return false
	}
	return true
}

// P18.3: two that are alike but for one square, the side, the rights or Ep are not one, also where key and depth together are alike.
func TestAlike(t *testing.T) {
	crowded := pos.First()
	for s := range crowded.At {
		crowded.At[s] = int8(s)
	}
	for _, p := range append(drawn(3), pos.First(), api.Pos{}, api.Pos{Ep: -1}, crowded) {
		for _, q := range near(p) {
			for _, depth := range []int{0, 3, -1, math.MaxInt, math.MinInt} {
				if !alike(t, p, q, depth, depth) || !alike(t, p, q, depth, int(key.Of(p)-key.Of(q))+depth) {
					return
				}
			}
		}
	}
}

// P18.3: positions that aren't the same, and have one key, are entries of their own: men that are none, a side that is none, rights that are none, an Ep that is none.
func TestOneKey(t *testing.T) {
	man := func(s int, m int8) api.Pos {
		p := api.Pos{Ep: -1}
		p.At[s] = m
		return p
	}
	for _, c := range [][2]api.Pos{
		{man(0, 17), man(1, 1)}, {man(8, -15), man(7, 1)}, {man(0, 127), man(8, -1)}, {man(62, 22), man(63, 6)},
		{{Turn: 0}, {Turn: 2}}, {{Turn: 0}, {Turn: -1}}, {{Turn: 3}, {Turn: math.MinInt}}, {{Turn: 1}, {Turn: 1, Castle: 16}},
		{{Castle: 15}, {Castle: 31}}, {{Castle: 15}, {Castle: -1}}, {{Castle: 0}, {Castle: math.MinInt}}, {{Castle: 8}, {Castle: 1<<32 + 8}},
		{{Ep: -1}, {Ep: -2}}, {{Ep: -1}, {Ep: math.MinInt}}, {{Ep: -64}, {Ep: -65}},
	} {
		p, q := c[0], c[1]
		if key.Of(p) != key.Of(q) || p == q {
			t.Fatalf("%s, %s: not of one key", show(p), show(q))
		}
		for _, depth := range depths {
			if !alike(t, p, q, depth, depth) || !alike(t, q, p, depth, depth) {
				return
			}
		}
	}
}

// P18.3: one position at two depths is two, also where the depths are alike but for the greatest bits.
func TestTwoDepths(t *testing.T) {
	all := append([]int{8, 16, 256, 1 << 16, 1 << 32, 1 << 40, 1 << 62}, depths...)
	for _, depth := range all {
		for _, other := range all {
			if depth != other && !alike(t, pos.First(), pos.First(), depth, other) {
				return
			}
		}
	}
}

// P18.3, R1: of a nil Table there is nothing, whatever was put.
func TestNil(t *testing.T) {
	var x *Table
	for _, p := range append(drawn(10), pos.First(), api.Pos{}) {
		for _, depth := range depths {
			x.Put(p, depth, 7)
			value, is := x.Get(p, depth)
			if value != 0 || is || x.Len() != 0 || x.Places() != 0 {
				t.Fatalf("%s at %d: %d %t, %d entries in %d places", show(p), depth, value, is, x.Len(), x.Places())
			}
			x.Clear()
			if x.Len() != 0 || x.Places() != 0 {
				t.Fatalf("%d entries in %d places behind Clear", x.Len(), x.Places())
			}
		}
	}
}

// R4, R5: tables beside each other share nothing, and what one tells hangs on what it has been through alone.
func TestBeside(t *testing.T) {
	some := played(30)
	l := lot(7)
	x, y, z := New(11), New(11), New(11)
	for n := range 2000 {
		p, depth := some[l.next(len(some))], l.next(3)
		x.Put(p, depth, n)
		y.Put(p, depth, n)
		z.Put(some[l.next(len(some))], depth, -n)
		if n%90 == 0 {
			New(11).Clear()
			z.Clear()
		}
		for _, q := range some {
			one, is := x.Get(q, depth)
			two, too := y.Get(q, depth)
			if one != two || is != too || x.Len() != y.Len() {
				t.Fatalf("%d steps: %d %t, %d %t", n, one, is, two, too)
			}
		}
	}
}

// P18.1: to ask changes nothing: what is asked in between, there or not, lets each entry come and go as it would.
func TestAsk(t *testing.T) {
	some := played(30)
	for _, places := range sizes {
		l := lot(6)
		x, y := New(places), New(places)
		for n := range 500 {
			p, depth := some[l.next(len(some))], l.next(3)
			x.Put(p, depth, n)
			y.Put(p, depth, n)
			for range 10 {
				x.Get(some[l.next(len(some))], l.next(4))
				x.Len()
				x.Places()
			}
		}
		for _, p := range some {
			for depth := range 4 {
				one, is := x.Get(p, depth)
				two, too := y.Get(p, depth)
				if one != two || is != too || x.Len() != y.Len() {
					t.Fatalf("%d places, %s at %d: %d %t, %d %t", places, show(p), depth, one, is, two, too)
				}
			}
		}
	}
}
