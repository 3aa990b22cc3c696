package replica_test

import (
	"math"
	"slices"
	"testing"

	"kissinggate/api"
	"kissinggate/replica"
)

// odd numbers: the edges, and beyond them.
func odd() []int {
	return []int{math.MinInt, math.MinInt + 1, -1, 0, 1, 2, api.MaxAt, api.MaxAt + 1, math.MaxInt - 1, math.MaxInt}
}

// full: a replica whose cells all differ, each of its block's own number.
func full(floor int) replica.Replica {
	r := replica.Replica{Floor: floor}
	for at := range r.Cells {
		r.Cells[at] = api.Cell{Epoch: floor - at%2, Number: 10 + at, Data: string(rune('a' + at))}
	}
	return r
}

// with another cell in the place of a block's.
func with(r replica.Replica, at int, c api.Cell) replica.Replica {
	r.Cells[at] = c
	return r
}

// I1.
func TestNew(t *testing.T) {
	if got, want := replica.New(), (replica.Replica{Floor: 1}); got != want {
		t.Errorf("New() = %v", got)
	}
}

// I1: the epoch goes ahead of the number, and nothing else counts.
func TestNewer(t *testing.T) {
	for _, x := range []struct {
		a, b api.Cell
		want bool
	}{
		{api.Cell{}, api.Cell{}, false},
		{api.Cell{Epoch: 2, Number: 1}, api.Cell{Epoch: 1, Number: 1}, true},
		{api.Cell{Epoch: 2, Number: 1}, api.Cell{Epoch: 1, Number: 9}, true},
		{api.Cell{Epoch: 1, Number: 9}, api.Cell{Epoch: 2, Number: 1}, false},
		{api.Cell{Epoch: 2, Number: 4}, api.Cell{Epoch: 2, Number: 3}, true},
		{api.Cell{Epoch: 2, Number: 3}, api.Cell{Epoch: 2, Number: 4}, false},
		{api.Cell{Epoch: 2, Number: 3, Data: "z"}, api.Cell{Epoch: 2, Number: 3, Data: "a"}, false},
		{api.Cell{Epoch: 2, Number: 3, Data: "a"}, api.Cell{Epoch: 2, Number: 3, Data: "z"}, false},
		{api.Cell{Number: 1}, api.Cell{}, true},
		{api.Cell{Epoch: 1}, api.Cell{Number: math.MaxInt}, true},
	} {
		if got := replica.Newer(x.a, x.b); got != x.want {
			t.Errorf("Newer(%v, %v) = %v", x.a, x.b, got)
		}
	}
}

// I1: at all edges of numbers, which are far apart: no difference of two is trusted.
func TestNewerOfEdges(t *testing.T) {
	l := odd()
	slices.Sort(l)
	for i, a := range l {
		for j, b := range l {
			if got := replica.Newer(api.Cell{Epoch: a}, api.Cell{Epoch: b}); got != (i > j) {
				t.Errorf("Newer of epochs %d, %d: %v", a, b, got)
			}
			if got := replica.Newer(api.Cell{Epoch: 3, Number: a}, api.Cell{Epoch: 3, Number: b}); got != (i > j) {
				t.Errorf("Newer of numbers %d, %d: %v", a, b, got)
			}
			if replica.Newer(api.Cell{Epoch: 3, Number: a}, api.Cell{Epoch: 4, Number: b}) {
				t.Errorf("Newer of numbers %d, %d and an elder epoch", a, b)
			}
		}
	}
}

// I1: what is of another epoch is not admitted, be it newer or not, and changes nothing.
func TestAdmitOfAnotherEpoch(t *testing.T) {
	for floor := range 5 {
		for at := range api.MaxAt + 1 {
			for _, epoch := range odd() {
				if epoch == floor {
					continue
				}
				for _, number := range []int{0, 10 + at, 99} {
					c := api.Cell{Epoch: epoch, Number: number, Data: "x"}
					if got, ok := full(floor).Admit(at, c); ok || got != full(floor) {
						t.Errorf("floor %d: Admit(%d, %v) = %v, %v", floor, at, c, got, ok)
					}
				}
			}
		}
	}
}

// I1: what is of its epoch is admitted; it is the block's cell if it is newer, and no other block's.
func TestAdmit(t *testing.T) {
	for _, x := range []struct {
		name    string
		had, c  api.Cell
		changed bool
	}{
		{"the first one", api.Cell{}, api.Cell{Epoch: 3, Number: 1, Data: "x"}, true},
		{"of the number 0", api.Cell{}, api.Cell{Epoch: 3, Data: "x"}, true},
		{"the next one", api.Cell{Epoch: 3, Number: 4, Data: "a"}, api.Cell{Epoch: 3, Number: 5, Data: "x"}, true},
		{"without bytes", api.Cell{Epoch: 3, Number: 4, Data: "a"}, api.Cell{Epoch: 3, Number: 5}, true},
		{"the same one again", api.Cell{Epoch: 3, Number: 5, Data: "x"}, api.Cell{Epoch: 3, Number: 5, Data: "x"}, false},
		{"the same number, of other bytes", api.Cell{Epoch: 3, Number: 5, Data: "a"}, api.Cell{Epoch: 3, Number: 5, Data: "x"}, false},
		{"late", api.Cell{Epoch: 3, Number: 6, Data: "a"}, api.Cell{Epoch: 3, Number: 5, Data: "x"}, false},
		{"behind an epoch of more", api.Cell{Epoch: 2, Number: 99, Data: "a"}, api.Cell{Epoch: 3, Number: 1, Data: "x"}, true},
		{"where a later epoch was", api.Cell{Epoch: 4, Number: 1, Data: "a"}, api.Cell{Epoch: 3, Number: 9, Data: "x"}, false},
	} {
		for at := range api.MaxAt + 1 {
			had := with(full(3), at, x.had)
			want := had
			if x.changed {
				want = with(had, at, x.c)
			}
			got, ok := had.Admit(at, x.c)
			if !ok || got != want {
				t.Errorf("%s: Admit(%d, %v) = %v, %v, want %v", x.name, at, x.c, got, ok, want)
			}
			if had != with(full(3), at, x.had) {
				t.Errorf("%s: the one that was asked is changed: %v", x.name, had)
			}
			if again, ok := got.Admit(at, x.c); !ok || again != want {
				t.Errorf("%s: and twice: %v, %v", x.name, again, ok)
			}
		}
	}
}

// Z1: of a block that there isn't: no panic, and nothing is changed.
func TestAdmitOfNoBlock(t *testing.T) {
	for _, at := range []int{math.MinInt, -1, api.MaxAt + 1, math.MaxInt} {
		if got, ok := full(3).Admit(at, api.Cell{Epoch: 3, Number: 99}); ok || got != full(3) {
			t.Errorf("Admit(%d) = %v, %v", at, got, ok)
		}
		if replica.HasBlock(at) {
			t.Errorf("HasBlock(%d)", at)
		}
	}
	for at := range api.MaxAt + 1 {
		if !replica.HasBlock(at) {
			t.Errorf("no HasBlock(%d)", at)
		}
	}
}

// I2: just from the epoch ahead, and not back; the cells stay; who has the epoch already is asked again in vain, and says yes.
func TestFence(t *testing.T) {
	for floor := range 8 {
		for epoch := 1; epoch < 9; epoch++ {
			want := full(floor)
			if epoch-floor == 1 {
				want.Floor = epoch
			}
			had := full(floor)
			got, ok := had.Fence(epoch)
			if got != want || ok != (epoch == floor || epoch == floor+1) {
				t.Errorf("floor %d: Fence(%d) = %v, %v", floor, epoch, got, ok)
			}
			if had != full(floor) {
				t.Errorf("floor %d: the one that was asked is changed: %v", floor, had)
			}
		}
	}
}

// I2, Z1: floors and epochs at all edges.
func TestFenceOfEdges(t *testing.T) {
	for _, x := range []struct {
		floor, epoch, want int
		ok                 bool
	}{
		{math.MaxInt - 1, math.MaxInt, math.MaxInt, true},
		{math.MaxInt, math.MaxInt, math.MaxInt, true},
		{math.MaxInt, math.MaxInt - 1, math.MaxInt, false},
		{math.MaxInt, 1, math.MaxInt, false},
		{math.MinInt, math.MaxInt, math.MinInt, false},
		{-1, 1, -1, false},
		{api.MaxEpoch - 1, api.MaxEpoch, api.MaxEpoch, true},
	} {
		got, ok := replica.Replica{Floor: x.floor}.Fence(x.epoch)
		if got != (replica.Replica{Floor: x.want}) || ok != x.ok {
			t.Errorf("floor %d: Fence(%d) = %v, %v", x.floor, x.epoch, got, ok)
		}
	}
	for _, floor := range odd() {
		for _, epoch := range odd() {
			replica.Replica{Floor: floor}.Fence(epoch)
		}
	}
}

// W1: behind a fence nothing of the epoch ahead is admitted, however often it comes.
func TestFencedOff(t *testing.T) {
	old := api.Cell{Epoch: 1, Number: 9, Data: "old"}
	r, ok := replica.New().Fence(2)
	if !ok {
		t.Fatal("not fenced")
	}
	for range 3 {
		for at := range api.MaxAt + 1 {
			var is bool
			if r, is = r.Admit(at, old); is {
				t.Errorf("%v is admitted", old)
			}
		}
	}
	if want := (replica.Replica{Floor: 2}); r != want {
		t.Errorf("%v, want %v", r, want)
	}
}

// I2: of none there are cells of zeros.
func TestMergeOfNone(t *testing.T) {
	var zeros [api.MaxAt + 1]api.Cell
	if got := replica.Merge(nil); got != zeros {
		t.Errorf("Merge(nil) = %v", got)
	}
	if got := replica.Merge([]replica.Replica{}); got != zeros {
		t.Errorf("Merge of an empty list = %v", got)
	}
	if got := replica.Merge([]replica.Replica{replica.New(), replica.New()}); got != zeros {
		t.Errorf("Merge of new ones = %v", got)
	}
}

// I2: block by block, whatever the floors are, and wherever the newest one stands.
func TestMergeIsBlockByBlock(t *testing.T) {
	l := []replica.Replica{{Floor: 1}, {Floor: 9}, {Floor: 4}}
	var want [api.MaxAt + 1]api.Cell
	for at := range want {
		for i := range l {
			l[i].Cells[at] = api.Cell{Epoch: 2, Number: i, Data: "no"}
		}
		want[at] = api.Cell{Epoch: 2 + at%2, Number: 3, Data: string(rune('a' + at))}
		l[at%3].Cells[at] = want[at]
	}
	if got := replica.Merge(l); got != want {
		t.Errorf("Merge(%v) = %v, want %v", l, got, want)
	}
}

// I2: the first of those of which none is newer, the one of zeros behind all others.
func TestMergeOfOneBlock(t *testing.T) {
	cell := func(epoch, number int, data string) api.Cell {
		return api.Cell{Epoch: epoch, Number: number, Data: data}
	}
	for _, x := range []struct {
		name string
		l    []api.Cell
		want api.Cell
	}{
		{"one", []api.Cell{cell(1, 1, "a")}, cell(1, 1, "a")},
		{"the newest is the first", []api.Cell{cell(2, 1, "a"), cell(1, 9, "b")}, cell(2, 1, "a")},
		{"the newest is the last", []api.Cell{cell(1, 9, "a"), cell(1, 2, "b"), cell(2, 1, "c")}, cell(2, 1, "c")},
		{"the newest is in the midst", []api.Cell{cell(2, 1, "a"), cell(2, 3, "b"), cell(2, 2, "c")}, cell(2, 3, "b")},
		{"two alike", []api.Cell{cell(2, 1, "a"), cell(2, 1, "b")}, cell(2, 1, "a")},
		{"two alike, behind another", []api.Cell{cell(1, 1, "a"), cell(2, 1, "b"), cell(2, 1, "c")}, cell(2, 1, "b")},
		{"three alike", []api.Cell{cell(2, 1, "c"), cell(2, 1, "b"), cell(2, 1, "a")}, cell(2, 1, "c")},
		{"like the one of zeros", []api.Cell{cell(0, 0, "a"), cell(0, 0, "b")}, cell(0, 0, "a")},
		{"elder than the one of zeros", []api.Cell{cell(-1, 9, "a"), cell(0, -1, "b")}, cell(0, 0, "")},
		{"elder, and then like it", []api.Cell{cell(-1, 9, "a"), cell(0, 0, "b")}, cell(0, 0, "b")},
		{"edges", []api.Cell{cell(math.MinInt, math.MaxInt, "a"), cell(math.MaxInt, math.MinInt, "b")}, cell(math.MaxInt, math.MinInt, "b")},
		{"many", []api.Cell{cell(1, 1, "a"), cell(1, 2, "b"), cell(1, 3, "c"), cell(1, 5, "d"), cell(1, 4, "e"), cell(1, 5, "f")}, cell(1, 5, "d")},
	} {
		for at := range api.MaxAt + 1 {
			var l []replica.Replica
			for _, c := range x.l {
				l = append(l, with(replica.Replica{Floor: 2}, at, c))
			}
			var want [api.MaxAt + 1]api.Cell
			want[at] = x.want
			if got := replica.Merge(l); got != want {
				t.Errorf("%s: at %d: %v, want %v", x.name, at, got[at], x.want)
			}
		}
	}
}

// Z2: what is handed in stays as it is, and what lies behind it isn't read.
func TestMergeLeavesTheList(t *testing.T) {
	memory := []replica.Replica{full(3), full(2), full(9), full(8)}
	was := slices.Clone(memory)
	if got, want := replica.Merge(memory[:2]), full(3).Cells; got != want {
		t.Errorf("Merge = %v, want %v", got, want)
	}
	if !slices.Equal(memory, was) {
		t.Errorf("written into what was handed in: %v", memory)
	}
}
