package group_test

import (
	"math"
	"slices"
	"testing"

	"kissinggate/api"
	"kissinggate/group"
	"kissinggate/replica"
)

// made: a group of these floors, of which those are up whose bit is set; no two cells are alike, nor does one of the group have the newest ones of all blocks.
func made(floors [api.Many]int, up int) group.Group {
	var g group.Group
	for i := range g.R {
		g.Up[i] = up>>i&1 == 1
		g.R[i].Floor = floors[i]
		for at := range g.R[i].Cells {
			g.R[i].Cells[at] = api.Cell{Epoch: 1, Number: 1 + (i+at)%api.Many, Data: string(rune('a' + at*api.Many + i))}
		}
	}
	return g
}

// several groups: all of some floors and of all that may be up.
func several(yield func(floors [api.Many]int, up int) bool) {
	for n := range 4 * 4 * 4 {
		for up := range 8 {
			if !yield([api.Many]int{n & 3, n >> 2 & 3, n >> 4}, up) {
				return
			}
		}
	}
}

// taking: who takes part in an epoch.
func taking(floors [api.Many]int, up, epoch int) []int {
	l := []int{}
	for i, f := range floors {
		if up&(1<<i) != 0 && f == epoch {
			l = append(l, i)
		}
	}
	return l
}

// newest cell of a block, of some of a group that made made.
func newest(g group.Group, l []int, at int) api.Cell {
	var c api.Cell
	for _, i := range l {
		if g.R[i].Cells[at].Number > c.Number {
			c = g.R[i].Cells[at]
		}
	}
	return c
}

// edges of numbers, and numbers beyond what there is.
func edges() []int {
	return []int{math.MinInt, -1, api.Many, api.MaxAt + 1, math.MaxInt}
}

// J1.
func TestNew(t *testing.T) {
	g := group.New()
	for i := range api.Many {
		if g.R[i] != replica.New() || !g.Up[i] {
			t.Errorf("%d of New(): %v, %v", i, g.R[i], g.Up[i])
		}
	}
	if got := g.Members(1); !slices.Equal(got, []int{0, 1, 2}) {
		t.Errorf("Members(1) of New() = %v", got)
	}
	if got := g.Members(2); len(got) != 0 {
		t.Errorf("Members(2) of New() = %v", got)
	}
}

// J1: those that are up, and have that floor, rising.
func TestMembers(t *testing.T) {
	for floors, up := range several {
		g := made(floors, up)
		for epoch := range 5 {
			if got, want := g.Members(epoch), taking(floors, up, epoch); !slices.Equal(got, want) {
				t.Errorf("%v, %03b: Members(%d) = %v, want %v", floors, up, epoch, got, want)
			}
		}
		if g != made(floors, up) {
			t.Errorf("%v, %03b: changed", floors, up)
		}
	}
}

// Z2: what Members answers is the caller's.
func TestMembersAreFresh(t *testing.T) {
	g := group.New()
	a := g.Members(1)
	clear(a[:cap(a)])
	if b := g.Members(1); !slices.Equal(b, []int{0, 1, 2}) {
		t.Errorf("Members(1) = %v behind a change of what it answered", b)
	}
}

// J2: the members of the epoch ahead go on, if they are most, and nobody else; no cell is changed.
func TestFence(t *testing.T) {
	for floors, up := range several {
		for epoch := range 6 {
			then := floors
			if l := taking(floors, up, epoch-1); len(l) > 1 {
				for _, i := range l {
					then[i] = epoch
				}
			}
			want := made(floors, up)
			for i := range want.R {
				want.R[i].Floor = then[i]
			}
			is := len(taking(then, up, epoch)) > 1
			had := made(floors, up)
			got, ok := had.Fence(epoch)
			if got != want || ok != is {
				t.Errorf("%v, %03b: Fence(%d) = %v, %v, want %v, %v", floors, up, epoch, got, ok, want, is)
			}
			if had != made(floors, up) {
				t.Errorf("%v, %03b: Fence(%d): the one that was asked is changed", floors, up, epoch)
			}
			if again, ok := got.Fence(epoch); ok != is || is && again != got {
				t.Errorf("%v, %03b: Fence(%d) again = %v, %v", floors, up, epoch, again, ok)
			}
		}
	}
}

// J3: the newest cell of the members, which all of them have then, and nobody else; false, and nothing is changed, if they aren't most.
func TestRead(t *testing.T) {
	for floors, up := range several {
		for epoch := range 5 {
			for at := range api.MaxAt + 1 {
				had := made(floors, up)
				want, c := had, api.Cell{}
				l := taking(floors, up, epoch)
				is := len(l) > 1
				if is {
					c = newest(had, l, at)
					for _, i := range l {
						want.R[i].Cells[at] = c
					}
				}
				got, cell, ok := had.Read(epoch, at)
				if got != want || cell != c || ok != is {
					t.Errorf("%v, %03b: Read(%d, %d) = %v, %v, %v, want %v, %v, %v", floors, up, epoch, at, got, cell, ok, want, c, is)
				}
				if had != made(floors, up) {
					t.Errorf("%v, %03b: Read(%d, %d): the one that was asked is changed", floors, up, epoch, at)
				}
			}
		}
	}
}

// J3: of cells of which none is newer the first one's; of elder ones than zeros the one of zeros.
func TestReadOfCellsAlike(t *testing.T) {
	for _, x := range []struct {
		name string
		l    [api.Many]api.Cell
		want api.Cell
	}{
		{"never written", [api.Many]api.Cell{}, api.Cell{}},
		{"alike", [api.Many]api.Cell{{Epoch: 1, Number: 1, Data: "x"}, {Epoch: 1, Number: 2, Data: "y"}, {Epoch: 1, Number: 2, Data: "z"}}, api.Cell{Epoch: 1, Number: 2, Data: "y"}},
		{"an epoch above numbers", [api.Many]api.Cell{{Epoch: 1, Number: 9, Data: "x"}, {Epoch: 2, Number: 1, Data: "y"}, {Epoch: 1, Number: 8, Data: "z"}}, api.Cell{Epoch: 2, Number: 1, Data: "y"}},
		{"elder than zeros", [api.Many]api.Cell{{Epoch: -1, Data: "x"}, {Epoch: -2, Data: "y"}, {Number: -1, Data: "z"}}, api.Cell{}},
		{"like zeros", [api.Many]api.Cell{{Epoch: -1, Data: "x"}, {Data: "y"}, {Data: "z"}}, api.Cell{Data: "y"}},
	} {
		g := group.New()
		for i, c := range x.l {
			g.R[i].Cells[5] = c
		}
		g, c, ok := g.Read(1, 5)
		if !ok || c != x.want {
			t.Errorf("%s: Read = %v, %v, want %v", x.name, c, ok, x.want)
		}
		for i := range g.R {
			if g.R[i].Cells[5] != x.want {
				t.Errorf("%s: %d has %v, want %v", x.name, i, g.R[i].Cells[5], x.want)
			}
		}
	}
}

// J3: one that is up, and behind, has the epoch and what the members have, of its own cells none; else nothing is changed.
func TestSync(t *testing.T) {
	for floors, up := range several {
		for epoch := range 5 {
			for i := range api.Many {
				had := made(floors, up)
				want := had
				l := taking(floors, up, epoch)
				is := up>>i&1 == 1 && len(l) > 1 && floors[i] < epoch
				if is {
					want.R[i].Floor = epoch
					for at := range api.MaxAt + 1 {
						want.R[i].Cells[at] = newest(had, l, at)
					}
				}
				got, ok := had.Sync(epoch, i)
				if got != want || ok != is {
					t.Errorf("%v, %03b: Sync(%d, %d) = %v, %v, want %v, %v", floors, up, epoch, i, got, ok, want, is)
				}
				if had != made(floors, up) {
					t.Errorf("%v, %03b: Sync(%d, %d): the one that was asked is changed", floors, up, epoch, i)
				}
			}
		}
	}
}

// J4: one that is down admits nothing; one that is up what is of its epoch, and nobody else is changed.
func TestDeliver(t *testing.T) {
	for floors, up := range several {
		for to := range api.Many {
			for at := range api.MaxAt + 1 {
				for epoch := range 5 {
					for _, number := range []int{0, 2, 9} {
						m := api.Message{To: to, At: at, Cell: api.Cell{Epoch: epoch, Number: number, Data: "new"}, Tag: 7}
						checkDeliver(t, floors, up, m)
					}
				}
			}
		}
	}
}

func checkDeliver(t *testing.T, floors [api.Many]int, up int, m api.Message) {
	t.Helper()
	had := made(floors, up)
	want := had
	is := up>>m.To&1 == 1 && floors[m.To] == m.Cell.Epoch
	// Cells of made are of epoch 1.
	if is && (m.Cell.Epoch > 1 || m.Cell.Epoch == 1 && m.Cell.Number > had.R[m.To].Cells[m.At].Number) {
		want.R[m.To].Cells[m.At] = m.Cell
	}
	got, ok := had.Deliver(m)
	if got != want || ok != is {
		t.Errorf("%v, %03b: Deliver(%v) = %v, %v, want %v, %v", floors, up, m, got, ok, want, is)
	}
	if had != made(floors, up) {
		t.Errorf("%v, %03b: Deliver(%v): the one that was asked is changed", floors, up, m)
	}
	if again, ok := got.Deliver(m); again != want || ok != is {
		t.Errorf("%v, %03b: Deliver(%v), and twice: %v, %v", floors, up, m, again, ok)
	}
}

// Z1: replicas and blocks that there aren't make no panic, and change nothing.
func TestNoneSuch(t *testing.T) {
	g := made([api.Many]int{2, 2, 1}, 7)
	for _, n := range edges() {
		if got, ok := g.Sync(2, n); ok || got != g {
			t.Errorf("Sync(2, %d) = %v, %v", n, got, ok)
		}
		if got, ok := g.Deliver(api.Message{To: n, Cell: api.Cell{Epoch: 2, Number: 9}}); ok || got != g {
			t.Errorf("Deliver to %d = %v, %v", n, got, ok)
		}
		if n == api.Many { // there is such a block
			continue
		}
		if got, c, ok := g.Read(2, n); ok || got != g || c != (api.Cell{}) {
			t.Errorf("Read(2, %d) = %v, %v, %v", n, got, c, ok)
		}
		if got, ok := g.Deliver(api.Message{At: n, Cell: api.Cell{Epoch: 2, Number: 9}}); ok || got != g {
			t.Errorf("Deliver of block %d = %v, %v", n, got, ok)
		}
	}
}

// Z1: groups and epochs at all edges of numbers.
func TestNoPanic(t *testing.T) {
	for _, floor := range edges() {
		g := made([api.Many]int{floor, floor, -floor}, 7)
		for _, epoch := range edges() {
			g.Members(epoch)
			g.Fence(epoch)
			for _, n := range append(edges(), 0, 2) {
				g.Read(epoch, n)
				g.Sync(epoch, n)
				g.Deliver(api.Message{To: n, At: n, Cell: api.Cell{Epoch: epoch, Number: epoch}})
			}
		}
	}
	g := made([api.Many]int{math.MaxInt - 1, math.MaxInt - 1, math.MaxInt}, 7)
	if got, ok := g.Fence(math.MaxInt); !ok || !slices.Equal(got.Members(math.MaxInt), []int{0, 1, 2}) {
		t.Errorf("Fence(%d) = %v, %v", math.MaxInt, got, ok)
	}
	var none group.Group
	if got, ok := none.Fence(1); ok || got != none {
		t.Errorf("Fence of a group of zeros = %v, %v", got, ok)
	}
}
