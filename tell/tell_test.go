package tell_test

import (
	"math"
	"slices"
	"testing"

	"kissinggate/api"
	"kissinggate/tell"
)

// added: what is told to somebody, one behind the other.
func added(b tell.Box, who int, what ...int) tell.Box {
	for _, n := range what {
		b = tell.Add(b, api.Tell{Who: who, What: n})
	}
	return b
}

func same(a, b tell.Box) bool {
	for i := range a.L {
		if !slices.Equal(a.L[i], b.L[i]) {
			return false
		}
	}
	return true
}

// E1: behind all, unless it is the last one already; the eldest is no more.
func TestAdd(t *testing.T) {
	for _, x := range []struct {
		name      string
		add, want []int
	}{
		{"none", nil, nil},
		{"one", []int{2}, []int{2}},
		{"behind", []int{2, 1, 3}, []int{2, 1, 3}},
		{"the last one already", []int{2, 2, 2}, []int{2}},
		{"the last one already, behind another", []int{3, 1, 1}, []int{3, 1}},
		{"there, but not the last one", []int{2, 1, 2}, []int{2, 1, 2}},
		{"as many as there may be", []int{1, 2, 3, 4, 1}, []int{1, 2, 3, 4, 1}},
		{"one too many", []int{1, 2, 3, 4, 1, 2}, []int{2, 3, 4, 1, 2}},
		{"full, and the last one already", []int{1, 2, 3, 4, 1, 1}, []int{1, 2, 3, 4, 1}},
		{"far too many", []int{1, 2, 3, 1, 2, 3, 1, 2, 3, 4}, []int{3, 1, 2, 3, 4}},
	} {
		for who := 1; who <= api.MaxWho; who++ {
			want := tell.Power()
			want.L[who-1] = x.want
			empty := tell.Power()
			empty.L[who-1] = nil
			if got := added(empty, who, x.add...); !same(got, want) {
				t.Errorf("%s: to %d: %v, want %v", x.name, who, got, want)
			}
		}
	}
}

// E1: the eldest first, one a time, of that one alone; 0 behind the last.
func TestTake(t *testing.T) {
	for who := 1; who <= api.MaxWho; who++ {
		b := tell.Power()
		b.L[who-1] = []int{3, 1, 2}
		for i, want := range []int{3, 1, 2, 0, 0} {
			then, got := tell.Take(b, who)
			left := tell.Power()
			left.L[who-1] = []int{3, 1, 2}[min(i+1, 3):]
			if got != want || !same(then, left) {
				t.Errorf("Take(%v, %d) = %v, %d, want %v, %d", b, who, then, got, left, want)
			}
			b = then
		}
	}
	if b, n := tell.Take(tell.Box{}, 1); n != 0 || !same(b, tell.Box{}) {
		t.Errorf("Take of nothing = %v, %d", b, n)
	}
}

// E1: what was taken is told again, if it comes again.
func TestAddBehindTake(t *testing.T) {
	b := added(tell.Box{}, 3, api.Lost)
	b, _ = tell.Take(b, 3)
	b = added(b, 3, api.Lost)
	if want := (tell.Box{L: [api.MaxWho][]int{nil, nil, {api.Lost}, nil}}); !same(b, want) {
		t.Errorf("%v, want %v", b, want)
	}
}

// E1.
func TestPower(t *testing.T) {
	want := tell.Box{L: [api.MaxWho][]int{{4}, {4}, {4}, {4}}}
	if got := tell.Power(); !same(got, want) {
		t.Errorf("Power() = %v", got)
	}
}

// E1: against queues that are kept otherwise, over many steps.
func TestManySteps(t *testing.T) {
	var b tell.Box
	var all [api.MaxWho][]int // all that was ever added, and how far it is taken or lost
	var from [api.MaxWho]int
	n := uint32(1)
	for range 20000 {
		n = n*1664525 + 1013904223
		who, what := int(n>>28&3)+1, int(n>>24&3)+1
		l, f := &all[who-1], &from[who-1]
		if n>>20&3 > 0 {
			b = tell.Add(b, api.Tell{Who: who, What: what})
			if *f == len(*l) || (*l)[len(*l)-1] != what {
				*l = append(*l, what)
			}
			*f = max(*f, len(*l)-api.MaxTells)
		} else {
			want := 0
			if *f < len(*l) {
				want = (*l)[*f]
				*f++
			}
			var got int
			if b, got = tell.Take(b, who); got != want {
				t.Fatalf("Take: %d, want %d", got, want)
			}
		}
		for i := range b.L {
			if !slices.Equal(b.L[i], all[i][from[i]:]) {
				t.Fatalf("%v, want of %d %v", b, i+1, all[i][from[i]:])
			}
		}
	}
}

// Z2: what is handed in stays as it is, and so does what lies behind it; the list that changed is new.
func TestListsAreNotShared(t *testing.T) {
	for size := range 6 {
		memory := []int{1, 2, 3, 1, 2, 77, 88}
		was := slices.Clone(memory)
		b := tell.Box{L: [api.MaxWho][]int{{3}, memory[:size], {2}, nil}}
		more := tell.Add(b, api.Tell{Who: 2, What: 4})
		less, _ := tell.Take(b, 2)
		if !slices.Equal(memory, was) || len(b.L[1]) != size {
			t.Errorf("%d: written into what was handed in: %v", size, memory)
		}
		wantMore, wantLess := slices.Clone(more.L[1]), slices.Clone(less.L[1])
		clear(memory)
		if !slices.Equal(more.L[1], wantMore) || !slices.Equal(less.L[1], wantLess) {
			t.Errorf("%d: what was handed in is kept: %v, %v", size, more.L[1], less.L[1])
		}
		copy(memory, was)
		clear(more.L[1][:cap(more.L[1])])
		if size > 0 { // a list that was not changed may be shared
			clear(less.L[1][:cap(less.L[1])])
		}
		if !slices.Equal(memory, was) {
			t.Errorf("%d: what was handed in is handed out: %v", size, memory)
		}
	}
	b := tell.Power()
	clear(b.L[0])
	if !slices.Equal(b.L[1], []int{api.PowerLost}) || !slices.Equal(tell.Power().L[0], []int{api.PowerLost}) {
		t.Error("lists of Power share memory")
	}
}

// Z1: nobody else, whatever is told, and a box with too much in it make no panic; who has no list leaves the box as it is.
func TestNoPanic(t *testing.T) {
	b := added(tell.Power(), 2, 1, 2)
	for _, who := range []int{math.MinInt, -1, 0, api.MaxWho + 1, math.MaxInt} {
		if got := tell.Add(b, api.Tell{Who: who, What: 1}); !same(got, b) {
			t.Errorf("Add for %d: %v", who, got)
		}
		if got, n := tell.Take(b, who); !same(got, b) || n != 0 {
			t.Errorf("Take of %d: %v, %d", who, got, n)
		}
	}
	for _, what := range []int{math.MinInt, -1, 0, 5, math.MaxInt} {
		if got, n := tell.Take(added(tell.Box{}, 1, what), 1); !same(got, tell.Box{}) || n != what {
			t.Errorf("told %d: %d, and then %v", what, n, got)
		}
	}
	much := tell.Box{L: [api.MaxWho][]int{{1, 2, 3, 1, 2, 3, 1}, nil, nil, nil}}
	if got := added(much, 1, 2).L[0]; !slices.Equal(got, []int{1, 2, 3, 1, 2}) {
		t.Errorf("too much, and one more: %v", got)
	}
}
