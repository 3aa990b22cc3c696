package hold_test

import (
	"math"
	"reflect"
	"slices"
	"testing"

	"kissinggate/api"
	"kissinggate/hold"
)

// known: by which key each is, who less 1; a second way to write down who is known.
type known [api.MaxWho]int

func (k known) regs() []api.Reg {
	var l []api.Reg
	for i, key := range k {
		if key > 0 {
			l = append(l, api.Reg{Who: i + 1, Key: key})
		}
	}
	return l
}

// each set of those who are known, by one of some keys each.
func each(do func(k known)) {
	keys := []int{0, 1, 999}
	for i := range 3 * 3 * 3 * 3 {
		do(known{keys[i%3], keys[i/3%3], keys[i/9%3], keys[i/27]})
	}
}

// states that may be: who is known, and what is held in which way by whom.
func states(do func(k known, s api.State)) {
	each(func(k known) {
		do(k, api.State{Gen: api.MaxGen, Regs: k.regs(), Stays: true})
		for _, n := range []int{api.WriteAlone, api.UseAlone, api.WriteKnown, api.UseKnown} {
			for i, key := range k {
				if key > 0 {
					do(k, api.State{Gen: 3, Regs: k.regs(), Type: n, Holder: i + 1})
				}
			}
		}
		if k != (known{}) {
			do(k, api.State{Regs: k.regs(), Type: api.WriteAll, Stays: true})
			do(k, api.State{Regs: k.regs(), Type: api.UseAll})
		}
	})
}

// B1.
func TestKeyAllHolds(t *testing.T) {
	states(func(k known, s api.State) {
		all := s.Type == 7 || s.Type == 8
		if hold.All(s) != all {
			t.Errorf("All(%v) = %v", s, !all)
		}
		for i, key := range k {
			who := i + 1
			if got := hold.Key(s, who); got != key {
				t.Errorf("Key(%v, %d) = %d, want %d", s, who, got, key)
			}
			want := all && key > 0 || s.Holder == who
			if hold.Holds(s, who) != want {
				t.Errorf("Holds(%v, %d) = %v", s, who, !want)
			}
		}
		for _, who := range []int{math.MinInt, -1, 0, 5, math.MaxInt} {
			if hold.Key(s, who) != 0 || hold.Holds(s, who) {
				t.Errorf("%v: %d is known by %d, holds %v", s, who, hold.Key(s, who), hold.Holds(s, who))
			}
		}
	})
}

// B1: of a state that With made, in which who holds is known no more.
func TestHoldsBehindWith(t *testing.T) {
	s := api.State{Regs: known{1, 2}.regs(), Type: api.UseKnown, Holder: 2}
	s = hold.With(s, 2, 0)
	if !hold.Holds(s, 2) || hold.Holds(s, 1) || hold.Key(s, 2) != 0 {
		t.Errorf("alone: %v: %v %v %d", s, hold.Holds(s, 2), hold.Holds(s, 1), hold.Key(s, 2))
	}
	s = api.State{Regs: known{1}.regs(), Type: api.WriteAll}
	s = hold.With(s, 1, 0)
	if hold.Holds(s, 1) || !hold.All(s) {
		t.Errorf("all: %v: %v %v", s, hold.Holds(s, 1), hold.All(s))
	}
}

// B2.
func TestCheckOfStatesThatMayBe(t *testing.T) {
	if err := hold.Check(api.State{}); err != nil {
		t.Errorf("Check of zeros = %v", err)
	}
	states(func(k known, s api.State) {
		if err := hold.Check(s); err != nil {
			t.Errorf("Check(%v) = %v", s, err)
		}
	})
}

// B2: what is wrong, and which of several wrongs is told.
func TestCheckTellsTheFirst(t *testing.T) {
	regs := func(l ...int) []api.Reg {
		var r []api.Reg
		for i := 0; i < len(l); i += 2 {
			r = append(r, api.Reg{Who: l[i], Key: l[i+1]})
		}
		return r
	}
	for _, x := range []struct {
		name string
		s    api.State
		want api.Errno
	}{
		{"gen below", api.State{Gen: -1}, api.ErrBound},
		{"gen above", api.State{Gen: api.MaxGen + 1}, api.ErrBound},
		{"gen far above", api.State{Gen: math.MaxInt}, api.ErrBound},
		{"gen goes ahead of regs", api.State{Gen: -1, Regs: regs(2, 1, 1, 1)}, api.ErrBound},
		{"gen goes ahead of type", api.State{Gen: -1, Type: 2}, api.ErrBound},

		{"who 0", api.State{Regs: regs(0, 1)}, api.ErrBound},
		{"who below", api.State{Regs: regs(math.MinInt, 1)}, api.ErrBound},
		{"who above", api.State{Regs: regs(5, 1)}, api.ErrBound},
		{"key 0", api.State{Regs: regs(1, 0)}, api.ErrBound},
		{"key below", api.State{Regs: regs(1, -1)}, api.ErrBound},
		{"key above", api.State{Regs: regs(1, 1000)}, api.ErrBound},
		{"the last one's key", api.State{Regs: regs(1, 1, 2, 2, 3, 3, 4, 1000)}, api.ErrBound},
		{"twice", api.State{Regs: regs(1, 1, 1, 1)}, api.ErrShape},
		{"falling", api.State{Regs: regs(1, 1, 3, 1, 2, 1)}, api.ErrShape},
		{"one's bound goes ahead of its place", api.State{Regs: regs(2, 1, 1, 0)}, api.ErrBound},
		{"one's place goes ahead of the next one's bound", api.State{Regs: regs(2, 1, 1, 1, 5, 1)}, api.ErrShape},
		{"one's bound goes ahead of the next one's place", api.State{Regs: regs(2, 1, 0, 1, 1, 1)}, api.ErrBound},
		{"bound of regs goes ahead of type", api.State{Regs: regs(1, 0), Type: 2}, api.ErrBound},
		{"five", api.State{Regs: regs(1, 1, 2, 1, 3, 1, 4, 1, 4, 1)}, api.ErrShape},

		{"a holder without type", api.State{Regs: regs(1, 1), Holder: 1}, api.ErrShape},
		{"a holder below without type", api.State{Holder: -1}, api.ErrShape},
		{"type 2", api.State{Regs: regs(1, 1), Type: 2, Holder: 1}, api.ErrShape},
		{"type 4", api.State{Regs: regs(1, 1), Type: 4, Holder: 1}, api.ErrShape},
		{"type 9", api.State{Regs: regs(1, 1), Type: 9}, api.ErrShape},
		{"type below", api.State{Regs: regs(1, 1), Type: -1, Holder: 1}, api.ErrShape},
		{"all, and a holder", api.State{Regs: regs(1, 1), Type: api.WriteAll, Holder: 1}, api.ErrShape},
		{"all use, and a holder", api.State{Regs: regs(1, 1), Type: api.UseAll, Holder: 1}, api.ErrShape},
		{"all, and nobody", api.State{Type: api.WriteAll}, api.ErrShape},
		{"all use, and nobody", api.State{Type: api.UseAll}, api.ErrShape},
		{"nobody holds it", api.State{Regs: regs(1, 1), Type: api.WriteAlone}, api.ErrShape},
		{"who holds it alone isn't known", api.State{Regs: regs(1, 1, 3, 1), Type: api.UseAlone, Holder: 2}, api.ErrShape},
		{"who holds it isn't known", api.State{Regs: regs(1, 1), Type: api.WriteKnown, Holder: 5}, api.ErrShape},
		{"nobody is known", api.State{Type: api.UseKnown, Holder: 1}, api.ErrShape},
	} {
		if err := hold.Check(x.s); err != x.want {
			t.Errorf("%s: Check(%v) = %v, want %v", x.name, x.s, err, x.want)
		}
	}
}

// B3: as if it was written down otherwise; all else as it was, and still so if With is called on what it made.
func TestWith(t *testing.T) {
	states(func(k known, s api.State) {
		for i := range k {
			for _, key := range []int{0, 1, 2, 999} {
				then := k
				then[i] = key
				want := s
				want.Regs = then.regs()
				if got := hold.With(s, i+1, key); !same(got, want) {
					t.Errorf("With(%v, %d, %d) = %v, want %v", s, i+1, key, got, want)
				}
			}
		}
		for i := range k {
			none := hold.With(s, i+1, 0)
			want := s
			want.Regs = k.regs()
			if got := hold.With(none, i+1, k[i]); !same(got, want) {
				t.Errorf("%v, and With(.., %d, %d) = %v", none, i+1, k[i], got)
			}
		}
	})
}

// same: an empty list may be nil or not.
func same(a, b api.State) bool {
	if !slices.Equal(a.Regs, b.Regs) {
		return false
	}
	a.Regs, b.Regs = nil, nil
	return reflect.DeepEqual(a, b)
}

// B3.
func TestOthers(t *testing.T) {
	states(func(k known, s api.State) {
		for who := range api.MaxWho + 2 {
			var want []int
			for i, key := range k {
				if key > 0 && i+1 != who {
					want = append(want, i+1)
				}
			}
			if got := hold.Others(s, who); !slices.Equal(got, want) {
				t.Errorf("Others(%v, %d) = %v, want %v", s, who, got, want)
			}
		}
	})
	s := hold.With(hold.With(api.State{Regs: known{0, 0, 3}.regs(), Type: api.UseAlone, Holder: 3}, 1, 1), 3, 0)
	if got := hold.Others(s, 3); !slices.Equal(got, []int{1}) {
		t.Errorf("Others(%v, 3) = %v", s, got)
	}
}

// Z2: what is handed in stays as it is, and so does what lies behind it; what comes out is the caller's.
func TestListsAreNotShared(t *testing.T) {
	for who := 1; who <= api.MaxWho; who++ {
		for _, key := range []int{0, 5, 7} {
			memory := []api.Reg{{Who: 1, Key: 5}, {Who: 2, Key: 6}, {Who: 4, Key: 7}, {Who: 3, Key: 77}, {Who: 9, Key: 99}}
			was := slices.Clone(memory)
			s := api.State{Regs: memory[:3], Type: api.WriteAlone, Holder: 1}
			got := hold.With(s, who, key)
			want := slices.Clone(got.Regs)
			hold.Check(s)
			hold.Others(s, who)
			if !slices.Equal(memory, was) {
				t.Errorf("With(.., %d, %d) wrote into what was handed in: %v", who, key, memory)
			}
			clear(memory)
			if !slices.Equal(got.Regs, want) {
				t.Errorf("With(.., %d, %d) kept what was handed in: %v", who, key, got.Regs)
			}
			copy(memory, was)
			clear(got.Regs[:cap(got.Regs)])
			if !slices.Equal(memory, was) {
				t.Errorf("With(.., %d, %d) handed out what was handed in: %v", who, key, memory)
			}
		}
	}
	s := api.State{Regs: known{1, 2, 3}.regs()}
	a, b := hold.Others(s, 1), hold.Others(s, 1)
	clear(a)
	if !slices.Equal(b, []int{2, 3}) {
		t.Errorf("two answers of Others share memory: %v", b)
	}
}

// Z1, Z3: no state, and no number, makes a call panic; errors are bare.
func TestNoPanic(t *testing.T) {
	ends := []int{math.MinInt, -1, 0, 1, 4, 5, 8, 9, 1000, math.MaxInt}
	for _, n := range ends {
		for _, m := range ends {
			for _, regs := range [][]api.Reg{nil, {}, {{Who: n, Key: m}}, {{Who: m, Key: n}, {Who: n, Key: n}, {Who: n, Key: m}}} {
				s := api.State{Gen: n, Regs: regs, Type: m, Holder: n}
				if err := hold.Check(s); err != nil {
					if _, ok := err.(api.Errno); !ok {
						t.Errorf("Check(%v) = %T", s, err)
					}
				}
				hold.Key(s, m)
				hold.All(s)
				hold.Holds(s, m)
				hold.With(s, m, n)
				hold.Others(s, m)
			}
		}
	}
}
