package rights_test

import (
	"math"
	"slices"
	"testing"

	"kissinggate/api"
	"kissinggate/rights"
)

// C1: 1 and 2 are known; of what isn't held by all 1 is the holder; 3 and 4 are nobody.
func TestMay(t *testing.T) {
	all := []int{1, 2, 3, 4}
	for _, x := range []struct {
		name         string
		kind, holder int
		read, write  []int
	}{
		{"none", 0, 0, all, all},
		{"WriteAlone", api.WriteAlone, 1, all, []int{1}},
		{"UseAlone", api.UseAlone, 1, []int{1}, []int{1}},
		{"WriteKnown", api.WriteKnown, 1, all, []int{1, 2}},
		{"UseKnown", api.UseKnown, 1, []int{1, 2}, []int{1, 2}},
		{"WriteAll", api.WriteAll, 0, all, []int{1, 2}},
		{"UseAll", api.UseAll, 0, []int{1, 2}, []int{1, 2}},
	} {
		s := api.State{Gen: 1, Regs: []api.Reg{{Who: 1, Key: 11}, {Who: 2, Key: 11}}, Type: x.kind, Holder: x.holder}
		for _, who := range all {
			if got, want := rights.May(s, who, false), slices.Contains(x.read, who); got != want {
				t.Errorf("%s: May(%v, %d, false) = %v", x.name, s, who, got)
			}
			if got, want := rights.May(s, who, true), slices.Contains(x.write, who); got != want {
				t.Errorf("%s: May(%v, %d, true) = %v", x.name, s, who, got)
			}
		}
	}
}

// C1: each of those who are known may be the one who holds it, and just that one may.
func TestMayWhoHolds(t *testing.T) {
	var regs []api.Reg
	for who := 1; who <= api.MaxWho; who++ {
		regs = append(regs, api.Reg{Who: who, Key: 1})
	}
	for holder := 1; holder <= api.MaxWho; holder++ {
		for who := 1; who <= api.MaxWho; who++ {
			s := api.State{Regs: regs, Type: api.WriteAlone, Holder: holder}
			if !rights.May(s, who, false) || rights.May(s, who, true) != (who == holder) {
				t.Errorf("May(%v, %d): read %v, write %v", s, who, rights.May(s, who, false), rights.May(s, who, true))
			}
			s.Type = api.UseAlone
			if rights.May(s, who, false) != (who == holder) || rights.May(s, who, true) != (who == holder) {
				t.Errorf("May(%v, %d): read %v, write %v", s, who, rights.May(s, who, false), rights.May(s, who, true))
			}
		}
	}
}

// C1: where nobody is known, and nothing is held, all may.
func TestMayOfZeros(t *testing.T) {
	for who := 1; who <= api.MaxWho; who++ {
		for _, write := range []bool{false, true} {
			if !rights.May(api.State{}, who, write) {
				t.Errorf("May of zeros, %d, %v = false", who, write)
			}
		}
	}
}

// Z1, Z2: no state, and no number, makes it panic; what is handed in stays as it is.
func TestNoPanic(t *testing.T) {
	for _, n := range []int{math.MinInt, -1, 0, 1, 2, 3, 4, 5, 6, 7, 8, 9, math.MaxInt} {
		regs := []api.Reg{{Who: n, Key: n}, {Who: 1, Key: 1}}
		for _, l := range [][]api.Reg{nil, regs} {
			s := api.State{Gen: n, Regs: l, Type: n, Holder: n}
			rights.May(s, n, false)
			rights.May(s, n, true)
		}
		if !slices.Equal(regs, []api.Reg{{Who: n, Key: n}, {Who: 1, Key: 1}}) {
			t.Errorf("what was handed in is changed: %v", regs)
		}
	}
}
