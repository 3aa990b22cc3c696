// Package hold: who is known, and who holds.
package hold

import (
	"slices"

	"kissinggate/api"
	"kissinggate/code"
)

// Key by which somebody is known; 0: they aren't.
func Key(s api.State, who int) int {
	for _, r := range s.Regs {
		if r.Who == who {
			return r.Key
		}
	}
	return 0
}

// All: do all who are known hold it?
func All(s api.State) bool {
	return s.Type == api.WriteAll || s.Type == api.UseAll
}

// Holds: does somebody hold it?
func Holds(s api.State, who int) bool {
	if All(s) {
		return Key(s, who) != 0
	}
	return s.Type != 0 && s.Holder == who
}

// Check a state.
func Check(s api.State) error {
	if s.Gen < 0 || s.Gen > api.MaxGen {
		return api.ErrBound
	}
	ahead := 0
	for _, r := range s.Regs {
		if r.Who < 1 || r.Who > api.MaxWho || r.Key < 1 || r.Key > api.MaxKey {
			return api.ErrBound
		}
		if r.Who <= ahead {
			return api.ErrShape
		}
		ahead = r.Who
	}
	if !held(s) {
		return api.ErrShape
	}
	return nil
}

// held: do Type and Holder fit each other, and who is known?
func held(s api.State) bool {
	switch {
	case s.Type == 0:
		return s.Holder == 0
	case !code.Type(s.Type):
		return false
	case All(s):
		return s.Holder == 0 && len(s.Regs) > 0
	}
	return Key(s, s.Holder) != 0
}

// With who is known by a key from now on (0: not any more).
func With(s api.State, who, key int) api.State {
	isWho := func(r api.Reg) bool { return r.Who == who }
	regs := slices.DeleteFunc(slices.Clone(s.Regs), isWho)
	if key != 0 {
		regs = slices.Insert(regs, place(regs, who), api.Reg{Who: who, Key: key})
	}
	s.Regs = regs
	return s
}

// place of somebody among those who are known, so that they rise.
func place(regs []api.Reg, who int) int {
	i := 0
	for i < len(regs) && regs[i].Who < who {
		i++
	}
	return i
}

// Others who are known, rising.
func Others(s api.State, who int) []int {
	var l []int
	for _, r := range s.Regs {
		if r.Who != who {
			l = append(l, r.Who)
		}
	}
	return l
}
