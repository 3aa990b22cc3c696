package report_test

import (
	"math"
	"reflect"
	"slices"
	"strings"
	"testing"

	"kissinggate/api"
	"kissinggate/hold"
	"kissinggate/report"
)

type pair struct {
	text string
	s    api.State
}

// pairs of states and their texts.
func pairs() []pair {
	return []pair{
		{"0 0 0 goes", api.State{}},
		{"0 0 0 stays", api.State{Stays: true}},
		{"2 0 0 stays 1:11 2:22", api.State{Gen: 2, Regs: []api.Reg{{Who: 1, Key: 11}, {Who: 2, Key: 22}}, Stays: true}},
		{"1000000000 0 0 goes 4:999", api.State{Gen: 1000000000, Regs: []api.Reg{{Who: 4, Key: 999}}}},
		{"10 1 3 goes 3:1", api.State{Gen: 10, Regs: []api.Reg{{Who: 3, Key: 1}}, Type: api.WriteAlone, Holder: 3}},
		{"7 3 2 goes 1:10 2:10", api.State{Gen: 7, Regs: []api.Reg{{Who: 1, Key: 10}, {Who: 2, Key: 10}}, Type: api.UseAlone, Holder: 2}},
		{"7 5 1 goes 1:100", api.State{Gen: 7, Regs: []api.Reg{{Who: 1, Key: 100}}, Type: api.WriteKnown, Holder: 1}},
		{"7 6 4 stays 2:5 4:4", api.State{Gen: 7, Regs: []api.Reg{{Who: 2, Key: 5}, {Who: 4, Key: 4}}, Type: api.UseKnown, Holder: 4, Stays: true}},
		{"7 7 0 goes 3:3", api.State{Gen: 7, Regs: []api.Reg{{Who: 3, Key: 3}}, Type: api.WriteAll}},
		{"7 8 0 stays 1:1 2:2 3:3 4:4", api.State{Gen: 7, Regs: []api.Reg{{Who: 1, Key: 1}, {Who: 2, Key: 2}, {Who: 3, Key: 3}, {Who: 4, Key: 4}}, Type: api.UseAll, Stays: true}},
	}
}

// same: an empty list may be nil or not.
func same(a, b api.State) bool {
	return slices.Equal(a.Regs, b.Regs) && a.Gen == b.Gen && a.Type == b.Type && a.Holder == b.Holder && a.Stays == b.Stays
}

// F1.
func TestTextAndParse(t *testing.T) {
	for _, x := range pairs() {
		if got := report.Text(x.s); got != x.text {
			t.Errorf("Text(%v) = %q, want %q", x.s, got, x.text)
		}
		if got, err := report.Parse(x.text); err != nil || !same(got, x.s) {
			t.Errorf("Parse(%q) = %v, %v, want %v", x.text, got, err, x.s)
		}
	}
}

// refused: it is no text of a state.
func refused(t *testing.T, text string) {
	t.Helper()
	if got, err := report.Parse(text); err != api.ErrText || !reflect.DeepEqual(got, api.State{}) {
		t.Errorf("Parse(%q) = %v, %v", text, got, err)
	}
}

// F1: spellings that no Text has.
func TestParseOddSpellings(t *testing.T) {
	for _, text := range []string{
		"", " ", "0", "0 0", "0 0 0", "0 0 0 ", "0 0 goes", "0 0 0 0 goes", "goes", "stays 0 0 0",
		"0 0 0 Goes", "0 0 0 stay", "0 0 0 goess", "0 0 0 -", "0 0 0 true", "0 0 0 1:1",
		" 0 0 0 goes", "0 0 0 goes ", "0  0 0 goes", "0 0 0  goes", "0 0 0 goes  1:1", "0 0 0 goes 1:1 ", "0 0 0 goes 1:1  2:2", "0\t0 0 goes", "0 0 0 goes\n",
		"00 0 0 goes", "01 0 0 goes", "+1 0 0 goes", "-0 0 0 goes", "0x1 0 0 goes", "1e1 0 0 goes", "1_0 0 0 goes", "a 0 0 goes", "٣ 0 0 goes",
		"0 00 0 goes", "0 0 00 goes", "0 +0 0 goes", "0 0 -0 goes", "0  0 goes", "0 x 0 goes", "0 0 x goes",
		"0 0 0 goes 1", "0 0 0 goes 1:", "0 0 0 goes :1", "0 0 0 goes :", "0 0 0 goes 1:1:1", "0 0 0 goes 1 :1", "0 0 0 goes 1: 1", "0 0 0 goes 1;1", "0 0 0 goes 01:1", "0 0 0 goes 1:01", "0 0 0 goes +1:1", "0 0 0 goes 1:+1", "0 0 0 goes 1:1,2:2", "0 0 0 goes 1:12:2",
		"0 0 0 goes x 1:1", "0 0 0 goes 1:1 x", "0 0 0 goes 1:1 2:2 3:3 4:4 x", "0 0 0 goes 1:1 2:2 3:3 4:4 ", "0 0 0 goes x 1:1 2:2 3:3 4:4",
		"0 0 0 goes goes", "\x00", "\xff\xfe", "0 0 0 goes\x00",
	} {
		refused(t, text)
	}
}

// F1: texts of states that may not be.
func TestParseStatesThatMayNotBe(t *testing.T) {
	for _, text := range []string{
		"-1 0 0 goes", "1000000001 0 0 goes", "99999999999999999999 0 0 goes",
		"0 2 1 goes 1:1", "0 4 1 goes 1:1", "0 9 0 goes 1:1", "0 -1 0 goes", "0 18446744073709551617 1 goes 1:1",
		"0 0 1 goes 1:1", "0 1 0 goes 1:1", "0 1 2 goes 1:1", "0 1 -1 goes 1:1", "0 7 1 goes 1:1", "0 8 0 goes", "0 6 1 goes",
		"0 0 0 goes 0:1", "0 0 0 goes 5:1", "0 0 0 goes -1:1", "0 0 0 goes 1:0", "0 0 0 goes 1:1000", "0 0 0 goes 1:-1",
		"0 0 0 goes 1:1 1:1", "0 0 0 goes 2:1 1:1", "0 0 0 goes 1:1 2:2 3:3 4:4 4:4", "0 0 0 goes 1:1 2:2 3:3 4:4 5:5",
		"0 0 0 goes" + strings.Repeat(" 1:1", 100000), strings.Repeat(" ", 100000), strings.Repeat("0", 100000),
	} {
		refused(t, text)
	}
}

// F1: one byte more, less or otherwise is the text of that state alone which has it, or of none.
func TestParseNearby(t *testing.T) {
	read := 0
	try := func(text string) {
		s, err := report.Parse(text)
		if err != nil {
			refused(t, text)
			return
		}
		read++
		if report.Text(s) != text || hold.Check(s) != nil {
			t.Errorf("Parse(%q) = %v, whose text is %q", text, s, report.Text(s))
		}
	}
	for _, x := range pairs() {
		for i := range len(x.text) {
			try(x.text[:i] + x.text[i+1:])
			for _, c := range "0123456789 :-+ags" {
				try(x.text[:i] + string(c) + x.text[i:])
				try(x.text[:i] + string(c) + x.text[i+1:])
			}
		}
	}
	if read < 100 {
		t.Errorf("just %d are texts of states", read)
	}
}

// F2.
func TestKeys(t *testing.T) {
	for _, x := range []struct{ keys, want []int }{
		{nil, nil},
		{[]int{999}, []int{999}},
		{[]int{1, 2, 3, 4}, []int{1, 2, 3, 4}},
		{[]int{22, 11, 100, 9}, []int{9, 11, 22, 100}},
		{[]int{7, 7, 7, 7}, []int{7}},
		{[]int{2, 1, 2, 1}, []int{1, 2}},
		{[]int{1, 2, 2, 3}, []int{1, 2, 3}},
		{[]int{3, 1, 3}, []int{1, 3}},
	} {
		var s api.State
		for i, key := range x.keys {
			s.Regs = append(s.Regs, api.Reg{Who: i + 1, Key: key})
		}
		if got := report.Keys(s); !slices.Equal(got, x.want) {
			t.Errorf("Keys(%v) = %v, want %v", s, got, x.want)
		}
	}
}

// Z2: what is handed in stays as it is; what comes out is the caller's.
func TestListsAreNotShared(t *testing.T) {
	memory := []api.Reg{{Who: 1, Key: 5}, {Who: 2, Key: 3}, {Who: 3, Key: 5}, {Who: 4, Key: 77}}
	was := slices.Clone(memory)
	s := api.State{Regs: memory[:3]}
	a, b := report.Keys(s), report.Keys(s)
	text := report.Text(s)
	if !slices.Equal(memory, was) {
		t.Errorf("written into what was handed in: %v", memory)
	}
	clear(a)
	clear(memory)
	if !slices.Equal(b, []int{3, 5}) {
		t.Errorf("two answers of Keys share memory: %v", b)
	}
	x, _ := report.Parse(text)
	y, _ := report.Parse(text)
	clear(x.Regs)
	if !slices.Equal(y.Regs, was[:3]) {
		t.Errorf("two answers of Parse share memory: %v", y.Regs)
	}
}

// Z1: no state makes a call panic, and what is told of one that may not be is not read.
func TestNoPanic(t *testing.T) {
	ends := []int{math.MinInt, -1, 0, 1, 4, 5, 9, 1000, math.MaxInt}
	for _, n := range ends {
		for _, m := range ends {
			for _, regs := range [][]api.Reg{nil, {}, {{Who: n, Key: m}}, {{Who: m, Key: n}, {Who: n, Key: n}, {Who: n, Key: m}}} {
				s := api.State{Gen: n, Regs: regs, Type: m, Holder: n}
				report.Keys(s)
				text := report.Text(s)
				if hold.Check(s) != nil {
					refused(t, text)
				} else if got, err := report.Parse(text); err != nil || !same(got, s) {
					t.Errorf("Parse(%q) = %v, %v", text, got, err)
				}
			}
		}
	}
}
