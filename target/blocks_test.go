package target_test

import (
	"fmt"
	"testing"

	"kissinggate/api"
	"kissinggate/report"
)

// K5: what is written flies to each of the group, also to who is down, behind all that flies already.
func TestWrite(t *testing.T) {
	x := fresh(t)
	x.session(`
		down 1 => ok
		ask 1 write 7 abcdefgh => waits 1
		ask 2 write 0 - => waits 2
		flying => 0 7 2 1 1 abcdefgh; 1 7 2 1 1 abcdefgh; 2 7 2 1 1 abcdefgh; 0 0 2 2 2 -; 1 0 2 2 2 -; 2 0 2 2 2 -
		waits => 1 2
		cells 7 => 0 0 -; 0 0 -; 0 0 -
		ask 3 read 7 => ok
		lose 1 => ok
		ask 1 write 7 new => waits 3
		flying => 0 7 2 1 1 abcdefgh; 2 7 2 1 1 abcdefgh; 0 0 2 2 2 -; 1 0 2 2 2 -; 2 0 2 2 2 -; 0 7 2 3 3 new; 1 7 2 3 3 new; 2 7 2 3 3 new`)
}

// K5: no more than MaxWaiting wait; what is done makes room, what is lost doesn't.
func TestMostWaiting(t *testing.T) {
	x := fresh(t)
	for tag := 1; tag <= api.MaxWaiting; tag++ {
		x.session(fmt.Sprintf("ask 1 write 0 a => waits %d", tag))
	}
	x.refuses("ask 1 write 0 a", api.ErrFull)
	x.refuses("ask 1 compare 1 a -", api.ErrFull)
	x.session("lose 0 => ok\nlose 0 => ok")
	x.refuses("ask 1 write 0 a", api.ErrFull)
	x.session("deliver 0 => yes\ndeliver 0 => yes")
	x.refuses("ask 1 write 0 a", api.ErrFull)
	x.session(`
		deliver 0 => yes
		waits => 1 3 4 5 6
		ask 1 compare 1 a - => waits 7
		waits => 1 3 4 5 6 7`)
	x.refuses("ask 1 write 0 a", api.ErrFull)
}

// K5: no more than MaxFlying fly; those of epochs that are over are counted, too.
func TestMostFlying(t *testing.T) {
	x := fresh(t)
	tag := 0
	writes := func(n int) {
		t.Helper()
		for range n {
			tag++
			x.session(fmt.Sprintf("ask 1 write 0 a => waits %d", tag))
		}
	}
	power := `
		power => ok
		ask 1 read 0 => told 4`
	writes(6)
	x.session(power)
	writes(6)
	x.session(power)
	writes(1)
	if n := len(x.u.Flying()); n != 39 {
		t.Fatalf("%d fly", n)
	}
	x.refuses("ask 1 write 0 a", api.ErrFull)
	x.refuses("ask 1 compare 1 a -", api.ErrFull)
	x.session("lose 0 => ok")
	x.refuses("ask 1 write 0 a", api.ErrFull)
	x.session("copy 0 => no")
	x.refuses("ask 1 write 0 a", api.ErrFull)
	x.session("deliver 0 => no")
	writes(1)
	if n := len(x.u.Flying()); n != api.MaxFlying {
		t.Fatalf("%d fly", n)
	}
	x.refuses("ask 1 write 0 a", api.ErrFull)
	x.session("lose 39 => ok")
}

// K5, J3: what is read is the newest cell of those who take part, and all of them have it then.
func TestReadSpreads(t *testing.T) {
	x := fresh(t)
	x.session(`
		ask 1 write 3 a => waits 1
		ask 1 write 3 b => waits 2
		deliver 3 => yes
		deliver 1 => yes
		cells 3 => 2 2 b; 2 1 a; 0 0 -
		down 2 => ok
		ask 4 read 3 => data b
		cells 3 => 2 2 b; 2 2 b; 0 0 -
		waits => 1 2
		down 0 => ok
		ask 4 read 3 => error 7
		up 2 => ok
		ask 4 read 3 => data b
		cells 3 => 2 2 b; 2 2 b; 2 2 b
		ask 4 read 2 => ok`)
}

// K5: a block of which a message of this epoch flies is not compared, whatever it has; messages of others, and of epochs that are over, don't matter.
func TestCompareWhileFlying(t *testing.T) {
	x := fresh(t)
	x.session(`
		ask 1 write 0 a => waits 1
		deliver 0 => yes
		deliver 0 => yes
		done 1 => yes`)
	x.refuses("ask 1 compare 0 b a", api.ErrBusy)
	x.refuses("ask 1 compare 0 b wrong", api.ErrBusy)
	x.session(`
		ask 1 compare 1 c - => waits 2
		ask 1 compare 7 c - => waits 3`)
	x.refuses("ask 1 compare 1 c -", api.ErrBusy)
	x.session(`
		lose 0 => ok
		ask 1 compare 0 b a => waits 4
		flying => 0 1 2 2 2 c; 1 1 2 2 2 c; 2 1 2 2 2 c; 0 7 2 3 3 c; 1 7 2 3 3 c; 2 7 2 3 3 c; 0 0 2 4 4 b; 1 0 2 4 4 b; 2 0 2 4 4 b
		power => ok
		ask 1 read 0 => told 4
		ask 1 compare 1 d - => waits 5
		ask 1 compare 0 d b => error 9
		ask 1 compare 0 d a => waits 6`)
}

// K5: what is not as it was wanted is not written; where it is, it is as a Write.
func TestCompare(t *testing.T) {
	x := fresh(t)
	x.refuses("ask 1 compare 0 b a", api.ErrDiffer)
	x.session(`
		ask 1 compare 0 hay - => waits 1
		flying => 0 0 2 1 1 hay; 1 0 2 1 1 hay; 2 0 2 1 1 hay
		deliver 0 => yes
		deliver 0 => yes
		deliver 0 => yes`)
	for _, line := range []string{"ask 1 compare 0 b -", "ask 1 compare 0 b ha", "ask 1 compare 0 b hays", "ask 1 compare 0 hay oats"} {
		x.refuses(line, api.ErrDiffer)
	}
	x.session(`
		ask 2 compare 0 oats hay => waits 2
		deliver 0 => yes
		deliver 0 => yes
		deliver 0 => yes
		ask 2 read 0 => data oats
		ask 2 compare 0 - oats => waits 3
		deliver 0 => yes
		lose 0 => ok
		lose 0 => ok
		ask 2 compare 0 new - => waits 4
		cells 0 => 2 3 -; 2 3 -; 2 3 -`)
}

// K5, Z1: a Compare that goes wrong leaves all cells where they are; ErrDiffer goes ahead of ErrFull.
func TestCompareChangesNothing(t *testing.T) {
	x := fresh(t)
	x.session(`
		ask 1 write 0 a => waits 1
		deliver 0 => yes
		lose 0 => ok`)
	x.refuses("ask 1 compare 0 b a", api.ErrBusy)
	x.session("lose 0 => ok")
	x.refuses("ask 1 compare 0 b c", api.ErrDiffer)
	for at := 1; at < api.MaxWaiting; at++ {
		x.session(fmt.Sprintf("ask 1 write %d a => waits %d", at, at+1))
	}
	x.refuses("ask 1 compare 0 b c", api.ErrDiffer)
	x.refuses("ask 1 compare 0 b a", api.ErrFull)
	x.session(`
		cells 0 => 2 1 a; 0 0 -; 0 0 -
		deliver 0 => yes
		deliver 0 => yes
		ask 1 compare 0 b a => waits 7
		cells 0 => 2 1 a; 2 1 a; 2 1 a`)
}

// K6: what most have admitted is done, and waits no more; one who admits it twice is one.
func TestDeliver(t *testing.T) {
	x := fresh(t)
	x.session(`
		ask 1 write 0 a => waits 1
		copy 1 => yes
		copy 1 => yes
		deliver 1 => yes
		done 1 => no
		waits => 1
		flying => 0 0 2 1 1 a; 2 0 2 1 1 a
		cells 0 => 0 0 -; 2 1 a; 0 0 -
		copy 1 => yes
		done 1 => yes
		waits => -
		flying => 0 0 2 1 1 a; 2 0 2 1 1 a
		deliver 1 => yes
		deliver 0 => yes
		done 1 => yes
		waits => -
		flying => -
		cells 0 => 2 1 a; 2 1 a; 2 1 a`)
}

// K6: each of two that wait is done by its own messages; what comes late, and is admitted, though it is not the newest any more, is done too.
func TestDeliverTwo(t *testing.T) {
	x := fresh(t)
	x.session(`
		ask 1 write 0 a => waits 1
		ask 2 write 0 b => waits 2
		deliver 3 => yes
		deliver 1 => yes
		waits => 1 2
		deliver 2 => yes
		waits => 1
		done 2 => yes
		deliver 0 => yes
		waits => -
		done 1 => yes
		cells 0 => 2 2 b; 2 2 b; 0 0 -
		ask 3 read 0 => data b`)
}

// K6, J4: who is down admits nothing, and the message is gone, unless it stays.
func TestDeliverToDown(t *testing.T) {
	x := fresh(t)
	x.session(`
		ask 1 write 0 a => waits 1
		down 0 => ok
		copy 0 => no
		flying => 0 0 2 1 1 a; 1 0 2 1 1 a; 2 0 2 1 1 a
		up 0 => ok
		copy 0 => yes
		down 1 => ok
		deliver 1 => no
		flying => 0 0 2 1 1 a; 2 0 2 1 1 a
		up 1 => ok
		done 1 => no
		cells 0 => 2 1 a; 0 0 -; 0 0 -`)
}

// K6, K2: what comes in another epoch than it was written in is not admitted by who takes part; by who stayed behind it is, and that counts for nothing.
func TestDeliverLate(t *testing.T) {
	x := over(t, 1, "0 0 0 goes 1:1")
	x.session(`
		ask 2 write 0 old => waits 1
		deliver 1 => yes
		down 2 => ok
		ask 1 reserve 1 1 => ok
		up 2 => ok
		copy 0 => no
		deliver 1 => yes
		cells 0 => 0 0 -; 2 1 old; 2 1 old
		done 1 => no
		waits => -
		ask 1 write 0 new => waits 2
		deliver 3 => no
		deliver 1 => yes
		sync 2 => ok
		done 2 => no
		deliver 1 => yes
		done 2 => yes
		done 1 => no
		cells 0 => 3 1 new; 3 1 new; 3 1 new`)
}

// K6: numbers of no message.
func TestNoSuchMessage(t *testing.T) {
	x := fresh(t)
	x.refuses("deliver 0", api.ErrNone)
	x.refuses("copy 0", api.ErrNone)
	x.refuses("lose 0", api.ErrNone)
	x.session(`
		ask 1 write 0 a => waits 1`)
	for _, i := range odd() {
		for _, word := range []string{"deliver", "copy", "lose"} {
			x.refuses(fmt.Sprint(word, " ", i), api.ErrNone)
		}
	}
}

// K6: what is lost is that one alone; it doesn't end what waits.
func TestLose(t *testing.T) {
	x := fresh(t)
	x.session(`
		ask 1 write 0 a => waits 1
		lose 1 => ok
		flying => 0 0 2 1 1 a; 2 0 2 1 1 a
		lose 1 => ok
		flying => 0 0 2 1 1 a
		deliver 0 => yes
		flying => -
		waits => 1
		done 1 => no
		lose 0 => error 8
		cells 0 => 2 1 a; 0 0 -; 0 0 -`)
}

// K7: one of the group is up, or isn't, as often as that is said; there are no others.
func TestUp(t *testing.T) {
	x := fresh(t)
	for _, i := range odd() {
		for _, word := range []string{"up", "down", "sync"} {
			x.refuses(fmt.Sprint(word, " ", i), api.ErrNone)
		}
	}
	x.session(`
		down 0 => ok
		down 0 => ok
		group => 2 down; 2 up; 2 up
		down 2 => ok
		group => 2 down; 2 up; 2 down
		up 0 => ok
		up 0 => ok
		group => 2 up; 2 up; 2 down
		down 1 => ok
		down 0 => ok
		group => 2 down; 2 down; 2 down
		up 2 => ok
		up 1 => ok
		group => 2 down; 2 up; 2 up`)
}

// K7, J3: who stayed behind takes part again with what most have; none else is synced, and none without most.
func TestSync(t *testing.T) {
	x := over(t, 1, "0 0 0 goes 1:1")
	x.session(`
		ask 1 write 5 a => waits 1
		deliver 2 => yes
		down 2 => ok
		ask 1 reserve 1 3 => ok
		ask 1 write 5 b => waits 2
		deliver 3 => yes`)
	x.refuses("sync 0", api.ErrBusy)
	x.refuses("sync 2", api.ErrBusy)
	x.session(`
		up 2 => ok
		down 0 => ok`)
	x.refuses("sync 2", api.ErrBusy)
	x.session(`
		up 0 => ok
		cells 5 => 0 0 -; 3 1 b; 2 1 a
		sync 2 => ok
		group => 3 up; 3 up; 3 up
		cells 5 => 0 0 -; 3 1 b; 3 1 b`)
	x.refuses("sync 2", api.ErrBusy)
}

// K7: who is known is kept, if that stays, and counted anew; else all is forgotten. What waits is over, what flies isn't.
func TestPower(t *testing.T) {
	for state, want := range map[string]string{
		"7 5 1 stays 1:1 2:2": "0 5 1 stays 1:1 2:2",
		"7 5 1 goes 1:1 2:2":  "0 0 0 goes",
		"9 8 0 stays 4:999":   "0 8 0 stays 4:999",
		"0 0 0 stays":         "0 0 0 stays",
		"1000000000 0 0 goes": "0 0 0 goes",
		"3 0 0 stays 2:2 3:3": "0 0 0 stays 2:2 3:3",
	} {
		x := over(t, 3, state)
		write := x.do("ask 4 write 0 a")
		if write == wrong(api.ErrConflict) {
			write = x.do("ask 1 write 0 a")
		}
		x.session(`
			down 1 => ok
			epoch => 4
			power => ok
			epoch => 5
			waits => -
			flying => 0 0 4 1 1 a; 1 0 4 1 1 a; 2 0 4 1 1 a
			group => 5 up; 4 down; 5 up
			deliver 0 => no
			state => ` + want)
		if write != "waits 1" {
			t.Fatalf("%s: write => %s", state, write)
		}
		for who := 1; who <= api.MaxWho; who++ {
			x.session(fmt.Sprint("ask ", who, " read 0 => told 4"))
			if got := x.do(fmt.Sprint("ask ", who, " read 0")); got == "told 4" {
				t.Fatalf("%s: %s twice", state, got)
			}
		}
		x.session(`
			again => ok
			state => ` + want)
	}
}

// K7: behind a loss of power that alone is told, whatever was to be told ahead of it.
func TestPowerForgetsTells(t *testing.T) {
	over(t, 1, "0 5 1 stays 1:1 2:2 3:3").session(`
		ask 1 preempt 1 2 6 => ok
		power => ok
		power => ok
		ask 1 release 1 5 => told 4
		ask 1 release 1 5 => ok
		ask 2 read 0 => told 4
		ask 2 read 0 => ok
		ask 3 read 0 => told 4
		ask 3 read 0 => told 2
		ask 3 read 0 => ok`)
}

// K7: a loss of power that can't begin an epoch changes nothing, nor what is to be told.
func TestPowerRefused(t *testing.T) {
	x := over(t, 1, "3 5 1 goes 1:1 2:2")
	x.session(`
		ask 1 preempt 1 2 5 => ok
		ask 1 write 0 a => waits 1
		down 0 => ok
		down 1 => ok`)
	x.refuses("power", api.ErrBusy)
	x.refuses("again", api.ErrBusy)
	x.session(`
		ask 2 read 0 => told 1
		ask 2 read 0 => error 7
		ask 1 read 0 => error 7
		state => 4 5 1 goes 1:1
		up 1 => ok
		power => ok
		state => 0 0 0 goes`)
	if s := x.u.State(); len(s.Regs) != 0 {
		t.Fatalf("behind a loss of power: %s", report.Text(s))
	}
}
