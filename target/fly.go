package target

import (
	"math/bits"
	"slices"

	"kissinggate/api"
)

// Deliver a flying message, once (or it stays, too): was it admitted?
func (t *Target) Deliver(i int, stays bool) (bool, error) {
	if !t.flies(i) {
		return false, api.ErrNone
	}
	m := t.flying[i]
	g, ok := t.g.Deliver(m)
	t.g = g
	if !stays {
		t.drop(i)
	}
	if ok {
		t.count(m)
	}
	return ok, nil
}

// Lose a flying message.
func (t *Target) Lose(i int) error {
	if !t.flies(i) {
		return api.ErrNone
	}
	t.drop(i)
	return nil
}

// flies: is there such a message?
func (t *Target) flies(i int) bool {
	return i >= 0 && i < len(t.flying)
}

func (t *Target) drop(i int) {
	t.flying = slices.Delete(t.flying, i, i+1)
}

// count one more of the group that has what waits, each once however often it comes; when most have it, it is done.
func (t *Target) count(m api.Message) {
	have, ok := t.waits[m.Tag]
	if !ok {
		return
	}
	have |= 1 << m.To
	if bits.OnesCount(have) < api.Most {
		t.waits[m.Tag] = have
		return
	}
	delete(t.waits, m.Tag)
	t.done[m.Tag-1] = true
}
