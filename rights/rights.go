// Package rights: who may read, and write.
package rights

import (
	"kissinggate/api"
	"kissinggate/hold"
)

// May somebody read, or write?
func May(s api.State, who int, write bool) bool {
	switch s.Type {
	case 0:
		return true
	case api.WriteAlone:
		return !write || hold.Holds(s, who)
	case api.UseAlone:
		return hold.Holds(s, who)
	case api.WriteKnown, api.WriteAll:
		return !write || hold.Key(s, who) != 0
	case api.UseKnown, api.UseAll:
		return hold.Key(s, who) != 0
	}
	return false
}
