package fabric

import "skein/api"

const mostKey = 65535

// ports is places, found by their names and by their keys. They stay as they are; others take their place.
type ports struct {
	named map[string]api.Place
	keyed map[int]api.Place
}

func portsOf(l []api.Place) ports {
	p := ports{named: map[string]api.Place{}, keyed: map[int]api.Place{}}
	for _, x := range l {
		p.named[x.Name] = x
		p.keyed[x.Key] = x
	}
	return p
}

// areRight tells whether these may be the ports of so many places: no two share a name or a key, and each is one that
// may be.
func (p ports) areRight(count int) bool {
	if len(p.named) < count || len(p.keyed) < count {
		return false
	}
	for _, x := range p.named {
		if !isRight(x) {
			return false
		}
	}
	return true
}

func isRight(x api.Place) bool {
	return 0 <= x.Key && x.Key <= mostKey && 0 <= x.Dp && x.Dp <= api.MaxVni && isHost(x.Host)
}
