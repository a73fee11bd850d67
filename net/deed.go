package net

import "waystation/api"

// deed is what a pick does with the message that it picked: it tells a message, a number, or why it was not done.
type deed func(n *Net, number int) (api.Parcel, int, api.Errno)

// doPicked does a deed with the picked message, if one is on its way.
func (n *Net) doPicked(pick int, do deed) (api.Parcel, int, api.Errno) {
	switch {
	case !n.made():
		return api.Parcel{}, 0, api.ErrNil
	case len(n.onWay) == 0:
		return api.Parcel{}, 0, api.ErrNone
	}
	numbers := n.onWay.numbers()
	return do(n, numbers[picked(pick, len(numbers))])
}

// stay tells a message, and its number.
func stay(n *Net, number int) (api.Parcel, int, api.Errno) {
	return another(n.onWay[number]), number, api.OK
}

// leave tells a message that is on its way no more then, and its number.
func leave(n *Net, number int) (api.Parcel, int, api.Errno) {
	m := another(n.onWay[number])
	delete(n.onWay, number)
	return m, number, api.OK
}

// double lets another one like a message be on its way, and tells the number of that one.
func double(n *Net, number int) (api.Parcel, int, api.Errno) {
	if n.full() {
		return api.Parcel{}, 0, api.ErrCrowd
	}
	return api.Parcel{}, n.send(n.onWay[number]), api.OK
}

// picked is which of n things, at least one, a pick picks, also one below 0.
func picked(pick, n int) int { return (pick%n + n) % n }
