package replica

import "waystation/api"

// attempt makes a call of a replica, and answers the error with which it gave up, or OK. A call gives up ahead of all that it changes.
func (r *Replica) attempt(call func()) (why api.Errno) {
	defer func() {
		switch given := recover().(type) {
		case nil:
		case api.Errno:
			why = given
		default:
			// No listed call may panic: anything else that does counts as what may not be.
			why = api.ErrArg
		}
	}()
	need(r.there(), api.ErrNil)
	call()
	return api.OK
}

// need gives up with an error, if something is not so.
func need(so bool, why api.Errno) {
	if !so {
		panic(why)
	}
}

// pass gives up with what a layer below answers, if that is an error.
func pass(why api.Errno) { need(why == api.OK, why) }
