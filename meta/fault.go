package meta

import "waystation/api"

// fault is what may be wrong with a call, and what is answered then.
type fault struct {
	err api.Errno
	so  func() bool
}

// wrong is the error of the first fault that is so, or OK. A fault is asked only where there is a controller, and none ahead of it is so.
func (m *Meta) wrong(faults ...fault) api.Errno {
	if !m.made() {
		return api.ErrNil
	}
	for _, f := range faults {
		if f.so() {
			return f.err
		}
	}
	return api.OK
}
