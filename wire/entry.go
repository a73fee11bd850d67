package wire

import "waystation/api"

// kind is what entries of a kind have behind the kind, the epoch and the ID, which all of them have.
type kind struct {
	may  func(e api.Entry) bool
	put  func(b []byte, e api.Entry) []byte
	take func(next func() byte, e *api.Entry)
}

// kindOf is what entries of kind k have, if there is such a kind.
func kindOf(k api.EntryKind) (kind, bool) {
	data := kind{mayData, putData, takeData}
	marker := kind{mayMarker, putMarker, takeMarker}
	kinds := [...]kind{
		api.EntryData:   data,
		api.EntryCommit: marker,
		api.EntryAbort:  marker,
	}
	if k <= api.EntryNone || int(k) >= len(kinds) {
		return kind{}, false
	}
	return kinds[k], true
}

// body is an entry's body; the entry must be one that may be.
func body(e api.Entry) []byte {
	k, _ := kindOf(e.Kind)
	// A kind, and an ID and 1, are so small that as numbers they have the one byte that they should.
	b := appendNumber(nil, e.Kind)
	b = appendNumber(b, e.Epoch)
	b = appendNumber(b, e.ID+1)
	return k.put(b, e)
}

// entry is the entry of a body, or it gives up.
func entry(body []byte) api.Entry {
	next, taken := taker(body, api.ErrBody)
	e := api.Entry{Kind: api.EntryKind(next())}
	k, there := kindOf(e.Kind)
	if !there {
		panic(api.ErrBody)
	}
	e.Epoch = number(next)
	e.ID = int(next()) - 1
	k.take(next, &e)
	if taken() < len(body) || Check(e) != api.OK {
		panic(api.ErrBody)
	}
	return e
}

func mayData(e api.Entry) bool {
	if !between(e.Value, -1<<31, 1<<31-1) {
		return false
	}
	if e.ID == nobody {
		return e.Num == 0 && e.Seq == 0
	}
	return maySomebody(e) && between(e.Seq, 0, api.MaxNumber)
}

func mayMarker(e api.Entry) bool {
	return maySomebody(e) && e.Seq == 0 && e.Value == 0
}

// maySomebody tells whether an entry's ID and transaction are those of a writer.
func maySomebody(e api.Entry) bool {
	return between(int64(e.ID), 0, api.MaxIDs-1) && between(e.Num, 1, api.MaxNumber)
}

func putData(b []byte, e api.Entry) []byte {
	if e.ID != nobody {
		b = appendNumber(b, e.Num)
		b = appendNumber(b, e.Seq)
	}
	return appendNumber(b, folded(e.Value))
}

func putMarker(b []byte, e api.Entry) []byte { return appendNumber(b, e.Num) }

func takeData(next func() byte, e *api.Entry) {
	if e.ID != nobody {
		e.Num = number(next)
		e.Seq = number(next)
	}
	e.Value = unfolded(number(next))
}

func takeMarker(next func() byte, e *api.Entry) { e.Num = number(next) }
