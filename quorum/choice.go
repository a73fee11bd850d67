package quorum

import (
	"math"
	"slices"

	"waystation/api"
)

// maxSent is how many commands a message has at most.
const maxSent = 4

// choice is what a kind of choices asks ahead, in the order of the errors, and what it does where nothing is refused.
type choice struct {
	asks []ask
	do   func(q *Quorum, p api.Pick)
}

// ask tells why a choice is refused, if it is.
type ask func(q *Quorum, p api.Pick) api.Errno

// choiceOf is what a kind asks and does, if there is such a kind.
func choiceOf(kind api.PickKind) (c choice, known bool) {
	switch kind {
	case api.PickSeek:
		return choice{[]ask{isNode, leadsNot, hasTermAbove}, (*Quorum).seek}, true
	case api.PickTake:
		return choice{[]ask{isNode, isValue, leads, hasRoom}, (*Quorum).take}, true
	case api.PickSend:
		return choice{[]ask{isNode, isOther, leads}, (*Quorum).sendMore}, true
	case api.PickCrash:
		return choice{[]ask{isNode}, (*Quorum).crash}, true
	case api.PickCome:
		return choice{[]ask{isAnyOnWay}, (*Quorum).comeOnce}, true
	case api.PickTwice:
		return choice{[]ask{isAnyOnWay}, (*Quorum).comeAndStay}, true
	case api.PickLose:
		return choice{[]ask{isAnyOnWay}, (*Quorum).lose}, true
	}
	return choice{}, false
}

// errUnless is the error, unless all is well.
func errUnless(well bool, err api.Errno) api.Errno {
	if well {
		return api.OK
	}
	return err
}

func isNode(q *Quorum, p api.Pick) api.Errno {
	return errUnless(q.has(int64(p.A)), api.ErrArg)
}

func isOther(q *Quorum, p api.Pick) api.Errno {
	return errUnless(q.has(p.B) && p.B != int64(p.A), api.ErrArg)
}

func isValue(q *Quorum, p api.Pick) api.Errno {
	return errUnless(math.MinInt32 <= p.B && p.B <= math.MaxInt32, api.ErrArg)
}

func isAnyOnWay(q *Quorum, p api.Pick) api.Errno {
	return errUnless(len(q.onWay) > 0, api.ErrNone)
}

func leads(q *Quorum, p api.Pick) api.Errno {
	return errUnless(q.nodes[p.A].role == api.RoleLeads, api.ErrRole)
}

func leadsNot(q *Quorum, p api.Pick) api.Errno {
	return errUnless(q.nodes[p.A].role != api.RoleLeads, api.ErrRole)
}

func hasRoom(q *Quorum, p api.Pick) api.Errno {
	return errUnless(len(q.nodes[p.A].log) < api.MaxCommands, api.ErrLong)
}

func hasTermAbove(q *Quorum, p api.Pick) api.Errno {
	return errUnless(q.nodes[p.A].term < api.MaxNumber, api.ErrTop)
}

// seek is PickSeek.
func (q *Quorum) seek(p api.Pick) {
	n := &q.nodes[p.A]
	n.enter(n.term+1, p.A, api.RoleSeeks)
	n.addVote(p.A, p.A, len(q.nodes))
	own := n.tip()
	for to := range q.nodes {
		if to != p.A {
			q.send(api.Ballot{Kind: api.BallotAsk, From: p.A, To: to, Last: own.length, LastTerm: own.term})
		}
	}
}

// take is PickTake.
func (q *Quorum) take(p api.Pick) {
	n := &q.nodes[p.A]
	n.log = append(n.log, api.Command{Term: n.term, Value: p.B})
	n.match[p.A]++
	n.commitWhatIsKept(len(q.nodes))
}

// sendMore is PickSend.
func (q *Quorum) sendMore(p api.Pick) {
	n := &q.nodes[p.A]
	prev := n.next[p.B]
	q.send(api.Ballot{
		Kind: api.BallotMore, From: p.A, To: int(p.B),
		Prev: prev, PrevTerm: n.termOf(prev), Commit: n.commit,
		Commands: copied(n.log[prev:min(len(n.log), prev+maxSent)]),
	})
}

// crash is PickCrash.
func (q *Quorum) crash(p api.Pick) {
	q.nodes[p.A].passing = newNode().passing
}

// comeOnce is PickCome: what comes is on its way no more, so there is room for an answer.
func (q *Quorum) comeOnce(p api.Pick) {
	m := q.onWay[q.picked(p)]
	q.lose(p)
	q.come(m)
}

// comeAndStay is PickTwice.
func (q *Quorum) comeAndStay(p api.Pick) { q.come(q.onWay[q.picked(p)]) }

// lose is PickLose.
func (q *Quorum) lose(p api.Pick) {
	at := q.picked(p)
	q.onWay = slices.Delete(q.onWay, at, at+1)
}

// picked is the place of the message that a choice picks among those on their way, of which there is one at least.
func (q *Quorum) picked(p api.Pick) int {
	n := len(q.onWay)
	return (p.A%n + n) % n
}
