package quorum

import (
	"iter"
	"slices"

	"waystation/api"
)

// crowd is the messages on their way, as they were sent. Their commands are never changed, and never handed out: a copy is.
type crowd []api.Ballot

// inOrder tells messages like those on their way, with commands of their own.
func (c crowd) inOrder() iter.Seq[api.Ballot] {
	return func(yield func(api.Ballot) bool) {
		for _, m := range c {
			m.Commands = copied(m.Commands)
			if !yield(m) {
				return
			}
		}
	}
}

// copied is another crowd of the same messages.
func (c crowd) copied() crowd {
	var l crowd
	for m := range c.inOrder() {
		l = append(l, m)
	}
	return l
}

// sameBallot tells whether two messages are alike.
func sameBallot(a, b api.Ballot) bool {
	return sameHead(a, b) && sameBody(a, b) && slices.Equal(a.Commands, b.Commands)
}

// sameHead tells whether messages are alike in what each kind has.
func sameHead(a, b api.Ballot) bool {
	return a.Kind == b.Kind && a.From == b.From && a.To == b.To && a.Term == b.Term
}

// sameBody tells whether messages are alike in what some kinds have, but the commands.
func sameBody(a, b api.Ballot) bool {
	return a.Last == b.Last && a.LastTerm == b.LastTerm && a.Prev == b.Prev && a.PrevTerm == b.PrevTerm &&
		a.Match == b.Match && a.Commit == b.Commit && a.OK == b.OK
}

// send lets a message be on its way, of its sender's Term, if there is room for it.
func (q *Quorum) send(m api.Ballot) {
	if len(q.onWay) < api.MaxCrowd {
		m.Term = q.nodes[m.From].term
		q.onWay = append(q.onWay, m)
	}
}

// answer sends a message back to whom m is from.
func (q *Quorum) answer(m, back api.Ballot) {
	back.From, back.To = m.To, m.From
	q.send(back)
}

// deed is what a node does with a message that comes to it.
type deed func(q *Quorum, n *node, m api.Ballot)

// deeds are those of all kinds.
func deeds() map[api.BallotKind]deed {
	return map[api.BallotKind]deed{
		api.BallotAsk:   (*Quorum).asked,
		api.BallotVote:  (*Quorum).voted,
		api.BallotMore:  (*Quorum).more,
		api.BallotMatch: (*Quorum).matched,
	}
}

// come does what a message that comes does.
func (q *Quorum) come(m api.Ballot) {
	n := &q.nodes[m.To]
	if m.Term > n.term {
		n.enter(m.Term, nobody, api.RoleVoter)
	}
	deeds()[m.Kind](q, n, m)
}

// asked is a BallotAsk.
func (q *Quorum) asked(n *node, m api.Ballot) {
	free := n.vote == nobody || n.vote == m.From
	granted := m.Term == n.term && free && !tip{m.LastTerm, m.Last}.behind(n.tip())
	if granted {
		n.vote = m.From
	}
	q.answer(m, api.Ballot{Kind: api.BallotVote, OK: granted})
}

// voted is a BallotVote.
func (q *Quorum) voted(n *node, m api.Ballot) {
	if n.role == api.RoleSeeks && m.Term == n.term && m.OK {
		n.addVote(m.From, m.To, len(q.nodes))
	}
}

// more is a BallotMore.
func (q *Quorum) more(n *node, m api.Ballot) {
	back := api.Ballot{Kind: api.BallotMatch}
	if m.Term == n.term {
		n.become(api.RoleVoter)
		back.OK = n.fits(m.Prev, m.PrevTerm)
		back.Match = min(len(n.log), m.Prev-1)
	}
	if back.OK {
		back.Match = n.lay(m.Prev, m.Commands)
		n.commit = max(n.commit, min(m.Commit, back.Match))
	}
	q.answer(m, back)
}

// matched is a BallotMatch.
func (q *Quorum) matched(n *node, m api.Ballot) {
	if n.role == api.RoleLeads && m.Term == n.term {
		n.heard(m.From, m.Match, m.OK)
		n.commitWhatIsKept(len(q.nodes))
	}
}
