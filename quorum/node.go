package quorum

import (
	"cmp"
	"slices"

	"waystation/api"
)

// maxNodes is how many nodes there are at most, nobody whom one votes for that did not vote.
const (
	maxNodes = 5
	nobody   = -1
)

// node is one of a quorum, whose number is its place there.
type node struct {
	lasting
	passing
}

// lasting is what a crash leaves.
type lasting struct {
	term int64
	vote int
	log  []api.Command
}

// passing is what a crash takes. What the role does not have is zero, so that two nodes that are told alike are alike.
type passing struct {
	role   api.NodeRole
	commit int
	// votes has 1 for each one that voted for the node.
	votes, next, match numbers
}

// numbers are one for each node, by the nodes' numbers.
type numbers [maxNodes]int

// tip is all that a log is held against another one by: the Term of its last command, and how long it is.
type tip struct {
	term   int64
	length int
}

// newNode is a node as it is at first.
func newNode() node {
	return node{lasting{vote: nobody}, passing{role: api.RoleVoter}}
}

// enter is the beginning of a Term for the node.
func (n *node) enter(term int64, vote int, role api.NodeRole) {
	n.term, n.vote = term, vote
	n.become(role)
}

// become gives the node a role, and lets go what it had of another one.
func (n *node) become(role api.NodeRole) {
	n.passing = passing{role: role, commit: n.commit}
}

// lead lets the node of that number, among so many nodes, lead.
func (n *node) lead(self, nodes int) {
	n.become(api.RoleLeads)
	for i := range nodes {
		n.next[i] = len(n.log)
	}
	n.match[self] = len(n.log)
}

// addVote counts a vote for the node of the number self, which leads with a majority's.
func (n *node) addVote(from, self, nodes int) {
	n.votes[from] = 1
	if majorityHas(n.votes[:nodes]...) == 1 {
		n.lead(self, nodes)
	}
}

// heard is what one that leads makes of an answer: what is told late never makes less what it knows.
func (n *node) heard(from, match int, ok bool) {
	if ok {
		n.match[from] = max(n.match[from], match)
		n.next[from] = max(n.next[from], n.match[from])
		return
	}
	n.next[from] = max(n.match[from], min(n.next[from], match))
}

// commitWhatIsKept commits what a majority of so many nodes has. A command of an elder Term is not committed by its number alone: one that leads later may lack it.
func (n *node) commitWhatIsKept(nodes int) {
	// Terms of a log never get less, so where this one is of an elder Term all ahead of it are.
	kept := majorityHas(n.match[:nodes]...)
	if kept > n.commit && n.termOf(kept) == n.term {
		n.commit = kept
	}
}

// told is the node as it is, among so many nodes.
func (n *node) told(nodes int) api.Node {
	t := api.Node{Role: n.role, Term: n.term, Vote: n.vote, Commit: n.commit, Log: copied(n.log)}
	switch n.role {
	case api.RoleSeeks:
		t.Votes = n.voters()
	case api.RoleLeads:
		t.Next, t.Match = copied(n.next[:nodes]), copied(n.match[:nodes])
	}
	return t
}

// voters are those that voted for the node, rising.
func (n *node) voters() []int {
	var l []int
	for i, voted := range n.votes {
		if voted == 1 {
			l = append(l, i)
		}
	}
	return l
}

// termOf is the Term of the last one of the first n commands, 0 of none.
func (l *lasting) termOf(n int) int64 {
	if n == 0 {
		return 0
	}
	return l.log[n-1].Term
}

// tip is that of the log.
func (l *lasting) tip() tip { return tip{l.termOf(len(l.log)), len(l.log)} }

// fits tells whether the log has so many commands, the last of these of that Term.
func (l *lasting) fits(prev int, term int64) bool {
	return prev <= len(l.log) && l.termOf(prev) == term
}

// lay lets commands stand behind the first prev ones, and tells how many stand then as they were told. What is behind these stays, if none parts: the message may be an elder one.
func (l *lasting) lay(prev int, commands []api.Command) int {
	commands = commands[:min(len(commands), api.MaxCommands-prev)]
	for i, c := range commands {
		if at := prev + i; at == len(l.log) || l.log[at].Term != c.Term {
			l.log = append(l.log[:at], commands[i:]...)
			break
		}
	}
	return prev + len(commands)
}

// behind tells whether a log of this tip is behind one of the other.
func (t tip) behind(other tip) bool {
	return t.term < other.term || t.term == other.term && t.length < other.length
}

// sameNode tells whether two nodes are alike in all.
func sameNode(a, b node) bool {
	return a.term == b.term && a.vote == b.vote && a.passing == b.passing && slices.Equal(a.log, b.log)
}

// majorityHas is the greatest thing that more than half of the things, of which there is one at least, are not below.
func majorityHas[T cmp.Ordered](l ...T) T {
	rising := slices.Sorted(slices.Values(l))
	return rising[(len(rising)-1)/2]
}

// copied is the same list in memory of its own.
func copied[T any](l []T) []T { return append([]T(nil), l...) }
