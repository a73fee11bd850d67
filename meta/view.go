package meta

import (
	"slices"

	"waystation/api"
)

// nobody is the leader where none leads.
const nobody = -1

// view is a partition's.
type view api.View

// newView is a view as it is at first, of so many brokers.
func newView(brokers int) view {
	v := view{Leader: nobody}
	for broker := range brokers {
		v.ISR = append(v.ISR, broker)
	}
	return v
}

func (v *view) inStep(broker int) bool { return slices.Contains(v.ISR, broker) }

func (v *view) is(leader int, epoch, version int64) bool {
	return v.Leader == leader && v.Epoch == epoch && v.Version == version
}

// atEnd tells whether the view can change no more. What makes Epoch more makes Version more too, so Epoch is at its end no sooner.
func (v *view) atEnd() bool { return v.Version == api.MaxNumber }

// minds tells whether the view changes where a broker lives no more. One that is alone in step stays so, as somebody must have what is committed.
func (v *view) minds(broker int) bool {
	return v.Leader == broker || v.inStep(broker) && len(v.ISR) > 1
}

// fence takes a broker that lives no more out of the view.
func (v *view) fence(broker int) {
	if !v.minds(broker) {
		return
	}
	if v.Leader == broker {
		v.Leader = nobody
		v.Epoch++
	}
	if len(v.ISR) > 1 {
		v.ISR = without(v.ISR, broker)
	}
	v.Version++
}

// elect lets a broker lead.
func (v *view) elect(broker int) {
	if !v.inStep(broker) {
		v.ISR = []int{broker}
	}
	v.Leader = broker
	v.Epoch++
	v.Version++
}

// alter lets those of a list be in step.
func (v *view) alter(isr []int) {
	v.ISR = copied(isr)
	v.Version++
}

// copied is the same view in memory of its own.
func (v view) copied() view {
	v.ISR = copied(v.ISR)
	return v
}

// like tells whether two views are the same.
func (v view) like(other view) bool {
	return v.is(other.Leader, other.Epoch, other.Version) && slices.Equal(v.ISR, other.ISR)
}
