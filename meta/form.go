package meta

import "waystation/api"

// form is how many brokers, partitions, IDs there are. Its names are small, so that who has a controller can't change them by what it promotes.
type form struct{ brokers, parts, ids int }

// mayBe tells whether a controller may have this form.
func (f form) mayBe() bool {
	if f.brokers < 1 || f.brokers > api.MaxBrokers {
		goto mayNot
	}
	if f.parts < 1 || f.parts > api.MaxParts {
		goto mayNot
	}
	if f.ids < 1 || f.ids > api.MaxIDs {
		goto mayNot
	}
	return true
mayNot:
	return false
}

func (f form) hasBroker(broker int) bool { return broker >= 0 && broker < f.brokers }

func (f form) hasPart(part int) bool { return part >= 0 && part < f.parts }

func (f form) hasID(id int) bool { return id >= 0 && id < f.ids }

// areBrokers tells whether a list is of brokers that are there, rising, one at least.
func (f form) areBrokers(l []int) bool {
	least := 0
	if len(l) == 0 {
		goto mayNot
	}
	for _, broker := range l {
		if broker < least || !f.hasBroker(broker) {
			goto mayNot
		}
		least = broker + 1
	}
	return true
mayNot:
	return false
}
