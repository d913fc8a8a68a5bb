package bus

import "tandem/api"

// Log is the accesses to devices and board registers since the last Log; it begins anew.
func (b *Bus) Log() []api.Access {
	if !b.made() {
		return nil
	}
	told := b.log
	b.log = nil
	return told
}

// Stores is the places of the last stores since the last Stores, api.MaxStores at most.
func (b *Bus) Stores() []int {
	if !b.made() {
		return nil
	}
	told := b.stores
	b.stores = nil
	return told
}

// stored remembers a place behind those of the last stores.
func (b *Bus) stored(place int) {
	if len(b.stores) == api.MaxStores {
		kept := copy(b.stores, b.stores[1:])
		b.stores = b.stores[:kept]
	}
	b.stores = append(b.stores, place)
}
