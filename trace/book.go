package trace

import "radome/api"

// Entries returns the number of entries.
func (b *Book) Entries() int {
	if b.isNone() {
		return 0
	}
	return len(b.kept.entries)
}

// Back returns an independent book with the first entries: ErrRange if there
// are not so many.
func (b *Book) Back(entries int) (*Book, api.Errno) {
	if b.isNone() {
		return nil, api.ErrNil
	}
	if !isIn(entries, 0, len(b.kept.entries)) {
		return nil, api.ErrRange
	}
	earlier := New()
	for _, enter := range b.kept.entries[:entries] {
		enter(earlier)
	}
	return earlier, api.OK
}

// Copy returns an independent book with the same entries.
func (b *Book) Copy() *Book {
	same, _ := b.Back(b.Entries())
	return same
}

// isNone reports whether a book is nil, or New did not make it.
func (b *Book) isNone() bool { return b == nil || b.kept == nil }

// checkRoom returns ErrNil if a book is none, and ErrFull if it has no room for
// one more entry.
func (b *Book) checkRoom() api.Errno {
	if b.isNone() {
		return api.ErrNil
	}
	if len(b.kept.entries) >= MaxEntries {
		return api.ErrFull
	}
	return api.OK
}

// note keeps an entry that has been entered.
func (k *state) note(x entry) { k.entries = append(k.entries, x) }
