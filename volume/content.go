package volume

import "radome/api"

// content is what an item has, by its kind.
type content interface {
	// check returns the error of Check, but for what the kind does not have.
	check() api.Errno
	// appendBody appends the body of the item to some bytes.
	appendBody(b []byte) []byte
	// label returns by what the item is found.
	label() label
}

type label struct {
	kind int
	name string
	time int
}

type sweep struct{ api.Sweep }

type field struct {
	name string
	time int
	api.Field
}

type note struct {
	time int
	text string
}

// contentOf returns what an item has, or nil if there is no such kind.
func contentOf(x Item) content {
	switch x.Kind {
	case Sweep:
		return sweep{x.Sweep}
	case Field:
		return field{x.Name, x.Time, x.Field}
	case Note:
		return note{x.Time, x.Text}
	}
	return nil
}

// itemOf returns the item that has a content.
func itemOf(c content) Item {
	switch c := c.(type) {
	case sweep:
		return Item{Kind: Sweep, Sweep: c.Sweep}
	case field:
		return Item{Kind: Field, Name: c.name, Time: c.time, Field: c.Field}
	case note:
		return Item{Kind: Note, Time: c.time, Text: c.text}
	}
	return Item{}
}

func (s sweep) label() label { return label{Sweep, s.Site.Name, s.Time} }

func (f field) label() label { return label{Field, f.name, f.time} }

func (n note) label() label { return label{Note, "", n.time} }
