// Package beam is layer 1: see shared/doc/01-beam.md.
package beam

const (
	MinStep  = 50
	MinEarth = 1000000
	MaxEarth = 100000000
)
