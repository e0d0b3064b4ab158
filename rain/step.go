package rain

import "radome/api"

// step is something that becomes of the powers of a ray on their way from the
// antenna back to the gates, and from there down to the ground.
type step interface {
	done(ray []api.Span) []api.Span
}

// filling gives back what threads would have heard that are blocked.
type filling struct {
	threads int
	blocked []api.Span
}

// restoring gives back what was lost in the gates ahead.
type restoring struct{ loss worth }

// falling leads down through the layer in which snow melts.
type falling struct{ factors []api.Span }

// raining leads from powers to rates.
type raining struct{ rate worth }

func (f filling) done(ray []api.Span) []api.Span {
	l := make([]api.Span, len(ray))
	for gate, power := range ray {
		l[gate] = filled(power, f.threads, f.blocked[gate])
	}
	return l
}

func (r restoring) done(ray []api.Span) []api.Span {
	passage := only(whole)
	l := make([]api.Span, len(ray))
	for gate, measured := range ray {
		l[gate] = restored(measured, passage)
		passage = behind(passage, r.loss.ofAll(l[gate]))
	}
	return l
}

func (f falling) done(ray []api.Span) []api.Span {
	l := make([]api.Span, len(ray))
	for gate, power := range ray {
		l[gate] = fallen(power, f.factors[gate])
	}
	return l
}

func (r raining) done(ray []api.Span) []api.Span {
	l := make([]api.Span, len(ray))
	for gate, power := range ray {
		l[gate] = r.rate.ofAll(power)
	}
	return l
}
