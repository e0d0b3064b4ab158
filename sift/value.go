package sift

import "radome/api"

func (v *view) constant(n Node) []found {
	return v.each(func(api.Echo, int, int) found { return pointOf(n.Value) })
}

func (v *view) power(Node) []found {
	return v.each(func(x api.Echo, _, _ int) found { return found{x.Power, true} })
}

func (v *view) ratio(Node) []found {
	return v.each(func(x api.Echo, _, _ int) found { return found{x.Ratio, x.Kind != api.Quiet} })
}

func (v *view) match(Node) []found {
	return v.each(func(x api.Echo, _, _ int) found { return found{x.Match, x.Kind != api.Quiet} })
}

func (v *view) spread(Node) []found {
	return v.each(func(x api.Echo, _, _ int) found {
		return found{pointOf(x.Spread).span, x.Kind != api.Quiet}
	})
}

func (v *view) turn(Node) []found {
	return v.each(func(x api.Echo, _, _ int) found { return found{x.Turn, x.Kind == api.Clear} })
}

func (v *view) step(Node) []found {
	return v.each(func(x api.Echo, _, _ int) found { return found{x.Steps[0], x.Kind == api.Clear} })
}

func (v *view) kind(Node) []found {
	return v.each(func(x api.Echo, _, _ int) found { return pointOf(x.Kind) })
}

func (v *view) ray(Node) []found {
	return v.each(func(_ api.Echo, ray, _ int) found { return pointOf(ray) })
}

func (v *view) gate(Node) []found {
	return v.each(func(_ api.Echo, _, gate int) found { return pointOf(gate) })
}

func (v *view) tilt(Node) []found {
	return v.each(func(api.Echo, int, int) found { return pointOf(v.sweep.Tilt) })
}

// each returns what is found at each gate.
func (v *view) each(look func(x api.Echo, ray, gate int) found) []found {
	l := make([]found, 0, v.size())
	for ray, echoes := range v.sweep.Rays {
		for gate, x := range echoes {
			l = append(l, look(x, ray, gate))
		}
	}
	return l
}

func (v *view) count(n Node) []found {
	var l []found
	for _, t := range v.tallies(n) {
		l = append(l, found{api.Span{Lo: t.sure, Hi: t.open}, true})
	}
	return l
}

func (v *view) sum(n Node) []found {
	return v.joined(n, func(a, b api.Span) api.Span {
		return api.Span{Lo: a.Lo + b.Lo, Hi: a.Hi + b.Hi}
	})
}

func (v *view) difference(n Node) []found {
	return v.joined(n, func(a, b api.Span) api.Span {
		return api.Span{Lo: a.Lo - b.Hi, Hi: a.Hi - b.Lo}
	})
}

// joined returns what two values are together: nothing where one is missing.
func (v *view) joined(n Node, join func(a, b api.Span) api.Span) []found {
	a, b := v.values(n.Args[0]), v.values(n.Args[1])
	l := make([]found, len(a))
	for i := range l {
		if a[i].exists && b[i].exists {
			l[i] = found{join(a[i].span, b[i].span), true}
		}
	}
	return l
}

func pointOf(n int) found { return found{api.Span{Lo: n, Hi: n}, true} }
