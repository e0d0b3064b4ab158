package mosaic_test

import (
	"testing"

	"radome/api"
	"radome/mosaic"
)

// P11.3: what is new, what both nodes have, and horizons.
func TestMerge(t *testing.T) {
	for _, x := range []struct {
		what    string
		a, b    []mosaic.Message
		ha, hb  int
		want    int
		horizon int
		keys    []mosaic.Key
	}{
		{"no messages", nil, nil, 0, 0, 0, 0, nil},
		{"into no messages", nil, []mosaic.Message{messageA(100, 5), messageB(90, 5)}, 0, 0, 2, 0, []mosaic.Key{key("b", 0, 90), key("a", 0, 100)}},
		{"of no messages", []mosaic.Message{messageA(100, 5)}, nil, 0, 0, 0, 0, []mosaic.Key{key("a", 0, 100)}},
		{"one of both", []mosaic.Message{messageA(100, 5)}, []mosaic.Message{messageA(101, 5), messageA(100, 5)}, 0, 0, 1, 0, []mosaic.Key{key("a", 0, 100), key("a", 0, 101)}},
		{"the same key", []mosaic.Message{messageA(100, 5)}, []mosaic.Message{messageA(100, 6)}, 0, 0, 1, 0, []mosaic.Key{key("a", 0, 100)}},
		{"contested there", nil, []mosaic.Message{messageA(100, 6), messageA(100, 7)}, 0, 0, 2, 0, []mosaic.Key{key("a", 0, 100)}},
		{"contested in both", []mosaic.Message{messageA(100, 5), messageA(100, 6)}, []mosaic.Message{messageA(100, 6), messageA(100, 7)}, 0, 0, 1, 0, []mosaic.Key{key("a", 0, 100)}},
		{"a greater horizon there", []mosaic.Message{messageA(99, 5), messageA(100, 5)}, []mosaic.Message{messageB(100, 5)}, 0, 100, 1, 100, []mosaic.Key{key("a", 0, 100), key("b", 0, 100)}},
		{"a greater horizon here", []mosaic.Message{messageA(100, 5)}, []mosaic.Message{messageB(99, 5), messageB(100, 5)}, 100, 50, 1, 100, []mosaic.Key{key("a", 0, 100), key("b", 0, 100)}},
		{"the same horizon", []mosaic.Message{messageA(100, 5)}, []mosaic.Message{messageB(100, 5)}, 100, 100, 1, 100, []mosaic.Key{key("a", 0, 100), key("b", 0, 100)}},
		{"a horizon above all", []mosaic.Message{messageA(100, 5)}, nil, 0, 101, 0, 101, nil},
		{"a horizon above all of the other one", nil, []mosaic.Message{messageA(100, 5), messageA(100, 6)}, 101, 0, 0, 101, nil},
	} {
		a, b := nodeOf(t, networkS(), x.a...), nodeOf(t, networkS(), x.b...)
		a.Forget(x.ha)
		b.Forget(x.hb)
		other := answers(b, 110)
		wantMerge(t, x.what, a, b, x.want, api.OK)
		wantSame(t, x.what+", Horizon", a.Horizon(), x.horizon)
		wantSame(t, x.what+", Keys", a.Keys(), x.keys)
		wantAnswers(t, x.what+", the other node", answers(b, 110), other)
		wantMerge(t, x.what+", again", a, b, 0, api.OK)
		wantMerge(t, x.what+", a copy", a, a.Copy(), 0, api.OK)
		before := answers(a, 110)
		wantMerge(t, x.what+", itself", a, a, 0, api.OK)
		same := *a
		wantMerge(t, x.what+", a copied struct of itself", a, &same, 0, api.OK)
		wantAnswers(t, x.what+", itself", answers(a, 110), before)
	}
}

// P11.3: nodes of networks that differ in one thing.
func TestMergeOtherNetworks(t *testing.T) {
	n := nodeOf(t, networkS(), messageA(100, 5))
	before := answers(n, 110)
	for i, change := range []func(s *mosaic.Spec){
		func(s *mosaic.Spec) { s.Grid.X++ },
		func(s *mosaic.Spec) { s.Grid.Y-- },
		func(s *mosaic.Spec) { s.Grid.Size++ },
		func(s *mosaic.Spec) { s.Grid.Wide, s.Grid.High = s.Grid.High, s.Grid.Wide },
		func(s *mosaic.Spec) { s.Earth.Lo-- },
		func(s *mosaic.Spec) { s.Earth.Hi++ },
		func(s *mosaic.Spec) { s.Age++ },
		func(s *mosaic.Spec) { s.Radars = s.Radars[:1] },
		func(s *mosaic.Spec) { s.Radars = append(s.Radars, networkOf("c").Radars...) },
		func(s *mosaic.Spec) { s.Radars[1].Offset.Lo-- },
		func(s *mosaic.Spec) { s.Radars[1].Offset.Hi++ },
		func(s *mosaic.Spec) { s.Radars[1].Site.Z++ },
		func(s *mosaic.Spec) { s.Radars[0].Site.Name = "c" },
		func(s *mosaic.Spec) { s.Radars[0], s.Radars[1] = s.Radars[1], s.Radars[0] },
	} {
		s := networkS()
		change(&s)
		o := nodeOf(t, s)
		wantForget(t, o, 200, 0, api.OK)
		wantMerge(t, "another network", n, o, 0, api.ErrShape)
		wantMerge(t, "the other way", o, n, 0, api.ErrShape)
		if o.Horizon() != 200 || len(o.Keys()) != 0 {
			t.Errorf("the change %d: the other node has changed", i)
		}
	}
	wantAnswers(t, "behind other networks", answers(n, 110), before)
}

// manyMessages returns so many of a radar, from a time on.
func manyMessages(name string, from, count int) []mosaic.Message {
	var l []mosaic.Message
	for i := range count {
		l = append(l, even(name, from+i, 5))
	}
	return l
}

// P11.3: 256 and 257 messages together.
func TestMergeFull(t *testing.T) {
	for _, x := range []struct {
		what   string
		a, b   []mosaic.Message
		ha, hb int
		want   int
		e      api.Errno
	}{
		{"256", manyMessages("a", 100, 200), manyMessages("b", 100, 56), 0, 0, 56, api.OK},
		{"257", manyMessages("a", 100, 200), manyMessages("b", 100, 57), 0, 0, 0, api.ErrFull},
		{"256 and a new one", manyMessages("a", 100, 256), manyMessages("b", 100, 1), 0, 0, 0, api.ErrFull},
		{"512", manyMessages("a", 100, 256), manyMessages("b", 100, 256), 0, 0, 0, api.ErrFull},
		{"256 of both", manyMessages("a", 100, 256), manyMessages("a", 100, 256), 0, 0, 0, api.OK},
		{"256 with the same keys, and one that differs", manyMessages("a", 100, 256), []mosaic.Message{messageA(100, 6)}, 0, 0, 0, api.ErrFull},
		{"257, one of which is below the other horizon", manyMessages("a", 99, 200), manyMessages("b", 100, 57), 0, 100, 57, api.OK},
		{"257, one of which is below the own horizon", manyMessages("a", 100, 200), manyMessages("b", 99, 57), 100, 0, 56, api.OK},
		{"257 at the horizon", manyMessages("a", 100, 200), manyMessages("b", 100, 57), 0, 100, 0, api.ErrFull},
		{"257 at the own horizon", manyMessages("a", 100, 200), manyMessages("b", 100, 57), 100, 0, 0, api.ErrFull},
		{"256, all of which go", manyMessages("a", 100, 256), manyMessages("b", 356, 256), 0, 356, 256, api.OK},
		{"257, with a greater horizon that drops none of them", manyMessages("a", 100, 200), manyMessages("b", 100, 57), 0, 99, 0, api.ErrFull},
	} {
		a, b := nodeOf(t, networkS(), x.a...), nodeOf(t, networkS(), x.b...)
		a.Forget(x.ha)
		b.Forget(x.hb)
		before, other := answers(a, 400), answers(b, 400)
		wantMerge(t, x.what, a, b, x.want, x.e)
		if x.e != api.OK {
			wantAnswers(t, x.what+", the node", answers(a, 400), before)
		}
		wantAnswers(t, x.what+", the other node", answers(b, 400), other)
	}
}

// P11.3, R3: what is no node counts ahead of all else.
func TestMergeNoNode(t *testing.T) {
	n := nodeOf(t, networkS(), messageA(100, 5))
	before := answers(n, 110)
	for _, none := range []*mosaic.Node{nil, {}, new(mosaic.Node)} {
		wantMerge(t, "no node", n, none, 0, api.ErrNil)
		wantMerge(t, "into no node", none, n, 0, api.ErrNil)
		wantMerge(t, "no node into no node", none, none, 0, api.ErrNil)
	}
	wantAnswers(t, "behind no nodes", answers(n, 110), before)
}
