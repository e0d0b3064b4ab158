package mosaic_test

import (
	"testing"

	"radome/api"
	"radome/mosaic"
)

// P11.2, P11.4 to P11.6: the examples, in the order of the chapter.
func TestExamples(t *testing.T) {
	n := nodeOf(t, networkS(), messageA(100, 5))
	wantOffer(t, "again", n, messageA(100, 5), false, api.OK)
	wantOffer(t, "other values", n, messageA(100, 6), true, api.OK)
	wantSame(t, "Contested", n.Contested(), []mosaic.Key{key("a", 0, 100)})

	n = nodeOf(t, networkS(), messageA(100, 5), messageB(100, 7))
	wantMap(t, n, 100, "5 a 0 100", "5 a 0 100", "5 a 0 100", "gap")
	wantMap(t, n, 110, "5 a 0 100", "5 a 0 100", "5 a 0 100", "7 b 0 100")
	wantSame(t, "Map at 700", mapAt(t, n, 700), mapAt(t, n, 110))
	wantMap(t, n, 701, "gap", "7 b 0 100", "7 b 0 100", "7 b 0 100")
	a, b := key("a", 0, 100), key("b", 0, 100)
	wantSame(t, "Clashes at 110", clashesAt(t, n, 110), []mosaic.Clash{{Pixel: 1, A: a, B: b}, {Pixel: 2, A: a, B: b}, {Pixel: 5, A: a, B: b}, {Pixel: 6, A: a, B: b}})

	offer(t, n, messageA(200, 8))
	wantMap(t, n, 210, "8 a 0 200")
	wantSame(t, "Keys", n.Keys(), []mosaic.Key{a, b, key("a", 0, 200)})
	wantForget(t, n, 150, 2, api.OK)
	wantOffer(t, "below the horizon", n, messageA(149, 1), false, api.ErrLate)
	_, e := n.Map(149)
	wantErr(t, "Map at 149", e, api.ErrLate)
	wantSame(t, "Missing of no keys", missing(t, n), []mosaic.Message{messageA(200, 8)})
	wantSame(t, "Missing of the key", missing(t, n, key("a", 0, 200)), []mosaic.Message{})
}

// P11.5: the example of DOC.md: of radars that see a pixel as high the newer
// message is shown, and of equal times that of the lesser name.
func TestExampleOfTwoRadars(t *testing.T) {
	n := nodeOf(t, networkS(), messageA(100, 5), messageB(101, 7))
	wantMap(t, n, 111, "5 a 0 100", "7 b 0 101", "7 b 0 101", "7 b 0 101")
	n = nodeOf(t, networkS(), messageB(100, 7), messageA(100, 5))
	wantMap(t, n, 111, "5 a 0 100", "5 a 0 100", "5 a 0 100", "7 b 0 100")
}

// P11.1 to P11.7: all answers against those that follow from the messages by the
// definitions; what is refused leaves all as it was (R2).
func TestAgainstDefinitions(t *testing.T) {
	errors, seen := map[api.Errno]int{}, map[string]int{}
	for seed := range 300 {
		x := &noise{state: uint64(seed)}
		s := x.network()
		nodes := []*mosaic.Node{nodeOf(t, s), nodeOf(t, s), nodeOf(t, s)}
		ledgers := []*ledger{{spec: s}, {spec: s}, {spec: s}}
		for range 40 {
			i, j := x.upTo(2), x.upTo(2)
			errors[step(t, x, nodes, ledgers, i, j)]++
			if x.upTo(4) == 0 {
				times := []int{60 + x.upTo(90), 100 + x.upTo(20), 90 + x.upTo(400)}
				wantAnswers(t, "a node", answers(nodes[i], times...), answers(ledgers[i], times...))
				countSeen(seen, ledgers[i], times[1])
			}
		}
	}
	for _, e := range []api.Errno{api.OK, api.ErrNone, api.ErrRange, api.ErrShape, api.ErrLate} {
		if errors[e] < 50 {
			t.Errorf("the error %d arises %d times", e, errors[e])
		}
	}
	for _, what := range []string{"pixel", "gap", "clash", "contested"} {
		if seen[what] < 500 {
			t.Errorf("%s: seen %d times", what, seen[what])
		}
	}
}

// step does one thing with a node, perhaps with another one, and the same with
// their ledgers.
func step(t *testing.T, x *noise, nodes []*mosaic.Node, ledgers []*ledger, i, j int) api.Errno {
	t.Helper()
	n, l := nodes[i], ledgers[i]
	var got, want any
	var e, wantE api.Errno
	switch x.upTo(20) {
	case 0, 1:
		got, e = n.Merge(nodes[j])
		want, wantE = l.Merge(ledgers[j])
	case 2:
		time := x.of(50, 60+x.upTo(20), 80+x.upTo(20), l.horizon, l.horizon-1, -1, maxTime+1)
		got, e = n.Forget(time)
		want, wantE = l.Forget(time)
	case 3:
		nodes[j], ledgers[j] = n.Copy(), l.copied()
	case 4:
		nodes[i] = restored(t, l.spec, n.Snapshot())
	case 5, 6, 7:
		m := x.spoiled(x.message(l.spec))
		got, e = n.Offer(m)
		want, wantE = l.Offer(m)
	default:
		m := x.message(l.spec)
		if len(l.list) > 0 && x.upTo(3) == 0 {
			m = x.rival(l.list[x.upTo(len(l.list)-1)])
		}
		got, e = n.Offer(m)
		want, wantE = l.Offer(m)
	}
	if got != want || e != wantE {
		t.Fatalf("a step: %v %d, want %v %d", got, e, want, wantE)
	}
	return e
}

// countSeen counts what the answers have.
func countSeen(seen map[string]int, l *ledger, time int) {
	pixels, _ := l.Map(time)
	for _, x := range pixels {
		if shown(x) == "gap" {
			seen["gap"]++
		} else {
			seen["pixel"]++
		}
	}
	clashes, _ := l.Clashes(time)
	seen["clash"] += len(clashes)
	seen["contested"] += len(l.Contested())
}
