package mosaic_test

import (
	"fmt"
	"slices"
	"testing"

	"radome/api"
	"radome/mosaic"
)

// P11.7: snapshots whose bytes are worked out by hand.
func TestSnapshot(t *testing.T) {
	n := nodeOf(t, networkOf("a"))
	wantSame(t, "no messages", n.Snapshot(), []byte{'R', 'D', 'M', '1', 0, 0, 198, 120, 253, 87})
	n = nodeOf(t, networkOf("a"), message("a", 1, 300, span(5, 200)))
	wantForget(t, n, 128, 0, api.OK)
	wantSame(t, "a message", n.Snapshot(), []byte{'R', 'D', 'M', '1', 128, 1, 1, 1, 'a', 1, 172, 2, 5, 195, 1, 70, 74, 235, 150})
}

// P11.7: numbers with as few groups as possible.
func TestSnapshotNumbers(t *testing.T) {
	for time, want := range map[int][]byte{
		0: {0}, 1: {1}, 127: {127}, 128: {128, 1}, 129: {129, 1}, 255: {255, 1}, 256: {128, 2}, 16383: {255, 127}, 16384: {128, 128, 1},
		2097151: {255, 255, 127}, 2097152: {128, 128, 128, 1}, 268435455: {255, 255, 255, 127}, 268435456: {128, 128, 128, 128, 1}, maxTime: {128, 128, 128, 128, 16},
	} {
		n := nodeOf(t, networkOf("a"))
		wantForget(t, n, time, 0, api.OK)
		wantSame(t, fmt.Sprint("the horizon ", time), n.Snapshot(), checked(slices.Concat([]byte("RDM1"), want, []byte{0})))
		wantSame(t, fmt.Sprint("the horizon ", time), restored(t, networkOf("a"), n.Snapshot()).Horizon(), time)
	}
}

// P11.7: messages by their keys, and those with the same key by their Vals.
func TestSnapshotOrder(t *testing.T) {
	s := networkOf("b", "a", "ab")
	s.Grid.Wide = 2
	l := []mosaic.Message{
		message("b", 0, 99, pt(9), pt(9)),
		message("a", 1, 100, pt(1), span(0, 9)), message("a", 1, 100, pt(1), span(1, 2)), message("a", 1, 100, pt(1), span(1, 3)), message("a", 1, 100, pt(1), pt(2)),
		message("a", 1, 100, span(1, 2), pt(0)), message("a", 1, 100, pt(2), pt(0)), message("a", 1, 100, pt(10), pt(0)),
		message("a", 2, 100, pt(1), pt(0)), message("ab", 0, 100, pt(0), pt(0)), message("ab", 0, 100, span(0, 1), pt(0)), message("b", 0, 100, pt(0), pt(0)),
		message("a", 0, 101, pt(0), pt(0)),
	}
	x := &noise{state: 3}
	for range 20 {
		n := nodeOf(t, s, shuffled(x, l)...)
		wantSame(t, "Snapshot", n.Snapshot(), sealed(piecesOf(0, l...)))
		wantSame(t, "Missing", missing(t, n), l)
	}
}

// wantRestored checks that bytes are a snapshot, or that they are none.
func wantRestored(t *testing.T, what string, s mosaic.Spec, b []byte, want api.Errno) {
	t.Helper()
	n, e := mosaic.Restore(s, b)
	if e != want || (n != nil) != (want == api.OK) {
		t.Errorf("Restore, %s: %v, error %d, want %d", what, n, e, want)
	}
	if e == api.OK {
		wantSame(t, what+", Snapshot", n.Snapshot(), b)
	}
}

// snapshotPieces returns messages in the order of a snapshot, and the pieces of this
// one, with the horizon 80.
func snapshotPieces() ([]mosaic.Message, []piece) {
	l := []mosaic.Message{
		message("a", 0, 80, pt(5), span(5, 200)), message("abc", 200, 100, pt(0), span(0, maxRate)), message("a", 1, 300, span(128, 256), pt(3)), message("a", 1, 300, span(128, 257), pt(3)),
		message("a", maxTilt, maxTime, pt(maxRate), pt(5)),
	}
	return l, piecesOf(80, l...)
}

func twoPixels() mosaic.Spec {
	s := networkOf("a", "abc")
	s.Grid.Wide = 2
	return s
}

// P11.7, P11.12: a snapshot that is cut off, or has more bytes.
func TestRestoreCut(t *testing.T) {
	_, l := snapshotPieces()
	whole := sealed(l)
	wantRestored(t, "whole", twoPixels(), whole, api.OK)
	for cut := range whole {
		wantRestored(t, fmt.Sprint("cut off at ", cut), twoPixels(), whole[:cut], api.ErrForm)
		if cut < len(whole)-4 {
			wantRestored(t, fmt.Sprint("cut off at ", cut, ", with a check"), twoPixels(), checked(whole[:cut]), api.ErrForm)
		}
	}
	for more := range 256 {
		wantRestored(t, "a byte more", twoPixels(), append(slices.Clone(whole), byte(more)), api.ErrForm)
		wantRestored(t, "a byte more ahead of the check", twoPixels(), checked(append(whole[:len(whole)-4:len(whole)-4], byte(more))), api.ErrForm)
	}
	wantRestored(t, "twice", twoPixels(), append(slices.Clone(whole), whole...), api.ErrForm)
	wantRestored(t, "its check twice", twoPixels(), checked(whole), api.ErrForm)
	wantRestored(t, "nothing", twoPixels(), nil, api.ErrForm)
	wantRestored(t, "a check", twoPixels(), checked(nil), api.ErrForm)
}

// P11.7, P11.12: each number with more groups than needed, and too great ones,
// also such as would wrap around.
func TestRestoreNumbers(t *testing.T) {
	_, l := snapshotPieces()
	for at, x := range l {
		if x.number == nil {
			continue
		}
		for _, groups := range []int{1, 2, 3, 4, 5, 9, 10, 20} {
			wantRestored(t, fmt.Sprint("the piece ", at, " with ", groups, " more groups"), twoPixels(), sealed(changed(l, at, x.padded(groups))), api.ErrForm)
		}
		for _, bits := range []uint{33, 34, 35, 36, 62, 63, 64, 65, 70, 77} {
			wantRestored(t, fmt.Sprint("the piece ", at, " with the bit ", bits), twoPixels(), sealed(changed(l, at, x.plus(bits))), api.ErrForm)
		}
	}
}

// P11.7, P11.12: any byte that is changed; also with the check that belongs to it,
// unless there is another snapshot then.
func TestRestoreChanged(t *testing.T) {
	_, l := snapshotPieces()
	whole := sealed(l)
	other := 0
	for at := range whole {
		for b := range 256 {
			if byte(b) == whole[at] {
				continue
			}
			bad := slices.Clone(whole)
			bad[at] = byte(b)
			wantRestored(t, fmt.Sprint("the byte ", at, " is ", b), twoPixels(), bad, api.ErrForm)
			if at >= len(whole)-4 {
				continue
			}
			bad = checked(bad[:len(bad)-4])
			if n, e := mosaic.Restore(twoPixels(), bad); e == api.OK {
				wantSame(t, fmt.Sprint("the byte ", at, " is ", b, ", with the check"), n.Snapshot(), bad)
				other++
			}
		}
	}
	if other < 200 {
		t.Errorf("%d other snapshots", other)
	}
}

// P11.7, P11.12: messages out of order, twice, below the horizon, or with an error,
// at each place; and other numbers of them.
func TestRestoreMessages(t *testing.T) {
	l, whole := snapshotPieces()
	sealedOf := func(horizon int, l ...mosaic.Message) []byte { return sealed(piecesOf(horizon, l...)) }
	wantRestored(t, "as it is", twoPixels(), sealedOf(80, l...), api.OK)
	for i := range l {
		what := fmt.Sprint("the message ", i)
		wantRestored(t, what+" is not there", twoPixels(), sealedOf(80, slices.Delete(slices.Clone(l), i, i+1)...), api.OK)
		wantRestored(t, what+" twice", twoPixels(), sealedOf(80, slices.Insert(slices.Clone(l), i, l[i])...), api.ErrForm)
		wantRestored(t, what+" twice, at the end", twoPixels(), sealedOf(80, append(slices.Clone(l), l[i])...), api.ErrForm)
		for j := range i {
			swapped := slices.Clone(l)
			swapped[i], swapped[j] = l[j], l[i]
			wantRestored(t, fmt.Sprint(what, " swapped with ", j), twoPixels(), sealedOf(80, swapped...), api.ErrForm)
		}
		horizon := api.OK
		if l[0].Key.Time < l[i].Key.Time {
			horizon = api.ErrForm
		}
		wantRestored(t, what+" is the first one at the horizon", twoPixels(), sealedOf(l[i].Key.Time, l...), horizon)
		wantRestored(t, what+" is below the horizon", twoPixels(), sealedOf(min(l[i].Key.Time+1, maxTime), l...), api.ErrForm)
		for wrong, change := range map[string]func(m *mosaic.Message){
			"without a name":                func(m *mosaic.Message) { m.Key.Name = "" },
			"of no radar":                   func(m *mosaic.Message) { m.Key.Name = "ab" },
			"with too great a tilt":         func(m *mosaic.Message) { m.Key.Tilt = maxTilt + 1 },
			"with too great a time":         func(m *mosaic.Message) { m.Key.Time = maxTime + 1 },
			"with a value too few":          func(m *mosaic.Message) { m.Vals = m.Vals[1:] },
			"with a value too many":         func(m *mosaic.Message) { m.Vals = append(m.Vals, pt(5)) },
			"with too great a value":        func(m *mosaic.Message) { m.Vals[0] = pt(maxRate + 1) },
			"with a value that is too wide": func(m *mosaic.Message) { m.Vals[1].Hi = maxRate + 1 },
		} {
			bad := slices.Clone(l)
			bad[i] = copied(l[i])
			change(&bad[i])
			wantRestored(t, what+" "+wrong, twoPixels(), sealedOf(80, bad...), api.ErrForm)
		}
	}
	for _, count := range []int{0, 4, 6, 256, 257, 1 << 32} {
		wantRestored(t, fmt.Sprint(count, " messages instead of 5"), twoPixels(), sealed(changed(whole, 2, number(count))), api.ErrForm)
	}
	for _, horizon := range []int{maxTime + 1, 1<<35 - 1} {
		wantRestored(t, "no horizon", twoPixels(), sealedOf(horizon), api.ErrForm)
	}
	wantRestored(t, "the greatest horizon", twoPixels(), sealedOf(maxTime), api.OK)
	for _, letters := range []string{"RDM2", "rdm1", "RDM", "", "RDM11", "RVF1"} {
		wantRestored(t, "the letters "+letters, twoPixels(), sealed(changed(whole, 0, piece{bytes: []byte(letters)})), api.ErrForm)
	}
}

// P11.7: 256 and 257 messages in a snapshot.
func TestRestoreMany(t *testing.T) {
	many := manyMessages("a", 100, maxMessages+1)
	wantRestored(t, "256 messages", networkS(), sealed(piecesOf(0, many[:maxMessages]...)), api.OK)
	wantRestored(t, "257 messages", networkS(), sealed(piecesOf(0, many...)), api.ErrForm)
	contested := []mosaic.Message{}
	for i := range maxMessages + 1 {
		contested = append(contested, messageA(100, i))
	}
	wantRestored(t, "256 messages with one key", networkS(), sealed(piecesOf(0, contested[:maxMessages]...)), api.OK)
	wantRestored(t, "257 messages with one key", networkS(), sealed(piecesOf(0, contested...)), api.ErrForm)
}

// P11.7: the error of the network counts ahead of that of the bytes; and bytes of
// another network.
func TestRestoreNetworks(t *testing.T) {
	l, pieces := snapshotPieces()
	whole := sealed(pieces)
	bad := twoPixels()
	bad.Age = 0
	wantRestored(t, "a bad network", bad, whole, api.ErrRange)
	wantRestored(t, "a bad network, and no snapshot", bad, nil, api.ErrRange)
	wantRestored(t, "no radars, and no snapshot", mosaic.Spec{Grid: bad.Grid, Earth: bad.Earth, Age: 1}, nil, api.ErrEmpty)
	for what, change := range map[string]func(s *mosaic.Spec){
		"a pixel more":           func(s *mosaic.Spec) { s.Grid.High = 2 },
		"a pixel less":           func(s *mosaic.Spec) { s.Grid.Wide = 1 },
		"without a radar":        func(s *mosaic.Spec) { s.Radars = s.Radars[:1] },
		"with another radar":     func(s *mosaic.Spec) { s.Radars[1].Site.Name = "abd" },
		"with names turned back": func(s *mosaic.Spec) { s.Radars[1].Site.Name = "cba" },
	} {
		s := twoPixels()
		change(&s)
		wantRestored(t, what, s, whole, api.ErrForm)
	}
	s := twoPixels()
	s.Age, s.Grid.Wide, s.Grid.High = 7, 1, 2
	s.Radars = append(networkOf("b").Radars, s.Radars...)
	n := restored(t, s, whole)
	wantAnswers(t, "another network that suits", answers(n, 100, 300), answers(&ledger{s, 80, l}, 100, 300))
}

// P11.7: copies, and nodes that are restored, change independently.
func TestCopy(t *testing.T) {
	for what, same := range map[string]func(n *mosaic.Node) *mosaic.Node{
		"Copy":    func(n *mosaic.Node) *mosaic.Node { return n.Copy() },
		"Restore": func(n *mosaic.Node) *mosaic.Node { return restored(t, networkS(), n.Snapshot()) },
		"Merge":   func(n *mosaic.Node) *mosaic.Node { o := nodeOf(t, networkS()); o.Merge(n); return o },
	} {
		for range 2 {
			n := nodeOf(t, networkS(), messageA(100, 5), messageA(100, 6), messageB(100, 7), messageA(110, 9))
			wantForget(t, n, 50, 0, api.OK)
			before := answers(n, 100, 120)
			o := same(n)
			wantAnswers(t, what, answers(o, 100, 120), before)
			offer(t, o, messageA(100, 4), messageB(100, 8), messageB(120, 3))
			wantAnswers(t, "the node behind offers to that of "+what, answers(n, 100, 120), before)
			after := answers(o, 100, 120)
			offer(t, n, messageA(100, 3), messageB(130, 1))
			wantForget(t, n, 120, 5, api.OK)
			wantAnswers(t, "that of "+what+" behind offers to the node", answers(o, 100, 120), after)
			wantSame(t, "Horizon", o.Horizon(), 50)
		}
	}
}
