package mosaic_test

import (
	"slices"
	"testing"

	"radome/api"
	"radome/mosaic"
)

// P11.4: keys by their times, then by their names, then by their tilts.
func TestKeys(t *testing.T) {
	want := []mosaic.Key{
		key("b", 256, 0), key("a", 0, 99), key("ab", 9, 99), key("abc", 1, 99), key("b", 0, 99), key("a", 0, 100), key("a", 1, 100), key("a", 2, 100), key("a", 10, 100),
		key("ab", 0, 100), key("b", 5, 100), key("a", 0, 1000), key("a", 0, maxTime),
	}
	x := &noise{state: 7}
	for range 20 {
		n := nodeOf(t, networkOf("b", "abc", "a", "ab"))
		for _, k := range shuffled(x, want) {
			offer(t, n, message(k.Name, k.Tilt, k.Time, pt(5)))
			if k.Time == 100 {
				offer(t, n, message(k.Name, k.Tilt, k.Time, pt(6)), message(k.Name, k.Tilt, k.Time, pt(4)))
			}
		}
		wantSame(t, "Keys", n.Keys(), want)
		wantSame(t, "Contested", n.Contested(), want[5:11])
	}
}

// P11.4: what is missing behind some keys, in the order of a snapshot.
func TestMissing(t *testing.T) {
	one := networkOf("a", "b")
	a, b, late := message("a", 0, 100, pt(5)), message("b", 0, 100, pt(7)), message("a", 0, 200, span(0, 9))
	low, wide, high := message("a", 1, 100, pt(1)), message("a", 1, 100, span(1, 2)), message("a", 1, 100, pt(2))
	n := nodeOf(t, one, high, late, wide, b, a, low)
	contested := []mosaic.Message{low, wide, high}
	for _, x := range []struct {
		what string
		keys []mosaic.Key
		want []mosaic.Message
	}{
		{"no keys", nil, []mosaic.Message{a, low, wide, high, b, late}},
		{"an empty list", []mosaic.Key{}, []mosaic.Message{a, low, wide, high, b, late}},
		{"one", []mosaic.Key{a.Key}, []mosaic.Message{low, wide, high, b, late}},
		{"the last one, twice", []mosaic.Key{late.Key, late.Key}, []mosaic.Message{a, low, wide, high, b}},
		{"all", n.Keys(), contested},
		{"the contested one", []mosaic.Key{low.Key}, []mosaic.Message{a, low, wide, high, b, late}},
		{"keys that the node does not have", []mosaic.Key{key("a", 2, 100), key("b", 1, 100), key("a", 0, 101), key("", 0, 0), key("c", -1, -5)}, []mosaic.Message{a, low, wide, high, b, late}},
		{"these, and one that it has", []mosaic.Key{key("a", 2, 100), b.Key, key("c", -1, -5)}, []mosaic.Message{a, low, wide, high, late}},
	} {
		wantSame(t, x.what, missing(t, n, x.keys...), x.want)
	}
}

// P11.4: 256 and 257 keys.
func TestMissingOfManyKeys(t *testing.T) {
	n := nodeOf(t, networkS(), messageA(100, 5), messageA(200, 8))
	few := slices.Repeat([]mosaic.Key{key("a", 0, 100)}, maxMessages)
	wantSame(t, "256 keys", missing(t, n, few...), []mosaic.Message{messageA(200, 8)})
	for _, many := range [][]mosaic.Key{append(few, key("a", 0, 200)), append(few, key("", 0, 0)), slices.Repeat(few, 4)} {
		l, e := n.Missing(many)
		wantErr(t, "more keys", e, api.ErrMany)
		wantSame(t, "more keys", l, []mosaic.Message{})
	}
	full := nodeOf(t, networkS(), manyMessages("a", 0, maxMessages)...)
	wantSame(t, "all 256 keys", missing(t, full, full.Keys()...), []mosaic.Message{})
	wantSame(t, "255 keys", missing(t, full, full.Keys()[1:]...), []mosaic.Message{messageA(0, 5)})
}
