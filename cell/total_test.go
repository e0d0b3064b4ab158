package cell_test

import (
	"fmt"
	"testing"

	"radome/api"
	"radome/cell"
)

// allCalls are calls of all functions, each of which reports whether it returned
// nothing, and its error.
func allCalls(a, b api.Field, k, l, m, n int) map[string]func() (bool, api.Errno) {
	calls := areaCalls(a, k, l, m)
	for name, call := range pairCalls(a, b, k, l, m, n) {
		calls[name] = call
	}
	calls["Tree"] = func() (bool, api.Errno) {
		tree, e := cell.Tree(a, []int{k, l, m, n})
		return len(tree) == 0, e
	}
	calls["Hull"] = func() (bool, api.Errno) {
		x, y, e := cell.Hull([]cell.Move{{X: k, Y: l}, {X: m, Y: n}})
		return x == api.Span{} && y == api.Span{}, e
	}
	calls["NewBook"] = func() (bool, api.Errno) {
		book, e := cell.NewBook(a.Grid, k, l)
		return book == nil, e
	}
	return calls
}

// P0: every function ends, without a panic, for all arguments; R2: with an
// error, all other results are zero values.
func TestAnyArguments(t *testing.T) {
	changes := []func(f *api.Field, m, n int){
		func(f *api.Field, m, n int) {},
		func(f *api.Field, m, n int) { f.Grid.X, f.Grid.Y = m, n },
		func(f *api.Field, m, n int) { f.Grid.Size = m },
		func(f *api.Field, m, n int) { f.Grid.Wide, f.Grid.High = m, n },
		func(f *api.Field, m, n int) { f.Vals[1] = span(m, n) },
		func(f *api.Field, m, n int) { f.Vals = f.Vals[:3] },
	}
	good := picture("#?.", "??#")
	book := bookOf(t, level, 1, good)
	for i, change := range changes {
		for _, m := range extremes() {
			for _, n := range extremes() {
				f := copied(good)
				change(&f, m, n)
				for _, pair := range [][2]api.Field{{f, f}, {f, good}, {good, f}} {
					calls := allCalls(pair[0], pair[1], m, n, n, m)
					for name, call := range allCalls(pair[0], pair[1], 5, m, n, m) {
						calls[name+" at 5"] = call
					}
					for name, call := range allCalls(pair[0], pair[1], 5, 8, m, n) {
						calls[name+" at 5 and 8"] = call
					}
					for name, call := range calls {
						if isNothing, e := call(); e != api.OK && !isNothing {
							t.Errorf("%s, change %d with %d and %d: error %d, and a result", name, i, m, n, e)
						}
					}
				}
				b := book.Copy()
				b.Add(m, f)
				b.Add(n, good)
				b.Of(m, n)
				b.Past(m)
				b.Future(n)
				b.Steps(m)
			}
		}
	}
}

// R4: no argument is changed, and none is kept.
func TestArguments(t *testing.T) {
	for seed := range 20 {
		n := &noise{state: uint64(15000 + seed)}
		g := n.grid(8)
		a, b, levels := n.field(g), n.field(g), upwards(4)
		before := fmt.Sprint(a, b, levels)
		for _, call := range allCalls(a, b, 5, 0, 0, 0) {
			call()
		}
		cell.Tree(a, levels)
		book := bookOf(t, level, 1, a, b)
		l := moves(t, plain(3, 3, span(9, 9)), plain(3, 3, span(9, 9)), level, 1, 0, 0)
		cell.Hull(l)
		wantSame(t, "the moves behind Hull", l, all(1, func(x, y int) bool { return true }))
		wantSame(t, "the arguments", fmt.Sprint(a, b, levels), before)
		was := answers(book)
		clear(a.Vals)
		clear(b.Vals)
		wantSame(t, "the book behind a change of the arguments", answers(book), was)
	}
}

// spoil overwrites a list, and what it could grow into.
func spoil(l []int) {
	for i := range l {
		l[i] = -77
	}
	whole := l[:cap(l)]
	for i := range whole {
		whole[i] = -77
	}
}

// R4: results of a book are new memory, which the caller can change.
func TestNewMemory(t *testing.T) {
	for seed := range 20 {
		n := &noise{state: uint64(16000 + seed)}
		g, reach := n.grid(9), n.upTo(2)
		maps := n.maps(g, 8)
		b, same := newBook(t, g, level, reach), newBook(t, g, level, reach)
		for i, f := range maps {
			events, _ := b.Add(i, f)
			for _, e := range events {
				spoil(e.From)
				spoil(e.To)
			}
			same.Add(i, f)
			spoilAll(b)
			wantSame(t, "behind changes of results", answers(b), answers(same))
		}
	}
}

// spoilAll overwrites all results of a book.
func spoilAll(b *cell.Book) {
	for i, x := range b.Tracks() {
		spoil(x.Areas)
		spoil(x.Parents)
		spoil(x.Children)
		past, _ := b.Past(i)
		spoil(past)
		future, _ := b.Future(i)
		spoil(future)
		steps, _ := b.Steps(i)
		for _, l := range steps {
			clear(l[:cap(l)])
		}
		clear(steps)
	}
}

// wantOwn checks that no two of some lists share memory: each one is overwritten
// as far as it could grow, and the others remain.
func wantOwn(t *testing.T, what string, lists [][]int) {
	t.Helper()
	for i, l := range lists {
		before := fmt.Sprint(lists[i+1:])
		spoil(l)
		wantSame(t, what, fmt.Sprint(lists[i+1:]), before)
	}
}

// The lists of a result share no memory with each other.
func TestOwnLists(t *testing.T) {
	for seed := range 20 {
		n := &noise{state: uint64(17000 + seed)}
		g := n.grid(8)
		a, b := n.field(g), n.field(g)
		var lists [][]int
		for _, x := range areas(t, a, level) {
			lists = append(append(lists, x.Pixels), x.Kernels...)
		}
		wantOwn(t, "Areas", lists)
		wantOwn(t, "Tree", tree(t, a, 1, 5, 7))
		lists = nil
		for _, e := range match(t, a, b, level, 1) {
			lists = append(lists, e.From, e.To)
		}
		wantOwn(t, "Match", lists)
		lists = nil
		for _, x := range bookOf(t, level, 1, a, b, a, b).Tracks() {
			lists = append(lists, x.Areas, x.Parents, x.Children)
		}
		wantOwn(t, "Tracks", lists)
	}
}

// The same calls lead to the same results.
func TestAgain(t *testing.T) {
	n := &noise{state: 18000}
	maps := n.maps(grid(12, 12), 12)
	want := answers(bookOf(t, level, 1, maps...))
	for range 5 {
		wantSame(t, "the same calls", answers(bookOf(t, level, 1, maps...)), want)
	}
}
