package play_test

import (
	"fmt"
	"testing"

	"garderobe/alloc"
	"garderobe/api"
	"garderobe/play"
	"garderobe/script"
)

// ahead are acts behind which there is something that was committed.
func ahead() []script.Act {
	return append(begun(), allocs(5), allocs(300), writes(0, 0, []byte("hello")...), writes(1, 0, text(7, 300)...), sets(3, 0), just(script.Commit))
}

// under are acts of a transaction that changes much of that, up to its Commit.
func under() []script.Act {
	return []script.Act{just(script.Begin), writes(0, 1, 'E', 'L'), reallocs(1, 400), writes(1, 200, text(8, 200)...), allocs(40), sets(3, 1), sets(4, 2)}
}

// some are picks that differ: none, all, and some of the words.
func some() [][]byte { return [][]byte{nil, {1}, {0, 1}, {1, 0, 0}, text(9, 50)} }

// both is all that the heap has ahead of the Commit, and behind it, and how many acts of the memory it does.
func both(t *testing.T) (before, after string, acts int) {
	t.Helper()
	w := made(t, setup(4, 8), ahead()...)
	before = held(t, w)
	good(t, w, under()...)
	after = held(t, w)
	if before == after {
		t.Fatal("nothing is changed")
	}
	acts = len(w.Base().D.Acts())
	good(t, w, just(script.Commit))
	if held(t, w) != after {
		t.Fatal("a Commit changes what was there")
	}
	return before, after, len(w.Base().D.Acts()) - acts
}

// cut is a world whose power goes with the n-th act of the Commit, and what is to be there from then on.
func cut(t *testing.T, n int, picks []byte, before, after string) (*play.World, string) {
	t.Helper()
	w := made(t, setup(4, 8), append(ahead(), under()...)...)
	count := w.Base().T.Read().Count
	good(t, w, arms(n, picks...))
	is(t, fmt.Sprint("Commit, cut off at ", n), w.Do(just(script.Commit)), fails(api.ErrDown))
	for _, a := range every()[script.Begin:script.Crash] {
		is(t, fmt.Sprintf("cut off at %d, then %+v", n, a), w.Do(a), fails(api.ErrDown))
	}
	is(t, "then Open", w.Do(opens(true)), fails(api.ErrOpen))
	if w.Base().T.Read().Count > count {
		return w, after
	}
	return w, before
}

// whole fails unless the heap is opened with just this, and stays so.
func whole(t *testing.T, what string, w *play.World, want string) {
	t.Helper()
	for k, a := range []script.Act{opens(false), just(script.Close), opens(true), crashes(1), just(script.On), opens(true)} {
		is(t, fmt.Sprint(what, ", then ", k), w.Do(a), play.Answer{})
		if a.Kind == script.Open && held(t, w) != want {
			t.Errorf("%s, then %d: it has\n%s\nnot\n%s", what, k, held(t, w), want)
		}
	}
	is(t, what+", then Check", w.Do(just(script.Check)), play.Answer{})
	good(t, w, just(script.Begin), allocs(3), just(script.Commit), just(script.Check))
}

// P28.5, P0.2: the power goes at each act of a Commit: what is opened is what was committed last, or the Commit.
func TestCommitCut(t *testing.T) {
	before, after, acts := both(t)
	if acts < 30 {
		t.Fatal("the Commit does", acts, "acts")
	}
	olds, news := 0, 0
	for n := 1; n <= acts; n++ {
		for k, picks := range some() {
			w, want := cut(t, n, picks, before, after)
			if want == before {
				olds++
			} else {
				news++
			}
			closes := []script.Act{crashes(), just(script.On)}
			if k%2 > 0 {
				closes = []script.Act{just(script.Close), just(script.On)}
			}
			good(t, w, closes...)
			whole(t, fmt.Sprintf("cut off at %d of %d, picks %v", n, acts, picks), w, want)
		}
	}
	if olds < 30 || news < 30 {
		t.Error("found as before:", olds, "as behind:", news)
	}
	w := made(t, setup(4, 8), append(append(ahead(), under()...), arms(acts+1), just(script.Commit))...)
	if held(t, w) != after || w.Base().D.Down() {
		t.Error("armed for an act behind the Commit")
	}
	is(t, "Close", w.Do(just(script.Close)), play.Answer{})
	is(t, "Open", w.Do(opens(true)), fails(api.ErrDown))
	good(t, w, just(script.On))
	whole(t, "cut off behind the Commit", w, after)
}

// P28.5, P0.2: the power goes at each act of the Open behind that, too, and again: it is found as it was, for good.
func TestOpenCut(t *testing.T) {
	before, after, acts := both(t)
	for n := 1; n <= acts; n++ {
		t.Run(fmt.Sprint(n), func(t *testing.T) {
			t.Parallel()
			for m := 1; ; m++ {
				picks := some()[(n+m)%5]
				w, want := cut(t, n, picks, before, after)
				good(t, w, just(script.Close), just(script.On), arms(m, some()[m%5]...))
				e := w.Do(opens(m%2 > 0)).E
				what := fmt.Sprintf("cut off at %d, and the Open at %d", n, m)
				if e == api.OK {
					if m < 20 || held(t, w) != want {
						t.Error(what, "is OK")
					}
					return
				}
				is(t, what, fails(e), fails(api.ErrDown))
				is(t, what+", then Stat", w.Do(just(script.Stat)), fails(api.ErrClosed))
				good(t, w, just(script.On), arms(m/2+1, 0, 1))
				is(t, what+", and again", w.Do(opens(true)), fails(api.ErrDown))
				good(t, w, just(script.On))
				whole(t, what, w, want)
			}
		})
	}
}

// P28.5: an Open that is cut off without a Commit ahead of it, for reading and for writing.
func TestPlainOpenCut(t *testing.T) {
	want := held(t, made(t, setup(4, 8), ahead()...))
	for _, write := range []bool{false, true} {
		w := made(t, setup(4, 8), append(ahead(), just(script.Close))...)
		acts := len(w.Base().D.Acts())
		good(t, w, opens(write), just(script.Close))
		acts = len(w.Base().D.Acts()) - acts
		for n := 1; n <= acts+1; n++ {
			for _, picks := range some() {
				w := made(t, setup(4, 8), append(ahead(), just(script.Close), arms(n, picks...))...)
				what := fmt.Sprintf("%v, cut off at %d of %d", write, n, acts)
				if n > acts {
					is(t, what, w.Do(opens(write)), play.Answer{})
					continue
				}
				is(t, what, w.Do(opens(write)), fails(api.ErrDown))
				is(t, what+", then Close", w.Do(just(script.Close)), fails(api.ErrClosed))
				good(t, w, just(script.On))
				whole(t, what, w, want)
			}
		}
	}
}

// P28.5: the power goes within a transaction, with the heap closed, and ahead of all: nothing of it is there.
func TestBetween(t *testing.T) {
	before, _, _ := both(t)
	for n := range len(under()) + 1 {
		for _, picks := range some() {
			w := made(t, setup(4, 8), append(append(ahead(), under()[:n]...), crashes(picks...), just(script.On))...)
			whole(t, fmt.Sprint("behind ", n, " acts"), w, before)
		}
	}
	w := made(t, setup(4, 8), crashes(), just(script.On), just(script.Format), crashes(1), just(script.On), opens(true))
	empty := held(t, made(t, setup(4, 8), just(script.Format), opens(true)))
	if held(t, w) != empty {
		t.Error("behind a Format:", held(t, w))
	}
}

// P28.5: an On, and a later Arm, at each place of a Commit, take an Arm back.
func TestArmTaken(t *testing.T) {
	_, after, acts := both(t)
	for n := 1; n <= acts; n++ {
		for _, back := range []script.Act{just(script.On), arms(0), arms(acts + 1)} {
			w := made(t, setup(4, 8), append(append(ahead(), under()...), arms(n, 1), back, just(script.Commit), just(script.On), just(script.Close), opens(true))...)
			if held(t, w) != after {
				t.Errorf("armed for %d, and taken back: it has %s", n, held(t, w))
			}
		}
	}
}

// P0.3: counts at the end: Format, Open for writing and Begin say so, and what is there can be read.
func TestExhausted(t *testing.T) {
	for left := range 9 { // how far the register is from its end
		s := setup(4, 8)
		s.Count = api.MaxCount - uint64(left)
		w := made(t, s)
		if left < 2 {
			is(t, "Format", w.Do(just(script.Format)), fails(api.ErrExhausted))
			is(t, "Open for reading", w.Do(opens(false)), fails(api.ErrTampered))
			continue
		}
		good(t, w, just(script.Format))
		commits := 0
		if left > 2 {
			good(t, w, opens(true))
			for ; w.Do(just(script.Begin)).E == api.OK; commits++ {
				good(t, w, allocs(4), writes(0, 0, byte(commits), 7), just(script.Commit))
			}
			is(t, "Begin", w.Do(just(script.Begin)), fails(api.ErrExhausted))
			good(t, w, just(script.Stat), just(script.Close))
		}
		if commits != max(left-3, 0) {
			t.Errorf("%d counts left: %d Commits", left, commits)
		}
		is(t, "Open for writing", w.Do(opens(true)), fails(api.ErrExhausted))
		is(t, "Format", w.Do(just(script.Format)), fails(api.ErrExhausted))
		good(t, w, opens(false))
		want := alloc.Stat{Free: 4}
		if commits > 0 {
			want = alloc.Stat{Free: 3, Slots: 1, Objects: commits, Bytes: 4 * commits}
			is(t, "Read", w.Do(reads(0, 0, 2)), play.Answer{B: []byte{byte(commits - 1), 7}})
		}
		is(t, "Stat", w.Do(just(script.Stat)), stat(want))
		is(t, "Check", w.Do(just(script.Check)), play.Answer{})
		is(t, "Begin of reading", w.Do(just(script.Begin)), fails(api.ErrReadOnly))
	}
}
