package tests

import (
	"math"
	"slices"
	"testing"

	"loop.example/thingstead/impl"
)

// sameBallotVote and sameAcc hold votes against each other without the program's own AccSame.
func sameBallotVote(a impl.Vote, b impl.Vote) bool {
	return a.Bal == b.Bal && sameEntry(a.Entry, b.Entry)
}

func sameVotes(a []impl.Vote, b []impl.Vote) bool {
	return slices.EqualFunc(a, b, sameBallotVote)
}

func sameAcc(a impl.Acc, b impl.Acc) bool {
	return a.Promised == b.Promised && sameVotes(a.Votes, b.Votes)
}

func cloneVotes(list []impl.Vote) []impl.Vote {
	var out []impl.Vote
	for _, vote := range list {
		out = append(out, impl.Vote{Bal: vote.Bal, Entry: cloneEntry(vote.Entry)})
	}
	return out
}

func cloneAcc(a impl.Acc) impl.Acc {
	return impl.Acc{Promised: a.Promised, Votes: cloneVotes(a.Votes)}
}

func noneEntry() impl.Entry {
	return impl.Entry{None: true}
}

// votesIn is votes in these ballots, each for another entry; none for 0.
func votesIn(bals ...int) []impl.Vote {
	var out []impl.Vote
	for place, bal := range bals {
		switch {
		case bal == 0:
			out = append(out, impl.Vote{})
		case place%3 == 2:
			out = append(out, impl.Vote{Bal: bal, Entry: noneEntry()})
		default:
			out = append(out, impl.Vote{Bal: bal, Entry: entryWith(place%3, 1+place, freshRun())})
		}
	}
	return out
}

// someAcc has votes, some of them in the very ballot that was promised, and places without one ahead, between and at the end.
func someAcc() impl.Acc {
	return impl.Acc{Promised: 10, Votes: votesIn(0, 4, 10, 0, 0, 1, 10, 0)}
}

// otherEntry is one for which nobody in someAcc has voted.
func otherEntry() impl.Entry {
	return entryWith(2, 900, staleRun())
}

// voted is another AccVote, for what may be: all places are laid out, and the votes are put where they stand.
func voted(a impl.Acc, bal int, slot int, e impl.Entry) impl.Acc {
	votes := make([]impl.Vote, max(len(a.Votes), slot+1))
	copy(votes, cloneVotes(a.Votes))
	votes[slot] = impl.Vote{Bal: bal, Entry: cloneEntry(e)}
	return impl.Acc{Promised: bal, Votes: votes}
}

func wantPromise(t *testing.T, a impl.Acc, bal int, want impl.Acc, ok bool) {
	t.Helper()
	got, gotOk := impl.AccPromise(a, bal)
	if !sameAcc(got, want) || gotOk != ok {
		t.Errorf("%v promises %d and is %v, %v, not %v, %v", a, bal, got, gotOk, want, ok)
	}
}

func wantVote(t *testing.T, a impl.Acc, bal int, slot int, e impl.Entry, want impl.Acc, ok bool) {
	t.Helper()
	got, gotOk := impl.AccVote(a, bal, slot, e)
	if !sameAcc(got, want) || gotOk != ok {
		t.Errorf("%v votes in %d at %d for %v and is %v, %v, not %v, %v", a, bal, slot, e, got, gotOk, want, ok)
	}
}

// wantVoted wants a vote that is cast, and nothing else that is turned.
func wantVoted(t *testing.T, a impl.Acc, bal int, slot int, e impl.Entry) {
	t.Helper()
	wantVote(t, a, bal, slot, e, voted(a, bal, slot, e), true)
	if got, _ := impl.AccVote(a, bal, slot, e); !impl.AccOk(got) {
		t.Errorf("%v is not ok", got)
	}
}

// wantBest wants the same of two lists whichever way round, so for lists without unequal votes in equal ballots alone.
func wantBest(t *testing.T, a []impl.Vote, b []impl.Vote, want []impl.Vote) {
	t.Helper()
	wantBestOf(t, a, b, want)
	wantBestOf(t, b, a, want)
}

func wantBestOf(t *testing.T, a []impl.Vote, b []impl.Vote, want []impl.Vote) {
	t.Helper()
	if got := impl.AccBest(a, b); !sameVotes(got, want) {
		t.Errorf("the best of %v and %v are %v, not %v", a, b, got, want)
	}
}

// voteAt is the vote at a place; none past the end.
func voteAt(list []impl.Vote, slot int) impl.Vote {
	if slot < len(list) {
		return list[slot]
	}
	return impl.Vote{}
}

// wantKept holds what there is behind an answer against what there was: nothing that was promised is taken back.
func wantKept(t *testing.T, before impl.Acc, after impl.Acc, ok bool) {
	t.Helper()
	if !impl.AccOk(after) || after.Promised < before.Promised || !ok && !sameAcc(after, before) {
		t.Fatalf("behind %v there is %v", before, after)
	}
	for slot := range max(len(before.Votes), len(after.Votes)) {
		was, is := voteAt(before.Votes, slot), voteAt(after.Votes, slot)
		if !sameBallotVote(was, is) && (is.Bal < before.Promised || is.Bal < 1 || is.Bal != after.Promised) {
			t.Fatalf("behind %v, at %d, there is a new vote in %d", before, slot, is.Bal)
		}
	}
}

// voting is promises and votes that are asked for in any order, most of them near what was promised last.
type voting struct {
	draws
	now impl.Acc
}

func (d *voting) bal() int {
	switch d.below(12) {
	case 0:
		return []int{math.MinInt, -3000, -1, 0, 1, 2, 2999, 3000, 3001, math.MaxInt}[d.below(10)]
	case 1, 2, 3, 4:
		return d.now.Promised
	}
	return d.now.Promised + d.below(9) - 5
}

func (d *voting) slot() int {
	if d.below(12) == 0 {
		return []int{math.MinInt, -1, 39, 40, 41, math.MaxInt}[d.below(6)]
	}
	return d.below(8)
}

func (d *voting) entry() impl.Entry {
	entries := []impl.Entry{noneEntry(), entryWith(0, 1, freshRun()), entryWith(1, 5, staleRun()), entryWith(2, 1000, blindRun()), entryWith(2, 7, impl.Run{Code: impl.ExecFails}), {}, entryWith(1, 5, impl.Run{Code: impl.ExecForm}), entryWith(3, 1, freshRun())}
	if d.below(8) == 0 {
		return entries[5+d.below(3)]
	}
	return entries[d.below(5)]
}

// step asks for one of both, and says whether that may be.
func (d *voting) step(t *testing.T) {
	t.Helper()
	before, bal := d.now, d.bal()
	fits := 1 <= bal && bal <= 3000 && bal >= before.Promised
	if d.below(3) == 0 {
		want := cloneAcc(before)
		if fits {
			want.Promised = bal
		}
		wantPromise(t, before, bal, want, fits)
		after, ok := impl.AccPromise(before, bal)
		wantKept(t, before, after, ok)
		d.now = after
		return
	}
	slot, e := d.slot(), d.entry()
	fits = fits && 0 <= slot && slot < 40 && impl.CertEntry(e)
	want := cloneAcc(before)
	if fits {
		want = voted(before, bal, slot, e)
	}
	wantVote(t, before, bal, slot, e, want, fits)
	after, ok := impl.AccVote(before, bal, slot, e)
	wantKept(t, before, after, ok)
	d.now = after
}

// Promise 6.
func TestAPromiseIsNeverTakenBack(t *testing.T) {
	ends := map[int]int{}
	for seed := range 120 {
		d := voting{draws: draws(seed)}
		for range 150 {
			before := d.now.Promised
			d.step(t)
			ends[d.now.Promised-before]++
			if t.Failed() {
				t.FailNow()
			}
		}
	}
	for more := range 4 {
		if ends[more] < 200 {
			t.Errorf("%d times somebody came to promise a ballot that is %d more", ends[more], more)
		}
	}
}

// Promise 6, from anything that is ok: behind a promise there is no vote in a lesser ballot, whatever is asked for.
func TestNoVoteIsCastBelowWhatWasPromised(t *testing.T) {
	for _, promised := range []int{1, 2, 3, 10, 1500, 2999, 3000} {
		for _, votes := range [][]impl.Vote{nil, votesIn(1), votesIn(0, promised), votesIn(promised, 1, 0)} {
			a, ok := impl.AccPromise(impl.Acc{}, promised)
			if !ok || a.Promised != promised {
				t.Fatal(a, ok)
			}
			a.Votes = votes
			for _, bal := range []int{math.MinInt, -promised, -1, 0, 1, promised / 2, promised - 2, promised - 1} {
				if bal < promised {
					wantPromise(t, a, bal, a, false)
					for _, slot := range []int{0, 1, 2, 39} {
						wantVote(t, a, bal, slot, noneEntry(), a, false)
						wantVote(t, a, bal, slot, entryWith(1, 5, freshRun()), a, false)
					}
				}
			}
		}
	}
}

// A vote is a promise, too: behind one in a ballot nothing may be done in a lesser one.
func TestAVotePromisesItsBallot(t *testing.T) {
	a, ok := impl.AccVote(impl.Acc{}, 7, 1, otherEntry())
	if !ok || a.Promised != 7 {
		t.Fatal(a, ok)
	}
	for _, bal := range []int{1, 5, 6} {
		wantPromise(t, a, bal, a, false)
		for slot := range 3 {
			wantVote(t, a, bal, slot, noneEntry(), a, false)
		}
	}
	wantVoted(t, a, 7, 0, noneEntry())
	wantVoted(t, a, 7, 1, noneEntry())
	wantVoted(t, a, 8, 2, noneEntry())
}

func TestAccBounds(t *testing.T) {
	if impl.AccMax != 3000 {
		t.Error(impl.AccMax)
	}
}

// rightVotes is lists of votes that are right, with each part at its edges.
func rightVotes() [][]impl.Vote {
	out := [][]impl.Vote{nil, {}, {{}}, votesIn(0, 0, 0), votesIn(1), votesIn(2999, 3000), votesIn(0, 7), votesIn(7, 0), votesIn(0, 0, 5, 0, 3000, 0), someAcc().Votes, make([]impl.Vote, 39), make([]impl.Vote, 40)}
	for _, size := range []int{39, 40} {
		out = append(out, votesIn(slices.Repeat([]int{3000}, size)...), votesIn(slices.Repeat([]int{1}, size)...), append(make([]impl.Vote, size-1), votesIn(2)...))
	}
	for _, e := range okEntries() {
		out = append(out, []impl.Vote{{Bal: 1, Entry: e}}, []impl.Vote{{}, {Bal: 3000, Entry: e}, {}})
	}
	return append(out, []impl.Vote{{Entry: impl.Entry{Run: impl.Run{Reads: []impl.Read{}, Puts: []impl.Put{}}}}})
}

// wrongVote is votes of which each breaks one condition alone: of ballot 0, and of something; of a ballot, and for an entry that is not right; of no ballot.
func wrongVote() []impl.Vote {
	var out []impl.Vote
	for _, e := range append(okEntries(), badEntries()...) {
		if !sameEntry(e, impl.Entry{}) {
			out = append(out, impl.Vote{Entry: e})
		}
	}
	for _, e := range badEntries() {
		out = append(out, impl.Vote{Bal: 1, Entry: e}, impl.Vote{Bal: 3000, Entry: e})
	}
	for _, part := range []impl.Entry{{Req: impl.Req{Who: 1}}, {Req: impl.Req{Seq: 1}}, {Run: impl.Run{Val: 1}}, {Run: impl.Run{Code: 1}}, {Run: impl.Run{Reads: []impl.Read{{}}}}, {Run: impl.Run{Puts: []impl.Put{{}}}}} {
		out = append(out, impl.Vote{Entry: part})
	}
	for _, bal := range []int{math.MinInt, -3000, -3, -1, 3001, 3003, math.MaxInt} {
		out = append(out, impl.Vote{Bal: bal, Entry: noneEntry()}, impl.Vote{Bal: bal, Entry: otherEntry()}, impl.Vote{Bal: bal})
	}
	return out
}

// wrongVotes is lists of votes that are not right: for one of them, at any place, or as they are too many.
func wrongVotes() [][]impl.Vote {
	var out [][]impl.Vote
	for _, vote := range wrongVote() {
		out = append(out, []impl.Vote{vote}, []impl.Vote{vote, {}}, append(votesIn(0, 3), vote), append(append(votesIn(9), vote), votesIn(2, 2)...))
	}
	for _, size := range []int{41, 42, 1 << 12} {
		out = append(out, make([]impl.Vote, size), votesIn(slices.Repeat([]int{2}, size)...), append(make([]impl.Vote, size-1), votesIn(2)...), append(votesIn(2), make([]impl.Vote, size-1)...))
	}
	for _, place := range []int{0, 1, 38, 39} {
		list := votesIn(slices.Repeat([]int{2}, 40)...)
		list[place] = impl.Vote{Bal: 2}
		out = append(out, list)
	}
	return out
}

// okAccs is what is ok, badAccs what breaks one condition alone.
func okAccs() []impl.Acc {
	var out []impl.Acc
	for _, promised := range []int{0, 1, 2, 2999, 3000} {
		out = append(out, impl.Acc{Promised: promised}, impl.Acc{Promised: promised, Votes: []impl.Vote{}}, impl.Acc{Promised: promised, Votes: make([]impl.Vote, 40)})
	}
	for _, votes := range rightVotes() {
		out = append(out, impl.Acc{Promised: 3000, Votes: votes})
	}
	for _, promised := range []int{1, 2, 10, 2999, 3000} {
		out = append(out, impl.Acc{Promised: promised, Votes: votesIn(promised)}, impl.Acc{Promised: promised, Votes: votesIn(0, promised, 1, 0)}, impl.Acc{Promised: promised, Votes: votesIn(slices.Repeat([]int{promised}, 40)...)})
	}
	return append(out, someAcc())
}

func badAccs() []impl.Acc {
	var out []impl.Acc
	for _, promised := range []int{math.MinInt, -3000, -1, 3001, 3002, math.MaxInt} {
		out = append(out, impl.Acc{Promised: promised}, impl.Acc{Promised: promised, Votes: make([]impl.Vote, 3)}, impl.Acc{Promised: promised, Votes: votesIn(0, 1)})
	}
	for _, votes := range wrongVotes() {
		out = append(out, impl.Acc{Promised: 3000, Votes: votes})
	}
	for _, promised := range []int{0, 1, 2, 10, 2998, 2999} {
		for _, bal := range []int{promised + 1, 3000} {
			out = append(out, impl.Acc{Promised: promised, Votes: votesIn(bal)}, impl.Acc{Promised: promised, Votes: votesIn(0, 0, bal, 0)}, impl.Acc{Promised: promised, Votes: append(votesIn(bal), make([]impl.Vote, 39)...)}, impl.Acc{Promised: promised, Votes: append(make([]impl.Vote, 39), votesIn(bal)...)})
		}
	}
	return out
}

func TestAccOkAtItsEdges(t *testing.T) {
	for _, a := range okAccs() {
		if !impl.AccOk(a) {
			t.Errorf("%v is not ok", a)
		}
	}
	for _, a := range badAccs() {
		if impl.AccOk(a) {
			t.Errorf("%v is ok", a)
		}
	}
}

func wantAccsDiffer(t *testing.T, a impl.Acc, b impl.Acc) {
	t.Helper()
	if impl.AccSame(a, b) || impl.AccSame(b, a) {
		t.Errorf("%v and %v are the same", a, b)
	}
}

func TestAccSame(t *testing.T) {
	for _, a := range append(okAccs(), badAccs()...) {
		if !impl.AccSame(a, cloneAcc(a)) {
			t.Errorf("%v differs from itself", a)
		}
	}
	for _, promised := range []int{-1, 0, 7, 3001} {
		empty := impl.Acc{Promised: promised, Votes: []impl.Vote{}}
		if !impl.AccSame(empty, impl.Acc{Promised: promised}) || !impl.AccSame(impl.Acc{Promised: promised}, empty) {
			t.Error("the nil list and the empty list differ")
		}
		for _, bal := range []int{-1, 0, 7} {
			one := impl.Acc{Promised: promised, Votes: []impl.Vote{{Bal: bal}}}
			other := impl.Acc{Promised: promised, Votes: []impl.Vote{{Bal: bal, Entry: impl.Entry{Run: impl.Run{Reads: []impl.Read{}, Puts: []impl.Put{}}}}}}
			if !impl.AccSame(one, other) || !impl.AccSame(other, one) {
				t.Error("the nil list and the empty list of a vote differ")
			}
		}
	}
}

func TestAccSameOfWhatDiffersInOnePart(t *testing.T) {
	changes := []func(*impl.Acc){
		func(a *impl.Acc) { a.Promised++ },
		func(a *impl.Acc) { a.Promised = -a.Promised },
		func(a *impl.Acc) { a.Votes = nil },
		func(a *impl.Acc) { a.Votes = a.Votes[:len(a.Votes)-1] }, // a place without a vote at the end is a place
		func(a *impl.Acc) { a.Votes = append(a.Votes, impl.Vote{}) },
		func(a *impl.Acc) { a.Votes = a.Votes[1:] },
		func(a *impl.Acc) { a.Votes = slices.Insert(a.Votes, 0, impl.Vote{}) },
		func(a *impl.Acc) { a.Votes = slices.Delete(a.Votes, 3, 4) },
		func(a *impl.Acc) { a.Votes = append(a.Votes, a.Votes[1]) },
		func(a *impl.Acc) { slices.Reverse(a.Votes) },
		func(a *impl.Acc) { a.Votes[1], a.Votes[2] = a.Votes[2], a.Votes[1] },
		func(a *impl.Acc) { a.Votes[1].Entry, a.Votes[6].Entry = a.Votes[6].Entry, a.Votes[1].Entry },
	}
	for place := range someAcc().Votes {
		changes = append(changes,
			func(a *impl.Acc) { a.Votes[place].Bal++ },
			func(a *impl.Acc) { a.Votes[place].Bal-- },
			func(a *impl.Acc) { a.Votes[place].Entry.None = !a.Votes[place].Entry.None },
			func(a *impl.Acc) { a.Votes[place].Entry.Req.Who++ },
			func(a *impl.Acc) { a.Votes[place].Entry.Req.Seq++ },
			func(a *impl.Acc) { a.Votes[place].Entry.Run.Val++ },
			func(a *impl.Acc) { a.Votes[place].Entry.Run.Code++ },
			func(a *impl.Acc) {
				a.Votes[place].Entry.Run.Reads = append(a.Votes[place].Entry.Run.Reads, impl.Read{})
			},
			func(a *impl.Acc) {
				a.Votes[place].Entry.Run.Puts = append(a.Votes[place].Entry.Run.Puts, impl.Put{})
			})
	}
	for _, change := range append(changes,
		func(a *impl.Acc) { a.Votes[1].Entry.Run.Reads[0].Box++ },
		func(a *impl.Acc) { a.Votes[1].Entry.Run.Reads[0].Ver++ },
		func(a *impl.Acc) { a.Votes[6].Entry.Run.Puts[1].Box++ },
		func(a *impl.Acc) { a.Votes[6].Entry.Run.Puts[0].Val++ }) {
		other := someAcc()
		change(&other)
		wantAccsDiffer(t, someAcc(), other)
	}
	wantAccsDiffer(t, impl.Acc{Votes: []impl.Vote{{}}}, impl.Acc{})
	wantAccsDiffer(t, impl.Acc{Votes: make([]impl.Vote, 40)}, impl.Acc{Votes: make([]impl.Vote, 39)})
}

func TestAccOwner(t *testing.T) {
	for _, c := range []struct{ bal, owner int }{
		{math.MinInt, -1}, {-3000, -1}, {-3, -1}, {-2, -1}, {-1, -1}, {0, -1}, {1, 1}, {2, 2}, {3, 0}, {4, 1}, {5, 2}, {6, 0}, {7, 1}, {1500, 0}, {2998, 1}, {2999, 2}, {3000, 0},
		{3001, -1}, {3002, -1}, {3003, -1}, {6000, -1}, {math.MaxInt, -1},
	} {
		if got := impl.AccOwner(c.bal); got != c.owner {
			t.Errorf("the ballot %d is that of %d, not of %d", c.bal, got, c.owner)
		}
	}
	owner := 1
	for bal := range 3000 {
		if got := impl.AccOwner(bal + 1); got != owner {
			t.Errorf("the ballot %d is that of %d, not of %d", bal+1, got, owner)
		}
		owner = []int{1, 2, 0}[owner]
	}
}

func wantNext(t *testing.T, bal int, who int, want int) {
	t.Helper()
	if got := impl.AccNext(bal, who); got != want {
		t.Errorf("the next ballot of %d above %d is %d, not %d", who, bal, got, want)
	}
}

func TestAccNext(t *testing.T) {
	for who, bals := range [][]int{{3, 3, 3, 6, 6, 6, 9}, {1, 4, 4, 4, 7, 7, 7}, {2, 2, 5, 5, 5, 8, 8}} {
		for bal, want := range bals {
			wantNext(t, bal, who, want)
		}
	}
	for _, c := range []struct{ bal, who, want int }{
		{2996, 0, 2997}, {2997, 0, 3000}, {2998, 0, 3000}, {2999, 0, 3000}, {3000, 0, -1}, {3001, 0, -1},
		{2994, 1, 2995}, {2995, 1, 2998}, {2997, 1, 2998}, {2998, 1, -1}, {2999, 1, -1}, {3000, 1, -1}, {3001, 1, -1},
		{2995, 2, 2996}, {2996, 2, 2999}, {2998, 2, 2999}, {2999, 2, -1}, {3000, 2, -1}, {3001, 2, -1},
	} {
		wantNext(t, c.bal, c.who, c.want)
	}
	for who := range 3 {
		for _, bal := range []int{math.MinInt, math.MinInt + 1, -3001, -3, -2, -1, 3000, 3001, 3002, 6000, math.MaxInt - 2, math.MaxInt - 1, math.MaxInt} {
			wantNext(t, bal, who, -1)
		}
	}
	for _, who := range []int{math.MinInt, -3, -2, -1, 3, 4, 3000, math.MaxInt} {
		for _, bal := range []int{math.MinInt, -1, 0, 1, 2, 3, 1500, 2997, 3000, math.MaxInt} {
			wantNext(t, bal, who, -1)
		}
	}
}

// Of each node all ballots come, ascending, and no other one.
func TestAccNextAgainAndAgain(t *testing.T) {
	for who := range 3 {
		var want []int
		for bal := range 3001 {
			if impl.AccOwner(bal) == who {
				want = append(want, bal)
			}
		}
		var got []int
		for bal := impl.AccNext(0, who); bal > 0 && len(got) < 3000; bal = impl.AccNext(bal, who) {
			got = append(got, bal)
		}
		if len(want) != 1000 || !slices.Equal(got, want) {
			t.Errorf("of %d there come %v", who, got)
		}
		for bal := range 3001 {
			next := -1
			if place, found := slices.BinarySearch(want, bal+1); found || place < len(want) {
				next = want[place]
			}
			wantNext(t, bal, who, next)
		}
	}
}

func TestAccPromise(t *testing.T) {
	for _, a := range okAccs() {
		for _, bal := range []int{math.MinInt, -3000, -1, 0, 3001, 3002, math.MaxInt} {
			wantPromise(t, a, bal, a, false)
		}
		for _, bal := range []int{1, 2, 9, 10, 11, 1500, 2998, 2999, 3000, a.Promised - 1, a.Promised, a.Promised + 1} {
			if bal < a.Promised || bal < 1 || bal > 3000 {
				wantPromise(t, a, bal, a, false)
				continue
			}
			wantPromise(t, a, bal, impl.Acc{Promised: bal, Votes: a.Votes}, true)
		}
	}
	wantPromise(t, someAcc(), 9, someAcc(), false)
	wantPromise(t, someAcc(), 10, someAcc(), true)
	wantPromise(t, someAcc(), 11, impl.Acc{Promised: 11, Votes: someAcc().Votes}, true)
	wantPromise(t, impl.Acc{}, 0, impl.Acc{}, false)
	wantPromise(t, impl.Acc{}, 1, impl.Acc{Promised: 1}, true)
	wantPromise(t, impl.Acc{Promised: 3000}, 3000, impl.Acc{Promised: 3000}, true)
}

func TestAccPromiseAndAccVoteOfWhatIsNotOk(t *testing.T) {
	for _, a := range badAccs() {
		for _, bal := range []int{math.MinInt, -1, 0, 1, 10, 2999, 3000, 3001, math.MaxInt, a.Promised} {
			wantPromise(t, a, bal, impl.Acc{}, false)
			wantVote(t, a, bal, 0, noneEntry(), impl.Acc{}, false)
		}
		wantVote(t, a, 3000, 39, otherEntry(), impl.Acc{}, false)
		wantVote(t, a, 3000, -1, otherEntry(), impl.Acc{}, false)
		wantVote(t, a, 3000, 0, impl.Entry{}, impl.Acc{}, false)
		wantVote(t, a, 0, 40, impl.Entry{}, impl.Acc{}, false)
	}
}

func TestAccVote(t *testing.T) {
	a := someAcc()
	for slot := range impl.CertSlots {
		for _, bal := range []int{10, 11, 12, 2999, 3000} {
			wantVoted(t, a, bal, slot, noneEntry())
			wantVoted(t, a, bal, slot, otherEntry())
		}
		for _, bal := range []int{math.MinInt, -10, -1, 0, 1, 4, 8, 9, 3001, 3002, math.MaxInt} {
			wantVote(t, a, bal, slot, noneEntry(), a, false)
			wantVote(t, a, bal, slot, otherEntry(), a, false)
		}
	}
	for _, slot := range []int{math.MinInt, -40, -1, 40, 41, 80, math.MaxInt} {
		for _, bal := range []int{0, 9, 10, 11, 3000, 3001} {
			wantVote(t, a, bal, slot, noneEntry(), a, false)
			wantVote(t, a, bal, slot, otherEntry(), a, false)
		}
	}
}

// The places by hand: one that has a vote, one at the end, and ones behind places that have none.
func TestAccVoteAtPlaces(t *testing.T) {
	one, other := impl.Vote{Bal: 4, Entry: entryWith(0, 1, freshRun())}, impl.Vote{Bal: 5, Entry: entryWith(1, 1, blindRun())}
	a := impl.Acc{Promised: 5, Votes: []impl.Vote{one}}
	for _, c := range []struct {
		slot int
		want []impl.Vote
	}{
		{0, []impl.Vote{other}},
		{1, []impl.Vote{one, other}},
		{2, []impl.Vote{one, {}, other}},
		{4, []impl.Vote{one, {}, {}, {}, other}},
		{39, append(append([]impl.Vote{one}, make([]impl.Vote, 38)...), other)},
	} {
		wantVote(t, a, 5, c.slot, other.Entry, impl.Acc{Promised: 5, Votes: c.want}, true)
	}
	a = impl.Acc{Promised: 5, Votes: []impl.Vote{{}, {}, one, {}}}
	wantVote(t, a, 5, 0, other.Entry, impl.Acc{Promised: 5, Votes: []impl.Vote{other, {}, one, {}}}, true)
	wantVote(t, a, 5, 1, other.Entry, impl.Acc{Promised: 5, Votes: []impl.Vote{{}, other, one, {}}}, true)
	wantVote(t, a, 5, 2, other.Entry, impl.Acc{Promised: 5, Votes: []impl.Vote{{}, {}, other, {}}}, true)
	wantVote(t, a, 5, 3, other.Entry, impl.Acc{Promised: 5, Votes: []impl.Vote{{}, {}, one, other}}, true)
	wantVote(t, impl.Acc{}, 1, 0, noneEntry(), impl.Acc{Promised: 1, Votes: []impl.Vote{{Bal: 1, Entry: noneEntry()}}}, true)
	wantVote(t, impl.Acc{}, 3000, 1, noneEntry(), impl.Acc{Promised: 3000, Votes: []impl.Vote{{}, {Bal: 3000, Entry: noneEntry()}}}, true)
}

// In the very ballot that was promised: ahead of any vote, behind one at that place, and for another entry than that was for.
func TestAccVoteInTheVeryBallotThatWasPromised(t *testing.T) {
	for _, bal := range []int{1, 2, 3, 1500, 3000} {
		a, ok := impl.AccPromise(impl.Acc{}, bal)
		if !ok {
			t.Fatal(a)
		}
		for slot := range 3 {
			wantVoted(t, a, bal, slot, otherEntry())
			a, _ = impl.AccVote(a, bal, slot, otherEntry())
			wantVoted(t, a, bal, slot, otherEntry())
			wantVoted(t, a, bal, slot, noneEntry())
		}
		if want := slices.Repeat([]impl.Vote{{Bal: bal, Entry: otherEntry()}}, 3); a.Promised != bal || !sameVotes(a.Votes, want) {
			t.Errorf("in %d somebody voted %v", bal, a)
		}
	}
}

func TestAccVoteForEntries(t *testing.T) {
	for _, a := range []impl.Acc{{}, {Promised: 10}, someAcc()} {
		for _, slot := range []int{0, 1, 7, 8, 39} {
			for _, e := range okEntries() {
				wantVoted(t, a, 10, slot, e)
				wantVoted(t, a, 11, slot, e)
			}
			for _, e := range badEntries() {
				wantVote(t, a, 10, slot, e, a, false)
				wantVote(t, a, 11, slot, e, a, false)
			}
		}
	}
}

// Each list may be as long as CertSlots, and no vote makes it longer.
func TestAccVoteAtAsManyPlacesAsMayBe(t *testing.T) {
	a := impl.Acc{}
	for slot := range impl.CertSlots {
		wantVoted(t, a, 1+slot, slot, otherEntry())
		a, _ = impl.AccVote(a, 1+slot, slot, otherEntry())
	}
	if len(a.Votes) != 40 || a.Promised != 40 || !impl.AccOk(a) {
		t.Fatal(a)
	}
	wantVote(t, a, 40, 40, otherEntry(), a, false)
	wantVote(t, a, 41, 40, otherEntry(), a, false)
	for slot := range impl.CertSlots {
		wantVoted(t, a, 40, slot, noneEntry())
	}
}

func TestAccBest(t *testing.T) {
	one, other := otherEntry(), entryWith(0, 3, blindRun())
	low, high := impl.Vote{Bal: 4, Entry: one}, impl.Vote{Bal: 5, Entry: other}
	wantBest(t, nil, nil, nil)
	wantBest(t, []impl.Vote{}, nil, nil)
	wantBest(t, nil, []impl.Vote{low}, []impl.Vote{low})
	wantBest(t, []impl.Vote{{}}, nil, []impl.Vote{{}})
	wantBest(t, []impl.Vote{{}}, []impl.Vote{{}}, []impl.Vote{{}})
	wantBest(t, []impl.Vote{low}, []impl.Vote{high}, []impl.Vote{high})
	wantBest(t, []impl.Vote{low}, []impl.Vote{{}}, []impl.Vote{low})
	wantBest(t, []impl.Vote{low, high}, []impl.Vote{high, low}, []impl.Vote{high, high})
	wantBest(t, []impl.Vote{low, {}, {}}, []impl.Vote{high, {}, low}, []impl.Vote{high, {}, low})
	wantBest(t, []impl.Vote{low, {}, {}}, []impl.Vote{high}, []impl.Vote{high, {}, {}})
	wantBest(t, []impl.Vote{{}, low}, []impl.Vote{low, {}, {}, high}, []impl.Vote{low, low, {}, high})
	wantBest(t, make([]impl.Vote, 40), []impl.Vote{low}, append([]impl.Vote{low}, make([]impl.Vote, 39)...))
	wantBest(t, votesIn(slices.Repeat([]int{1}, 40)...), votesIn(slices.Repeat([]int{3000}, 40)...), votesIn(slices.Repeat([]int{3000}, 40)...))
}

// Of votes in equal ballots that of a is taken, for what so ever it is.
func TestAccBestOfEqualBallots(t *testing.T) {
	for _, bal := range []int{1, 2, 7, 2999, 3000} {
		for _, entries := range [][2]impl.Entry{{otherEntry(), noneEntry()}, {entryWith(0, 1, freshRun()), entryWith(0, 1, blindRun())}, {entryWith(0, 1, freshRun()), entryWith(0, 2, freshRun())}} {
			one, other := impl.Vote{Bal: bal, Entry: entries[0]}, impl.Vote{Bal: bal, Entry: entries[1]}
			wantBestOf(t, []impl.Vote{one}, []impl.Vote{other}, []impl.Vote{one})
			wantBestOf(t, []impl.Vote{other}, []impl.Vote{one}, []impl.Vote{other})
			wantBestOf(t, []impl.Vote{{}, one, one}, []impl.Vote{other, other}, []impl.Vote{other, one, one})
			wantBestOf(t, []impl.Vote{one, other}, []impl.Vote{other, one, one, other}, []impl.Vote{one, other, one, other})
		}
	}
}

func TestAccBestOfWhatIsNotRight(t *testing.T) {
	for _, wrong := range wrongVotes() {
		for _, right := range [][]impl.Vote{nil, {}, {{}}, votesIn(3000, 3000, 3000), votesIn(1), make([]impl.Vote, 40), wrong} {
			wantBest(t, wrong, right, nil)
		}
	}
}

// best is another AccBest, for what is right: at each place both votes are held against each other.
func best(a []impl.Vote, b []impl.Vote) []impl.Vote {
	out := make([]impl.Vote, max(len(a), len(b)))
	for slot := range out {
		out[slot] = voteAt(a, slot)
		if voteAt(b, slot).Bal > out[slot].Bal {
			out[slot] = voteAt(b, slot)
		}
	}
	return out
}

func TestAccBestIsWhatTheModelIs(t *testing.T) {
	lists := rightVotes()
	for at, one := range lists {
		for _, other := range append(lists[:20:20], lists[at]) {
			wantBestOf(t, one, other, best(one, other))
			wantBestOf(t, other, one, best(other, one))
		}
	}
	d := voting{draws: 3}
	list := func() []impl.Vote {
		out := make([]impl.Vote, d.below(7))
		for place := range out {
			if bal := d.below(5); bal > 0 {
				out[place] = impl.Vote{Bal: bal, Entry: okEntries()[d.below(12)]}
			}
		}
		return out
	}
	for range 3000 {
		one, other := list(), list()
		wantBestOf(t, one, other, best(one, other))
	}
}

// spoilVotes writes over all lists of votes and their spare room, as their owner may.
func spoilVotes(list []impl.Vote) {
	for _, vote := range list {
		spoil(vote.Entry.Run)
	}
	overwrite(list, impl.Vote{Bal: 77, Entry: entryWith(77, 77, impl.Run{Val: 77})})
}

// roomy is votes whose lists have spare room, and all share the memory of one entry.
func roomy(bals ...int) []impl.Vote {
	e := entryWith(1, 5, freshRun())
	e.Run.Reads, e.Run.Puts = slices.Grow(e.Run.Reads, 3), slices.Grow(e.Run.Puts, 3)
	var out []impl.Vote
	for _, bal := range bals {
		if bal == 0 {
			out = append(out, impl.Vote{})
			continue
		}
		out = append(out, impl.Vote{Bal: bal, Entry: e})
	}
	return slices.Grow(out, 50)
}

// voteAnswers is each kind of answer that has votes, of votes and an entry.
func voteAnswers() []func(list []impl.Vote, e impl.Entry) []impl.Vote {
	promise := func(bal int) func([]impl.Vote, impl.Entry) []impl.Vote {
		return func(list []impl.Vote, e impl.Entry) []impl.Vote {
			got, _ := impl.AccPromise(impl.Acc{Promised: 10, Votes: list}, bal)
			return got.Votes
		}
	}
	vote := func(bal int, slot int) func([]impl.Vote, impl.Entry) []impl.Vote {
		return func(list []impl.Vote, e impl.Entry) []impl.Vote {
			got, _ := impl.AccVote(impl.Acc{Promised: 10, Votes: list}, bal, slot, e)
			return got.Votes
		}
	}
	return []func([]impl.Vote, impl.Entry) []impl.Vote{
		promise(0), promise(9), promise(10), promise(11),
		vote(9, 0), vote(10, -1), vote(10, 40), vote(10, 0), vote(10, 1), vote(11, 2), vote(10, 4), vote(11, 5), vote(12, 20), vote(10, 39),
		func(list []impl.Vote, e impl.Entry) []impl.Vote { return impl.AccBest(list, nil) },
		func(list []impl.Vote, e impl.Entry) []impl.Vote { return impl.AccBest(nil, list) },
		func(list []impl.Vote, e impl.Entry) []impl.Vote { return impl.AccBest(list, list) },
		func(list []impl.Vote, e impl.Entry) []impl.Vote {
			return impl.AccBest(list, []impl.Vote{{Bal: 11, Entry: e}, {Bal: 11, Entry: e}})
		},
		func(list []impl.Vote, e impl.Entry) []impl.Vote {
			return impl.AccBest([]impl.Vote{{Bal: 11, Entry: e}, {}, {Bal: 3, Entry: e}}, list)
		},
	}
}

func TestAccAnswersAreNewMemory(t *testing.T) {
	for which, answer := range voteAnswers() {
		for _, bals := range [][]int{nil, {10}, {4, 10, 0}, {0, 4, 10, 0, 10}} {
			list := roomy(bals...)
			e := entryWith(1, 5, freshRun())
			if len(list) > 1 {
				e = list[1].Entry
			}
			wasList, wasEntry := cloneVotes(list), cloneEntry(e)
			first, second := answer(list, e), answer(list, e)
			was := cloneVotes(first)
			spoilVotes(first)
			if !sameVotes(second, was) || !sameVotes(list, wasList) || !sameEntry(e, wasEntry) || !sameVotes(answer(list, e), was) {
				t.Errorf("of answer %d to %v: what is written into one answer shows elsewhere", which, bals)
			}
			spoil(e.Run)
			spoilVotes(list)
			if !sameVotes(second, was) {
				t.Errorf("of answer %d to %v: what is written into an argument shows in an answer", which, bals)
			}
		}
	}
}

// Each list of an answer is written over alone, spare room included: all others stay as they were.
func TestAccListsShareNoMemory(t *testing.T) {
	for which, answer := range voteAnswers() {
		list := roomy(10, 4, 0, 10, 10)
		got := answer(list, list[1].Entry)
		for slot := range got {
			was := cloneVotes(got)
			overwrite(got[slot].Entry.Run.Reads, impl.Read{Box: 70 + slot, Ver: 70 + slot})
			was[slot].Entry.Run.Reads = got[slot].Entry.Run.Reads
			if !sameVotes(got, was) {
				t.Errorf("of answer %d: the Reads at %d are written by others", which, slot)
			}
			overwrite(got[slot].Entry.Run.Puts, impl.Put{Box: 70 + slot, Val: 70 + slot})
			was[slot].Entry.Run.Puts = got[slot].Entry.Run.Puts
			if !sameVotes(got, was) {
				t.Errorf("of answer %d: the Puts at %d are written by others", which, slot)
			}
		}
	}
}

// Each list of an argument is a part of a longer one, ahead of and behind which nothing may be written either.
func TestAccArgumentsAreNotWritten(t *testing.T) {
	reads := []impl.Read{{Box: 3, Ver: 1}, {Box: 2, Ver: 2}, {Box: 1, Ver: 3}, {Box: 0, Ver: 4}}
	puts := []impl.Put{{Box: 2, Val: 1}, {Box: 3, Val: 2}, {Box: 0, Val: 3}, {Box: 1, Val: 4}}
	e := entryWith(1, 5, impl.Run{Reads: reads[1:3], Puts: puts[1:3], Val: 5})
	whole := append(votesIn(1, 0, 10, 9, 0, 0, 3, 10, 11, 10, 2), impl.Vote{Bal: 10, Entry: e}, impl.Vote{}, impl.Vote{Bal: 10, Entry: e}, impl.Vote{Bal: 12})
	wasReads, wasPuts, wasWhole := slices.Clone(reads), slices.Clone(puts), cloneVotes(whole)
	for at := range len(whole) {
		for end := at; end <= len(whole); end++ {
			a := impl.Acc{Promised: 10, Votes: whole[at:end]}
			impl.AccOk(a)
			impl.AccSame(a, impl.Acc{Promised: 10, Votes: whole})
			impl.AccPromise(a, 11)
			for _, slot := range []int{-1, 0, 1, 3, 6, 9, 39, 40} {
				impl.AccVote(a, 10, slot, e)
				impl.AccVote(a, 9, slot, e)
				impl.AccVote(a, 11, slot, impl.Entry{None: true})
			}
			impl.AccBest(a.Votes, whole[2:8])
			impl.AccBest(whole[2:4], a.Votes)
		}
	}
	if !slices.Equal(reads, wasReads) || !slices.Equal(puts, wasPuts) || !sameVotes(whole, wasWhole) {
		t.Fatalf("arguments are %v, %v, %v", reads, puts, whole)
	}
}

// What stands behind the end of an argument turns no answer.
func TestAccAnswersHangOnTheListsAlone(t *testing.T) {
	run := freshRun()
	run.Reads = append(run.Reads, impl.Read{Box: 1, Ver: 7}, impl.Read{Box: 9})[:1]
	run.Puts = append(run.Puts, impl.Put{Box: 1, Val: 7}, impl.Put{Box: 9})[:2]
	e := entryWith(1, 5, run)
	votes := []impl.Vote{{}, {Bal: 4, Entry: e}, {Bal: 9, Entry: noneEntry()}, {Bal: -1}, {Bal: 2999, Entry: otherEntry()}}
	a, plain := impl.Acc{Promised: 10, Votes: votes[:2]}, impl.Acc{Promised: 10, Votes: []impl.Vote{{}, {Bal: 4, Entry: entryWith(1, 5, freshRun())}}}
	if !impl.AccOk(a) || !impl.AccSame(a, plain) || !impl.AccSame(plain, a) {
		t.Error(a)
	}
	wantPromise(t, a, 12, impl.Acc{Promised: 12, Votes: plain.Votes}, true)
	wantPromise(t, a, 9, plain, false)
	wantVote(t, a, 10, 3, e, voted(plain, 10, 3, plain.Votes[1].Entry), true)
	wantVote(t, a, 10, 4, e, voted(plain, 10, 4, plain.Votes[1].Entry), true)
	wantBest(t, a.Votes, votes[:1], plain.Votes)
	wantBest(t, a.Votes, []impl.Vote{{}, {}, {}}, append(plain.Votes[:2:2], impl.Vote{}))
}
