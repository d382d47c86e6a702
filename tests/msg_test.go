package tests

import (
	"fmt"
	"math"
	"slices"
	"strings"
	"testing"

	"loop.example/thingstead/impl"
)

// sameMsg holds messages against each other without the program's own MsgSame.
func sameMsg(a impl.Msg, b impl.Msg) bool {
	return a.Kind == b.Kind && a.From == b.From && a.To == b.To && a.Bal == b.Bal && a.Slot == b.Slot && sameEntry(a.Entry, b.Entry) && sameVotes(a.Votes, b.Votes)
}

func cloneMsg(m impl.Msg) impl.Msg {
	m.Entry, m.Votes = cloneEntry(m.Entry), cloneVotes(m.Votes)
	return m
}

// allKinds is the kinds of messages in the order of their numbers.
func allKinds() []int {
	return []int{impl.MsgPrepare, impl.MsgPromise, impl.MsgAccept, impl.MsgAccepted, impl.MsgChosen, impl.MsgRefuse, impl.MsgAsk, impl.MsgNeed}
}

// msgHas is what a kind of messages has, as the document's table says it.
type msgHas struct {
	word  string
	bal   bool
	last  int // the last Slot
	entry bool
	none  bool // the entry may be None
	votes bool
}

func hasOf(kind int) msgHas {
	return map[int]msgHas{
		1: {word: "prepare", bal: true, last: 40},
		2: {word: "promise", bal: true, last: 40, votes: true},
		3: {word: "accept", bal: true, last: 39, entry: true, none: true},
		4: {word: "accepted", bal: true, last: 40},
		5: {word: "chosen", last: 39, entry: true, none: true},
		6: {word: "refuse", bal: true},
		7: {word: "ask", entry: true},
		8: {word: "need", last: 40},
	}[kind]
}

// fits is another MsgOk.
func fits(m impl.Msg) bool {
	has := hasOf(m.Kind)
	nodes := []int{0, 1, 2}
	switch {
	case has.word == "", m.From == m.To, !slices.Contains(nodes, m.From), !slices.Contains(nodes, m.To):
		return false
	case has.bal && (m.Bal < 1 || m.Bal > 3000), !has.bal && m.Bal != 0:
		return false
	case m.Slot < 0, m.Slot > has.last:
		return false
	case has.entry && (!impl.CertEntry(m.Entry) || m.Entry.None && !has.none), !has.entry && !sameEntry(m.Entry, impl.Entry{}):
		return false
	case has.votes:
		return impl.AccOk(impl.Acc{Promised: 3000, Votes: m.Votes}) && m.Slot+len(m.Votes) <= 40
	}
	return len(m.Votes) == 0
}

// entryText is another MsgEntry.
func entryText(e impl.Entry) string {
	if e.None {
		return "none"
	}
	var marks []string
	for _, read := range e.Run.Reads {
		marks = append(marks, fmt.Sprintf("?%d/%d", read.Box, read.Ver))
	}
	for _, put := range e.Run.Puts {
		marks = append(marks, fmt.Sprintf("!%d=%d", put.Box, put.Val))
	}
	return fmt.Sprintf("%d.%d{%s}%d:%d", e.Req.Who, e.Req.Seq, strings.Join(marks, ""), e.Run.Val, e.Run.Code)
}

// msgText is another MsgText.
func msgText(m impl.Msg) string {
	if !fits(m) {
		return ""
	}
	has := hasOf(m.Kind)
	words := []string{has.word, fmt.Sprint(m.From), fmt.Sprint(m.To), fmt.Sprint(m.Bal), fmt.Sprint(m.Slot)}
	if has.entry {
		words = append(words, entryText(m.Entry))
	}
	for _, vote := range m.Votes {
		if vote.Bal == 0 {
			words = append(words, "0")
			continue
		}
		words = append(words, fmt.Sprint(vote.Bal)+entryText(vote.Entry))
	}
	return strings.Join(words, " ")
}

func wantMsgOk(t *testing.T, m impl.Msg, want bool) {
	t.Helper()
	if got := impl.MsgOk(m); got != want {
		t.Errorf("%v is ok: %v, not %v", m, got, want)
	}
	if text := impl.MsgText(m); (text != "") != want {
		t.Errorf("%v is ok: %v, but its text is %q", m, want, text)
	}
}

func wantMsgText(t *testing.T, m impl.Msg, want string) {
	t.Helper()
	if got := impl.MsgText(m); got != want {
		t.Errorf("%v is %q, not %q", m, got, want)
	}
}

// wantModel wants what the other MsgOk and the other MsgText say.
func wantModel(t *testing.T, m impl.Msg) {
	t.Helper()
	wantMsgOk(t, m, fits(m))
	wantMsgText(t, m, msgText(m))
}

// someMsg is one of that kind that is ok, in which all that it has is something.
func someMsg(kind int) impl.Msg {
	has := hasOf(kind)
	m := impl.Msg{Kind: kind, From: 2, To: 1}
	if has.bal {
		m.Bal = 17
	}
	if has.last > 0 {
		m.Slot = 6
	}
	if has.entry {
		m.Entry = entryWith(1, 5, freshRun())
	}
	if has.votes {
		m.Votes = votesIn(0, 4, 16, 0, 9, 0)
	}
	return m
}

// likeEntries is entries that are right and differ from one another in one part, or look alike as texts.
func likeEntries() []impl.Entry {
	out := []impl.Entry{noneEntry(), entryWith(1, 5, freshRun()), entryWith(1, 5, staleRun()), entryWith(1, 5, blindRun())}
	for _, req := range []impl.Req{{Who: 0, Seq: 1}, {Who: 1, Seq: 1}, {Who: 1, Seq: 11}, {Who: 1, Seq: 111}, {Who: 2, Seq: 1}, {Who: 2, Seq: 1000}} {
		out = append(out, impl.Entry{Req: req})
	}
	for _, val := range []int{-1, 1, -11, 11, 10, 100, impl.BoxMax, -impl.BoxMax} {
		out = append(out, entryWith(1, 1, impl.Run{Val: val}))
	}
	for _, code := range []int{impl.ExecFails, impl.ExecGreat} {
		out = append(out, entryWith(1, 1, impl.Run{Code: code}), entryWith(1, 1, impl.Run{Reads: []impl.Read{{Box: 1, Ver: 1}}, Code: code}))
	}
	for _, reads := range [][]impl.Read{{{Box: 0}}, {{Box: 1}}, {{Box: 1, Ver: 1}}, {{Box: 1, Ver: 11}}, {{Box: 1, Ver: 1}, {Box: 2}}, {{Box: 2}, {Box: 1, Ver: 1}}, {{Box: 2, Ver: 1}, {Box: 1}}, {{Box: 0}, {Box: 1}, {Box: 2}, {Box: 3}}} {
		out = append(out, entryWith(1, 1, impl.Run{Reads: reads}))
	}
	for _, puts := range [][]impl.Put{{{Box: 0}}, {{Box: 1}}, {{Box: 1, Val: 1}}, {{Box: 1, Val: -1}}, {{Box: 1, Val: 11}}, {{Box: 1, Val: 1}, {Box: 2}}, {{Box: 2}, {Box: 1, Val: 1}}, {{Box: 2, Val: 1}, {Box: 1}}, {{Box: 3}, {Box: 2}, {Box: 1}, {Box: 0}}} {
		out = append(out, entryWith(1, 1, impl.Run{Puts: puts}), entryWith(1, 1, impl.Run{Reads: []impl.Read{{Box: 1, Ver: 1}}, Puts: puts, Val: 1}))
	}
	return append(out, impl.Entry{None: true, Run: impl.Run{Reads: []impl.Read{}, Puts: []impl.Put{}}}, entryWith(1, 1, impl.Run{Reads: []impl.Read{}, Puts: []impl.Put{}}))
}

// likeVotes is lists of votes that are right and differ from one another in one part, or look alike as texts.
func likeVotes() [][]impl.Vote {
	out := [][]impl.Vote{nil, {}, {{}}, {{}, {}}, make([]impl.Vote, 34), votesIn(1), votesIn(11), votesIn(111), votesIn(1, 0), votesIn(0, 1), votesIn(0, 0, 1), votesIn(0, 11, 0), votesIn(1, 1), votesIn(1, 1, 1), votesIn(2, 1, 1), votesIn(1, 2, 1), votesIn(1, 1, 2), votesIn(3000, 2999), votesIn(slices.Repeat([]int{10}, 34)...)}
	for _, e := range likeEntries() {
		for _, bal := range []int{1, 11} {
			vote := impl.Vote{Bal: bal, Entry: e}
			out = append(out, []impl.Vote{vote}, []impl.Vote{{}, vote}, []impl.Vote{vote, {}, vote})
		}
	}
	return out
}

// likeMsgs is messages that are ok, over all kinds and over parts that differ one by one.
func likeMsgs() []impl.Msg {
	var out []impl.Msg
	keep := func(m impl.Msg) {
		if fits(m) {
			out = append(out, m)
		}
	}
	for _, kind := range allKinds() {
		for from := range 3 {
			for to := range 3 {
				m := someMsg(kind)
				m.From, m.To = from, to
				keep(m)
			}
		}
		for _, number := range []int{0, 1, 2, 3, 11, 12, 17, 33, 34, 39, 40, 111, 2999, 3000} {
			bal, slot, bare := someMsg(kind), someMsg(kind), someMsg(kind)
			bal.Bal, slot.Slot, bare.Slot, bare.Votes = number, number, number, nil
			keep(bal)
			keep(slot)
			keep(bare)
		}
		for _, e := range likeEntries() {
			m := someMsg(kind)
			m.Entry = e
			keep(m)
		}
		for _, votes := range likeVotes() {
			m := someMsg(kind)
			m.Votes = votes
			keep(m)
		}
	}
	return out
}

// Promise 7.
func TestTwoMessagesAreOneJustIfTheirTextsAre(t *testing.T) {
	msgs := likeMsgs()
	var texts []string
	for _, m := range msgs {
		wantModel(t, m)
		texts = append(texts, impl.MsgText(m))
	}
	for at, a := range msgs {
		for place, b := range msgs {
			same := impl.MsgSame(a, b)
			if same != sameMsg(a, b) || same != (texts[at] == texts[place]) {
				t.Fatalf("%v and %v are the same: %v, with the texts %q and %q", a, b, same, texts[at], texts[place])
			}
		}
	}
	kinds := map[int]int{}
	for _, m := range msgs {
		kinds[m.Kind]++
	}
	for _, kind := range allKinds() {
		if kinds[kind] < 15 {
			t.Errorf("of kind %d there are %d messages", kind, kinds[kind])
		}
	}
}

// sending is messages that are ok, with parts as they come.
type sending struct {
	draws
}

func (d *sending) run() impl.Run {
	return impl.ExecRun(d.boxes(), d.prog())
}

func (d *sending) entry() impl.Entry {
	if d.below(5) == 0 {
		return noneEntry()
	}
	return entryWith(d.below(3), 1+d.below(12), d.run())
}

func (d *sending) votes(most int) []impl.Vote {
	list := make([]impl.Vote, d.below(most+1))
	for place := range list {
		if d.below(2) == 0 {
			list[place] = impl.Vote{Bal: 1 + d.below(12), Entry: d.entry()}
		}
	}
	return list
}

func (d *sending) msg() impl.Msg {
	m := impl.Msg{Kind: 1 + d.below(8), From: d.below(3)}
	m.To = (m.From + 1 + d.below(2)) % 3
	has := hasOf(m.Kind)
	if has.bal {
		m.Bal = 1 + d.below(12)
	}
	if has.last > 0 {
		m.Slot = d.below(12)
	}
	for has.entry && (sameEntry(m.Entry, impl.Entry{}) || m.Entry.None && !has.none) {
		m.Entry = d.entry()
	}
	if has.votes {
		m.Votes = d.votes(4)
	}
	return m
}

// turned is the message with one part, or a bit of one, as in another one.
func (d *sending) turned(m impl.Msg, other impl.Msg) impl.Msg {
	m = cloneMsg(m)
	switch d.below(9) {
	case 0:
		m.Kind = other.Kind
	case 1:
		m.From = other.From
	case 2:
		m.To = other.To
	case 3:
		m.Bal = other.Bal
	case 4:
		m.Slot = other.Slot
	case 5:
		m.Entry = other.Entry
	case 6:
		m.Entry.Run = other.Entry.Run
	case 7:
		m.Votes = other.Votes
	case 8:
		slices.Reverse(m.Votes)
	}
	return m
}

// Promise 7, of messages as they come, and of two of which one has a part of another one: the other MsgOk and the other MsgText say the same of them.
func TestMessagesAsTheyComeAreOneJustIfTheirTextsAre(t *testing.T) {
	d := sending{draws: 77}
	same, differ := 0, 0
	for range 20000 {
		a, other := d.msg(), d.msg()
		if !impl.MsgOk(a) {
			t.Fatalf("%v is not ok", a)
		}
		b := d.turned(a, other)
		wantModel(t, a)
		wantModel(t, b)
		if !impl.MsgOk(b) {
			continue
		}
		one := impl.MsgSame(a, b)
		if one != sameMsg(a, b) || one != (impl.MsgText(a) == impl.MsgText(b)) {
			t.Fatalf("%v and %v are the same: %v, with the texts %q and %q", a, b, one, impl.MsgText(a), impl.MsgText(b))
		}
		if one {
			same++
		} else {
			differ++
		}
	}
	if same < 2000 || differ < 2000 {
		t.Errorf("%d pairs are the same, %d differ", same, differ)
	}
}

func TestMsgKinds(t *testing.T) {
	if got := allKinds(); !slices.Equal(got, []int{1, 2, 3, 4, 5, 6, 7, 8}) {
		t.Error(got)
	}
}

// eachKind does a thing with a message of each kind that is ok.
func eachKind(do func(m impl.Msg, has msgHas)) {
	for _, kind := range allKinds() {
		do(someMsg(kind), hasOf(kind))
	}
}

func TestMsgOkOfEachKind(t *testing.T) {
	eachKind(func(m impl.Msg, has msgHas) { wantMsgOk(t, m, true) })
	eachKind(func(m impl.Msg, has msgHas) {
		for _, kind := range []int{math.MinInt, -8, -1, 0, 9, 10, math.MaxInt} {
			m.Kind = kind
			wantMsgOk(t, m, false)
		}
	})
	for _, kind := range []int{math.MinInt, -1, 0, 9, math.MaxInt} {
		wantMsgOk(t, impl.Msg{Kind: kind, To: 1}, false)
	}
	wantMsgOk(t, impl.Msg{}, false)
}

func TestMsgOkOfNodes(t *testing.T) {
	nodes := []int{math.MinInt, -3, -1, 0, 1, 2, 3, 4, math.MaxInt}
	eachKind(func(m impl.Msg, has msgHas) {
		for _, from := range nodes {
			for _, to := range nodes {
				m.From, m.To = from, to
				wantMsgOk(t, m, from != to && 0 <= from && from <= 2 && 0 <= to && to <= 2)
			}
		}
	})
}

func TestMsgOkOfBallots(t *testing.T) {
	eachKind(func(m impl.Msg, has msgHas) {
		for _, bal := range []int{1, 2, 3, 17, 2999, 3000} {
			m.Bal = bal
			wantMsgOk(t, m, has.bal)
		}
		for _, bal := range []int{math.MinInt, -3000, -1, 3001, 3002, math.MaxInt} {
			m.Bal = bal
			wantMsgOk(t, m, false)
		}
		m.Bal = 0
		wantMsgOk(t, m, !has.bal)
	})
}

func TestMsgOkOfPlaces(t *testing.T) {
	eachKind(func(m impl.Msg, has msgHas) {
		m.Votes = nil
		m.Slot = 0
		wantMsgOk(t, m, true)
		for _, slot := range []int{1, 2, 38, 39} {
			m.Slot = slot
			wantMsgOk(t, m, has.last > 0)
		}
		m.Slot = 40
		wantMsgOk(t, m, has.last == 40)
		for _, slot := range []int{math.MinInt, -40, -1, 41, 42, 80, math.MaxInt} {
			m.Slot = slot
			wantMsgOk(t, m, false)
		}
	})
}

func TestMsgOkOfEntries(t *testing.T) {
	eachKind(func(m impl.Msg, has msgHas) {
		for _, e := range append(okEntries(), likeEntries()...) {
			m.Entry = e
			wantMsgOk(t, m, has.entry && (has.none || !e.None))
		}
		for _, e := range badEntries() {
			m.Entry = e
			wantMsgOk(t, m, !has.entry && sameEntry(e, impl.Entry{}))
		}
		// Of what has no entry each part of it must be nothing, the empty list being so.
		for _, e := range []impl.Entry{{None: true}, {Req: impl.Req{Who: 1}}, {Req: impl.Req{Seq: 1}}, {Run: impl.Run{Val: 1}}, {Run: impl.Run{Code: 1}}, {Run: impl.Run{Reads: []impl.Read{{}}}}, {Run: impl.Run{Puts: []impl.Put{{}}}}} {
			if !has.entry {
				m.Entry = e
				wantMsgOk(t, m, false)
			}
		}
		m.Entry = impl.Entry{Run: impl.Run{Reads: []impl.Read{}, Puts: []impl.Put{}}}
		wantMsgOk(t, m, !has.entry)
	})
}

func TestMsgOkOfNone(t *testing.T) {
	for _, c := range []struct {
		kind int
		want bool
	}{{impl.MsgAccept, true}, {impl.MsgChosen, true}, {impl.MsgAsk, false}, {impl.MsgNeed, false}, {impl.MsgAccepted, false}, {impl.MsgPromise, false}} {
		m := someMsg(c.kind)
		m.Entry = noneEntry()
		wantMsgOk(t, m, c.want)
	}
}

func TestMsgOkOfVotes(t *testing.T) {
	eachKind(func(m impl.Msg, has msgHas) {
		m.Slot = 0
		for _, votes := range rightVotes() {
			m.Votes = votes
			wantMsgOk(t, m, has.votes || len(votes) == 0)
		}
		for _, votes := range wrongVotes() {
			m.Votes = votes
			wantMsgOk(t, m, false)
		}
	})
}

// Votes that are none are places, too: ahead of, between and behind others, and alone.
func TestMsgOkOfVotesThatAreNone(t *testing.T) {
	for _, bals := range [][]int{{0}, {0, 5}, {5, 0}, {5, 0, 5}, {0, 5, 0}, {0, 0, 0}, {0, 0, 5, 0, 0, 5, 0}} {
		m := someMsg(impl.MsgPromise)
		m.Votes = votesIn(bals...)
		m.Slot = 40 - len(bals)
		wantMsgOk(t, m, true)
		m.Slot++
		wantMsgOk(t, m, false)
		m.Slot, m.Bal = 0, 1 // nothing bounds the ballots of votes by that of the message
		wantMsgOk(t, m, true)
		for place := range bals {
			bad := cloneMsg(m)
			bad.Votes[place].Bal = 3001
			wantMsgOk(t, bad, false)
			bad.Votes[place] = impl.Vote{Entry: otherEntry()}
			wantMsgOk(t, bad, false)
			bad.Votes[place] = impl.Vote{Entry: noneEntry()}
			wantMsgOk(t, bad, false)
			bad.Votes[place] = impl.Vote{Bal: 5}
			wantMsgOk(t, bad, false)
			bad.Votes[place] = impl.Vote{}
			wantMsgOk(t, bad, true)
		}
	}
}

// The place and the votes from there on come to at most CertSlots together.
func TestMsgOkOfVotesFromAPlaceOn(t *testing.T) {
	for slot := range 43 {
		for size := range 43 {
			m := someMsg(impl.MsgPromise)
			m.Slot = slot
			for _, votes := range [][]impl.Vote{make([]impl.Vote, size), votesIn(slices.Repeat([]int{3}, size)...)} {
				m.Votes = votes
				wantMsgOk(t, m, slot+size <= 40)
			}
		}
	}
	for _, slot := range []int{math.MinInt, -40, -2, -1, 41, math.MaxInt - 1, math.MaxInt} {
		for _, size := range []int{0, 1, 2, 40, 41} {
			m := someMsg(impl.MsgPromise)
			m.Slot, m.Votes = slot, votesIn(slices.Repeat([]int{3}, size)...)
			wantMsgOk(t, m, false)
		}
	}
}

// All values of all parts with one another, against the document's table.
func TestMsgOkAndMsgTextAreWhatTheModelIs(t *testing.T) {
	entries := []impl.Entry{{}, noneEntry(), otherEntry(), entryWith(1, 5, impl.Run{Code: impl.ExecForm}), {Run: impl.Run{Val: 1}}}
	votes := [][]impl.Vote{nil, {{}}, votesIn(2, 0), votesIn(0, 2, 4), {{Bal: 1}}, make([]impl.Vote, 40), make([]impl.Vote, 41)}
	for kind := -1; kind <= 10; kind++ {
		for _, nodes := range [][2]int{{0, 1}, {2, 0}, {1, 1}, {0, 3}, {-1, 2}} {
			for _, bal := range []int{-1, 0, 1, 3000, 3001} {
				for _, slot := range []int{-1, 0, 1, 37, 38, 39, 40, 41} {
					for _, e := range entries {
						for _, list := range votes {
							wantModel(t, impl.Msg{Kind: kind, From: nodes[0], To: nodes[1], Bal: bal, Slot: slot, Entry: e, Votes: list})
						}
					}
				}
			}
		}
	}
}

func wantMsgsDiffer(t *testing.T, a impl.Msg, b impl.Msg) {
	t.Helper()
	if impl.MsgSame(a, b) || impl.MsgSame(b, a) {
		t.Errorf("%v and %v are the same", a, b)
	}
}

// fullMsg has all parts, as no message that is ok does.
func fullMsg() impl.Msg {
	return impl.Msg{Kind: 3, From: 2, To: 1, Bal: 17, Slot: 6, Entry: entryWith(1, 5, freshRun()), Votes: someAcc().Votes}
}

func TestMsgSame(t *testing.T) {
	msgs := append(likeMsgs(), fullMsg(), impl.Msg{}, impl.Msg{Kind: -1, From: 9, To: 9, Bal: -1, Slot: 41})
	for _, e := range badEntries() {
		msgs = append(msgs, impl.Msg{Kind: impl.MsgAsk, Entry: e})
	}
	for _, votes := range wrongVotes() {
		msgs = append(msgs, impl.Msg{Kind: impl.MsgPromise, Votes: votes})
	}
	for _, m := range msgs {
		if !impl.MsgSame(m, cloneMsg(m)) || !impl.MsgSame(m, m) {
			t.Errorf("%v differs from itself", m)
		}
	}
}

func TestMsgSameOfTheNilListAndTheEmptyList(t *testing.T) {
	empty := impl.Run{Reads: []impl.Read{}, Puts: []impl.Put{}}
	for _, kind := range []int{0, 1, 2, 3, 8, 9} {
		for _, bal := range []int{-1, 0, 7} {
			one := impl.Msg{Kind: kind, Bal: bal, Votes: []impl.Vote{}, Entry: impl.Entry{Run: empty}}
			other := impl.Msg{Kind: kind, Bal: bal}
			if !impl.MsgSame(one, other) || !impl.MsgSame(other, one) {
				t.Errorf("%v and %v differ", one, other)
			}
			one.Votes, other.Votes = []impl.Vote{{Bal: bal, Entry: impl.Entry{Run: empty}}}, []impl.Vote{{Bal: bal}}
			if !impl.MsgSame(one, other) || !impl.MsgSame(other, one) {
				t.Errorf("%v and %v differ", one, other)
			}
		}
	}
	one, other := impl.Msg{Kind: impl.MsgPromise, To: 1, Bal: 1, Votes: []impl.Vote{}}, impl.Msg{Kind: impl.MsgPromise, To: 1, Bal: 1}
	if impl.MsgText(one) != impl.MsgText(other) || impl.MsgText(one) == "" {
		t.Errorf("%q and %q differ", impl.MsgText(one), impl.MsgText(other))
	}
}

// entryChanges turns each part of an entry like freshRun's, one by one.
func entryChanges() []func(*impl.Entry) {
	return []func(*impl.Entry){
		func(e *impl.Entry) { e.None = !e.None },
		func(e *impl.Entry) { e.Req.Who++ },
		func(e *impl.Entry) { e.Req.Seq++ },
		func(e *impl.Entry) { e.Run.Val++ },
		func(e *impl.Entry) { e.Run.Val = -e.Run.Val - 1 },
		func(e *impl.Entry) { e.Run.Code++ },
		func(e *impl.Entry) { e.Run.Reads = append(e.Run.Reads, impl.Read{}) },
		func(e *impl.Entry) { e.Run.Puts = append(e.Run.Puts, impl.Put{}) },
	}
}

// runChanges turns what is in the lists of freshRun.
func runChanges() []func(*impl.Entry) {
	return []func(*impl.Entry){
		func(e *impl.Entry) { e.Run.Reads = nil },
		func(e *impl.Entry) { e.Run.Puts = nil },
		func(e *impl.Entry) { slices.Reverse(e.Run.Puts) },
		func(e *impl.Entry) { e.Run.Reads[0].Box++ },
		func(e *impl.Entry) { e.Run.Reads[0].Ver++ },
		func(e *impl.Entry) { e.Run.Puts[1].Box++ },
		func(e *impl.Entry) { e.Run.Puts[1].Val++ },
	}
}

// msgChanges turns each part of fullMsg, one by one.
func msgChanges() []func(*impl.Msg) {
	out := []func(*impl.Msg){
		func(m *impl.Msg) { m.Kind++ },
		func(m *impl.Msg) { m.Kind = 0 },
		func(m *impl.Msg) { m.From-- },
		func(m *impl.Msg) { m.To-- },
		func(m *impl.Msg) { m.From, m.To = m.To, m.From },
		func(m *impl.Msg) { m.Bal++ },
		func(m *impl.Msg) { m.Bal = -m.Bal },
		func(m *impl.Msg) { m.Slot++ },
		func(m *impl.Msg) { m.Bal, m.Slot = m.Slot, m.Bal },
		func(m *impl.Msg) { m.Entry = impl.Entry{} },
		func(m *impl.Msg) { m.Votes = nil },
		func(m *impl.Msg) { m.Votes = m.Votes[:len(m.Votes)-1] }, // a place without a vote at the end is a place
		func(m *impl.Msg) { m.Votes = append(m.Votes, impl.Vote{}) },
		func(m *impl.Msg) { m.Votes = m.Votes[1:] },
		func(m *impl.Msg) { m.Votes = slices.Insert(m.Votes, 0, impl.Vote{}) },
		func(m *impl.Msg) { m.Votes = slices.Delete(m.Votes, 3, 4) },
		func(m *impl.Msg) { m.Votes = append(m.Votes, m.Votes[1]) },
		func(m *impl.Msg) { slices.Reverse(m.Votes) },
		func(m *impl.Msg) { m.Votes[1], m.Votes[2] = m.Votes[2], m.Votes[1] },
	}
	for _, change := range append(entryChanges(), runChanges()...) {
		out = append(out, func(m *impl.Msg) { change(&m.Entry) })
	}
	for place := range someAcc().Votes {
		out = append(out, func(m *impl.Msg) { m.Votes[place].Bal++ }, func(m *impl.Msg) { m.Votes[place].Bal-- })
		for _, change := range entryChanges() {
			out = append(out, func(m *impl.Msg) { change(&m.Votes[place].Entry) })
		}
	}
	for _, change := range runChanges() {
		out = append(out, func(m *impl.Msg) { change(&m.Votes[6].Entry) })
	}
	return out
}

func TestMsgSameOfMessagesThatDifferInOnePart(t *testing.T) {
	for which, change := range msgChanges() {
		for _, kind := range allKinds() {
			one := fullMsg()
			one.Kind = kind
			other := cloneMsg(one)
			change(&other)
			if sameMsg(one, other) {
				t.Errorf("the change %d changes nothing", which)
			}
			wantMsgsDiffer(t, one, other)
		}
	}
	wantMsgsDiffer(t, impl.Msg{Votes: []impl.Vote{{}}}, impl.Msg{})
	wantMsgsDiffer(t, impl.Msg{Kind: 2, Votes: make([]impl.Vote, 40)}, impl.Msg{Kind: 2, Votes: make([]impl.Vote, 39)})
	wantMsgsDiffer(t, impl.Msg{Entry: noneEntry()}, impl.Msg{})
}

func wantEntryText(t *testing.T, e impl.Entry, want string) {
	t.Helper()
	if got := impl.MsgEntry(e); got != want {
		t.Errorf("%v is %q, not %q", e, got, want)
	}
}

func TestMsgEntry(t *testing.T) {
	reads, puts := []impl.Read{{Box: 3, Ver: 0}, {Box: 0, Ver: 1000000}, {Box: 1, Ver: 12}}, []impl.Put{{Box: 2, Val: -1000000}, {Box: 0, Val: 0}, {Box: 3, Val: 100}}
	for _, c := range []struct {
		e    impl.Entry
		want string
	}{
		{noneEntry(), "none"},
		{entryWith(0, 1, impl.Run{}), "0.1{}0:0"},
		{entryWith(2, 1000, impl.Run{Val: -7}), "2.1000{}-7:0"},
		{entryWith(1, 10, impl.Run{Code: impl.ExecFails}), "1.10{}0:1"},
		{entryWith(1, 10, impl.Run{Reads: reads[:1], Code: impl.ExecGreat}), "1.10{?3/0}0:2"},
		{entryWith(1, 5, freshRun()), "1.5{?1/20!2=205!1=6}205:0"},
		{entryWith(1, 5, blindRun()), "1.5{!3=9}9:0"},
		{entryWith(0, 3, impl.Run{Reads: reads}), "0.3{?3/0?0/1000000?1/12}0:0"},
		{entryWith(0, 3, impl.Run{Puts: puts, Val: -1000000}), "0.3{!2=-1000000!0=0!3=100}-1000000:0"},
		{entryWith(0, 3, impl.Run{Reads: reads[1:], Puts: puts[:2], Val: 1000000}), "0.3{?0/1000000?1/12!2=-1000000!0=0}1000000:0"},
	} {
		wantEntryText(t, c.e, c.want)
	}
	for _, e := range append(okEntries(), likeEntries()...) {
		wantEntryText(t, e, entryText(e))
	}
}

// What is no entry that is right has its text, too; so has one that is nothing.
func TestMsgEntryOfWhatIsNotRight(t *testing.T) {
	for _, c := range []struct {
		e    impl.Entry
		want string
	}{
		{impl.Entry{}, "0.0{}0:0"},
		{impl.Entry{Run: impl.Run{Reads: []impl.Read{}, Puts: []impl.Put{}}}, "0.0{}0:0"},
		{impl.Entry{None: true, Req: impl.Req{Who: 1, Seq: 5}, Run: freshRun()}, "none"},
		{impl.Entry{None: true, Run: impl.Run{Code: 1}}, "none"},
		{entryWith(1, 5, impl.Run{Code: impl.ExecForm}), "1.5{}0:3"},
		{entryWith(-3, -4, impl.Run{Reads: []impl.Read{{Box: -1, Ver: -2}, {Box: -1, Ver: -2}}, Puts: []impl.Put{{Box: -5, Val: -6}, {Box: 77, Val: 1000001}}, Val: -8, Code: -9}), "-3.-4{?-1/-2?-1/-2!-5=-6!77=1000001}-8:-9"},
		{entryWith(math.MinInt, math.MaxInt, impl.Run{Val: math.MaxInt, Code: math.MinInt}), "-9223372036854775808.9223372036854775807{}9223372036854775807:-9223372036854775808"},
	} {
		wantEntryText(t, c.e, c.want)
	}
	for _, e := range badEntries() {
		wantEntryText(t, e, entryText(e))
	}
	size := 1 << 12
	long := entryWith(1, 5, impl.Run{Reads: make([]impl.Read, size), Puts: make([]impl.Put, size)})
	wantEntryText(t, long, "1.5{"+strings.Repeat("?0/0", size)+strings.Repeat("!0=0", size)+"}0:0")
}

func TestMsgText(t *testing.T) {
	e := entryWith(0, 12, impl.Run{Reads: []impl.Read{{Box: 1, Ver: 3}, {Box: 2}}, Puts: []impl.Put{{Box: 1, Val: -5}, {Box: 3, Val: 7}}, Val: -5})
	text := "0.12{?1/3?2/0!1=-5!3=7}-5:0"
	none := noneEntry()
	for _, c := range []struct {
		m    impl.Msg
		want string
	}{
		{impl.Msg{Kind: impl.MsgPrepare, From: 1, To: 2, Bal: 4, Slot: 3}, "prepare 1 2 4 3"},
		{impl.Msg{Kind: impl.MsgPrepare, From: 1, To: 0, Bal: 3000, Slot: 40}, "prepare 1 0 3000 40"},
		{impl.Msg{Kind: impl.MsgPromise, From: 2, To: 1, Bal: 4, Slot: 40}, "promise 2 1 4 40"},
		{impl.Msg{Kind: impl.MsgPromise, From: 2, To: 1, Bal: 4}, "promise 2 1 4 0"},
		{impl.Msg{Kind: impl.MsgPromise, From: 2, To: 1, Bal: 4, Slot: 5, Votes: []impl.Vote{{}}}, "promise 2 1 4 5 0"},
		{impl.Msg{Kind: impl.MsgPromise, From: 2, To: 1, Bal: 4, Slot: 5, Votes: []impl.Vote{{}, {Bal: 3, Entry: e}, {}, {}, {Bal: 10, Entry: none}, {}}}, "promise 2 1 4 5 0 3" + text + " 0 0 10none 0"},
		{impl.Msg{Kind: impl.MsgPromise, From: 0, To: 1, Bal: 4, Votes: []impl.Vote{{Bal: 3000, Entry: none}, {Bal: 1, Entry: none}, {Bal: 2, Entry: e}}}, "promise 0 1 4 0 3000none 1none 2" + text},
		{impl.Msg{Kind: impl.MsgAccept, From: 0, To: 2, Bal: 6, Slot: 39, Entry: e}, "accept 0 2 6 39 " + text},
		{impl.Msg{Kind: impl.MsgAccept, From: 0, To: 2, Bal: 6, Entry: none}, "accept 0 2 6 0 none"},
		{impl.Msg{Kind: impl.MsgAccepted, From: 2, To: 0, Bal: 6, Slot: 1}, "accepted 2 0 6 1"},
		{impl.Msg{Kind: impl.MsgChosen, From: 0, To: 1, Slot: 17, Entry: e}, "chosen 0 1 0 17 " + text},
		{impl.Msg{Kind: impl.MsgChosen, From: 0, To: 1, Slot: 39, Entry: none}, "chosen 0 1 0 39 none"},
		{impl.Msg{Kind: impl.MsgRefuse, From: 1, To: 0, Bal: 22}, "refuse 1 0 22 0"},
		{impl.Msg{Kind: impl.MsgAsk, From: 1, To: 2, Entry: e}, "ask 1 2 0 0 " + text},
		{impl.Msg{Kind: impl.MsgNeed, From: 2, To: 0, Slot: 9}, "need 2 0 0 9"},
		{impl.Msg{Kind: impl.MsgNeed, From: 2, To: 0}, "need 2 0 0 0"},
	} {
		wantMsgOk(t, c.m, true)
		wantMsgText(t, c.m, c.want)
	}
}

// What is not ok has the empty text, whichever part of it is wrong.
func TestMsgTextOfWhatIsNotOk(t *testing.T) {
	wantMsgText(t, impl.Msg{}, "")
	wantMsgText(t, fullMsg(), "")
	for _, kind := range allKinds() {
		wantMsgText(t, impl.Msg{Kind: kind}, "")
		for which, spoilt := range []func(*impl.Msg){
			func(m *impl.Msg) { m.Kind = 9 }, func(m *impl.Msg) { m.Kind = 0 }, func(m *impl.Msg) { m.From = 3 }, func(m *impl.Msg) { m.To = -1 }, func(m *impl.Msg) { m.To = m.From },
			func(m *impl.Msg) { m.Bal = 3001 }, func(m *impl.Msg) { m.Slot = 41 }, func(m *impl.Msg) { m.Entry.Req.Seq = 1001 }, func(m *impl.Msg) { m.Votes = []impl.Vote{{Bal: 1}} },
		} {
			m := someMsg(kind)
			spoilt(&m)
			if got := impl.MsgText(m); got != "" {
				t.Errorf("of kind %d, spoilt by %d, the text is %q", kind, which, got)
			}
		}
	}
}

// The longest list of votes that there may be is written whole.
func TestMsgTextOfAsManyVotesAsMayBe(t *testing.T) {
	m := impl.Msg{Kind: impl.MsgPromise, From: 1, To: 2, Bal: 3000, Votes: slices.Repeat([]impl.Vote{{Bal: 3000, Entry: entryWith(1, 5, freshRun())}}, 40)}
	wantMsgText(t, m, "promise 1 2 3000 0"+strings.Repeat(" 30001.5{?1/20!2=205!1=6}205:0", 40))
	m.Votes = make([]impl.Vote, 40)
	wantMsgText(t, m, "promise 1 2 3000 0"+strings.Repeat(" 0", 40))
	m.Votes = make([]impl.Vote, 41)
	wantMsgText(t, m, "")
}

// Each list of an argument is a part of a longer one, ahead of and behind which nothing may be written either.
func TestMsgArgumentsAreNotWritten(t *testing.T) {
	reads := []impl.Read{{Box: 3, Ver: 1}, {Box: 2, Ver: 2}, {Box: 1, Ver: 3}, {Box: 0, Ver: 4}}
	puts := []impl.Put{{Box: 2, Val: 1}, {Box: 3, Val: 2}, {Box: 0, Val: 3}, {Box: 1, Val: 4}}
	e := entryWith(1, 5, impl.Run{Reads: reads[1:3], Puts: puts[1:3], Val: 5})
	whole := append(votesIn(1, 0, 10, 9, 0), impl.Vote{Bal: 10, Entry: e}, impl.Vote{}, impl.Vote{Bal: 10, Entry: e}, impl.Vote{Bal: 12})
	wasReads, wasPuts, wasWhole, wasEntry := slices.Clone(reads), slices.Clone(puts), cloneVotes(whole), cloneEntry(e)
	for _, kind := range append(allKinds(), 0, 9) {
		for at := range len(whole) {
			for end := at; end <= len(whole); end++ {
				for _, m := range []impl.Msg{{Kind: kind, To: 1, Bal: 4, Votes: whole[at:end]}, {Kind: kind, To: 1, Bal: 4, Entry: e}, {Kind: kind, To: 1, Entry: e}, {Kind: kind, Entry: e, Votes: whole[at:end]}} {
					impl.MsgOk(m)
					impl.MsgText(m)
					impl.MsgEntry(m.Entry)
					impl.MsgSame(m, impl.Msg{Kind: kind, To: 1, Bal: 4, Entry: e, Votes: whole})
					impl.MsgSame(m, m)
				}
			}
		}
	}
	if !slices.Equal(reads, wasReads) || !slices.Equal(puts, wasPuts) || !sameVotes(whole, wasWhole) || !sameEntry(e, wasEntry) {
		t.Fatalf("arguments are %v, %v, %v", reads, puts, whole)
	}
}

// What stands behind the end of an argument turns no answer, and a text stays as it is when the argument is written.
func TestMsgAnswersHangOnTheListsAlone(t *testing.T) {
	run := freshRun()
	run.Reads = append(run.Reads, impl.Read{Box: 1, Ver: 7}, impl.Read{Box: 9})[:1]
	run.Puts = append(run.Puts, impl.Put{Box: 1, Val: 7}, impl.Put{Box: 9})[:2]
	e := entryWith(1, 5, run)
	votes := []impl.Vote{{}, {Bal: 4, Entry: e}, {Bal: 9, Entry: noneEntry()}, {Bal: -1}}
	promise, ask := impl.Msg{Kind: impl.MsgPromise, To: 1, Bal: 5, Slot: 38, Votes: votes[:2]}, impl.Msg{Kind: impl.MsgAsk, To: 1, Entry: e}
	plain := impl.Msg{Kind: impl.MsgPromise, To: 1, Bal: 5, Slot: 38, Votes: []impl.Vote{{}, {Bal: 4, Entry: entryWith(1, 5, freshRun())}}}
	if !impl.MsgOk(promise) || !impl.MsgSame(promise, plain) || !impl.MsgSame(plain, promise) {
		t.Error(promise)
	}
	promiseText, askText := impl.MsgText(promise), impl.MsgText(ask)
	spoilVotes(promise.Votes)
	spoil(ask.Entry.Run)
	if promiseText != "promise 0 1 5 38 0 41.5{?1/20!2=205!1=6}205:0" || askText != "ask 0 1 0 0 1.5{?1/20!2=205!1=6}205:0" {
		t.Errorf("%q, %q", promiseText, askText)
	}
}
