package tests

import (
	"math"
	"slices"
	"testing"

	"loop.example/thingstead/impl"
)

func eventOf(kind int, a int) impl.Event {
	return impl.Event{Kind: kind, A: a}
}

func askOf(id int, prog []impl.Ins) impl.Event {
	return impl.Event{Kind: impl.EventAsks, A: id, Prog: prog}
}

// allEvents is the kinds of events in the order of their numbers.
func allEvents() []int {
	return []int{impl.EventAsks, impl.EventTakes, impl.EventLoses, impl.EventTwice, impl.EventRises, impl.EventRetries, impl.EventFalls}
}

// befalling is a world to which all kinds of things happen, also some that can not.
type befalling struct {
	making
	w impl.World
}

// place is one of so many, most often an early one; now and then none.
func (d *befalling) place(size int) int {
	switch d.below(12) {
	case 0:
		return []int{-1, size, math.MinInt, math.MaxInt}[d.below(4)]
	case 1, 2:
		return size - 1
	}
	return d.below(max(1, min(5, size)))
}

// program is one that meets what others do; now and then it is not ok.
func (d *befalling) program(t *testing.T) []impl.Ins {
	if bad := badProgs(); d.below(10) == 0 {
		return bad[d.below(len(bad))]
	}
	m := meeting{draws: d.draws}
	prog := m.program(t)
	d.draws = m.draws
	return prog
}

// event is one of which as many in a hundred are messages that are taken as is said.
func (d *befalling) event(t *testing.T, taken int) impl.Event {
	kind := impl.EventTakes
	if d.below(100) >= taken {
		kind = []int{1, 1, 1, 1, 1, 1, 1, 1, 1, 3, 3, 4, 4, 5, 6, 6, 6, 6, 6, 7, 0, 8, -1, math.MaxInt}[d.below(24)]
	}
	size := 3
	if kind == impl.EventTakes || kind == impl.EventLoses || kind == impl.EventTwice {
		size = len(d.w.Net)
	}
	e := eventOf(kind, d.place(size))
	if kind == impl.EventAsks || d.below(9) == 0 {
		e.Prog = d.program(t)
	}
	return e
}

// reached is what came of events.
type reached struct {
	full  int // how often there was no room for a message
	known int
	asked int
	codes [5]int
}

func (r *reached) count(w impl.World) {
	r.known += len(impl.WorldLog(w))
	r.asked += len(w.Asked)
	for _, told := range w.Told {
		r.codes[told.Code]++
	}
}

// Promise 9.
func TestAWorldThatIsOkStaysSo(t *testing.T) {
	var got reached
	for seed := range 36 {
		d := befalling{making: making{draws: draws(seed + 900)}, w: impl.WorldOpen()}
		taken := []int{50, 75, 85, 90}[seed%4]
		for step := range 600 + 1200*(seed%12/11) {
			e := d.event(t, taken)
			if step%25 == 0 {
				d.w = wantEvent(t, d.w, e)
			} else {
				d.w = wantOnly(t, d.w, e)
			}
			if len(d.w.Net) == 40 {
				got.full++
			}
		}
		got.count(d.w)
	}
	if got.full < 100 || got.known < 200 || got.asked < 500 || got.codes[impl.CertDone] < 100 || got.codes[impl.CertStale] < 10 || got.codes[impl.CertFailed] < 10 {
		t.Errorf("of all worlds %+v", got)
	}
}

// worldAsItComes is one that is ok, with parts as they come, to most of which no world comes by itself.
func (d *making) worldAsItComes() impl.World {
	var w impl.World
	for id := range 3 {
		n := d.node()
		for n.Id != id {
			n = d.node()
		}
		w.Nodes = append(w.Nodes, n)
	}
	for size := d.size(40); len(w.Net) < size; {
		if m := d.msg(w.Nodes[d.below(3)]); fits(m) {
			w.Net = append(w.Net, m)
		}
	}
	for range d.size(60) {
		w.Asked = append(w.Asked, impl.Asked{Req: d.request().Req, Prog: d.prog()})
	}
	for range d.size(60) {
		req := d.request().Req
		w.Told = append(w.Told, impl.Told{Node: req.Who, Req: req, Code: d.below(5), Val: d.below(2000001) - 1000000})
	}
	return w
}

// size is one up to the most, that and few ones more often than others.
func (d *making) size(most int) int {
	return []int{0, 2, d.below(most), most - 2, most - 1, most, most}[d.below(7)]
}

// Promise 9, from any world that is ok.
func TestAnyWorldThatIsOkStaysSo(t *testing.T) {
	d := befalling{making: making{draws: 99}}
	times, lost, untold := map[int]int{}, 0, 0
	for range 2400 {
		d.w = d.worldAsItComes()
		if !impl.WorldOk(d.w) {
			t.Fatalf("%v is not ok", d.w)
		}
		e := d.event(t, 40)
		after := wantEvent(t, d.w, e)
		if sameWorld(after, d.w) {
			continue
		}
		times[e.Kind]++
		where := whereOf(d.w, e)
		if len(after.Net) == 40 && where >= 0 {
			lost++
		}
		if where >= 0 && len(d.w.Told) == 60 && d.w.Nodes[where].Busy && !after.Nodes[where].Busy {
			untold++
		}
	}
	for _, kind := range allEvents() {
		if times[kind] < 15 {
			t.Errorf("of the kind %d %d events turned something", kind, times[kind])
		}
	}
	if lost < 50 || untold < 5 {
		t.Errorf("%d times all messages were there, %d answers were lost", lost, untold)
	}
}

func TestWorldConstants(t *testing.T) {
	if got := allEvents(); !slices.Equal(got, []int{1, 2, 3, 4, 5, 6, 7}) {
		t.Error(got)
	}
	if got := []int{impl.WorldNet, impl.WorldAsked, impl.WorldPlays}; !slices.Equal(got, []int{40, 60, 400}) {
		t.Error(got)
	}
}

func TestWorldOpen(t *testing.T) {
	want := impl.World{Nodes: []impl.Node{{Id: 0}, {Id: 1}, {Id: 2}}}
	if got := impl.WorldOpen(); !sameWorld(got, want) || !impl.WorldOk(got) {
		t.Errorf("it is %v", got)
	}
	first, second := impl.WorldOpen(), impl.WorldOpen()
	wantApart(t, []any{&first, &second}, nil)
	overwrite(first.Nodes, impl.Node{Id: 7, Busy: true})
	if got := impl.WorldOpen(); !sameWorld(got, want) || !sameWorld(second, want) {
		t.Errorf("it is %v, and was %v", got, second)
	}
}

// someWorld is one in which node 0 is Busy and follows, node 1 asks the others to vote and node 2 is to lead; with a message of each kind on its way, and with what was asked and told.
func someWorld(t *testing.T) impl.World {
	t.Helper()
	prog := progOf(t, wantProg)
	first := busy(t, impl.Node{Id: 0, Acc: impl.Acc{Promised: 7, Votes: votesIn(4, 5, 7)}, Known: countUp(3), Seq: 4}, wantProg)
	last := impl.Node{Id: 2, Acc: impl.Acc{Promised: 8, Votes: votesIn(4)}, Known: countUp(1), Seq: 1, Phase: impl.NodePrepares, Bal: 8, From: []bool{false, false, true}, Best: votesIn(4, 5)}
	w := impl.World{Nodes: []impl.Node{first, someNode(impl.NodeAsks), last}}
	for _, kind := range allKinds() {
		w.Net = append(w.Net, someMsg(kind))
	}
	w.Asked = []impl.Asked{{Req: impl.Req{Who: 2, Seq: 1}}, {Req: impl.Req{Who: 1, Seq: 5}, Prog: prog[:1]}, {Req: first.Want.Req, Prog: prog}}
	w.Told = []impl.Told{{Node: 2, Req: impl.Req{Who: 2, Seq: 1}, Val: -4}, {Node: 1, Req: impl.Req{Who: 1, Seq: 5}, Code: impl.CertStale}}
	return w
}

// withWorld is a world with a change.
func withWorld(w impl.World, change func(*impl.World)) impl.World {
	w = cloneWorld(w)
	change(&w)
	return w
}

func wantWorldOk(t *testing.T, w impl.World, want bool) {
	t.Helper()
	if got := impl.WorldOk(w); got != want || worldFits(w) != want {
		t.Errorf("%v is ok: %v, not %v", w, got, want)
	}
}

func TestWorldOkOfNodes(t *testing.T) {
	wantWorldOk(t, impl.WorldOpen(), true)
	wantWorldOk(t, someWorld(t), true)
	wantWorldOk(t, impl.World{}, false)
	wantWorldOk(t, impl.World{Nodes: []impl.Node{}}, false)
	nodes := append(impl.WorldOpen().Nodes, impl.Node{Id: 3})
	for _, order := range [][]int{{0}, {0, 1}, {1, 2}, {0, 2}, {0, 1, 2, 3}, {0, 1, 2, 0}, {0, 1, 2, 2}, {0, 0, 1, 2}, {1, 0, 2}, {0, 2, 1}, {2, 1, 0}, {1, 2, 0}, {0, 0, 2}, {0, 1, 1}, {1, 1, 1}, {0, 1, 3}, {1, 2, 3}} {
		var w impl.World
		for _, id := range order {
			w.Nodes = append(w.Nodes, nodes[id])
		}
		wantWorldOk(t, w, false)
	}
	wantWorldOk(t, impl.World{Nodes: make([]impl.Node, 3)}, false)
	wantWorldOk(t, impl.World{Nodes: make([]impl.Node, 1<<12)}, false)
}

func TestWorldOkOfNodesThatAreNotOk(t *testing.T) {
	for _, w := range []impl.World{impl.WorldOpen(), someWorld(t)} {
		for _, phase := range phases {
			wantWorldOk(t, withWorld(w, func(w *impl.World) { w.Nodes[1] = someNode(phase) }), true)
			wantWorldOk(t, withWorld(w, func(w *impl.World) { w.Nodes[2] = someNode(phase) }), false)
		}
		for _, n := range badNodes(t) {
			wantWorldOk(t, withWorld(w, func(w *impl.World) { w.Nodes[1] = n }), false)
		}
		for id := range 3 {
			for _, change := range []func(*impl.Node){func(n *impl.Node) { n.Id = -1 }, func(n *impl.Node) { n.Id = 3 }, func(n *impl.Node) { n.Seq = 1001 }, func(n *impl.Node) { n.Phase = 4 }, func(n *impl.Node) { n.Known = countUp(41) }, func(n *impl.Node) { n.Queue = []impl.Entry{noneEntry()} }} {
				wantWorldOk(t, withWorld(w, func(w *impl.World) { change(&w.Nodes[id]) }), false)
			}
		}
	}
}

// wrongMsgs is messages that are not ok, of each kind.
func wrongMsgs() []impl.Msg {
	out := []impl.Msg{{}, {To: 1}, fullMsg()}
	for _, kind := range allKinds() {
		for _, change := range []func(*impl.Msg){
			func(m *impl.Msg) { m.Kind = 0 }, func(m *impl.Msg) { m.Kind = 9 }, func(m *impl.Msg) { m.From = 3 }, func(m *impl.Msg) { m.To = -1 }, func(m *impl.Msg) { m.To = m.From },
			func(m *impl.Msg) { m.Bal = 3001 }, func(m *impl.Msg) { m.Slot = 41 }, func(m *impl.Msg) { m.Slot = -1 }, func(m *impl.Msg) { m.Entry.Req.Seq = 1001 }, func(m *impl.Msg) { m.Votes = []impl.Vote{{Bal: 1}} },
		} {
			m := someMsg(kind)
			change(&m)
			out = append(out, m)
		}
	}
	return out
}

func TestWorldOkOfMessages(t *testing.T) {
	for _, w := range []impl.World{impl.WorldOpen(), someWorld(t)} {
		for _, kind := range allKinds() {
			for _, size := range []int{0, 1, 39, 40, 41, 42, 1 << 10} {
				wantWorldOk(t, withWorld(w, func(w *impl.World) { w.Net = slices.Repeat([]impl.Msg{someMsg(kind)}, size) }), size <= 40)
			}
		}
		for _, wrong := range wrongMsgs() {
			for _, place := range []int{0, 1, 38, 39} {
				wantWorldOk(t, withWorld(w, func(w *impl.World) {
					w.Net = slices.Repeat([]impl.Msg{someMsg(impl.MsgNeed)}, 40)
					w.Net[place] = wrong
				}), false)
			}
			wantWorldOk(t, withWorld(w, func(w *impl.World) { w.Net = []impl.Msg{wrong} }), false)
		}
	}
}

// wrongReqs is requests that are not right.
func wrongReqs() []impl.Req {
	return []impl.Req{{}, {Who: -1, Seq: 1}, {Who: 3, Seq: 1}, {Who: math.MinInt, Seq: 1}, {Who: math.MaxInt, Seq: 1}, {Who: 1}, {Who: 1, Seq: -1}, {Who: 1, Seq: 1001}, {Who: 1, Seq: math.MinInt}, {Who: 1, Seq: math.MaxInt}}
}

func TestWorldOkOfWhatWasAsked(t *testing.T) {
	for _, w := range []impl.World{impl.WorldOpen(), someWorld(t)} {
		asked := func(list ...impl.Asked) impl.World {
			return withWorld(w, func(w *impl.World) { w.Asked = list })
		}
		for who := range 3 {
			for _, seq := range []int{1, 2, 999, 1000} {
				for _, text := range []string{"", "fail", wantProg} {
					wantWorldOk(t, asked(impl.Asked{Req: impl.Req{Who: who, Seq: seq}, Prog: progOf(t, text)}), true)
				}
			}
		}
		one := impl.Asked{Req: impl.Req{Who: 2, Seq: 1}, Prog: progOf(t, wantProg)}
		for _, size := range []int{0, 1, 59, 60, 61, 62, 1 << 10} {
			wantWorldOk(t, asked(slices.Repeat([]impl.Asked{one}, size)...), size <= 60)
		}
		var wrong []impl.Asked
		for _, req := range wrongReqs() {
			wrong = append(wrong, impl.Asked{Req: req, Prog: one.Prog})
		}
		for _, prog := range badProgs() {
			wrong = append(wrong, impl.Asked{Req: one.Req, Prog: prog})
		}
		for _, bad := range append(wrong, impl.Asked{}) {
			wantWorldOk(t, asked(bad), false)
			for _, place := range []int{0, 1, 58, 59} {
				list := slices.Repeat([]impl.Asked{one}, 60)
				list[place] = bad
				wantWorldOk(t, asked(list...), false)
			}
		}
	}
}

// wrongTold is answers of which each breaks one condition.
func wrongTold() []impl.Told {
	var out []impl.Told
	for _, req := range wrongReqs() {
		out = append(out, impl.Told{Node: req.Who, Req: req}, impl.Told{Node: 1, Req: req})
	}
	for _, node := range []int{math.MinInt, -1, 0, 2, 3, math.MaxInt} {
		out = append(out, impl.Told{Node: node, Req: impl.Req{Who: 1, Seq: 7}})
	}
	for _, code := range []int{math.MinInt, -1, impl.CertNone, 6, math.MaxInt} {
		out = append(out, impl.Told{Node: 1, Req: impl.Req{Who: 1, Seq: 7}, Code: code})
	}
	for _, val := range []int{math.MinInt, -impl.BoxMax - 1, impl.BoxMax + 1, math.MaxInt} {
		for code := range 5 {
			out = append(out, impl.Told{Node: 1, Req: impl.Req{Who: 1, Seq: 7}, Code: code, Val: val})
		}
	}
	return out
}

func TestWorldOkOfWhatWasTold(t *testing.T) {
	for _, w := range []impl.World{impl.WorldOpen(), someWorld(t)} {
		told := func(list ...impl.Told) impl.World {
			return withWorld(w, func(w *impl.World) { w.Told = list })
		}
		for who := range 3 {
			for _, seq := range []int{1, 2, 999, 1000} {
				for code := range 5 {
					for _, val := range []int{-impl.BoxMax, 1 - impl.BoxMax, -1, 0, 1, impl.BoxMax - 1, impl.BoxMax} {
						wantWorldOk(t, told(impl.Told{Node: who, Req: impl.Req{Who: who, Seq: seq}, Code: code, Val: val}), true)
					}
				}
			}
		}
		one := impl.Told{Node: 2, Req: impl.Req{Who: 2, Seq: 1}, Val: 3}
		for _, size := range []int{0, 1, 59, 60, 61, 62, 1 << 10} {
			wantWorldOk(t, told(slices.Repeat([]impl.Told{one}, size)...), size <= 60)
		}
		for _, bad := range wrongTold() {
			wantWorldOk(t, told(bad), false)
			for _, place := range []int{0, 1, 58, 59} {
				list := slices.Repeat([]impl.Told{one}, 60)
				list[place] = bad
				wantWorldOk(t, told(list...), false)
			}
		}
	}
}

// As many as there may be of all at once.
func fullWorld(t *testing.T) impl.World {
	return withWorld(someWorld(t), func(w *impl.World) {
		w.Net = slices.Repeat(w.Net, 5)
		w.Asked = slices.Repeat(w.Asked, 20)
		w.Told = slices.Repeat(w.Told, 30)
	})
}

func TestWorldOkOfAsManyAsMayBe(t *testing.T) {
	w := fullWorld(t)
	wantWorldOk(t, w, true)
	wantWorldOk(t, withWorld(w, func(w *impl.World) { w.Net = append(w.Net, w.Net[0]) }), false)
	wantWorldOk(t, withWorld(w, func(w *impl.World) { w.Asked = append(w.Asked, w.Asked[0]) }), false)
	wantWorldOk(t, withWorld(w, func(w *impl.World) { w.Told = append(w.Told, w.Told[0]) }), false)
}

func wantWorldsDiffer(t *testing.T, a impl.World, b impl.World) {
	t.Helper()
	if impl.WorldSame(a, b) || impl.WorldSame(b, a) {
		t.Errorf("%v and %v are the same", a, b)
	}
}

// wholeNode has all parts, as no node that is ok does.
func wholeNode(t *testing.T) impl.Node {
	n := busy(t, someNode(impl.NodeAsks), wantProg)
	n.From, n.Best, n.Queue = []bool{true, true, false}, someAcc().Votes, countUp(2)
	n.Known[1].Run, n.Want.Run, n.Cur.Run = freshRun(), freshRun(), freshRun()
	n.Acc.Votes = someAcc().Votes
	return n
}

// nodeChanges turns each part of a node, one by one.
func nodeChanges() []func(*impl.Node) {
	out := []func(*impl.Node){
		func(n *impl.Node) { n.Id++ },
		func(n *impl.Node) { n.Acc.Promised++ },
		func(n *impl.Node) { n.Acc.Votes = n.Acc.Votes[1:] },
		func(n *impl.Node) { n.Acc.Votes = append(n.Acc.Votes, impl.Vote{}) },
		func(n *impl.Node) { n.Acc.Votes[1].Bal++ },
		func(n *impl.Node) { n.Known = n.Known[:2] },
		func(n *impl.Node) { n.Known = append(n.Known, noneEntry()) },
		func(n *impl.Node) { n.Known[0], n.Known[1] = n.Known[1], n.Known[0] },
		func(n *impl.Node) { n.Seq++ },
		func(n *impl.Node) { n.Phase++ },
		func(n *impl.Node) { n.Bal++ },
		func(n *impl.Node) { n.From[2] = true },
		func(n *impl.Node) { n.From = nil },
		func(n *impl.Node) { n.Best = n.Best[:1] },
		func(n *impl.Node) { n.Best = append(n.Best, impl.Vote{}) },
		func(n *impl.Node) { n.Best[1].Bal++ },
		func(n *impl.Node) { n.Cur = impl.Entry{} },
		func(n *impl.Node) { n.Votes[0] = true },
		func(n *impl.Node) { n.Votes = n.Votes[:2] },
		func(n *impl.Node) { n.Busy = false },
		func(n *impl.Node) { n.Prog = n.Prog[1:] },
		func(n *impl.Node) { n.Prog = nil },
		func(n *impl.Node) { n.Prog[1].A++ },
		func(n *impl.Node) { n.Want = impl.Entry{} },
		func(n *impl.Node) { n.Queue = n.Queue[:1] },
		func(n *impl.Node) { n.Queue = append(n.Queue, otherEntry()) },
		func(n *impl.Node) { slices.Reverse(n.Queue) },
	}
	for _, change := range entryChanges() {
		out = append(out, func(n *impl.Node) { change(&n.Acc.Votes[1].Entry) }, func(n *impl.Node) { change(&n.Known[1]) }, func(n *impl.Node) { change(&n.Best[1].Entry) }, func(n *impl.Node) { change(&n.Cur) }, func(n *impl.Node) { change(&n.Want) }, func(n *impl.Node) { change(&n.Queue[1]) })
	}
	for _, change := range runChanges() {
		out = append(out, func(n *impl.Node) { change(&n.Known[1]) }, func(n *impl.Node) { change(&n.Cur) }, func(n *impl.Node) { change(&n.Want) })
	}
	return out
}

// worldChanges turns each part of a world but those of nodes and messages, one by one.
func worldChanges() []func(*impl.World) {
	return []func(*impl.World){
		func(w *impl.World) { w.Nodes = w.Nodes[:2] },
		func(w *impl.World) { w.Nodes = w.Nodes[1:] },
		func(w *impl.World) { w.Nodes = append(w.Nodes, impl.Node{}) },
		func(w *impl.World) { slices.Reverse(w.Nodes) },
		func(w *impl.World) { w.Net = nil },
		func(w *impl.World) { w.Net = w.Net[1:] },
		func(w *impl.World) { w.Net = w.Net[:7] },
		func(w *impl.World) { w.Net = append(w.Net, impl.Msg{}) },
		func(w *impl.World) { w.Net[3], w.Net[4] = w.Net[4], w.Net[3] },
		func(w *impl.World) { w.Asked = nil },
		func(w *impl.World) { w.Asked = w.Asked[:2] },
		func(w *impl.World) { w.Asked = w.Asked[1:] },
		func(w *impl.World) { w.Asked = append(w.Asked, impl.Asked{}) },
		func(w *impl.World) { w.Asked[0], w.Asked[1] = w.Asked[1], w.Asked[0] },
		func(w *impl.World) { w.Asked[0].Req.Who-- },
		func(w *impl.World) { w.Asked[1].Req.Seq++ },
		func(w *impl.World) { w.Asked[0].Prog = []impl.Ins{{}} },
		func(w *impl.World) { w.Asked[1].Prog = nil },
		func(w *impl.World) { w.Asked[2].Prog = w.Asked[2].Prog[1:] },
		func(w *impl.World) { w.Asked[2].Prog[1].Kind++ },
		func(w *impl.World) { w.Asked[2].Prog[1].A++ },
		func(w *impl.World) { w.Asked[2].Prog[1].B++ },
		func(w *impl.World) { w.Asked[2].Prog[1].N++ },
		func(w *impl.World) { w.Told = nil },
		func(w *impl.World) { w.Told = w.Told[:1] },
		func(w *impl.World) { w.Told = w.Told[1:] },
		func(w *impl.World) { w.Told = append(w.Told, impl.Told{}) },
		func(w *impl.World) { slices.Reverse(w.Told) },
		func(w *impl.World) { w.Told[0].Node++ },
		func(w *impl.World) { w.Told[1].Req.Who++ },
		func(w *impl.World) { w.Told[0].Req.Seq++ },
		func(w *impl.World) { w.Told[1].Code++ },
		func(w *impl.World) { w.Told[0].Val = -w.Told[0].Val },
	}
}

func TestWorldSameOfWorldsThatDifferInOnePart(t *testing.T) {
	w := someWorld(t)
	changes := worldChanges()
	for place := range w.Nodes {
		w.Nodes[place] = wholeNode(t)
		w.Nodes[place].Id = place
		for _, change := range nodeChanges() {
			changes = append(changes, func(w *impl.World) { change(&w.Nodes[place]) })
		}
	}
	for _, place := range []int{0, 7} {
		w.Net[place] = fullMsg()
		for _, change := range msgChanges() {
			changes = append(changes, func(w *impl.World) { change(&w.Net[place]) })
		}
	}
	for which, change := range changes {
		other := withWorld(w, change)
		if sameWorld(w, other) {
			t.Errorf("the change %d changes nothing", which)
		}
		wantWorldsDiffer(t, w, other)
	}
	wantWorldsDiffer(t, impl.WorldOpen(), impl.World{})
	wantWorldsDiffer(t, impl.World{Nodes: make([]impl.Node, 2)}, impl.World{Nodes: make([]impl.Node, 3)})
}

// badWorlds is worlds that are not ok.
func badWorlds(t *testing.T) []impl.World {
	out := []impl.World{{}, {Nodes: make([]impl.Node, 3)}}
	for _, w := range []impl.World{impl.WorldOpen(), someWorld(t), fullWorld(t)} {
		out = append(out,
			withWorld(w, func(w *impl.World) { w.Nodes = w.Nodes[:2] }),
			withWorld(w, func(w *impl.World) { w.Nodes = append(w.Nodes, impl.NodeOpen(2)) }),
			withWorld(w, func(w *impl.World) { slices.Reverse(w.Nodes) }),
			withWorld(w, func(w *impl.World) { w.Nodes[0].Seq = -1 }),
			withWorld(w, func(w *impl.World) { w.Nodes[1].Known = []impl.Entry{{}} }),
			withWorld(w, func(w *impl.World) { w.Nodes[2].Phase = 9 }),
			withWorld(w, func(w *impl.World) { w.Net = slices.Repeat([]impl.Msg{someMsg(impl.MsgNeed)}, 41) }),
			withWorld(w, func(w *impl.World) { w.Net = append(w.Net[:min(39, len(w.Net))], impl.Msg{}) }),
			withWorld(w, func(w *impl.World) { w.Asked = slices.Repeat([]impl.Asked{{Req: impl.Req{Seq: 1}}}, 61) }),
			withWorld(w, func(w *impl.World) { w.Asked = append(w.Asked[:min(59, len(w.Asked))], impl.Asked{}) }),
			withWorld(w, func(w *impl.World) { w.Told = slices.Repeat([]impl.Told{{Req: impl.Req{Seq: 1}}}, 61) }),
			withWorld(w, func(w *impl.World) { w.Told = append(w.Told[:min(59, len(w.Told))], impl.Told{}) }),
		)
	}
	return out
}

func TestWorldSame(t *testing.T) {
	worlds := append(badWorlds(t), impl.WorldOpen(), someWorld(t), fullWorld(t), impl.World{Nodes: []impl.Node{wholeNode(t)}, Net: []impl.Msg{fullMsg()}})
	d := making{draws: 5}
	for range 50 {
		worlds = append(worlds, d.worldAsItComes())
	}
	for at, a := range worlds {
		if !impl.WorldSame(a, cloneWorld(a)) || !impl.WorldSame(a, a) {
			t.Errorf("%v differs from itself", a)
		}
		for _, b := range worlds[at+1:] {
			if impl.WorldSame(a, b) != sameWorld(a, b) {
				t.Errorf("%v and %v are the same: %v", a, b, !sameWorld(a, b))
			}
		}
	}
}

func TestWorldSameOfTheNilListAndTheEmptyList(t *testing.T) {
	run := impl.Run{Reads: []impl.Read{}, Puts: []impl.Put{}}
	n := impl.Node{Acc: impl.Acc{Votes: []impl.Vote{}}, Known: []impl.Entry{}, From: []bool{}, Best: []impl.Vote{}, Cur: impl.Entry{Run: run}, Votes: []bool{}, Prog: []impl.Ins{}, Want: impl.Entry{Run: run}, Queue: []impl.Entry{}}
	m := impl.Msg{Kind: impl.MsgNeed, To: 1, Entry: impl.Entry{Run: run}, Votes: []impl.Vote{}}
	req := impl.Req{Seq: 1}
	for _, c := range [][2]impl.World{
		{{Nodes: []impl.Node{}, Net: []impl.Msg{}, Asked: []impl.Asked{}, Told: []impl.Told{}}, {}},
		{{Nodes: []impl.Node{n}}, {Nodes: []impl.Node{{}}}},
		{{Net: []impl.Msg{m}}, {Net: []impl.Msg{{Kind: impl.MsgNeed, To: 1}}}},
		{{Asked: []impl.Asked{{Req: req, Prog: []impl.Ins{}}}}, {Asked: []impl.Asked{{Req: req}}}},
	} {
		if !impl.WorldSame(c[0], c[1]) || !impl.WorldSame(c[1], c[0]) {
			t.Errorf("%v and %v differ", c[0], c[1])
		}
		// The same beside all nodes that there must be: what comes of them is the same, too.
		a, b := impl.WorldOpen(), impl.WorldOpen()
		copy(a.Nodes, c[0].Nodes)
		copy(b.Nodes, c[1].Nodes)
		a.Net, b.Net, a.Asked, b.Asked, a.Told, b.Told = c[0].Net, c[1].Net, c[0].Asked, c[1].Asked, c[0].Told, c[1].Told
		for _, kind := range allEvents() {
			if one, other := wantEvent(t, a, eventOf(kind, 0)), wantEvent(t, b, eventOf(kind, 0)); !impl.WorldSame(one, other) {
				t.Errorf("%v and %v differ", one, other)
			}
		}
	}
}

func TestAWorldThatIsNotOkGivesNothing(t *testing.T) {
	for _, w := range badWorlds(t) {
		wantWorldOk(t, w, false)
		var events []impl.Event
		for kind := range 9 {
			for a := -1; a <= 3; a++ {
				events = append(events, impl.Event{Kind: kind, A: a, Prog: progOf(t, wantProg)})
			}
		}
		for _, e := range events {
			if after := wantEvent(t, w, e); !sameWorld(after, impl.World{}) {
				t.Fatalf("%v behind %v is %v", w, e, after)
			}
		}
		for _, list := range [][]impl.Event{nil, {}, events, make([]impl.Event, 400), make([]impl.Event, 401)} {
			if after := impl.WorldPlay(w, list); !sameWorld(after, impl.World{}) {
				t.Fatalf("%v behind %d events is %v", w, len(list), after)
			}
		}
	}
}

// wantIdleEvent wants that nothing happens.
func wantIdleEvent(t *testing.T, w impl.World, e impl.Event) {
	t.Helper()
	if after := wantEvent(t, w, e); !sameWorld(after, w) {
		t.Errorf("%v behind %v is %v", w, e, after)
	}
}

func TestWorldDoOfWhatThereIsNot(t *testing.T) {
	prog := progOf(t, wantProg)
	for _, w := range []impl.World{impl.WorldOpen(), someWorld(t), fullWorld(t)} {
		for _, kind := range []int{math.MinInt, -7, -1, 0, 8, 9, math.MaxInt} {
			for _, a := range []int{-1, 0, 1, 2, 3} {
				wantIdleEvent(t, w, impl.Event{Kind: kind, A: a, Prog: prog})
			}
		}
		for _, kind := range []int{impl.EventAsks, impl.EventRises, impl.EventRetries, impl.EventFalls} {
			for _, id := range []int{math.MinInt, -3, -1, impl.CertNodes, 4, math.MaxInt} {
				wantIdleEvent(t, w, impl.Event{Kind: kind, A: id, Prog: prog})
			}
		}
		for _, kind := range []int{impl.EventTakes, impl.EventLoses, impl.EventTwice} {
			for _, place := range []int{math.MinInt, -1, len(w.Net), len(w.Net) + 1, 41, math.MaxInt} {
				wantIdleEvent(t, w, eventOf(kind, place))
			}
		}
	}
}

// wantAfter wants a world behind an event: what happened at one node is as said, and what is sent and told.
func wantAfter(t *testing.T, w impl.World, e impl.Event, n impl.Node, sent []string, told ...impl.Told) impl.World {
	t.Helper()
	after := wantEvent(t, w, e)
	want := cloneWorld(w)
	want.Nodes[n.Id] = n
	want.Told = append(want.Told, told...)
	if e.Kind == impl.EventTakes {
		want.Net = slices.Delete(want.Net, e.A, e.A+1)
	}
	texts := netTexts(want)
	want.Net, want.Asked = after.Net, after.Asked
	if texts = append(texts, sent...); !sameWorld(after, want) || !slices.Equal(netTexts(after), texts) {
		t.Errorf("%v\nbehind %v is %v\nnot %v, with the messages %q\nnot %q", w, e, after, want, netTexts(after), texts)
	}
	return after
}

func netTexts(w impl.World) []string {
	var out []string
	for _, m := range w.Net {
		out = append(out, impl.MsgText(m))
	}
	return out
}

func wantAsked(t *testing.T, w impl.World, want ...impl.Asked) {
	t.Helper()
	if !slices.EqualFunc(w.Asked, want, sameAsked) {
		t.Errorf("%v was asked, not %v", w.Asked, want)
	}
}

func TestEventAsks(t *testing.T) {
	prog := progOf(t, wantProg)
	w := someWorld(t)
	one := impl.Asked{Req: impl.Req{Who: 1, Seq: 6}, Prog: prog}
	// A node that follows asks both others, one that leads asks them to vote, one that prepares or asks waits.
	n := busy(t, someNode(impl.NodeFollows), wantProg)
	follows := withWorld(w, func(w *impl.World) { w.Nodes[1] = someNode(impl.NodeFollows) })
	wantAsked(t, wantAfter(t, follows, askOf(1, prog), n, []string{"ask 1 0 0 0 " + wantText, "ask 1 2 0 0 " + wantText}), append(w.Asked, one)...)
	n = busy(t, someNode(impl.NodeLeads), wantProg)
	leads := withWorld(w, func(w *impl.World) { w.Nodes[1] = someNode(impl.NodeLeads) })
	wantAsked(t, wantAfter(t, leads, askOf(1, prog), proposing(n, n.Want), []string{"accept 1 0 7 3 " + wantText, "accept 1 2 7 3 " + wantText}), append(w.Asked, one)...)
	for _, phase := range []int{impl.NodePrepares, impl.NodeAsks} {
		waits := withWorld(w, func(w *impl.World) { w.Nodes[1] = someNode(phase) })
		wantAsked(t, wantAfter(t, waits, askOf(1, prog), busy(t, someNode(phase), wantProg), nil), append(w.Asked, one)...)
	}
	// A program that is not ok, a node that is Busy, and one that had as many as may be, turn nothing.
	for _, bad := range badProgs() {
		for id := range 3 {
			wantIdleEvent(t, w, askOf(id, bad))
			wantIdleEvent(t, impl.WorldOpen(), askOf(id, bad))
		}
	}
	wantIdleEvent(t, w, askOf(0, prog))
	wantIdleEvent(t, withWorld(follows, func(w *impl.World) { w.Nodes[1].Seq = 1000 }), askOf(1, prog))
	last := wantEvent(t, withWorld(follows, func(w *impl.World) { w.Nodes[1].Seq = 999 }), askOf(1, prog))
	wantAsked(t, last, append(w.Asked, impl.Asked{Req: impl.Req{Who: 1, Seq: 1000}, Prog: prog})...)
}

func TestEventAsksOfEachNode(t *testing.T) {
	for id, texts := range [][]string{{"ask 0 1 0 0 0.1{?2/0!1=0}0:0", "ask 0 2 0 0 0.1{?2/0!1=0}0:0"}, {"ask 1 0 0 0 1.1{?2/0!1=0}0:0", "ask 1 2 0 0 1.1{?2/0!1=0}0:0"}, {"ask 2 0 0 0 2.1{?2/0!1=0}0:0", "ask 2 1 0 0 2.1{?2/0!1=0}0:0"}} {
		after := wantAfter(t, impl.WorldOpen(), askOf(id, progOf(t, wantProg)), busy(t, impl.NodeOpen(id), wantProg), texts)
		wantAsked(t, after, impl.Asked{Req: impl.Req{Who: id, Seq: 1}, Prog: progOf(t, wantProg)})
		// The empty program is one.
		after = wantEvent(t, impl.WorldOpen(), askOf(id, nil))
		wantAsked(t, after, impl.Asked{Req: impl.Req{Who: id, Seq: 1}})
		if len(after.Net) != 2 || !after.Nodes[id].Busy {
			t.Errorf("it is %v", after)
		}
	}
}

func TestEventAsksBehindAsManyAsMayBe(t *testing.T) {
	one := impl.Asked{Req: impl.Req{Who: 2, Seq: 1}, Prog: progOf(t, "fail")}
	for _, w := range []impl.World{impl.WorldOpen(), someWorld(t)} {
		for id := range 3 {
			full := withWorld(w, func(w *impl.World) { w.Asked = slices.Repeat([]impl.Asked{one}, 60) })
			wantIdleEvent(t, full, askOf(id, progOf(t, wantProg)))
			wantIdleEvent(t, full, askOf(id, nil))
			full.Asked = full.Asked[:59]
			if full.Nodes[id].Busy {
				continue
			}
			after := wantEvent(t, full, askOf(id, progOf(t, wantProg)))
			wantAsked(t, after, append(full.Asked, impl.Asked{Req: impl.Req{Who: id, Seq: full.Nodes[id].Seq + 1}, Prog: progOf(t, wantProg)})...)
			wantIdleEvent(t, after, askOf((id+1)%3, nil))
		}
	}
}

func TestEventTakesOfEachKindOfMessage(t *testing.T) {
	w := someWorld(t)
	for place, kind := range allKinds() {
		for _, phase := range phases {
			w.Nodes[1] = someNode(phase)
			after := wantEvent(t, w, eventOf(impl.EventTakes, place))
			node, sent, told := impl.NodeTake(w.Nodes[1], w.Net[place])
			want := withWorld(w, func(w *impl.World) { w.Nodes[1], w.Told = node, append(w.Told, told...) })
			want.Net = append(slices.Delete(want.Net, place, place+1), sent...)
			if !sameWorld(after, want) {
				t.Errorf("of kind %d: %v\nis %v", kind, w, after)
			}
		}
	}
}

func TestEventTakesAtEachPlace(t *testing.T) {
	needs := impl.World{Nodes: impl.WorldOpen().Nodes}
	for id := range 3 {
		needs.Nodes[id].Known = countUp(id)
		for to := range 3 {
			if to != id {
				needs.Net = append(needs.Net, impl.Msg{Kind: impl.MsgNeed, From: id, To: to, Slot: 0})
			}
		}
	}
	first, second := impl.MsgEntry(countUp(2)[0]), impl.MsgEntry(countUp(2)[1])
	for place, sent := range [][]string{{"chosen 1 0 0 0 " + first}, {"chosen 2 0 0 0 " + first, "chosen 2 0 0 1 " + second}, nil, {"chosen 2 1 0 0 " + first, "chosen 2 1 0 1 " + second}, nil, {"chosen 1 2 0 0 " + first}} {
		wantAfter(t, needs, eventOf(impl.EventTakes, place), needs.Nodes[needs.Net[place].To], sent)
	}
	for _, kind := range []int{impl.EventTakes, impl.EventLoses, impl.EventTwice} {
		for _, place := range []int{-1, 0, 1} {
			wantIdleEvent(t, impl.WorldOpen(), eventOf(kind, place))
		}
	}
}

func TestEventLosesAndEventTwice(t *testing.T) {
	for _, w := range []impl.World{someWorld(t), fullWorld(t)} {
		texts := netTexts(w)
		for place := range w.Net {
			after := wantEvent(t, w, eventOf(impl.EventLoses, place))
			want := withWorld(w, func(w *impl.World) { w.Net = slices.Delete(w.Net, place, place+1) })
			if !sameWorld(after, want) {
				t.Errorf("%v without the message %d is %v", w, place, after)
			}
			after = wantEvent(t, after, eventOf(impl.EventTwice, 0))
			again := slices.Concat(texts[:place], texts[place+1:])
			if got := netTexts(after); !slices.Equal(got, append(again, again[0])) {
				t.Errorf("the messages are %q", got)
			}
		}
	}
	w := someWorld(t)
	for place, m := range w.Net {
		after := wantEvent(t, w, eventOf(impl.EventTwice, place))
		if !sameWorld(after, withWorld(w, func(w *impl.World) { w.Net = append(w.Net, m) })) {
			t.Errorf("%v with the message %d twice is %v", w, place, after)
		}
	}
}

// A message that is sent once more when there are as many as may be is lost.
func TestEventTwiceWithAFullNet(t *testing.T) {
	w := fullWorld(t)
	for _, place := range []int{0, 1, 38, 39} {
		wantIdleEvent(t, w, eventOf(impl.EventTwice, place))
	}
	w.Net = w.Net[:39]
	for _, place := range []int{0, 1, 38} {
		after := wantEvent(t, w, eventOf(impl.EventTwice, place))
		if len(after.Net) != 40 || !sameMsg(after.Net[39], w.Net[place]) {
			t.Errorf("the messages are %q", netTexts(after))
		}
		wantIdleEvent(t, after, eventOf(impl.EventTwice, place))
	}
}

func TestEventRisesRetriesAndFalls(t *testing.T) {
	w := someWorld(t)
	n := following(w.Nodes[0])
	n.Acc.Promised, n.Phase, n.Bal, n.From, n.Best = 9, impl.NodePrepares, 9, []bool{true, false, false}, n.Acc.Votes
	wantAfter(t, w, eventOf(impl.EventRises, 0), n, []string{"prepare 0 1 9 3", "prepare 0 2 9 3"})
	n = following(w.Nodes[1])
	n.Acc.Promised, n.Phase, n.Bal, n.From, n.Best = 10, impl.NodePrepares, 10, []bool{false, true, false}, n.Acc.Votes
	wantAfter(t, w, eventOf(impl.EventRises, 1), n, []string{"prepare 1 0 10 3", "prepare 1 2 10 3"})
	n = w.Nodes[2]
	n.Acc.Promised, n.Bal, n.Best = 11, 11, n.Acc.Votes
	wantAfter(t, w, eventOf(impl.EventRises, 2), n, []string{"prepare 2 0 11 1", "prepare 2 1 11 1"})
	text := "0.5{?2/3!1=12}12:0"
	for id, texts := range [][]string{
		{"need 0 1 0 3", "need 0 2 0 3", "ask 0 1 0 0 " + text, "ask 0 2 0 0 " + text},
		{"need 1 0 0 3", "need 1 2 0 3", "accept 1 0 7 3 " + otherText, "accept 1 2 7 3 " + otherText},
		{"need 2 0 0 1", "need 2 1 0 1", "prepare 2 0 8 1", "prepare 2 1 8 1"},
	} {
		n := w.Nodes[id]
		wantAfter(t, w, eventOf(impl.EventRetries, id), n, texts)
		wantAfter(t, w, eventOf(impl.EventFalls, id), impl.Node{Id: id, Acc: n.Acc, Known: n.Known, Seq: n.Seq}, nil)
		spent := withWorld(w, func(w *impl.World) { w.Nodes[id].Acc.Promised = 3000 })
		wantIdleEvent(t, spent, eventOf(impl.EventRises, id))
	}
}

// What is sent with too little room is lost from there on, in its order; so much of it is there.
func TestAFullNet(t *testing.T) {
	need := impl.Msg{Kind: impl.MsgNeed, From: 2, To: 1, Slot: 3}
	filled := func(size int, change func(*impl.World)) impl.World {
		w := withWorld(someWorld(t), func(w *impl.World) { w.Net = slices.Repeat([]impl.Msg{need}, size) })
		change(&w)
		return w
	}
	texts := []string{"need 1 0 0 3", "need 1 2 0 3", "accept 1 0 7 3 " + otherText, "accept 1 2 7 3 " + otherText}
	for size := 35; size <= 40; size++ {
		w := filled(size, func(w *impl.World) {})
		wantAfter(t, w, eventOf(impl.EventRetries, 1), w.Nodes[1], texts[:min(4, 40-size)])
		// A message that is taken leaves room for one more.
		w = filled(size, func(w *impl.World) {
			w.Nodes[1].Known, w.Nodes[1].Phase, w.Nodes[1].Cur, w.Nodes[1].Votes = countUp(5), impl.NodeLeads, impl.Entry{}, nil
			w.Net[size-1].Slot = 0
		})
		var chosen []string
		for slot, e := range countUp(min(5, 41-size)) {
			chosen = append(chosen, impl.MsgText(impl.Msg{Kind: impl.MsgChosen, From: 1, To: 2, Slot: slot, Entry: e}))
		}
		wantAfter(t, w, eventOf(impl.EventTakes, size-1), w.Nodes[1], chosen)
	}
	// What it did by itself stands, though nobody hears of that.
	w := filled(40, func(w *impl.World) { w.Nodes[1] = someNode(impl.NodeLeads) })
	n := busy(t, w.Nodes[1], wantProg)
	after := wantAfter(t, w, askOf(1, progOf(t, wantProg)), proposing(n, n.Want), nil)
	wantAsked(t, after, append(w.Asked, impl.Asked{Req: impl.Req{Who: 1, Seq: 6}, Prog: progOf(t, wantProg)})...)
	w = filled(40, func(w *impl.World) { w.Nodes[1] = someNode(impl.NodeFollows) })
	wantAfter(t, w, askOf(1, progOf(t, wantProg)), busy(t, w.Nodes[1], wantProg), nil)
}

// What is told when there are as many answers as may be is lost; the node is Busy no more.
func TestAsManyAnswersAsMayBe(t *testing.T) {
	n := busy(t, someNode(impl.NodeFollows), wantProg)
	told := impl.Told{Node: 1, Req: n.Want.Req, Val: 12}
	for size := 57; size <= 60; size++ {
		w := withWorld(someWorld(t), func(w *impl.World) {
			w.Nodes[1] = n
			w.Net = []impl.Msg{{Kind: impl.MsgChosen, From: 0, To: 1, Slot: 3, Entry: n.Want}}
			w.Told = slices.Repeat(w.Told[:1], size)
		})
		list := []impl.Told{told}
		wantAfter(t, w, eventOf(impl.EventTakes, 0), idle(knowing(n, n.Want)), nil, list[:min(1, 60-size)]...)
	}
}

// plays lets events happen, one behind the other.
func plays(t *testing.T, w impl.World, events ...impl.Event) impl.World {
	t.Helper()
	for _, e := range events {
		w = wantEvent(t, w, e)
	}
	return w
}

// delivered is the world behind all that is on its way, and what comes of that.
func delivered(t *testing.T, w impl.World) impl.World {
	t.Helper()
	for len(w.Net) > 0 {
		w = wantEvent(t, w, eventOf(impl.EventTakes, 0))
	}
	return w
}

// What was asked while nobody led is answered when somebody leads, and it is asked again.
func TestARequestThatWasAskedWhileNobodyLed(t *testing.T) {
	prog := progOf(t, "load 0 1,num 1 5,add 0 1,put 1 0")
	for leader := range 3 {
		for id := range 3 {
			w := plays(t, impl.WorldOpen(), askOf(id, prog))
			if w = delivered(t, w); len(w.Told) > 0 || !w.Nodes[id].Busy || len(impl.WorldLog(w)) > 0 {
				t.Errorf("it is %v", w)
			}
			wantIdleEvent(t, w, askOf(id, prog))
			w = delivered(t, plays(t, w, eventOf(impl.EventRises, leader)))
			if leader != id {
				if len(w.Told) > 0 || !w.Nodes[id].Busy {
					t.Errorf("it is %v", w)
				}
				w = delivered(t, plays(t, w, eventOf(impl.EventRetries, id)))
			}
			wantAsked(t, w, impl.Asked{Req: impl.Req{Who: id, Seq: 1}, Prog: prog})
			if !slices.Equal(w.Told, []impl.Told{{Node: id, Req: impl.Req{Who: id, Seq: 1}, Val: 5}}) || w.Nodes[id].Busy {
				t.Errorf("%v was told", w.Told)
			}
			for _, n := range w.Nodes {
				if s := impl.NodeState(n); s.At != 1 || impl.BoxText(s.Boxes) != "0/0 5/1 0/0 0/0" {
					t.Errorf("node %d knows of %v", n.Id, s)
				}
			}
		}
	}
}

// Two that ask at once with what they both look into: one is done, the other one is stale, and can ask again.
func TestTwoThatAskAtOnce(t *testing.T) {
	prog := progOf(t, "load 0 1,num 1 5,add 0 1,put 1 0")
	w := delivered(t, plays(t, impl.WorldOpen(), eventOf(impl.EventRises, 1)))
	w = delivered(t, plays(t, w, askOf(0, prog), askOf(2, prog)))
	done, stale := impl.Told{Req: impl.Req{Seq: 1}, Val: 5}, impl.Told{Node: 2, Req: impl.Req{Who: 2, Seq: 1}, Code: impl.CertStale}
	if !slices.Equal(w.Told, []impl.Told{done, stale}) || len(impl.WorldLog(w)) != 2 {
		t.Errorf("%v was told", w.Told)
	}
	w = delivered(t, plays(t, w, askOf(2, prog)))
	if again := (impl.Told{Node: 2, Req: impl.Req{Who: 2, Seq: 2}, Val: 10}); !slices.Equal(w.Told, []impl.Told{done, stale, again}) {
		t.Errorf("%v was told", w.Told)
	}
}

// somePlays is as many events of all kinds, of which some can not happen.
func somePlays(t *testing.T, size int) []impl.Event {
	d := befalling{making: making{draws: 13}, w: impl.WorldOpen()}
	var out []impl.Event
	for range size {
		e := d.event(t, 85)
		d.w = impl.WorldDo(d.w, e)
		out = append(out, e)
	}
	return out
}

func TestWorldPlay(t *testing.T) {
	events := somePlays(t, 400)
	for _, from := range []impl.World{impl.WorldOpen(), someWorld(t), fullWorld(t)} {
		want := from
		for size := range 401 {
			if size > 0 {
				want = impl.WorldDo(want, events[size-1])
			}
			if size%40 > 1 {
				continue
			}
			if got := impl.WorldPlay(from, events[:size]); !sameWorld(got, want) || !impl.WorldOk(got) {
				t.Fatalf("behind %d events it is %v\nnot %v", size, got, want)
			}
		}
		if got := impl.WorldPlay(from, nil); !sameWorld(got, from) {
			t.Errorf("behind nothing it is %v", got)
		}
		if got := impl.WorldPlay(from, append(events, events[0])); !sameWorld(got, impl.World{}) {
			t.Errorf("behind 401 events it is %v", got)
		}
		for _, size := range []int{401, 402, 1 << 12} {
			if got := impl.WorldPlay(from, make([]impl.Event, size)); !sameWorld(got, impl.World{}) {
				t.Errorf("behind %d events it is %v", size, got)
			}
		}
		if got := impl.WorldPlay(from, make([]impl.Event, 400)); !sameWorld(got, from) {
			t.Errorf("behind 400 events of no kind it is %v", got)
		}
	}
	// In order: whoever rises last leads.
	if w := impl.WorldPlay(impl.WorldOpen(), []impl.Event{eventOf(5, 1), eventOf(2, 0), eventOf(5, 0)}); w.Nodes[0].Bal != 3 || w.Nodes[1].Bal != 1 {
		t.Errorf("it is %v", w)
	}
	if w := impl.WorldPlay(impl.WorldOpen(), []impl.Event{eventOf(5, 0), eventOf(5, 1), eventOf(2, 0)}); w.Nodes[0].Bal != 3 || w.Nodes[1].Bal != 0 {
		t.Errorf("it is %v", w)
	}
}

func TestWorldPlayAnswersAreNewMemory(t *testing.T) {
	for _, size := range []int{0, 1, 60, 400, 401} {
		w, events := roomyCopy(someWorld(t)), roomyCopy(somePlays(t, size))
		given := []any{&w, &events}
		was := wholeOf(given)
		first, second := impl.WorldPlay(w, events), impl.WorldPlay(w, events)
		if !sameWhole(wholeOf(given), was) {
			t.Errorf("%d events are written into", size)
		}
		wantApart(t, []any{&first, &second}, given)
		// What is written into an argument, and into one answer, shows in no other one.
		want := cloneWorld(second)
		for i := range events {
			fillProg(events[i].Prog)
		}
		for _, one := range []impl.World{w, first} {
			overwrite(one.Net, impl.Msg{Kind: 9})
			overwrite(one.Told, impl.Told{Code: 9})
			overwrite(one.Asked, impl.Asked{})
			overwrite(one.Nodes, impl.Node{Id: 9})
		}
		if !sameWorld(second, want) {
			t.Errorf("it is %v, and was %v", second, want)
		}
	}
}

func fillProg(prog []impl.Ins) {
	overwrite(prog, impl.Ins{Kind: impl.ProgNum, N: 7})
}

func wantLog(t *testing.T, w impl.World, want []impl.Entry) {
	t.Helper()
	roomy := roomyCopy(w)
	given := []any{&roomy}
	was := wholeOf(given)
	first, second := impl.WorldLog(roomy), impl.WorldLog(roomy)
	if !sameWhole(wholeOf(given), was) {
		t.Errorf("%v is written into", w)
	}
	wantApart(t, []any{&first, &second}, given)
	if !sameEntries(first, want) || !sameEntries(second, want) {
		t.Errorf("of %v the list is %v, not %v", w, first, want)
	}
}

func TestWorldLog(t *testing.T) {
	wantLog(t, impl.WorldOpen(), nil)
	wantLog(t, someWorld(t), countUp(3))
	list := countUp(40)
	for sizes := range 27 {
		w, most := impl.WorldOpen(), 0
		for id := range 3 {
			size := []int{sizes % 3, sizes / 3 % 3, sizes / 9}[id]
			w.Nodes[id].Known = list[:size]
			most = max(most, size)
		}
		wantLog(t, w, list[:most])
		w.Nodes[1].Known = nil
		w.Nodes[2].Known = list
		wantLog(t, w, list)
	}
	// Of nodes that know as much, but not the same, the first.
	w := impl.WorldOpen()
	w.Nodes[0].Known, w.Nodes[1].Known, w.Nodes[2].Known = countUp(1), []impl.Entry{otherEntry(), noneEntry()}, countUp(2)
	wantLog(t, w, w.Nodes[1].Known)
	w.Nodes[0].Known = []impl.Entry{noneEntry(), otherEntry()}
	wantLog(t, w, w.Nodes[0].Known)
}

func TestWorldLogOfWorldsThatAreNotOk(t *testing.T) {
	wantLog(t, impl.World{}, nil)
	wantLog(t, impl.World{Nodes: []impl.Node{}, Net: []impl.Msg{someMsg(impl.MsgNeed)}}, nil)
	bad := badEntries()
	for size := range 6 {
		w := impl.World{Nodes: make([]impl.Node, size)}
		for place := range w.Nodes {
			w.Nodes[place] = impl.Node{Id: -place, Known: bad[:min(3, place)], Phase: 9}
		}
		wantLog(t, w, bad[:max(0, min(3, size-1))])
	}
	long := slices.Repeat([]impl.Entry{{Run: freshRun()}}, 300)
	wantLog(t, impl.World{Nodes: []impl.Node{{}, {Known: countUp(40)}, {Known: long}, {Known: long[1:]}}}, long)
	for _, w := range badWorlds(t) {
		most := 0
		var want []impl.Entry
		for _, n := range w.Nodes {
			if len(n.Known) > most {
				most, want = len(n.Known), n.Known
			}
		}
		wantLog(t, w, want)
	}
}

func TestWorldArgumentsAreNotWritten(t *testing.T) {
	for _, w := range append(badWorlds(t), impl.WorldOpen(), someWorld(t), fullWorld(t)) {
		one, other := roomyCopy(w), roomyCopy(w)
		given := []any{&one, &other}
		was := wholeOf(given)
		impl.WorldOk(one)
		impl.WorldSame(one, other)
		impl.WorldLog(one)
		impl.WorldPlay(one, somePlays(t, 20))
		if !sameWhole(wholeOf(given), was) {
			t.Errorf("%v is written into", w)
		}
	}
}
