package tests

import (
	"math"
	"slices"
	"strconv"
	"testing"

	"loop.example/thingstead/impl"
)

// meeting is three nodes, with messages on their way that are lost, come twice, late and crossed, and nodes that fall.
type meeting struct {
	draws
	nodes [3]impl.Node
	net   []impl.Msg
	told  []impl.Told
	lost  int // how many were Busy as they fell
}

// program is one that meets what others do, so that many runs are stale, or fail.
func (d *meeting) program(t *testing.T) []impl.Ins {
	texts := []string{
		"load 0 1,num 1 5,add 0 1,put 1 0", "load 0 1,put 2 0", "load 0 2,load 1 1,put 3 1,put 2 1", "num 0 7,put 0 0", "load 0 3,less 0 1 1,fail,put 3 1", "load 0 1,fail", "",
	}
	return progOf(t, texts[d.below(len(texts))])
}

// lets lets a node do something, and wants that nothing is taken back by it.
func (d *meeting) lets(t *testing.T, who int, what deed) {
	t.Helper()
	before := d.nodes[who]
	after, sent, told := wantDeed(t, before, what)
	wantNothingBack(t, before, after)
	for _, one := range told {
		wantByTheList(t, one, after.Known)
	}
	if what.name == "fall" && before.Busy {
		d.lost++
	}
	d.nodes[who], d.net, d.told = after, append(d.net, sent...), append(d.told, told...)
}

// off takes a message off its way.
func (d *meeting) off() impl.Msg {
	place := d.below(min(6, len(d.net)))
	m := d.net[place]
	d.net = slices.Delete(d.net, place, place+1)
	return m
}

func (d *meeting) step(t *testing.T) {
	t.Helper()
	who, kind := d.below(3), d.below(100)
	switch {
	case kind < 12:
		d.lets(t, who, asks(d.program(t)))
	case kind < 13:
		d.lets(t, who, rises)
	case kind < 17:
		d.lets(t, who, retries)
	case kind < 18:
		d.lets(t, who, falls)
	case len(d.net) == 0:
		return
	case kind < 20 || len(d.net) > 40:
		d.off()
	case kind < 22:
		d.net = append(d.net, d.net[d.below(len(d.net))])
	default:
		m := d.off()
		d.lets(t, m.To, takes(m))
	}
}

// most is the longest list that a node knows.
func (d *meeting) most() []impl.Entry {
	var list []impl.Entry
	for _, n := range d.nodes {
		if len(n.Known) > len(list) {
			list = n.Known
		}
	}
	return list
}

// wantNothingBack holds a node behind a deed against what it was: what it promised, voted and knows stands.
func wantNothingBack(t *testing.T, before impl.Node, after impl.Node) {
	t.Helper()
	wantKept(t, before.Acc, after.Acc, true)
	if after.Id != before.Id || after.Seq < before.Seq || len(after.Known) < len(before.Known) || !sameEntries(after.Known[:len(before.Known)], before.Known) {
		t.Fatalf("%v is %v then", before, after)
	}
}

// wantByTheList wants an answer that says how the first entry of its request ended, and what that says.
func wantByTheList(t *testing.T, told impl.Told, list []impl.Entry) {
	t.Helper()
	code, val := firstEnd(list, told.Req)
	if told.Node != told.Req.Who || told.Code != code || told.Val != val || code < 0 {
		t.Fatalf("%v was told, with %v in the list", told, list)
	}
}

// Promise 8.
func TestWhatANodePromisedVotedAndKnowsIsNeverTakenBack(t *testing.T) {
	codes, full, lost, known := map[int]int{}, 0, 0, 0
	for seed := range 40 {
		d := meeting{draws: draws(seed), nodes: [3]impl.Node{impl.NodeOpen(0), impl.NodeOpen(1), impl.NodeOpen(2)}}
		for range 250 + 950*(seed%6/5) {
			d.step(t)
		}
		list, times := d.most(), map[impl.Req]int{}
		for _, n := range d.nodes {
			if !sameEntries(n.Known, list[:len(n.Known)]) {
				t.Fatalf("%v is known, and %v", n.Known, list)
			}
		}
		for _, told := range d.told {
			wantByTheList(t, told, list)
			if times[told.Req]++; times[told.Req] > 1 {
				t.Fatalf("%v was answered again", told.Req)
			}
			codes[told.Code]++
		}
		known, lost = known+len(list), lost+d.lost
		if len(list) == 40 {
			full++
		}
	}
	if codes[0] < 100 || codes[1] < 20 || codes[2] < 20 || full < 3 || lost < 20 || known < 400 {
		t.Errorf("%v were told, %d lists are full, %d were Busy as they fell, %d entries are known", codes, full, lost, known)
	}
}

// making is nodes that are ok, with parts as they come, most of which no node comes to by itself, and what they may be asked for.
type making struct {
	draws
}

func (d *making) run() impl.Run {
	ver := d.below(3)
	return []impl.Run{
		{Val: d.below(9)}, {Puts: []impl.Put{{Box: 0, Val: 4}}, Val: 4}, {Reads: []impl.Read{{Box: 0, Ver: ver}}, Puts: []impl.Put{{Box: 0, Val: ver}}, Val: 7},
		{Reads: []impl.Read{{Box: 0, Ver: ver}}, Code: impl.ExecFails}, {Code: impl.ExecGreat},
	}[d.below(5)]
}

func (d *making) request() impl.Entry {
	return entryWith(d.below(3), 1+d.below(5), d.run())
}

func (d *making) entry() impl.Entry {
	if d.below(6) == 0 {
		return noneEntry()
	}
	return d.request()
}

func (d *making) entries(size int, one func() impl.Entry) []impl.Entry {
	var out []impl.Entry
	for range size {
		out = append(out, one())
	}
	return out
}

func (d *making) votes(most int) []impl.Vote {
	out := make([]impl.Vote, d.below(7))
	for place := range out {
		if most > 0 && d.below(2) == 0 {
			out[place] = impl.Vote{Bal: 1 + d.below(most), Entry: d.entry()}
		}
	}
	return out
}

func (d *making) marks(id int) []bool {
	out := []bool{d.below(3) == 0, d.below(3) == 0, d.below(3) == 0}
	out[id] = true
	return out
}

func (d *making) node() impl.Node {
	n := impl.Node{Id: d.below(3), Acc: impl.Acc{Promised: d.below(13)}, Known: d.entries(d.below(6), d.entry), Seq: d.below(6)}
	n.Acc.Votes = d.votes(n.Acc.Promised)
	if d.below(8) == 0 {
		n.Known = d.entries(38+d.below(3), d.entry)
	}
	if n.Seq > 0 && d.below(2) == 0 {
		n.Busy, n.Prog, n.Want = true, d.prog(), entryWith(n.Id, n.Seq, d.run())
	}
	n.Queue = d.entries(d.below(5), d.request)
	return d.leading(n)
}

// leading is the node at any phase at which it can be.
func (d *making) leading(n impl.Node) impl.Node {
	phase, bal := d.below(4), 0
	for own := 1; own <= n.Acc.Promised; own++ {
		if own%3 == n.Id && (bal == 0 || d.below(3) > 0) {
			bal = own
		}
	}
	if bal == 0 || phase == 0 || phase == 3 && len(n.Known) == 40 {
		return n
	}
	n.Phase, n.Bal, n.Best = phase, bal, d.votes(12)
	switch phase {
	case 1:
		n.From = d.marks(n.Id)
	case 3:
		n.Cur, n.Votes = d.entry(), d.marks(n.Id)
	}
	return n
}

// msg is a message that a node may care for: most often to it, of a ballot and of a place near its own.
func (d *making) msg(n impl.Node) impl.Msg {
	m := impl.Msg{Kind: 1 + d.below(8), From: (n.Id + 1 + d.below(2)) % 3, To: n.Id}
	has := hasOf(m.Kind)
	if has.bal {
		m.Bal = []int{n.Bal, n.Bal, n.Acc.Promised, n.Acc.Promised + 1, 1 + d.below(13)}[d.below(5)]
	}
	if has.last > 0 {
		m.Slot = []int{len(n.Known), len(n.Known), len(n.Known) + 1, d.below(7)}[d.below(4)]
	}
	if has.entry {
		m.Entry = d.request()
	}
	if has.entry && n.Busy && d.below(2) == 0 {
		m.Entry.Req = n.Want.Req
	}
	if has.none && d.below(6) == 0 {
		m.Entry = noneEntry()
	}
	if has.votes && m.Slot < 34 {
		m.Votes = d.votes(12)
	}
	if d.below(30) == 0 {
		m.To = d.below(3)
	}
	return m
}

func (d *making) deed(n impl.Node) deed {
	switch kind := d.below(12); kind {
	case 0, 1:
		return asks(d.prog())
	case 2:
		return rises
	case 3:
		return retries
	case 4:
		return falls
	}
	return takes(d.msg(n))
}

// Promise 8, from any node that is ok.
func TestNothingIsTakenBackByAnyNode(t *testing.T) {
	d := making{draws: 88}
	codes := map[int]int{}
	for range 12000 {
		n := d.node()
		if !impl.NodeOk(n) {
			t.Fatalf("%v is not ok", n)
		}
		after, _, told := wantDeed(t, n, d.deed(n))
		wantNothingBack(t, n, after)
		for _, one := range told {
			wantByTheList(t, one, after.Known)
			codes[one.Code]++
		}
		if t.Failed() {
			t.FailNow()
		}
	}
	for _, code := range []int{impl.CertDone, impl.CertStale, impl.CertFailed, impl.CertOld} {
		if codes[code] < 15 {
			t.Errorf("%d requests ended with the code %d", codes[code], code)
		}
	}
}

func TestNodePhasesAndBounds(t *testing.T) {
	got := []int{impl.NodeFollows, impl.NodePrepares, impl.NodeLeads, impl.NodeAsks, impl.NodeQueue}
	if !slices.Equal(got, []int{0, 1, 2, 3, 4}) {
		t.Error(got)
	}
}

func TestNodeOpen(t *testing.T) {
	for id := range 3 {
		if n := impl.NodeOpen(id); !sameNode(n, impl.Node{Id: id}) || !impl.NodeOk(n) {
			t.Errorf("%d is %v", id, n)
		}
	}
	for _, id := range []int{math.MinInt, -3, -1, impl.CertNodes, 4, math.MaxInt} {
		if n := impl.NodeOpen(id); !sameNode(n, impl.Node{}) {
			t.Errorf("%d is %v", id, n)
		}
	}
}

// phases is all of them; someNode is node 1 in one, with the ballot 7 that it promised last, that knows three entries and had five requests.
var phases = []int{impl.NodeFollows, impl.NodePrepares, impl.NodeLeads, impl.NodeAsks}

func someNode(phase int) impl.Node {
	n := impl.Node{Id: 1, Acc: impl.Acc{Promised: 7, Votes: votesIn(4, 5, 7)}, Known: countUp(3), Seq: 5, Phase: phase}
	if phase != impl.NodeFollows {
		n.Bal = 7
	}
	switch phase {
	case impl.NodePrepares:
		n.From = []bool{false, true, false}
	case impl.NodeAsks:
		n.Cur, n.Votes = otherEntry(), []bool{false, true, false}
		n.Acc.Votes = append(n.Acc.Votes, impl.Vote{Bal: 7, Entry: otherEntry()})
	}
	return n
}

// busy is a node with one more request, and what it wants for that.
func busy(t *testing.T, n impl.Node, text string) impl.Node {
	t.Helper()
	n.Seq++
	n.Busy, n.Prog = true, progOf(t, text)
	n.Want = entryWith(n.Id, n.Seq, impl.ExecRun(impl.CertFold(n.Known).Boxes, n.Prog))
	return n
}

// with is a node with a change.
func with(n impl.Node, change func(*impl.Node)) impl.Node {
	n = cloneNode(n)
	change(&n)
	return n
}

func wantNodeOk(t *testing.T, n impl.Node, want bool) {
	t.Helper()
	if got := impl.NodeOk(n); got != want || nodeFits(n) != want {
		t.Errorf("%v is ok: %v, not %v", n, got, want)
	}
}

func TestNodeOkOfPhases(t *testing.T) {
	for _, phase := range phases {
		n := someNode(phase)
		wantNodeOk(t, n, true)
		wantNodeOk(t, busy(t, n, "load 0 1,put 2 0"), true)
		for _, id := range []int{math.MinInt, -1, 3, 4, math.MaxInt} {
			wantNodeOk(t, with(n, func(n *impl.Node) { n.Id = id }), false)
		}
		for _, other := range []int{math.MinInt, -1, 4, 5, math.MaxInt} {
			wantNodeOk(t, with(n, func(n *impl.Node) { n.Phase = other }), false)
			wantNodeOk(t, impl.Node{Phase: other}, false)
		}
		for _, other := range phases {
			wantNodeOk(t, with(n, func(n *impl.Node) { n.Phase = other }), other == phase)
		}
	}
	wantNodeOk(t, impl.Node{}, true)
}

// Each part of leading that a phase has not must be nothing, the empty list being so.
func TestNodeOkOfWhatAPhaseHasNot(t *testing.T) {
	marks := [][]bool{{true}, {false}, {false, true, false}, {true, true, true}, {false, false, false}}
	for _, phase := range phases {
		n := someNode(phase)
		for _, bal := range []int{1, 4, 7} {
			wantNodeOk(t, with(n, func(n *impl.Node) { n.Bal = bal }), phase != impl.NodeFollows)
		}
		for _, best := range [][]impl.Vote{{{}}, votesIn(3), votesIn(0, 7)} {
			wantNodeOk(t, with(n, func(n *impl.Node) { n.Best = best }), phase != impl.NodeFollows)
		}
		for _, list := range marks {
			own := len(list) == 3 && list[1]
			wantNodeOk(t, with(n, func(n *impl.Node) { n.From = list }), own && phase == impl.NodePrepares)
			wantNodeOk(t, with(n, func(n *impl.Node) { n.Votes = list }), own && phase == impl.NodeAsks)
		}
		for _, e := range []impl.Entry{noneEntry(), otherEntry(), entryWith(0, 1, impl.Run{})} {
			wantNodeOk(t, with(n, func(n *impl.Node) { n.Cur = e }), phase == impl.NodeAsks)
		}
		for _, part := range []impl.Entry{{Req: impl.Req{Who: 1}}, {Req: impl.Req{Seq: 1}}, {Run: impl.Run{Val: 1}}, {Run: impl.Run{Code: 1}}, {Run: impl.Run{Reads: []impl.Read{{}}}}, {Run: impl.Run{Puts: []impl.Put{{}}}}} {
			wantNodeOk(t, with(n, func(n *impl.Node) { n.Cur = part }), phase == impl.NodeAsks && impl.CertEntry(part))
		}
		empty := with(n, func(n *impl.Node) {
			n.Best, n.Prog, n.Queue, n.Want.Run.Reads, n.Want.Run.Puts = []impl.Vote{}, []impl.Ins{}, []impl.Entry{}, []impl.Read{}, []impl.Put{}
		})
		wantNodeOk(t, empty, true)
		if phase != impl.NodePrepares {
			wantNodeOk(t, with(n, func(n *impl.Node) { n.From = []bool{} }), true)
		}
		if phase != impl.NodeAsks {
			wantNodeOk(t, with(n, func(n *impl.Node) { n.Votes, n.Cur.Run.Reads, n.Cur.Run.Puts = []bool{}, []impl.Read{}, []impl.Put{} }), true)
		}
	}
}

func TestNodeOkOfBallots(t *testing.T) {
	for _, phase := range phases[1:] {
		n := someNode(phase)
		for _, bal := range []int{math.MinInt, -2, -1, 0, 2, 3, 5, 6, 8, 10, 3001, math.MaxInt} {
			wantNodeOk(t, with(n, func(n *impl.Node) { n.Bal = bal }), false)
		}
		wantNodeOk(t, with(n, func(n *impl.Node) { n.Acc.Promised = 6; n.Acc.Votes = nil }), false)
		wantNodeOk(t, with(n, func(n *impl.Node) { n.Acc.Promised = 8 }), true)
		wantNodeOk(t, with(n, func(n *impl.Node) { n.Acc.Promised, n.Bal = 3000, 2998 }), true)
		// Node 0 has every third ballot: that of 0 is none, for it too.
		zero := with(n, func(n *impl.Node) { n.Id, n.Bal = 0, 6 })
		if phase == impl.NodePrepares {
			zero.From = []bool{true, false, false}
		}
		if phase == impl.NodeAsks {
			zero.Votes = []bool{true, false, false}
		}
		wantNodeOk(t, zero, true)
		for _, bal := range []int{-3, 0, 1, 7, 9} {
			wantNodeOk(t, with(zero, func(n *impl.Node) { n.Bal = bal }), false)
		}
	}
}

func TestNodeOkOfMarks(t *testing.T) {
	for _, list := range [][]bool{{false, true, false}, {true, true, false}, {false, true, true}, {true, true, true}} {
		wantNodeOk(t, with(someNode(impl.NodePrepares), func(n *impl.Node) { n.From = list }), true)
		wantNodeOk(t, with(someNode(impl.NodeAsks), func(n *impl.Node) { n.Votes = list }), true)
	}
	for _, list := range [][]bool{nil, {}, {true}, {true, true}, {false, true}, {false, false, false}, {true, false, true}, {false, true, false, false}, {true, true, true, true}, make([]bool, 1<<12)} {
		wantNodeOk(t, with(someNode(impl.NodePrepares), func(n *impl.Node) { n.From = list }), false)
		wantNodeOk(t, with(someNode(impl.NodeAsks), func(n *impl.Node) { n.Votes = list }), false)
	}
}

func TestNodeOkOfVotesAndEntries(t *testing.T) {
	for _, phase := range phases[1:] {
		for _, votes := range rightVotes() {
			wantNodeOk(t, with(someNode(phase), func(n *impl.Node) { n.Best = votes }), true)
		}
		for _, votes := range wrongVotes() {
			wantNodeOk(t, with(someNode(phase), func(n *impl.Node) { n.Best = votes }), false)
		}
	}
	for _, e := range okEntries() {
		wantNodeOk(t, with(someNode(impl.NodeAsks), func(n *impl.Node) { n.Cur = e }), true)
		for _, phase := range phases {
			wantNodeOk(t, with(someNode(phase), func(n *impl.Node) { n.Known = append(n.Known, e) }), true)
			wantNodeOk(t, with(someNode(phase), func(n *impl.Node) { n.Queue = []impl.Entry{otherEntry(), e} }), !e.None)
		}
	}
	for _, e := range badEntries() {
		wantNodeOk(t, with(someNode(impl.NodeAsks), func(n *impl.Node) { n.Cur = e }), false)
		for _, phase := range phases {
			for place := range 3 {
				wantNodeOk(t, with(someNode(phase), func(n *impl.Node) { n.Known[place] = e }), false)
				wantNodeOk(t, with(someNode(phase), func(n *impl.Node) { n.Queue = countUp(3); n.Queue[place] = e }), false)
			}
		}
	}
}

func TestNodeOkOfWhatStays(t *testing.T) {
	for _, a := range okAccs() {
		wantNodeOk(t, impl.Node{Id: 2, Acc: a}, true)
	}
	for _, a := range badAccs() {
		wantNodeOk(t, impl.Node{Id: 2, Acc: a}, false)
	}
	for _, phase := range phases {
		for _, size := range []int{0, 1, 38, 39} {
			wantNodeOk(t, with(someNode(phase), func(n *impl.Node) { n.Known = countUp(size) }), true)
		}
		wantNodeOk(t, with(someNode(phase), func(n *impl.Node) { n.Known = countUp(40) }), phase != impl.NodeAsks)
		for _, size := range []int{41, 42, 1 << 10} {
			wantNodeOk(t, with(someNode(phase), func(n *impl.Node) { n.Known = slices.Repeat(countUp(1), size) }), false)
		}
		for _, seq := range []int{0, 1, 999, 1000} {
			wantNodeOk(t, with(someNode(phase), func(n *impl.Node) { n.Seq = seq }), true)
		}
		for _, seq := range []int{math.MinInt, -1, 1001, math.MaxInt} {
			wantNodeOk(t, with(someNode(phase), func(n *impl.Node) { n.Seq = seq }), false)
		}
		for _, size := range []int{0, 1, 3, 4, 5, 6, 1 << 10} {
			wantNodeOk(t, with(someNode(phase), func(n *impl.Node) { n.Queue = slices.Repeat([]impl.Entry{otherEntry()}, size) }), size <= 4)
		}
		for place := range 4 {
			wantNodeOk(t, with(someNode(phase), func(n *impl.Node) { n.Queue = countUp(4); n.Queue[place] = noneEntry() }), false)
		}
	}
}

func TestNodeOkOfWhatItWasAsked(t *testing.T) {
	for _, phase := range phases {
		n := busy(t, someNode(phase), "load 0 1,put 2 0")
		for _, text := range []string{"", "fail", "num 0 1"} {
			wantNodeOk(t, with(n, func(n *impl.Node) { n.Prog = progOf(t, text) }), true)
		}
		for _, prog := range badProgs() {
			wantNodeOk(t, with(n, func(n *impl.Node) { n.Prog = prog }), false)
		}
		for _, run := range okRuns() {
			wantNodeOk(t, with(n, func(n *impl.Node) { n.Want.Run = run }), run.Code != impl.ExecForm)
		}
		for _, e := range append(badEntries(), noneEntry(), entryWith(0, 6, impl.Run{}), entryWith(2, 6, impl.Run{}), entryWith(1, 5, impl.Run{}), entryWith(1, 7, impl.Run{})) {
			wantNodeOk(t, with(n, func(n *impl.Node) { n.Want = e }), false)
		}
		for _, seq := range []int{5, 7, 0, 1000} {
			wantNodeOk(t, with(n, func(n *impl.Node) { n.Seq = seq }), false)
		}
		for seq := range 3 {
			wantNodeOk(t, with(n, func(n *impl.Node) { n.Seq, n.Want.Req.Seq = 998+seq, 998+seq }), true)
		}
		// What it has without being Busy.
		wantNodeOk(t, with(n, func(n *impl.Node) { n.Busy = false }), false)
		wantNodeOk(t, with(n, func(n *impl.Node) { n.Busy, n.Prog = false, nil }), false)
		wantNodeOk(t, with(n, func(n *impl.Node) { n.Busy, n.Want = false, impl.Entry{} }), false)
		wantNodeOk(t, with(n, func(n *impl.Node) { n.Busy, n.Prog, n.Want = false, nil, noneEntry() }), false)
		wantNodeOk(t, with(n, func(n *impl.Node) { n.Busy, n.Prog, n.Want = false, nil, impl.Entry{} }), true)
		wantNodeOk(t, with(n, func(n *impl.Node) { n.Prog, n.Want = nil, impl.Entry{} }), false)
	}
	wantNodeOk(t, impl.Node{Busy: true}, false)
	wantNodeOk(t, impl.Node{Busy: true, Want: noneEntry()}, false)
}

func TestNodeState(t *testing.T) {
	for _, n := range append(badNodes(t), impl.Node{}, impl.Node{Known: countUp(40)}, someNode(0), someNode(3), impl.Node{Known: []impl.Entry{noneEntry(), otherEntry()}}) {
		if got := impl.NodeState(n); !sameState(got, impl.CertFold(n.Known)) {
			t.Errorf("behind %v there is %v", n.Known, got)
		}
	}
	if s := impl.NodeState(someNode(0)); s.At != 3 || impl.BoxText(s.Boxes) != "0/0 0/0 12/3 0/0" || len(s.Dones) != 3 {
		t.Error(s)
	}
}

// badNodes is nodes of which each breaks one condition alone.
func badNodes(t *testing.T) []impl.Node {
	var out []impl.Node
	for _, phase := range phases {
		for _, n := range []impl.Node{someNode(phase), busy(t, someNode(phase), "load 0 1,put 2 0")} {
			for _, change := range []func(*impl.Node){
				func(n *impl.Node) { n.Id = -1 }, func(n *impl.Node) { n.Id = 3 }, func(n *impl.Node) { n.Acc.Promised = 3001 }, func(n *impl.Node) { n.Acc.Votes[0].Bal = 8 },
				func(n *impl.Node) { n.Known[1] = impl.Entry{} }, func(n *impl.Node) { n.Known = countUp(41) }, func(n *impl.Node) { n.Seq = -1 }, func(n *impl.Node) { n.Seq = 1001 },
				func(n *impl.Node) { n.Phase = -1 }, func(n *impl.Node) { n.Phase = 4 }, func(n *impl.Node) { n.Bal = 8 }, func(n *impl.Node) { n.From = []bool{true} },
				func(n *impl.Node) { n.Best = []impl.Vote{{Bal: 1}} }, func(n *impl.Node) { n.Cur = impl.Entry{Run: impl.Run{Val: 1}} }, func(n *impl.Node) { n.Votes = []bool{true} },
				func(n *impl.Node) { n.Busy = !n.Busy }, func(n *impl.Node) { n.Prog = badProgs()[0] }, func(n *impl.Node) { n.Want = otherEntry() }, func(n *impl.Node) { n.Queue = countUp(5) }, func(n *impl.Node) { n.Queue = []impl.Entry{noneEntry()} },
			} {
				out = append(out, with(n, change))
			}
		}
	}
	return append(out, with(someNode(impl.NodeAsks), func(n *impl.Node) { n.Known = countUp(40) }))
}

// manyDeeds is each kind of deed, and each kind of message to node 1.
func manyDeeds(t *testing.T) []deed {
	out := []deed{asks(progOf(t, "load 0 1,put 2 0")), asks(nil), rises, retries, falls}
	for _, kind := range allKinds() {
		for _, bal := range []int{6, 7, 9} {
			for slot := range 5 {
				m := impl.Msg{Kind: kind, To: 1}
				has := hasOf(kind)
				if has.bal {
					m.Bal = bal
				}
				if has.last > 0 {
					m.Slot = slot
				}
				if has.entry {
					m.Entry = entryWith(0, 700, freshRun())
				}
				if has.votes {
					m.Votes = votesIn(0, 4, 5, 6)
				}
				out = append(out, takes(m))
			}
		}
	}
	return out
}

func TestANodeThatIsNotOkGivesNothing(t *testing.T) {
	deeds := manyDeeds(t)
	for _, n := range badNodes(t) {
		wantNodeOk(t, n, false)
		for _, d := range deeds {
			if after, sent, told := d.by(n); !sameNode(after, impl.Node{}) || len(sent)+len(told) > 0 {
				t.Fatalf("%v to do %v is %v, sends %v and tells %v", n, d, after, sent, told)
			}
		}
	}
}

// wantActs wants of a deed this node, messages with these texts, and these answers.
func wantActs(t *testing.T, n impl.Node, d deed, want impl.Node, sent []string, told ...impl.Told) {
	t.Helper()
	after, gotSent, gotTold := wantDeed(t, n, d)
	var texts []string
	for _, m := range gotSent {
		texts = append(texts, impl.MsgText(m))
	}
	if !sameNode(after, want) || !slices.Equal(texts, sent) || !slices.Equal(gotTold, told) {
		t.Errorf("%v\nto do %v\nis %v\nnot %v,\nand sends %q\nnot %q,\nand tells %v\nnot %v", n, d, after, want, texts, sent, gotTold, told)
	}
}

// wantIdle wants that nothing comes of a deed.
func wantIdle(t *testing.T, n impl.Node, d deed) {
	t.Helper()
	wantActs(t, n, d, n, nil)
}

// following is the node as it follows.
func following(n impl.Node) impl.Node {
	n.Phase, n.Bal, n.From, n.Best, n.Cur, n.Votes = 0, 0, nil, nil, impl.Entry{}, nil
	return n
}

// proposing is node 1 as it asks for an entry at the place behind all that it knows.
func proposing(n impl.Node, e impl.Entry) impl.Node {
	n.Acc = voted(n.Acc, n.Bal, len(n.Known), e)
	n.Phase, n.From, n.Cur, n.Votes = impl.NodeAsks, nil, e, []bool{false, true, false}
	return n
}

// knowing is a node that knows more.
func knowing(n impl.Node, more ...impl.Entry) impl.Node {
	n.Known = append(slices.Clone(n.Known), more...)
	return n
}

// idle is a node that is Busy no more.
func idle(n impl.Node) impl.Node {
	n.Busy, n.Prog, n.Want = false, nil, impl.Entry{}
	return n
}

// The entries that come most often below, as texts: what otherEntry is, and what a node 1 wants that is asked for its request 6 with the program "load 0 2,put 1 0".
const (
	otherText = "2.900{?1/19!2=204}204:0"
	wantProg  = "load 0 2,put 1 0"
	wantText  = "1.6{?2/3!1=12}12:0"
)

func TestNodeAsk(t *testing.T) {
	n := someNode(impl.NodeFollows)
	wantActs(t, n, asks(progOf(t, wantProg)), busy(t, n, wantProg), []string{"ask 1 0 0 0 " + wantText, "ask 1 2 0 0 " + wantText})
	n = someNode(impl.NodePrepares)
	wantActs(t, n, asks(progOf(t, wantProg)), busy(t, n, wantProg), nil)
	n = someNode(impl.NodeLeads)
	asked := busy(t, n, wantProg)
	wantActs(t, n, asks(progOf(t, wantProg)), proposing(asked, asked.Want), []string{"accept 1 0 7 3 " + wantText, "accept 1 2 7 3 " + wantText})
	n = someNode(impl.NodeAsks)
	wantActs(t, n, asks(progOf(t, wantProg)), busy(t, n, wantProg), nil)
	// A run that fails is asked for, too, and so is the empty program.
	n = impl.NodeOpen(2)
	wantActs(t, n, asks(progOf(t, "load 0 3,fail")), busy(t, n, "load 0 3,fail"), []string{"ask 2 0 0 0 2.1{?3/0}0:1", "ask 2 1 0 0 2.1{?3/0}0:1"})
	wantActs(t, n, asks(nil), busy(t, n, ""), []string{"ask 2 0 0 0 2.1{}0:0", "ask 2 1 0 0 2.1{}0:0"})
	wantActs(t, n, asks(progOf(t, "num 0 1000000,add 0 0")), busy(t, n, "num 0 1000000,add 0 0"), []string{"ask 2 0 0 0 2.1{}0:2", "ask 2 1 0 0 2.1{}0:2"})
}

func TestNodeAskThatMayNotBe(t *testing.T) {
	for _, phase := range phases {
		n := someNode(phase)
		for _, prog := range badProgs() {
			wantIdle(t, n, asks(prog))
		}
		for _, text := range []string{"", wantProg, "fail"} {
			wantIdle(t, busy(t, n, text), asks(progOf(t, wantProg)))
			wantIdle(t, with(n, func(n *impl.Node) { n.Seq = 1000 }), asks(progOf(t, text)))
		}
		last := with(n, func(n *impl.Node) { n.Seq = 999 })
		if after, _, _ := wantDeed(t, last, asks(nil)); after.Seq != 1000 || !after.Busy {
			t.Errorf("of request 1000 it is %v", after)
		}
	}
}

// A list that is full takes nothing more, but a node may be asked all the same.
func TestNodeAskWithAFullList(t *testing.T) {
	n := with(someNode(impl.NodeLeads), func(n *impl.Node) { n.Known = countUp(40) })
	wantActs(t, n, asks(progOf(t, wantProg)), busy(t, n, wantProg), nil)
	n = following(n)
	wantActs(t, n, asks(progOf(t, wantProg)), busy(t, n, wantProg), []string{"ask 1 0 0 0 1.6{?2/40!1=49}49:0", "ask 1 2 0 0 1.6{?2/40!1=49}49:0"})
}

func TestNodeRise(t *testing.T) {
	for _, phase := range phases {
		n := with(busy(t, someNode(phase), wantProg), func(n *impl.Node) { n.Queue = countUp(2) })
		if phase != impl.NodeFollows {
			n.Best = votesIn(1, 1, 1, 1)
		}
		want := following(n)
		want.Phase, want.Bal, want.From, want.Best = impl.NodePrepares, 10, []bool{false, true, false}, n.Acc.Votes
		want.Acc.Promised = 10
		wantActs(t, n, rises, want, []string{"prepare 1 0 10 3", "prepare 1 2 10 3"})
	}
	wantActs(t, impl.NodeOpen(0), rises, impl.Node{Acc: impl.Acc{Promised: 3}, Phase: impl.NodePrepares, Bal: 3, From: []bool{true, false, false}}, []string{"prepare 0 1 3 0", "prepare 0 2 3 0"})
	full := impl.Node{Id: 2, Acc: impl.Acc{Promised: 2}, Known: countUp(40)}
	if _, sent, _ := wantDeed(t, full, rises); len(sent) != 2 || impl.MsgText(sent[1]) != "prepare 2 1 5 40" {
		t.Error(sent)
	}
}

func TestNodeRiseWithoutABallot(t *testing.T) {
	for id, last := range []int{3000, 2998, 2999} {
		for _, phase := range phases {
			n := with(someNode(phase), func(n *impl.Node) {
				n.Id, n.Acc.Promised = id, last
				if phase != impl.NodeFollows {
					n.Bal = 3 + id
				}
				if phase == impl.NodePrepares {
					n.From = []bool{true, true, true}
				}
				if phase == impl.NodeAsks {
					n.Votes = []bool{true, true, true}
				}
			})
			wantNodeOk(t, n, true)
			wantIdle(t, n, rises)
			n.Acc.Promised--
			if after, _, _ := wantDeed(t, n, rises); after.Bal != last || after.Acc.Promised != last || after.Phase != impl.NodePrepares {
				t.Errorf("it rises in %d: %v", last, after)
			}
		}
	}
}

// What it proposes, by what it has: the entry that may have been agreed on, None ahead of one, what it wants, and what others want.
func TestWhatANodeProposes(t *testing.T) {
	n := someNode(impl.NodeLeads)
	wantIdle := func(n impl.Node) {
		t.Helper()
		wantActs(t, n, retries, n, []string{"need 1 0 0 3", "need 1 2 0 3"})
	}
	propose := func(n impl.Node, want impl.Node, e impl.Entry, text string) {
		t.Helper()
		wantActs(t, n, retries, proposing(want, e), []string{"need 1 0 0 3", "need 1 2 0 3", "accept 1 0 7 3 " + text, "accept 1 2 7 3 " + text})
	}
	wantIdle(n)
	wanting := with(busy(t, n, wantProg), func(n *impl.Node) { n.Queue = []impl.Entry{otherEntry()} })
	for _, e := range []impl.Entry{noneEntry(), entryWith(1, 2, freshRun()), otherEntry(), entryWith(0, 1, staleRun())} {
		for _, n := range []impl.Node{n, wanting} {
			at := with(n, func(n *impl.Node) {
				n.Best = append(votesIn(9, 9, 9), impl.Vote{Bal: 2, Entry: e}, impl.Vote{Bal: 8, Entry: noneEntry()})
			})
			propose(at, at, e, impl.MsgEntry(e))
			above := with(n, func(n *impl.Node) { n.Best = append(votesIn(9, 9, 9, 0, 0), impl.Vote{Bal: 2, Entry: e}, impl.Vote{}) })
			propose(above, above, noneEntry(), "none")
		}
	}
	// Votes at places that it knows, and places without votes, say nothing.
	for _, best := range [][]impl.Vote{nil, votesIn(9, 9, 9), votesIn(9, 9, 9, 0), make([]impl.Vote, 40)} {
		plain, full := with(n, func(n *impl.Node) { n.Best = best }), with(wanting, func(n *impl.Node) { n.Best = best })
		wantIdle(plain)
		propose(full, full, full.Want, wantText)
		queued := with(plain, func(n *impl.Node) { n.Queue = []impl.Entry{otherEntry(), entryWith(0, 6, freshRun())} })
		propose(queued, with(queued, func(n *impl.Node) { n.Queue = n.Queue[1:] }), otherEntry(), otherText)
	}
}

// Entries of Queue that have come to their end are gone as one behind them is looked for, and not as something else is proposed.
func TestWhatANodeProposesFromQueue(t *testing.T) {
	n, ended := someNode(impl.NodeLeads), entryWith(2, 3, freshRun())
	after := func(n impl.Node, left ...impl.Entry) impl.Node { return with(n, func(n *impl.Node) { n.Queue = left }) }
	queue := func(list ...impl.Entry) impl.Node { return after(n, list...) }
	needs := []string{"need 1 0 0 3", "need 1 2 0 3"}
	accepts := append(slices.Clone(needs), "accept 1 0 7 3 "+otherText, "accept 1 2 7 3 "+otherText)
	next := entryWith(0, 700, freshRun())
	for _, c := range []struct {
		queue []impl.Entry
		left  []impl.Entry
		found bool
	}{
		{[]impl.Entry{ended}, nil, false},
		{[]impl.Entry{ended, entryWith(0, 1, staleRun()), ended, ended}, nil, false},
		{[]impl.Entry{otherEntry()}, nil, true},
		{[]impl.Entry{ended, otherEntry()}, nil, true},
		{[]impl.Entry{ended, ended, otherEntry(), next}, []impl.Entry{next}, true},
		{[]impl.Entry{otherEntry(), ended, otherEntry()}, []impl.Entry{ended, otherEntry()}, true},
	} {
		if c.found {
			wantActs(t, queue(c.queue...), retries, proposing(after(n, c.left...), otherEntry()), accepts)
		} else {
			wantActs(t, queue(c.queue...), retries, after(n, c.left...), needs)
		}
		// What it wants itself is ahead of these, as long as it has not come to its end.
		wanting := busy(t, queue(c.queue...), wantProg)
		wantActs(t, wanting, retries, proposing(wanting, wanting.Want), append(slices.Clone(needs), "accept 1 0 7 3 "+wantText, "accept 1 2 7 3 "+wantText))
		came := knowing(wanting, entryWith(1, 6, impl.Run{Val: 1}))
		if c.found {
			wantActs(t, came, retries, proposing(after(came, c.left...), otherEntry()), []string{"need 1 0 0 4", "need 1 2 0 4", "accept 1 0 7 4 " + otherText, "accept 1 2 7 4 " + otherText})
		} else {
			wantActs(t, came, retries, after(came), []string{"need 1 0 0 4", "need 1 2 0 4"})
		}
	}
}

func TestANodeProposesNothingMore(t *testing.T) {
	full := with(someNode(impl.NodeLeads), func(n *impl.Node) {
		n.Known, n.Queue, n.Best = countUp(40), []impl.Entry{otherEntry()}, votesIn(slices.Repeat([]int{7}, 40)...)
	})
	wantActs(t, full, retries, full, []string{"need 1 0 0 40", "need 1 2 0 40"})
	wantActs(t, busy(t, full, ""), retries, busy(t, full, ""), []string{"need 1 0 0 40", "need 1 2 0 40"})
	last := with(full, func(n *impl.Node) { n.Known = countUp(39) })
	e := full.Best[39].Entry
	wantActs(t, last, retries, proposing(last, e), []string{"need 1 0 0 39", "need 1 2 0 39", "accept 1 0 7 39 " + impl.MsgEntry(e), "accept 1 2 7 39 " + impl.MsgEntry(e)})
	// A vote that may not be: its ballot is below what it promised. What it took from Queue is gone.
	above := with(someNode(impl.NodeLeads), func(n *impl.Node) {
		n.Acc.Promised, n.Queue = 8, []impl.Entry{entryWith(0, 1, impl.Run{}), otherEntry(), otherEntry()}
	})
	wantActs(t, above, retries, with(following(above), func(n *impl.Node) { n.Queue = n.Queue[2:] }), []string{"need 1 0 0 3", "need 1 2 0 3"})
	above = busy(t, above, wantProg)
	wantActs(t, above, retries, following(above), []string{"need 1 0 0 3", "need 1 2 0 3"})
	above = idle(above)
	above.Seq = 5
	wantActs(t, above, asks(progOf(t, wantProg)), following(busy(t, above, wantProg)), nil)
	above.Best = votesIn(0, 0, 0, 0, 0, 5)
	wantActs(t, above, asks(progOf(t, wantProg)), following(busy(t, above, wantProg)), nil)
}

// to1 is a message from node 0 to node 1.
func to1(kind int, bal int, slot int, e impl.Entry, votes ...impl.Vote) deed {
	return takes(impl.Msg{Kind: kind, To: 1, Bal: bal, Slot: slot, Entry: e, Votes: votes})
}

func TestNodeTakeOfWhatIsNotForIt(t *testing.T) {
	for _, phase := range phases {
		n := busy(t, someNode(phase), wantProg)
		for _, d := range manyDeeds(t) {
			if d.name != "take" {
				continue
			}
			for _, turn := range []func(*impl.Msg){
				func(m *impl.Msg) { m.To = 2 }, func(m *impl.Msg) { m.From, m.To = 1, 0 }, func(m *impl.Msg) { m.To = 0 }, func(m *impl.Msg) { m.From = 1 }, func(m *impl.Msg) { m.From = 3 }, func(m *impl.Msg) { m.From = -1 }, func(m *impl.Msg) { m.To = -1 },
				func(m *impl.Msg) { m.Kind = 0 }, func(m *impl.Msg) { m.Kind = 9 }, func(m *impl.Msg) { m.Bal = 3001 }, func(m *impl.Msg) { m.Bal = -1 }, func(m *impl.Msg) { m.Slot = 41 }, func(m *impl.Msg) { m.Slot = -1 },
				func(m *impl.Msg) { m.Entry.Run.Val = 1000001 }, func(m *impl.Msg) { m.Votes = []impl.Vote{{Bal: 1}} },
			} {
				m := cloneMsg(d.msg)
				turn(&m)
				wantIdle(t, n, takes(m))
			}
		}
		wantIdle(t, n, takes(impl.Msg{}))
	}
}

func TestNodeTakeOfPrepare(t *testing.T) {
	for _, phase := range phases {
		n := with(busy(t, someNode(phase), wantProg), func(n *impl.Node) { n.Acc.Votes, n.Queue = votesIn(4, 0, 6, 7), countUp(1) })
		for _, bal := range []int{1, 4, 6} {
			wantActs(t, n, to1(impl.MsgPrepare, bal, 0, impl.Entry{}), n, []string{"refuse 1 0 7 0"})
		}
		// Of the very ballot that was promised, which is its own one here, it promises again and goes on.
		wantActs(t, n, to1(impl.MsgPrepare, 7, 3, impl.Entry{}), n, []string{"promise 1 0 7 3 7" + impl.MsgEntry(n.Acc.Votes[3].Entry)})
		for _, bal := range []int{8, 9, 10, 3000} {
			want := following(n)
			want.Acc.Promised = bal
			text := impl.MsgText(impl.Msg{Kind: impl.MsgPromise, From: 1, Bal: bal, Slot: 1, Votes: n.Acc.Votes[1:]})
			wantActs(t, n, to1(impl.MsgPrepare, bal, 1, impl.Entry{}), want, []string{text})
		}
	}
	// A node that promised more than its own ballot yields to what it promised.
	n := with(someNode(impl.NodeLeads), func(n *impl.Node) { n.Bal = 4 })
	wantActs(t, n, to1(impl.MsgPrepare, 7, 3, impl.Entry{}), following(n), []string{"promise 1 0 7 3"})
}

func TestNodeTakeOfPrepareFromAPlaceOn(t *testing.T) {
	n := impl.Node{Id: 1, Acc: impl.Acc{Promised: 2, Votes: votesIn(1, 0, 2, 0)}}
	one := impl.MsgEntry(n.Acc.Votes[0].Entry)
	for slot, votes := range []string{" 1" + one + " 0 2none 0", " 0 2none 0", " 2none 0", " 0", "", ""} {
		m := impl.Msg{Kind: impl.MsgPrepare, From: 2, To: 1, Bal: 2, Slot: slot}
		wantActs(t, n, takes(m), n, []string{"promise 1 2 2 " + strconv.Itoa(slot) + votes})
	}
	wantActs(t, n, takes(impl.Msg{Kind: impl.MsgPrepare, From: 2, To: 1, Bal: 2, Slot: 40}), n, []string{"promise 1 2 2 40"})
	full := impl.Node{Id: 1, Acc: impl.Acc{Promised: 2, Votes: make([]impl.Vote, 40)}}
	for _, slot := range []int{0, 39, 40} {
		_, sent, _ := wantDeed(t, full, takes(impl.Msg{Kind: impl.MsgPrepare, From: 2, To: 1, Bal: 3, Slot: slot}))
		if len(sent) != 1 || len(sent[0].Votes) != 40-slot {
			t.Errorf("from %d on it sends %v", slot, sent)
		}
	}
}

func TestNodeTakeOfPromise(t *testing.T) {
	for _, phase := range phases {
		if phase != impl.NodePrepares {
			wantIdle(t, busy(t, someNode(phase), wantProg), to1(impl.MsgPromise, 7, 3, impl.Entry{}, votesIn(5)...))
		}
	}
	n := someNode(impl.NodePrepares)
	for _, bal := range []int{1, 4, 6, 8, 10} {
		wantIdle(t, n, to1(impl.MsgPromise, bal, 3, impl.Entry{}, votesIn(5)...))
	}
	// One more node is enough, whichever it is, and with nothing to ask for it leads.
	leads := with(n, func(n *impl.Node) { n.Phase, n.From = impl.NodeLeads, nil })
	for _, from := range []int{0, 2} {
		wantActs(t, n, takes(impl.Msg{Kind: impl.MsgPromise, From: from, To: 1, Bal: 7}), leads, nil)
	}
	// The same promise again finds it leading.
	wantIdle(t, leads, to1(impl.MsgPromise, 7, 0, impl.Entry{}))
	// With something to ask for it asks at once, for what it wants ahead of what others want.
	queued := with(n, func(n *impl.Node) { n.Queue = []impl.Entry{otherEntry()} })
	wantActs(t, queued, to1(impl.MsgPromise, 7, 0, impl.Entry{}), with(proposing(queued, otherEntry()), func(n *impl.Node) { n.Queue = nil }), []string{"accept 1 0 7 3 " + otherText, "accept 1 2 7 3 " + otherText})
	wanting := busy(t, queued, wantProg)
	wantActs(t, wanting, to1(impl.MsgPromise, 7, 0, impl.Entry{}), proposing(wanting, wanting.Want), []string{"accept 1 0 7 3 " + wantText, "accept 1 2 7 3 " + wantText})
	// One that promised more in the meantime is refused by itself, and follows.
	above := with(queued, func(n *impl.Node) { n.Acc.Promised = 8 })
	wantActs(t, above, to1(impl.MsgPromise, 7, 0, impl.Entry{}), with(following(above), func(n *impl.Node) { n.Queue = nil }), nil)
}

// Votes of others are taken up, each at its place, where they are in a greater ballot than those that it knows.
func TestNodeTakeOfPromiseWithVotes(t *testing.T) {
	n := busy(t, with(someNode(impl.NodePrepares), func(n *impl.Node) {
		n.Acc.Votes = votesIn(4, 5, 7, 4)
		n.Best = n.Acc.Votes
	}), wantProg)
	own, mine := n.Best[3].Entry, impl.MsgEntry(n.Best[3].Entry)
	vote := func(bal int) impl.Vote { return impl.Vote{Bal: bal, Entry: otherEntry()} }
	for _, c := range []struct {
		slot  int
		votes []impl.Vote
		best  []impl.Vote
		e     impl.Entry
		text  string
	}{
		{3, nil, n.Best, own, mine},
		{3, []impl.Vote{{}}, n.Best, own, mine},
		{3, []impl.Vote{vote(3)}, n.Best, own, mine},
		{3, []impl.Vote{vote(4)}, n.Best, own, mine}, // of equal ballots its own is as good
		{3, []impl.Vote{vote(5)}, append(cloneVotes(n.Best[:3]), vote(5)), otherEntry(), otherText},
		{3, []impl.Vote{vote(3000)}, append(cloneVotes(n.Best[:3]), vote(3000)), otherEntry(), otherText},
		{2, []impl.Vote{vote(5), vote(6), {}, vote(1)}, append(cloneVotes(n.Best[:3]), vote(6), impl.Vote{}, vote(1)), otherEntry(), otherText},
		{5, []impl.Vote{vote(2)}, append(cloneVotes(n.Best), impl.Vote{}, vote(2)), own, mine},
		{0, []impl.Vote{vote(9), {}, {}, {}, vote(2)}, append(append([]impl.Vote{vote(9)}, n.Best[1:]...), vote(2)), own, mine},
	} {
		want := with(n, func(n *impl.Node) { n.Best = c.best })
		wantActs(t, n, to1(impl.MsgPromise, 7, c.slot, impl.Entry{}, c.votes...), proposing(want, c.e), []string{"accept 1 0 7 3 " + c.text, "accept 1 2 7 3 " + c.text})
	}
	// Where it has no vote itself, but there is one at a greater place: None comes first.
	n.Best = votesIn(4, 5, 7)
	want := with(n, func(n *impl.Node) { n.Best = append(votesIn(4, 5, 7, 0, 0), vote(2)) })
	wantActs(t, n, to1(impl.MsgPromise, 7, 5, impl.Entry{}, vote(2)), proposing(want, noneEntry()), []string{"accept 1 0 7 3 none", "accept 1 2 7 3 none"})
}

func TestNodeTakeOfAccept(t *testing.T) {
	e, text := entryWith(0, 700, freshRun()), "accepted 1 0 "
	for _, phase := range phases {
		n := with(busy(t, someNode(phase), wantProg), func(n *impl.Node) { n.Queue = countUp(1) })
		for _, bal := range []int{1, 4, 6} {
			wantActs(t, n, to1(impl.MsgAccept, bal, 3, e), n, []string{"refuse 1 0 7 0"})
		}
		// In the very ballot that was promised, its own one, it votes and does not yield.
		same := n
		same.Acc = voted(n.Acc, 7, 3, e)
		wantActs(t, n, to1(impl.MsgAccept, 7, 3, e), same, []string{text + "7 3"})
		for _, bal := range []int{8, 10, 3000} {
			for _, slot := range []int{0, 3, 4, 39} {
				for _, e := range []impl.Entry{e, noneEntry()} {
					want := following(n)
					want.Acc = voted(n.Acc, bal, slot, e)
					m := impl.Msg{Kind: impl.MsgAccepted, From: 1, Bal: bal, Slot: slot}
					wantActs(t, n, to1(impl.MsgAccept, bal, slot, e), want, []string{impl.MsgText(m)})
				}
			}
		}
	}
}

func TestNodeTakeOfAccepted(t *testing.T) {
	for _, phase := range phases[:3] {
		wantIdle(t, busy(t, someNode(phase), wantProg), to1(impl.MsgAccepted, 7, 3, impl.Entry{}))
	}
	n := someNode(impl.NodeAsks)
	for _, bal := range []int{1, 4, 6, 8, 10} {
		wantIdle(t, n, to1(impl.MsgAccepted, bal, 3, impl.Entry{}))
	}
	for _, slot := range []int{0, 2, 4, 40} {
		wantIdle(t, n, to1(impl.MsgAccepted, 7, slot, impl.Entry{}))
	}
	chosen := []string{"chosen 1 0 0 3 " + otherText, "chosen 1 2 0 3 " + otherText}
	leads := with(knowing(n, otherEntry()), func(n *impl.Node) { n.Phase, n.Cur, n.Votes = impl.NodeLeads, impl.Entry{}, nil })
	for _, from := range []int{0, 2} {
		wantActs(t, n, takes(impl.Msg{Kind: impl.MsgAccepted, From: from, To: 1, Bal: 7, Slot: 3}), leads, chosen)
		// The same one again is of a place that it knows then.
		wantIdle(t, leads, takes(impl.Msg{Kind: impl.MsgAccepted, From: from, To: 1, Bal: 7, Slot: 3}))
	}
	// What it proposes behind that is sent behind that; again, the same one is of the place ahead.
	wanting := busy(t, n, wantProg)
	next := proposing(knowing(wanting, otherEntry()), wanting.Want)
	wantActs(t, wanting, to1(impl.MsgAccepted, 7, 3, impl.Entry{}), next, append(chosen, "accept 1 0 7 4 "+wantText, "accept 1 2 7 4 "+wantText))
	wantIdle(t, next, to1(impl.MsgAccepted, 7, 3, impl.Entry{}))
	// The place may be the last.
	last := with(n, func(n *impl.Node) { n.Known = countUp(39) })
	if after, sent, _ := wantDeed(t, busy(t, last, ""), to1(impl.MsgAccepted, 7, 39, impl.Entry{})); len(after.Known) != 40 || after.Phase != impl.NodeLeads || len(sent) != 2 {
		t.Errorf("it is %v, and sends %v", after, sent)
	}
	// A node that promised more goes on up to its next vote.
	above := with(wanting, func(n *impl.Node) { n.Acc.Promised = 9 })
	wantActs(t, above, to1(impl.MsgAccepted, 7, 3, impl.Entry{}), following(knowing(above, otherEntry())), chosen)
}

// Its own request is answered by what the list says.
func TestANodeAnswersItsOwnRequest(t *testing.T) {
	for _, c := range []struct {
		text string
		told impl.Told
	}{
		{wantProg, impl.Told{Node: 1, Req: impl.Req{Who: 1, Seq: 6}, Code: impl.CertDone, Val: 12}},
		{"num 0 -3", impl.Told{Node: 1, Req: impl.Req{Who: 1, Seq: 6}, Code: impl.CertDone, Val: -3}},
		{"load 0 2,fail", impl.Told{Node: 1, Req: impl.Req{Who: 1, Seq: 6}, Code: impl.CertFailed}},
	} {
		n := busy(t, someNode(impl.NodeLeads), c.text)
		asked, _, _ := wantDeed(t, n, retries)
		if asked.Phase != impl.NodeAsks || !sameEntry(asked.Cur, n.Want) {
			t.Fatalf("%v does not ask", asked)
		}
		leads := with(idle(knowing(n, n.Want)), func(done *impl.Node) { done.Acc = asked.Acc })
		text := impl.MsgEntry(n.Want)
		wantActs(t, asked, to1(impl.MsgAccepted, 7, 3, impl.Entry{}), leads, []string{"chosen 1 0 0 3 " + text, "chosen 1 2 0 3 " + text}, c.told)
		// Others' entries come behind.
		asked.Queue = []impl.Entry{otherEntry()}
		after, sent, told := wantDeed(t, asked, to1(impl.MsgAccepted, 7, 3, impl.Entry{}))
		if !slices.Equal(told, []impl.Told{c.told}) || after.Phase != impl.NodeAsks || len(sent) != 4 || impl.MsgText(sent[3]) != "accept 1 2 7 4 "+otherText {
			t.Errorf("it is %v, sends %v and tells %v", after, sent, told)
		}
	}
}

// An entry of oneself that another one proposed is answered at any phase, also with another run than one wants; so is one that came to its end before.
func TestANodeAnswersWhatAnotherOneProposed(t *testing.T) {
	req := impl.Req{Who: 1, Seq: 6}
	seen := impl.Run{Reads: []impl.Read{{Box: 2, Ver: 2}}, Val: 8}
	for _, phase := range phases {
		n := busy(t, someNode(phase), wantProg)
		for _, c := range []struct {
			e    impl.Entry
			told impl.Told
		}{
			{n.Want, impl.Told{Node: 1, Req: req, Code: impl.CertDone, Val: 12}},
			{impl.Entry{Req: req, Run: impl.Run{Val: 3}}, impl.Told{Node: 1, Req: req, Code: impl.CertDone, Val: 3}},
			{impl.Entry{Req: req, Run: seen}, impl.Told{Node: 1, Req: req, Code: impl.CertStale}},
			{impl.Entry{Req: req, Run: impl.Run{Code: impl.ExecFails}}, impl.Told{Node: 1, Req: req, Code: impl.CertFailed}},
		} {
			want := idle(knowing(n, c.e))
			if phase == impl.NodeAsks {
				want.Phase, want.Cur, want.Votes = impl.NodeLeads, impl.Entry{}, nil
			}
			wantActs(t, n, to1(impl.MsgChosen, 0, 3, c.e), want, nil, c.told)
		}
		// Of one that has a later request in the list, or was done already, the first entry says how it ended.
		for _, known := range []struct {
			list []impl.Entry
			told impl.Told
		}{
			{[]impl.Entry{entryWith(1, 7, impl.Run{})}, impl.Told{Node: 1, Req: req, Code: impl.CertOld}},
			{[]impl.Entry{{Req: req, Run: impl.Run{Val: 5}}}, impl.Told{Node: 1, Req: req, Code: impl.CertDone, Val: 5}},
			{[]impl.Entry{{Req: req, Run: seen}, entryWith(1, 7, impl.Run{})}, impl.Told{Node: 1, Req: req, Code: impl.CertStale}},
		} {
			old := knowing(n, known.list...)
			want := idle(knowing(old, n.Want))
			if phase == impl.NodeAsks {
				want.Phase, want.Cur, want.Votes = impl.NodeLeads, impl.Entry{}, nil
			}
			wantActs(t, old, to1(impl.MsgChosen, 0, len(old.Known), n.Want), want, nil, known.told)
		}
	}
}

func TestNodeTakeOfChosen(t *testing.T) {
	for _, phase := range phases {
		n := with(busy(t, someNode(phase), wantProg), func(n *impl.Node) { n.Queue = countUp(1) })
		for slot := range 3 {
			wantIdle(t, n, to1(impl.MsgChosen, 0, slot, otherEntry()))
		}
		for _, slot := range []int{4, 5, 39} {
			wantActs(t, n, to1(impl.MsgChosen, 0, slot, otherEntry()), n, []string{"need 1 0 0 3"})
		}
		for _, e := range []impl.Entry{otherEntry(), noneEntry(), entryWith(1, 5, impl.Run{})} {
			want, sent := knowing(n, e), []string(nil)
			if phase == impl.NodeLeads || phase == impl.NodeAsks {
				want, sent = proposing(want, n.Want), []string{"accept 1 0 7 4 " + wantText, "accept 1 2 7 4 " + wantText}
			}
			wantActs(t, n, to1(impl.MsgChosen, 0, 3, e), want, sent)
		}
		// One that follows, or is to lead, keeps what it has of that.
		if phase < impl.NodeLeads {
			full := with(n, func(n *impl.Node) { n.Known = countUp(39) })
			wantActs(t, full, to1(impl.MsgChosen, 0, 39, otherEntry()), knowing(full, otherEntry()), nil)
			wantIdle(t, knowing(full, otherEntry()), to1(impl.MsgChosen, 0, 39, otherEntry()))
		}
	}
}

func TestNodeTakeOfRefuse(t *testing.T) {
	for _, phase := range phases {
		n := with(busy(t, someNode(phase), wantProg), func(n *impl.Node) { n.Queue = countUp(1) })
		for _, bal := range []int{1, 6, 7} {
			wantIdle(t, n, to1(impl.MsgRefuse, bal, 0, impl.Entry{}))
		}
		for _, bal := range []int{8, 9, 10, 3000} {
			want := following(n)
			want.Acc.Promised = bal
			wantActs(t, n, to1(impl.MsgRefuse, bal, 0, impl.Entry{}), want, nil)
		}
		// Below what it promised, but above its own ballot: the promise stands, and it yields.
		if phase != impl.NodeFollows {
			low := with(n, func(n *impl.Node) { n.Bal = 4 })
			wantActs(t, low, to1(impl.MsgRefuse, 5, 0, impl.Entry{}), following(low), nil)
			wantIdle(t, low, to1(impl.MsgRefuse, 4, 0, impl.Entry{}))
		}
	}
}

func TestNodeTakeOfAsk(t *testing.T) {
	ask := to1(impl.MsgAsk, 0, 0, otherEntry())
	wantIdle(t, someNode(impl.NodeFollows), ask)
	wantIdle(t, with(someNode(impl.NodeFollows), func(n *impl.Node) { n.Queue = countUp(2) }), ask)
	queued := func(n impl.Node, e impl.Entry) impl.Node {
		return with(n, func(n *impl.Node) { n.Queue = append(n.Queue, e) })
	}
	for _, phase := range []int{impl.NodePrepares, impl.NodeAsks} {
		n := someNode(phase)
		for range 4 {
			wantActs(t, n, ask, queued(n, otherEntry()), nil)
			n = queued(n, otherEntry())
		}
		wantIdle(t, n, ask)
	}
	n := someNode(impl.NodeLeads)
	wantActs(t, n, ask, proposing(n, otherEntry()), []string{"accept 1 0 7 3 " + otherText, "accept 1 2 7 3 " + otherText})
	// What it wants comes first, and a vote that may not be leaves what is behind.
	wanting := busy(t, n, wantProg)
	wantActs(t, wanting, ask, proposing(queued(wanting, otherEntry()), wanting.Want), []string{"accept 1 0 7 3 " + wantText, "accept 1 2 7 3 " + wantText})
	above := with(wanting, func(n *impl.Node) { n.Acc.Promised = 8 })
	wantActs(t, above, ask, following(queued(above, otherEntry())), nil)
	for _, phase := range phases {
		full := with(someNode(phase), func(n *impl.Node) { n.Queue = slices.Repeat([]impl.Entry{entryWith(0, 9, impl.Run{})}, 4) })
		wantIdle(t, full, ask)
		for _, e := range countUp(3) {
			wantIdle(t, someNode(phase), to1(impl.MsgAsk, 0, 0, e))
			wantIdle(t, someNode(phase), to1(impl.MsgAsk, 0, 0, impl.Entry{Req: e.Req, Run: staleRun()}))
		}
	}
	// A list that is full has no place for it, but it is kept in Queue.
	end := with(n, func(n *impl.Node) { n.Known = countUp(40) })
	wantActs(t, end, ask, queued(end, otherEntry()), nil)
}

func TestNodeTakeOfNeed(t *testing.T) {
	known := countUp(5)
	for _, phase := range phases {
		n := with(busy(t, someNode(phase), wantProg), func(n *impl.Node) { n.Known = known })
		for _, from := range []int{0, 2} {
			for slot := range 42 {
				var want []string
				for place := slot; place < 5; place++ {
					want = append(want, impl.MsgText(impl.Msg{Kind: impl.MsgChosen, From: 1, To: from, Slot: place, Entry: known[place]}))
				}
				wantActs(t, n, takes(impl.Msg{Kind: impl.MsgNeed, From: from, To: 1, Slot: slot}), n, want)
			}
		}
	}
	full := impl.Node{Id: 1, Known: countUp(40)}
	if _, sent, _ := wantDeed(t, full, to1(impl.MsgNeed, 0, 0, impl.Entry{})); len(sent) != 40 || sent[39].Slot != 39 {
		t.Errorf("%d messages are sent", len(sent))
	}
	wantIdle(t, impl.NodeOpen(1), to1(impl.MsgNeed, 0, 0, impl.Entry{}))
}

func TestNodeRetry(t *testing.T) {
	needs := []string{"need 1 0 0 3", "need 1 2 0 3"}
	behind := func(texts ...string) []string { return append(slices.Clone(needs), texts...) }
	n := someNode(impl.NodeFollows)
	wantActs(t, n, retries, n, needs)
	wanting := busy(t, n, wantProg)
	wantActs(t, wanting, retries, wanting, behind("ask 1 0 0 0 "+wantText, "ask 1 2 0 0 "+wantText))
	n = someNode(impl.NodePrepares)
	for _, n := range []impl.Node{n, busy(t, n, wantProg)} {
		wantActs(t, n, retries, n, behind("prepare 1 0 7 3", "prepare 1 2 7 3"))
	}
	n = someNode(impl.NodeLeads)
	wantActs(t, n, retries, n, needs)
	wanting = busy(t, n, wantProg)
	wantActs(t, wanting, retries, proposing(wanting, wanting.Want), behind("accept 1 0 7 3 "+wantText, "accept 1 2 7 3 "+wantText))
	n = someNode(impl.NodeAsks)
	for _, n := range []impl.Node{n, busy(t, n, wantProg), with(n, func(n *impl.Node) { n.Queue = countUp(4) })} {
		wantActs(t, n, retries, n, behind("accept 1 0 7 3 "+otherText, "accept 1 2 7 3 "+otherText))
	}
	// How many Known has is told as it is now: there, and at the end of the list.
	end := with(someNode(impl.NodePrepares), func(n *impl.Node) { n.Known = countUp(40) })
	wantActs(t, end, retries, end, []string{"need 1 0 0 40", "need 1 2 0 40", "prepare 1 0 7 40", "prepare 1 2 7 40"})
	for id, texts := range [][]string{{"need 0 1 0 0", "need 0 2 0 0"}, {"need 1 0 0 0", "need 1 2 0 0"}, {"need 2 0 0 0", "need 2 1 0 0"}} {
		wantActs(t, impl.NodeOpen(id), retries, impl.NodeOpen(id), texts)
	}
}

func TestNodeFall(t *testing.T) {
	for _, phase := range phases {
		for _, n := range []impl.Node{someNode(phase), busy(t, someNode(phase), wantProg)} {
			n.Queue = countUp(4)
			if phase != impl.NodeFollows {
				n.Best = votesIn(0, 9)
			}
			want := impl.Node{Id: 1, Acc: n.Acc, Known: n.Known, Seq: n.Seq}
			wantActs(t, n, falls, want, nil)
			wantIdle(t, want, falls)
		}
	}
	wantIdle(t, impl.NodeOpen(2), falls)
}

// Two answers to the same share no memory, and what is written into an argument shows in none.
func TestNodeAnswersAreNewMemory(t *testing.T) {
	for _, phase := range phases {
		n := with(busy(t, someNode(phase), wantProg), func(n *impl.Node) { n.Queue = countUp(3) })
		if phase != impl.NodeFollows {
			n.Best = votesIn(1, 2, 3, 4, 5)
		}
		for _, n := range []impl.Node{n, idle(n)} {
			for _, d := range manyDeeds(t) {
				n, in := roomyCopy(n), d
				in.prog, in.msg = roomyCopy(d.prog), roomyCopy(d.msg)
				after, sent, told := in.by(n)
				again, sentAgain, toldAgain := in.by(n)
				wantApart(t, []any{&after, &sent, &told, &again, &sentAgain, &toldAgain}, []any{&n, &in.prog, &in.msg})
			}
		}
	}
	n := roomyCopy(someNode(impl.NodeFollows))
	first, second := impl.NodeState(n), impl.NodeState(n)
	wantApart(t, []any{&first, &second}, []any{&n})
}

func TestNodeArgumentsAreNotWritten(t *testing.T) {
	for _, n := range append(badNodes(t), someNode(0), someNode(1), someNode(2), someNode(3), impl.Node{}) {
		n := roomyCopy(n)
		was := wholeOf([]any{&n})
		impl.NodeOk(n)
		impl.NodeState(n)
		for _, d := range manyDeeds(t) {
			d.by(n)
		}
		if got := wholeOf([]any{&n}); !sameWhole(got, was) {
			t.Errorf("%v is written into", n)
		}
	}
}
