package tests

import (
	"slices"
	"testing"

	"loop.example/thingstead/impl"
)

func sameAsked(a impl.Asked, b impl.Asked) bool {
	return a.Req == b.Req && slices.Equal(a.Prog, b.Prog)
}

// sameWorld holds worlds against each other in all parts.
func sameWorld(a impl.World, b impl.World) bool {
	return slices.EqualFunc(a.Nodes, b.Nodes, sameNode) && slices.EqualFunc(a.Net, b.Net, sameMsg) && slices.EqualFunc(a.Asked, b.Asked, sameAsked) && slices.Equal(a.Told, b.Told)
}

func cloneWorld(w impl.World) impl.World {
	out := impl.World{Told: slices.Clone(w.Told)}
	for _, n := range w.Nodes {
		out.Nodes = append(out.Nodes, cloneNode(n))
	}
	for _, m := range w.Net {
		out.Net = append(out.Net, cloneMsg(m))
	}
	for _, one := range w.Asked {
		out.Asked = append(out.Asked, impl.Asked{Req: one.Req, Prog: slices.Clone(one.Prog)})
	}
	return out
}

// worldFits is another WorldOk.
func worldFits(w impl.World) bool {
	if len(w.Nodes) != 3 || len(w.Net) > 40 || len(w.Asked) > 60 || len(w.Told) > 60 {
		return false
	}
	request := func(req impl.Req) bool { return impl.CertEntry(impl.Entry{Req: req}) }
	for id, n := range w.Nodes {
		if n.Id != id || !nodeFits(n) {
			return false
		}
	}
	for _, one := range w.Asked {
		if !request(one.Req) || !impl.ProgOk(one.Prog) {
			return false
		}
	}
	for _, told := range w.Told {
		if !request(told.Req) || told.Node != told.Req.Who || told.Code < 0 || told.Code > 4 || told.Val < -1000000 || told.Val > 1000000 {
			return false
		}
	}
	return all(w.Net, fits)
}

// lettingDo is a world, in memory of its own, as one of its nodes does something, by the other node.
func lettingDo(w impl.World, id int, d deed) impl.World {
	after, sent, told := d.byFlat(w.Nodes[id])
	w.Nodes[id] = after
	for _, m := range sent {
		if len(w.Net) < 40 {
			w.Net = append(w.Net, m)
		}
	}
	for _, one := range told {
		if len(w.Told) < 60 {
			w.Told = append(w.Told, one)
		}
	}
	return w
}

// behind is a world behind an event as the document's words go: another WorldDo.
func behind(w impl.World, e impl.Event) impl.World {
	if !worldFits(w) {
		return impl.World{}
	}
	out := cloneWorld(w)
	isThere := 0 <= e.A && e.A < map[int]int{1: 3, 2: len(w.Net), 3: len(w.Net), 4: len(w.Net), 5: 3, 6: 3, 7: 3}[e.Kind]
	if !isThere {
		return out
	}
	switch e.Kind {
	case 1:
		if len(w.Asked) == 60 {
			return out
		}
		out = lettingDo(out, e.A, asks(e.Prog))
		if seq := out.Nodes[e.A].Seq; seq != w.Nodes[e.A].Seq {
			out.Asked = append(out.Asked, impl.Asked{Req: impl.Req{Who: e.A, Seq: seq}, Prog: e.Prog})
		}
	case 2:
		out.Net = slices.Delete(out.Net, e.A, e.A+1)
		out = lettingDo(out, w.Net[e.A].To, takes(w.Net[e.A]))
	case 3:
		out.Net = slices.Delete(out.Net, e.A, e.A+1)
	case 4:
		out.Net = append(out.Net, w.Net[e.A])[:min(40, len(w.Net)+1)]
	case 5:
		out = lettingDo(out, e.A, rises)
	case 6:
		out = lettingDo(out, e.A, retries)
	case 7:
		out = lettingDo(out, e.A, falls)
	}
	return out
}

// whereOf is the node at which an event happens; -1, if it happens at none.
func whereOf(w impl.World, e impl.Event) int {
	switch {
	case slices.Contains([]int{impl.EventAsks, impl.EventRises, impl.EventRetries, impl.EventFalls}, e.Kind):
		return e.A
	case e.Kind == impl.EventTakes && 0 <= e.A && e.A < len(w.Net):
		return w.Net[e.A].To
	}
	return -1
}

// wantBehind holds a world that is ok against what it was ahead of an event: it is ok still, and what happened at one node turned no other, nothing that was asked, and no answer.
func wantBehind(t *testing.T, w impl.World, e impl.Event, after impl.World) {
	t.Helper()
	if !impl.WorldOk(after) {
		t.Fatalf("%v\nbehind %v is %v,\nwhich is not ok", w, e, after)
	}
	where := whereOf(w, e)
	for id, n := range w.Nodes {
		if id == where {
			wantNothingBack(t, n, after.Nodes[id])
		} else if !sameNode(after.Nodes[id], n) {
			t.Fatalf("%v turns the node %d of %v: it is %v", e, id, w, after.Nodes[id])
		}
	}
	asked, told := len(w.Asked), len(w.Told)
	if len(after.Asked) < asked || !slices.EqualFunc(after.Asked[:asked], w.Asked, sameAsked) || len(after.Told) < told || !slices.Equal(after.Told[:told], w.Told) {
		t.Fatalf("%v is asked behind %v, and told %v; ahead of it there were %v and %v", after.Asked, e, after.Told, w.Asked, w.Told)
	}
}

// wantOnly wants of an event what the document's words say, and is what it is.
func wantOnly(t *testing.T, w impl.World, e impl.Event) impl.World {
	t.Helper()
	after := impl.WorldDo(w, e)
	if want := behind(w, e); !sameWorld(after, want) {
		t.Fatalf("%v\nbehind %v is %v,\nnot %v", w, e, after, want)
	}
	if worldFits(w) {
		wantBehind(t, w, e, after)
	}
	return after
}

// wantEvent wants besides that nothing is written into an argument or behind its end, that no two lists share memory, and that WorldPlay of the event alone does the same.
func wantEvent(t *testing.T, w impl.World, e impl.Event) impl.World {
	t.Helper()
	roomy, in := roomyCopy(w), roomyCopy(e)
	given := []any{&roomy, &in.Prog}
	was := wholeOf(given)
	after := impl.WorldDo(roomy, in)
	played := impl.WorldPlay(roomy, []impl.Event{in})
	if !sameWhole(wholeOf(given), was) {
		t.Errorf("%v is written into by %v", w, e)
	}
	wantApart(t, []any{&after, &played}, given)
	if !sameWorld(after, played) || !sameWorld(after, wantOnly(t, w, e)) {
		t.Errorf("%v\nbehind %v is %v,\nand played %v", w, e, after, played)
	}
	return after
}
