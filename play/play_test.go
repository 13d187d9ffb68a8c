package play_test

import (
	"reflect"
	"testing"

	"jotter/api"
	"jotter/desk"
	"jotter/play"
)

var g = api.Geometry{Blocks: 8, Pages: 4, Bytes: 32, Spares: 0, Trigger: 3}

func call(x api.Call) api.Event { return api.Event{Kind: api.EvCall, Call: x} }
func cut(op int) api.Event      { return api.Event{Kind: api.EvCut, Cut: api.Cut{Op: op, Bytes: 5}} }

var (
	boot = api.Event{Kind: api.EvBoot}
	sync = call(api.Call{Do: api.CallSync})
)

func book(name string) api.Event { return call(api.Call{Do: api.CallBook, Name: name}) }

// same holds two replies without sheets against each other.
func same(a, b api.Reply) bool {
	return a.Code == b.Code && a.N == b.N && len(a.Names) == len(b.Names) && len(a.Sheet) == len(b.Sheet) && (len(a.Items)+len(b.Items) == 0 || reflect.DeepEqual(a.Items, b.Items))
}

func step(t *testing.T, p *play.Play, e api.Event, want api.Reply) {
	t.Helper()
	if got := p.Step(e); !same(got, want) {
		t.Errorf("P22.1: Step(%+v): %+v, not %+v", e, got, want)
	}
}

func code(e api.Errno) api.Reply { return api.Reply{Code: e} }

func items(names ...string) api.Reply {
	r := api.Reply{}
	for i, name := range names {
		r.Items = append(r.Items, api.Item{ID: i + 1, Name: name})
	}
	return r
}

func TestP22_1New(t *testing.T) {
	p := play.New(g)
	if p == nil || p.Chip() == nil || p.Notes() == nil || p.Notes().Chip() != p.Chip() || p.Chip().Geometry() != g || !p.Chip().On() || !desk.Same(p.Notes().Desk(), desk.New(g)) {
		t.Fatal("P22.1: New")
	}
	if play.New(api.Geometry{}) != nil || play.New(g, api.Fault{Block: 8}) != nil || play.New(g, api.Fault{Block: 1}, api.Fault{Block: 1}) != nil {
		t.Error("P22.1: New of what may not be")
	}
	if p := play.New(g, api.Fault{Block: 3, Factory: true}); p == nil || !p.Chip().Bad(3) {
		t.Error("P22.1: New with a fault")
	}
	var none *play.Play
	if none.Notes() != nil || none.Chip() != nil {
		t.Error("R3: a nil one tells something")
	}
	for k := range 5 {
		step(t, none, api.Event{Kind: k}, code(api.ErrNil))
	}
}

func TestP22_1Step(t *testing.T) {
	p := play.New(g)
	step(t, p, boot, code(api.ErrTwice))
	first := p.Notes()
	step(t, p, book("a"), api.Reply{N: 1})
	step(t, p, sync, api.Reply{})
	step(t, p, book("b"), api.Reply{N: 2})
	for _, k := range []int{0, 4, -1, 1 << 62} {
		step(t, p, api.Event{Kind: k, Call: api.Call{Do: api.CallBook, Name: "c"}}, code(api.ErrArg))
	}
	step(t, p, cut(0), code(api.ErrArg))
	step(t, p, boot, code(api.ErrTwice))
	step(t, p, cut(1), code(api.OK))
	step(t, p, boot, code(api.ErrTwice))
	step(t, p, call(api.Call{Do: api.CallBooks}), items("a", "b"))
	step(t, p, sync, code(api.ErrOff))
	step(t, p, book("c"), code(api.ErrOff))
	step(t, p, cut(1), code(api.ErrOff))
	step(t, p, api.Event{Kind: 9}, code(api.ErrArg))
	if p.Notes() != first || p.Chip().On() || p.Chip().Cuts() != 1 {
		t.Error("P22.1: without power")
	}
	step(t, p, boot, code(api.OK))
	if p.Notes() == first || p.Notes().Chip() != p.Chip() {
		t.Error("P22.1: a Boot opens no notes")
	}
	step(t, p, call(api.Call{Do: api.CallBooks}), items("a"))
	step(t, p, boot, code(api.ErrTwice))
	step(t, p, sync, api.Reply{})
}

func TestP22_1Run(t *testing.T) {
	es := []api.Event{book("a"), sync, book("b"), cut(3), sync, book("c"), boot, call(api.Call{Do: api.CallBooks}), boot}
	want := []api.Reply{{N: 1}, {}, {N: 2}, {}, code(api.ErrOff), code(api.ErrOff), {}, items("a"), code(api.ErrTwice)}
	got := play.Run(g, nil, es...)
	if len(got) != len(want) {
		t.Fatalf("P22.1: Run: %+v", got)
	}
	for i, r := range got {
		if !same(r, want[i]) {
			t.Errorf("P22.1: Run, event %d: %+v, not %+v", i, r, want[i])
		}
	}
	p := play.New(g)
	for i, e := range es {
		if r := p.Step(e); !same(r, got[i]) {
			t.Errorf("P22.1: Step %d is not as in Run: %+v", i, r)
		}
	}
	if len(play.Run(g, nil)) != 0 || len(play.Run(api.Geometry{}, nil, es...)) != 0 || len(play.Run(g, []api.Fault{{Block: -1}}, es...)) != 0 {
		t.Error("P22.1: Run of nothing, or of what may not be")
	}
	many := make([]api.Event, 300)
	for i := range many {
		many[i] = call(api.Call{Do: api.CallStat})
	}
	for _, n := range []int{1, 199, 200, 201, 300} {
		if got := play.Run(g, nil, many[:n]...); len(got) != min(n, 200) {
			t.Errorf("P22.1: Run of %d events: %d", n, len(got))
		}
	}
}

func TestP22_1Faults(t *testing.T) {
	r := play.Run(g, []api.Fault{{Block: 0, Factory: true}}, book("a"), sync, sync, call(api.Call{Do: api.CallBooks}))
	if len(r) != 4 || r[1].Code != api.ErrDegraded && r[1].Code != api.ErrReadOnly || r[2].Code != api.ErrReadOnly || r[3].Code != api.OK {
		t.Errorf("P22.1: Run with a fault: %+v", r)
	}
}
