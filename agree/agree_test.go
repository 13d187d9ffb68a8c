package agree_test

import (
	"math/rand"
	"testing"

	"jotter/agree"
	"jotter/api"
	"jotter/desk"
	"jotter/play"
)

var g = api.Geometry{Blocks: 8, Pages: 4, Bytes: 32, Spares: 0, Trigger: 2}

func geometries() []api.Geometry {
	return []api.Geometry{g, {Blocks: 20, Pages: 8, Bytes: 64, Spares: 4, Trigger: 20}, {Blocks: 9, Pages: 5, Bytes: 24, Spares: 1, Trigger: 3}, {Blocks: 12, Pages: 6, Bytes: 48, Spares: 2, Trigger: 2}}
}

func call(x api.Call) api.Event { return api.Event{Kind: api.EvCall, Call: x} }

func sheet(ps ...complex128) api.Sheet { return api.Sheet{{Pen: 1, Width: 2, Points: ps}} }

func TestP24_1Same(t *testing.T) {
	full := func() api.Reply {
		return api.Reply{Code: 1, N: 2, Items: []api.Item{{ID: 1, Name: "a"}, {ID: 2}}, Names: []string{"x", "y"}, Sheet: sheet(1, 2i)}
	}
	if !agree.Same(full(), full()) || !agree.Same(api.Reply{}, api.Reply{Items: []api.Item{}, Names: []string{}, Sheet: api.Sheet{}}) {
		t.Error("P24.1: Same of the same")
	}
	for i, change := range []func(r *api.Reply){
		func(r *api.Reply) { r.Code = 2 }, func(r *api.Reply) { r.N = 3 }, func(r *api.Reply) { r.Items = nil }, func(r *api.Reply) { r.Items[0].ID = 9 }, func(r *api.Reply) { r.Items[1].Name = "b" }, func(r *api.Reply) { r.Items = r.Items[:1] },
		func(r *api.Reply) { r.Items[0], r.Items[1] = r.Items[1], r.Items[0] }, func(r *api.Reply) { r.Names[1] = "z" }, func(r *api.Reply) { r.Names = r.Names[1:] }, func(r *api.Reply) { r.Names = nil }, func(r *api.Reply) { r.Sheet = nil }, func(r *api.Reply) { r.Sheet = sheet(1, 3i) }, func(r *api.Reply) { r.Sheet[0].Pen = 2 }, func(r *api.Reply) { r.Sheet[0].Width = 3 },
	} {
		r := full()
		change(&r)
		if agree.Same(r, full()) || agree.Same(full(), r) {
			t.Errorf("P24.1: Same, change %d", i)
		}
	}
}

func wantAll(t *testing.T, what string, got []api.Reply, want []api.Reply) {
	t.Helper()
	if len(got) != len(want) {
		t.Fatalf("%s: %d replies, not %d", what, len(got), len(want))
	}
	for i := range got {
		if !agree.Same(got[i], want[i]) {
			t.Fatalf("%s: reply %d: %+v, not %+v", what, i, got[i], want[i])
		}
	}
}

func TestP24_1Ideal(t *testing.T) {
	es := []api.Event{call(api.Call{Do: api.CallBook, Name: "a"}), {Kind: api.EvCut, Cut: api.Cut{Op: 1}}, call(api.Call{Do: api.CallSync}), {Kind: api.EvBoot}, {Kind: 7}, call(api.Call{Do: api.CallBook, Name: "a"}), call(api.Call{Do: 99})}
	wantAll(t, "P24.1: Ideal", agree.Ideal(g, es...), []api.Reply{{N: 1}, {}, {Code: api.ErrTwice}, {Code: api.ErrArg}})
	wantAll(t, "P24.1: Ideal of none", agree.Ideal(g), nil)
	wantAll(t, "P24.1: Ideal of what may not be", agree.Ideal(api.Geometry{}, es...), nil)
	many := []api.Event{}
	for i := range 300 {
		many = append(many, api.Event{Kind: api.EvCall + i%2, Call: api.Call{Do: api.CallStat}})
	}
	if n := len(agree.Ideal(g, many...)); n != 100 {
		t.Errorf("P24.1: Ideal of 300 events, every other one a call: %d", n)
	}
}

// randomEvents is a script with calls, cuts, boots.
func randomEvents(r *rand.Rand, n int, cutting int) []api.Event {
	names := []string{"a", "b", "c", "a name", "", "x/y"}
	es := []api.Event{call(api.Call{Do: api.CallBook, Name: "a"}), call(api.Call{Do: api.CallNote, A: 1, Name: "a"})}
	for len(es) < n {
		x := api.Call{Do: 1 + r.Intn(20), A: 1 + r.Intn(4), B: r.Intn(3), Name: names[r.Intn(len(names))], By: []complex128{1i, -1, 3, 0.5}[r.Intn(4)]}
		for range r.Intn(4) {
			x.Sheet = append(x.Sheet, api.Stroke{Pen: r.Intn(8), Width: 1 + r.Intn(9), Points: []complex128{complex(float64(r.Intn(9)), float64(r.Intn(99))), 4}})
		}
		switch k := r.Intn(20); {
		case k < 3:
			x = api.Call{Do: api.CallSync}
		case k < 4:
			x.Do = api.CallAppend
		case k < 4+cutting:
			es = append(es, api.Event{Kind: api.EvCut, Cut: api.Cut{Op: 1 + r.Intn(60), Bytes: r.Intn(60), Fill: byte(r.Intn(256))}})
			continue
		case k < 6+cutting:
			es = append(es, api.Event{Kind: api.EvBoot})
			continue
		}
		es = append(es, call(x))
	}
	return es
}

func randomFaults(r *rand.Rand, g api.Geometry, n int) []api.Fault {
	fs := []api.Fault{}
	for _, b := range r.Perm(g.Blocks)[:n] {
		fs = append(fs, api.Fault{Block: b, After: r.Intn(30)})
	}
	return fs
}

// TestP24_1Play plays scripts with as many faults as there are Spares, and with more.
func TestP24_1Play(t *testing.T) {
	seen := map[api.Errno]int{}
	for seed := range int64(150) {
		r := rand.New(rand.NewSource(seed))
		g := geometries()[r.Intn(4)]
		fs := randomFaults(r, g, r.Intn(g.Spares+1))
		if r.Intn(3) == 0 {
			fs = randomFaults(r, g, r.Intn(9))
		}
		es := randomEvents(r, 50+r.Intn(200), r.Intn(3))
		got, ok := agree.Play(g, fs, es...)
		if !ok {
			t.Errorf("P24.1: Play of seed %d does not agree", seed)
		}
		wantAll(t, "P24.1: Play's replies are Run's", got, play.Run(g, fs, es...))
		for i, x := range got {
			seen[x.Code]++
			if es[i].Kind == api.EvBoot && x.Code != api.OK && x.Code != api.ErrTwice {
				t.Errorf("P24.1: EvBoot: %+v", x)
			}
		}
	}
	for _, e := range []api.Errno{api.OK, api.ErrOff, api.ErrDegraded, api.ErrReadOnly, api.ErrTwice, api.ErrSpace} {
		if seen[e] == 0 {
			t.Errorf("P24.1: no script answered %d", e)
		}
	}
}

// TestT1 has no cuts, and as many faults as Spares: all is answered as the model does.
func TestT1(t *testing.T) {
	for seed := range int64(60) {
		r := rand.New(rand.NewSource(seed))
		g := geometries()[r.Intn(4)]
		fs := randomFaults(r, g, g.Spares)
		es := []api.Event{}
		for _, e := range randomEvents(r, 200, 0) {
			if e.Kind == api.EvCall {
				es = append(es, e)
			}
		}
		got, ok := agree.Play(g, fs, es...)
		if !ok {
			t.Errorf("P24.1: Play of seed %d does not agree", seed)
		}
		wantAll(t, "T1", got, agree.Ideal(g, es...))
	}
}

// TestP24_1Edges are scripts of nothing, of what may not be, of too many events.
func TestP24_1Edges(t *testing.T) {
	if got, ok := agree.Play(g, nil); len(got) != 0 || !ok {
		t.Errorf("P24.1: Play of no events: %v, %v", got, ok)
	}
	stat := call(api.Call{Do: api.CallStat})
	for _, fs := range [][]api.Fault{{{Block: 9}}, {{Block: 1}, {Block: 1}}} {
		if got, ok := agree.Play(g, fs, stat); len(got) != 0 || !ok {
			t.Errorf("P24.1: Play of faults that may not be: %v, %v", got, ok)
		}
	}
	if got, ok := agree.Play(api.Geometry{}, nil, stat); len(got) != 0 || !ok {
		t.Errorf("P24.1: Play of a geometry that may not be: %v, %v", got, ok)
	}
	many := make([]api.Event, 250)
	for i := range many {
		many[i] = stat
	}
	if got, ok := agree.Play(g, nil, many...); len(got) != 200 || !ok {
		t.Errorf("P24.1: Play of 250 events: %d, %v", len(got), ok)
	}
	got, ok := agree.Play(g, nil, api.Event{Kind: 0}, api.Event{Kind: api.EvBoot}, api.Event{Kind: api.EvCut}, api.Event{Kind: api.EvCut, Cut: api.Cut{Op: 1}}, call(api.Call{Do: api.CallBook, Name: "b"}), call(api.Call{Do: api.CallSync}), api.Event{Kind: api.EvCut, Cut: api.Cut{Op: 1}}, stat, api.Event{Kind: api.EvBoot}, stat)
	wantAll(t, "P24.1: Play", got, []api.Reply{{Code: api.ErrArg}, {Code: api.ErrTwice}, {Code: api.ErrArg}, {}, {N: 1}, {Code: api.ErrOff}, {Code: api.ErrOff}, {Code: api.ErrOff}, {}, {N: desk.New(g).Need()}})
	if !ok {
		t.Error("P24.1: Play does not agree")
	}
}

// TestP24_1CutsWait has cuts that wait behind several CallSyncs: what is audited there must bring none nearer.
func TestP24_1CutsWait(t *testing.T) {
	for op := 1; op < 150; op++ {
		es := []api.Event{{Kind: api.EvCut, Cut: api.Cut{Op: op, Bytes: 7}}}
		for i := range 12 {
			es = append(es, call(api.Call{Do: api.CallBook, Name: string(rune('a' + i))}), call(api.Call{Do: api.CallDrop, A: i}), call(api.Call{Do: api.CallSync}))
		}
		es = append(es, api.Event{Kind: api.EvBoot}, call(api.Call{Do: api.CallBooks}), call(api.Call{Do: api.CallSync}))
		got, ok := agree.Play(g, nil, es...)
		if !ok {
			t.Errorf("P24.1: Play with a cut at %d does not agree", op)
		}
		wantAll(t, "P24.1: cuts that wait", got, play.Run(g, nil, es...))
	}
}

// TestLongScripts is the seventh example of the whole, and the ninth.
func TestLongScripts(t *testing.T) {
	es := []api.Event{call(api.Call{Do: api.CallBook, Name: "b"}), call(api.Call{Do: api.CallNote, A: 1, Name: "n"}), call(api.Call{Do: api.CallAppend, A: 1, Sheet: sheet(1)})}
	for i := range 98 {
		es = append(es, call(api.Call{Do: api.CallReplace, A: 1, Sheet: sheet(complex(float64(i), 0))}), call(api.Call{Do: api.CallSync}))
	}
	for _, g := range geometries() {
		got, ok := agree.Play(g, nil, es...)
		if !ok {
			t.Errorf("T3: a hundred CallSyncs over %v do not agree", g)
		}
		wantAll(t, "T1", got, agree.Ideal(g, es...))
	}
}
