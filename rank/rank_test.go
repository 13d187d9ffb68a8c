package rank_test

import (
	"slices"
	"testing"

	"jotter/api"
	"jotter/rank"
)

// found are pages of {kind, page, epoch, seq}, each at a place of its own.
func found(rows ...[4]int) []api.Found {
	fs := []api.Found{}
	for i, r := range rows {
		fs = append(fs, api.Found{At: api.Place{Block: i / 4, Page: i % 4}, Tag: api.Tag{Kind: r[0], Page: r[1], Epoch: r[2], Seq: r[3]}})
	}
	return fs
}

const (
	data   = api.KindData
	trim   = api.KindTrim
	commit = api.KindCommit
)

func TestP10_1Last(t *testing.T) {
	for _, x := range []struct {
		fs   []api.Found
		want int
	}{
		{nil, 0}, {found([4]int{data, 1, 5, 5}, [4]int{trim, 1, 6, 6}), 0}, {found([4]int{commit, 0, 3, 1}), 3}, {found([4]int{commit, 0, 3, 9}, [4]int{commit, 0, 8, 1}, [4]int{commit, 0, 5, 20}, [4]int{data, 0, 99, 99}), 8},
		{found([4]int{commit, 0, -3, 1}), 0}, {found([4]int{commit, 0, 0, 1}), 0}, {found([4]int{commit, 7, 4, -1}), 4}, {found([4]int{0, 0, 4, 1}, [4]int{4, 0, 4, 1}), 0},
	} {
		if got := rank.Last(x.fs); got != x.want {
			t.Errorf("P10.1: Last(%v): %d, not %d", x.fs, got, x.want)
		}
	}
}

func TestP10_1Newer(t *testing.T) {
	for _, x := range []struct {
		a, b api.Tag
		want bool
	}{
		{api.Tag{Epoch: 2, Seq: 1}, api.Tag{Epoch: 1, Seq: 9}, true}, {api.Tag{Epoch: 1, Seq: 9}, api.Tag{Epoch: 2, Seq: 1}, false}, {api.Tag{Epoch: 2, Seq: 2}, api.Tag{Epoch: 2, Seq: 1}, true}, {api.Tag{Epoch: 2, Seq: 1}, api.Tag{Epoch: 2, Seq: 2}, false},
		{api.Tag{Epoch: 2, Seq: 2}, api.Tag{Epoch: 2, Seq: 2}, false}, {api.Tag{Kind: 3, Page: 9, Epoch: 2, Seq: 2}, api.Tag{Epoch: 2, Seq: 2}, false}, {api.Tag{}, api.Tag{Epoch: -1, Seq: 9}, true}, {api.Tag{}, api.Tag{Seq: -1}, true},
	} {
		if got := rank.Newer(x.a, x.b); got != x.want {
			t.Errorf("P10.1: Newer(%v, %v): %v", x.a, x.b, got)
		}
	}
}

// wantLive asks for all pages: rows tells which of fs are live.
func wantLive(t *testing.T, fs []api.Found, live ...int) {
	t.Helper()
	before := slices.Clone(fs)
	want := []api.Found{}
	byPage := map[int]api.Found{}
	for _, i := range live {
		want = append(want, fs[i])
		byPage[fs[i].Tag.Page] = fs[i]
	}
	if got := rank.All(fs); !slices.Equal(got, want) {
		t.Errorf("P10.1: All(%v): %v, not %v", fs, got, want)
	}
	for page := -3; page < 12; page++ {
		f, ok := rank.Live(fs, page)
		if wanted, there := byPage[page]; f != wanted || ok != there {
			t.Errorf("P10.1: Live(%v, %d): %v, %v", fs, page, f, ok)
		}
	}
	if !slices.Equal(fs, before) {
		t.Error("R4: the argument was changed")
	}
}

func TestP10_1LiveAll(t *testing.T) {
	wantLive(t, nil)
	// The chapter's example.
	wantLive(t, found([4]int{data, 3, 1, 4}, [4]int{commit, 0, 1, 5}, [4]int{data, 3, 2, 6}), 0)
	// Without a commit only epoch 0 (and what is below) counts.
	wantLive(t, found([4]int{data, 3, 0, 4}, [4]int{data, 4, 1, 4}, [4]int{data, 2, -1, 4}), 2, 0)
	// By rising pages, whatever the order on the chip.
	wantLive(t, found([4]int{commit, 0, 1, 1}, [4]int{data, 7, 1, 4}, [4]int{data, 2, 1, 5}, [4]int{data, 5, 1, 6}, [4]int{data, 10, 1, 2}, [4]int{data, 0, 1, 8}), 5, 2, 3, 1, 4)
	// The epoch is more than the number.
	wantLive(t, found([4]int{data, 1, 2, 3}, [4]int{data, 1, 1, 9}, [4]int{commit, 0, 2, 1}), 0)
	wantLive(t, found([4]int{data, 1, 1, 9}, [4]int{data, 1, 2, 3}, [4]int{commit, 0, 2, 1}), 1)
	// Of one epoch the number tells.
	wantLive(t, found([4]int{data, 1, 2, 3}, [4]int{data, 1, 2, 9}, [4]int{data, 1, 2, 5}, [4]int{commit, 0, 2, 1}), 1)
	// Of the same tag the first one.
	wantLive(t, found([4]int{commit, 0, 2, 1}, [4]int{data, 1, 2, 3}, [4]int{data, 1, 2, 3}), 1)
	wantLive(t, found([4]int{commit, 0, 2, 1}, [4]int{data, 1, 2, 3}, [4]int{trim, 1, 2, 3}), 1)
	wantLive(t, found([4]int{commit, 0, 2, 1}, [4]int{trim, 1, 2, 3}, [4]int{data, 1, 2, 3}))
	// A trim takes the page away, if it is newest and counts.
	wantLive(t, found([4]int{commit, 0, 2, 1}, [4]int{data, 1, 1, 3}, [4]int{trim, 1, 2, 2}))
	wantLive(t, found([4]int{commit, 0, 2, 1}, [4]int{data, 1, 2, 3}, [4]int{trim, 1, 1, 9}), 1)
	wantLive(t, found([4]int{commit, 0, 2, 1}, [4]int{data, 1, 2, 3}, [4]int{trim, 1, 3, 9}), 1)
	wantLive(t, found([4]int{commit, 0, 2, 1}, [4]int{trim, 4, 2, 3}, [4]int{data, 5, 1, 9}), 2)
	// Commits and kinds that there are not are no pages.
	wantLive(t, found([4]int{commit, 3, 2, 1}, [4]int{0, 4, 1, 1}, [4]int{4, 5, 1, 1}, [4]int{data, -2, 1, 1}), 3)
	// The greatest commit counts, wherever it stands.
	wantLive(t, found([4]int{data, 1, 4, 9}, [4]int{commit, 0, 4, 1}, [4]int{data, 1, 3, 8}, [4]int{commit, 0, 3, 10}, [4]int{data, 2, 5, 11}), 0)
}

func TestP10_1Stale(t *testing.T) {
	fs := found([4]int{data, 3, 3, 4}, [4]int{commit, 0, 2, 1}, [4]int{data, 4, 2, 4}, [4]int{trim, 1, 5, 1}, [4]int{data, 3, 3, 2}, [4]int{data, 3, 1, 2}, [4]int{9, 3, 3, 2}, [4]int{trim, 3, 2, 2})
	if got, want := rank.Stale(fs), []api.Found{fs[0], fs[3], fs[4], fs[6]}; !slices.Equal(got, want) {
		t.Errorf("P10.1: Stale: %v, not %v", got, want)
	}
	if got := rank.Stale(nil); len(got) != 0 {
		t.Errorf("P10.1: Stale of none: %v", got)
	}
	fs = found([4]int{data, 1, 1, 1}, [4]int{data, 2, 0, 2}, [4]int{data, 2, -5, 2})
	if got := rank.Stale(fs); !slices.Equal(got, fs[:1]) {
		t.Errorf("P10.1: Stale without a commit: %v", got)
	}
	got := rank.Stale(fs)
	got[0].Tag.Page = 99
	if fs[0].Tag.Page != 1 {
		t.Error("R4: Stale's answer shares memory")
	}
}
