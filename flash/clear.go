package flash

import (
	"jotter/api"
	"jotter/geom"
	"jotter/victim"
	"jotter/wear"
)

// good tells whether the block can be programmed and erased.
func (f *Flash) good(b int) bool {
	return !f.c.Bad(b) && !f.c.Failed(b)
}

// failed is how many blocks can not.
func (f *Flash) failed() int {
	n := 0
	for b := range f.g.Blocks {
		if !f.good(b) {
			n++
		}
	}
	return n
}

// overdue tells whether more blocks failed than there are spare ones, and takes note of it.
func (f *Flash) overdue() bool {
	f.degraded = f.degraded || f.failed() > f.g.Spares
	return f.degraded
}

// watch looks at the blocks behind each operation that may have worn one out.
func (f *Flash) watch() api.Errno {
	if f.overdue() {
		return api.ErrDegraded
	}
	return api.OK
}

// counts tells whether a record that is needed stands at p.
func (f *Flash) counts(p api.Place) bool {
	if _, ok := f.kept.Who(p); ok {
		return true
	}
	if _, ok := f.fresh.Who(p); ok {
		return true
	}
	return f.sealed && f.commit == p
}

// live is how many records of the block are needed.
func (f *Flash) live(b int) int {
	n := f.kept.Live(b) + f.fresh.Live(b)
	if f.sealed && f.commit.Block == b {
		n++
	}
	return n
}

func (f *Flash) lives() []int {
	lives := make([]int, f.g.Blocks)
	for b := range lives {
		lives[b] = f.live(b)
	}
	return lives
}

func (f *Flash) wears() []int {
	ws := make([]int, f.g.Blocks)
	for b := range ws {
		ws[b] = f.c.Wear(b)
	}
	return ws
}

// those is which good blocks are so.
func (f *Flash) those(so func(b int) bool) []bool {
	may := make([]bool, f.g.Blocks)
	for b := range may {
		may[b] = f.good(b) && so(b)
	}
	return may
}

func (f *Flash) every(int) bool    { return true }
func (f *Flash) erased(b int) bool { return f.c.Used(b) == 0 }
func (f *Flash) used(b int) bool   { return f.c.Used(b) > 0 }
func (f *Flash) full(b int) bool   { return f.c.Used(b) == f.g.Pages }

// spent tells whether clearing the block would gain a page.
func (f *Flash) spent(b int) bool { return f.full(b) && f.live(b) < f.g.Pages }

func (f *Flash) roomy(b int) bool { return f.good(b) && !f.full(b) }

// begun is the first good block that is programmed in part, but for one; -1 of none.
func (f *Flash) begun(but int) int {
	for b := range f.g.Blocks {
		if b != but && f.roomy(b) && f.used(b) {
			return b
		}
	}
	return -1
}

// tired is the erased block of the greatest wear: what does not change may rest there.
func (f *Flash) tired() int {
	return wear.Most(f.wears(), f.those(f.erased))
}

// rested is the erased block of the least wear.
func (f *Flash) rested() int {
	return victim.Free(f.wears(), f.those(f.erased))
}

// reserve tells whether so many more blocks are erased than must stay so: one
// to move the next victim's records to, and one for each block that may yet
// fail while it is being filled.
func (f *Flash) reserve(more int) bool {
	n := 0
	for _, is := range f.those(f.erased) {
		if is {
			n++
		}
	}
	return n >= 1+more+f.g.Spares-f.failed()
}

// open is a block with a page that can be programmed.
func (f *Flash) open() (int, api.Errno) {
again:
	if b := f.begun(-1); b >= 0 {
		return b, api.OK
	}
	if f.reserve(1) {
		return f.rested(), api.OK
	}
	v := victim.Pick(f.lives(), f.wears(), f.those(f.spent))
	if v < 0 {
		return f.last()
	}
	if e := f.clear(v, f.rested); e != api.OK {
		return -1, e
	}
	if e := f.level(); e != api.OK {
		return -1, e
	}
	goto again
}

// last is an erased block from the reserve, when nothing can be cleared.
func (f *Flash) last() (int, api.Errno) {
	if b := f.rested(); b >= 0 {
		return b, api.OK
	}
	return -1, api.ErrSpace
}

// clear moves what is needed of block v to blocks that pick tells, and erases it.
func (f *Flash) clear(v int, pick func() int) api.Errno {
	to := -1
	for i := range f.g.Pages {
		p := api.Place{Block: v, Page: i}
		if !f.counts(p) {
			continue
		}
	again:
		if to < 0 || !f.roomy(to) {
			to = pick()
		}
		if to < 0 {
			return api.ErrSpace
		}
		e := f.move(p, to)
		if e == api.ErrFail {
			goto again
		}
		if e != api.OK {
			return e
		}
	}
	if e := f.c.Erase(v); e != api.OK {
		return e
	}
	return f.watch()
}

// restore sees to the reserve, which a cut may have left short. Then there is a
// block of which nothing is needed: the one that was being filled, or erased.
func (f *Flash) restore() api.Errno {
	for range f.g.Blocks {
		if f.reserve(0) {
			return api.OK
		}
		v := victim.Pick(f.lives(), f.wears(), f.those(f.used))
		if v < 0 || f.live(v) > f.roomBeside(v) {
			return api.OK
		}
		if e := f.clear(v, func() int { return f.begun(v) }); e != api.OK {
			return e
		}
	}
	return api.OK
}

// roomBeside is how many pages are left in other blocks that are programmed in part.
func (f *Flash) roomBeside(v int) int {
	room := 0
	for b := range f.g.Blocks {
		if b != v && f.roomy(b) && f.used(b) {
			room += f.g.Pages - f.c.Used(b)
		}
	}
	return room
}

// level moves what does not change out of the least worn blocks, so that these are used, too.
func (f *Flash) level() api.Errno {
	for range f.g.Blocks {
		cold := victim.Cold(f.lives(), f.wears(), f.those(f.every), f.g.Trigger)
		if cold < 0 {
			return api.OK
		}
		if e := f.clear(cold, f.tired); e != api.OK {
			return e
		}
	}
	return api.OK
}

// even sees to what is promised of wear, should level not have done; within half of the operations that a call may do.
func (f *Flash) even() api.Errno {
	limit := f.g.Trigger + geom.Slack(f.g) + f.c.Cuts()
	end := f.c.Ops() + geom.Bound(f.g)/2
	for f.c.Ops() < end && wear.Spread(f.wears(), f.those(f.every)) > limit {
		if e := f.restore(); e != api.OK {
			return e
		}
		if e := f.clear(wear.Least(f.wears(), f.those(f.every)), f.tired); e != api.OK {
			return e
		}
	}
	return api.OK
}
