package tests

import (
	"reflect"
	"testing"

	"loop.example/g00542/impl"
)

// head gives where the chain of a key begins.
func (p plainSlab) head(key int64) int64 {
	chain := key % int64(len(p.chains))
	if len(p.chains[chain]) == 0 {
		return -1 - chain
	}
	return p.chains[chain][0]
}

func (p plainSlab) isSlot(at int64) bool {
	return at >= 0 && at < int64(len(p.slots))
}

// holds: may a walker hold that slot, beside the chain it may be in?
func (p plainSlab) holds(at int64) bool {
	if p.isLinked(at) {
		return p.slots[at].Refs >= 2
	}
	return p.slots[at].Refs >= 1
}

func (p plainSlab) walkRight(w impl.Walk) bool {
	end := w.Cur < 0 && w.Cur >= -int64(len(p.chains))
	found := w.State == impl.WkFound && p.isSlot(w.Slot) && w.Gen >= 0 && w.Gen <= impl.MaxTime
	return w.Key >= 0 && w.Key <= 999 &&
		(end && w.Stage == 0 || p.isSlot(w.Cur) && w.Stage >= 0 && w.Stage <= 2) &&
		(w.Stage != 2 || p.holds(w.Cur)) &&
		w.State >= 0 && w.State <= 2 && (found || w.Slot == 0 && w.Gen == 0) &&
		w.Steps >= 0 && w.Steps <= impl.MaxTime
}

// walkStep does what chapter 8 says of a step, and names what it was; the Refs
// of the plain slab turn with it.
func (p plainSlab) walkStep(w impl.Walk) (what string, next impl.Walk, code int64) {
	switch {
	case !p.walkRight(w):
		return "not right", impl.Walk{}, impl.ErrForm
	case w.State != impl.WkGoing:
		return "over", impl.Walk{}, impl.ErrState
	case w.Steps == impl.MaxTime:
		return "no more steps", impl.Walk{}, impl.ErrFull
	}
	w.Steps++
	anew := w
	anew.Cur, anew.Stage = p.head(w.Key), 0
	if w.Cur < 0 {
		if w.Cur != -1-w.Key%int64(len(p.chains)) {
			return "another's end", anew, impl.OK
		}
		w.State = impl.WkMissed
		return "its own end", w, impl.OK
	}
	slot := &p.slots[w.Cur]
	switch w.Stage {
	case 0:
		if slot.Key == w.Key {
			w.Stage = 1
			return "the key", w, impl.OK
		}
		w.Cur = p.slab().Slots[w.Cur].Next
		return "another key", w, impl.OK
	case 1:
		if slot.Refs == 0 || slot.Refs == impl.MaxTime {
			return "not got", anew, impl.OK
		}
		slot.Refs++
		w.Stage = 2
		return "got", w, impl.OK
	}
	if slot.Key != w.Key {
		slot.Refs--
		return "used again", anew, impl.OK
	}
	w.State, w.Slot, w.Gen = impl.WkFound, w.Cur, slot.Gen
	return "found", w, impl.OK
}

func wantWalkOut(t *testing.T, what string, got impl.WalkOut, want impl.WalkOut) {
	t.Helper()
	if !sameSlab(got.Slab, want.Slab) || got.Walk != want.Walk || got.Code != want.Code {
		t.Errorf("%s: got %+v, want %+v", what, got, want)
	}
}

// wantWalkCode: with a code all else is its zero value.
func wantWalkCode(t *testing.T, what string, got impl.WalkOut, code int64) {
	t.Helper()
	wantWalkOut(t, what, got, impl.WalkOut{Code: code})
	if got.Slab.Slots != nil || got.Slab.Heads != nil {
		t.Errorf("%s: beside a code it tells %+v", what, got.Slab)
	}
}

// wantStep: so the walk is after one step, by WalkStep and by WalkEnd, and so
// the slab.
func wantStep(t *testing.T, what string, s impl.Slab, w impl.Walk, slab impl.Slab, next impl.Walk) {
	t.Helper()
	if !impl.WalkRight(s, w) {
		t.Errorf("%s: %+v is not right for %+v", what, w, s)
	}
	want := impl.WalkOut{Slab: slab, Walk: next}
	wantWalkOut(t, what+", WalkStep", impl.WalkStep(s, w), want)
	wantWalkOut(t, what+", WalkEnd", impl.WalkEnd(s, w, 1), want)
	if !impl.WalkRight(slab, next) {
		t.Errorf("%s: %+v is not right after it, for %+v", what, next, slab)
	}
}

// aim gives a key and a slot to disturb: often those at which a walker stands.
func (p plainSlab) aim(d *dice, keys int64, near int64) (key int64, at int64) {
	if p.isSlot(near) && d.below(2) == 0 {
		return p.slots[near].Key, near
	}
	return d.below(keys), d.below(int64(len(p.slots)))
}

// disturb does one thing to the slab, as others do between a walker's steps.
func (p plainSlab) disturb(d *dice, keys int64, near int64) {
	key, at := p.aim(d, keys, near)
	switch d.below(7) {
	case 0, 1, 2:
		p.add(key)
	case 3, 4:
		p.cut(key)
	case 5:
		p.get(at)
	default:
		p.put(at)
	}
}

// A step at a time, all that chapter 8 says of it, whatever others do between:
// they also put what they do not hold.
func TestWalksByManySteps(t *testing.T) {
	met := map[string]int{}
	eachSize(func(slots int64, chains int64) {
		d, p := dice(slots*50+chains), plainOf(slots, chains)
		keys := slots + slots/2 + 1
		w := impl.WalkNew(p.slab(), d.below(keys)).Walk
		for range 800 {
			for range d.below(4) {
				p.disturb(&d, keys, w.Cur)
			}
			s := p.slab()
			if got := impl.WalkRight(s, w); got != p.walkRight(w) {
				t.Errorf("WalkRight(%+v, %+v): got %v", s, w, got)
			}
			got := impl.WalkStep(s, w)
			if !sameSlab(s, p.slab()) {
				t.Errorf("it wrote into what it was given: %+v, was %+v", s, p.slab())
			}
			what, next, code := p.walkStep(w)
			want := impl.WalkOut{Walk: next, Code: code}
			if code == impl.OK {
				want.Slab = p.slab()
			}
			wantWalkOut(t, what, got, want)
			if t.Failed() {
				t.Fatalf("of %d slots and %d chains, %s: WalkStep(%+v, %+v)", slots, chains, what, s, w)
			}
			met[what]++
			w = next
			if code != impl.OK {
				out := impl.WalkNew(p.slab(), d.below(keys))
				want := impl.Walk{Key: out.Walk.Key, Cur: p.head(out.Walk.Key)}
				wantWalkOut(t, "WalkNew", out, impl.WalkOut{Slab: p.slab(), Walk: want})
				w = out.Walk
			}
		}
	})
	for _, what := range []string{"not right", "over", "another's end", "its own end", "the key", "another key", "not got", "got", "used again", "found"} {
		if met[what] < 50 {
			t.Errorf("%s: met %d times: the steps do not come to it", what, met[what])
		}
	}
}

// mixedSlab: of that size, by many steps from an empty one.
func mixedSlab(d *dice, slots int64, chains int64, keys int64) plainSlab {
	p := plainOf(slots, chains)
	for range slots * 3 {
		p.disturb(d, keys, -1)
	}
	return p
}

// Promise 9: alone, a walker finds just what is linked, and holds it then.
func TestWalkersAlone(t *testing.T) {
	eachSize(func(slots int64, chains int64) {
		for round := range int64(4) {
			d := dice(slots*500 + chains*50 + round)
			keys := slots + slots/2 + 1
			p := mixedSlab(&d, slots, chains, keys)
			for key := range keys + 1 {
				s := p.slab()
				begun := impl.WalkNew(s, key)
				got := impl.WalkEnd(begun.Slab, begun.Walk, 100)
				at := p.find(key)
				want := p.slab()
				if at < 0 {
					chain := key % chains
					w := impl.Walk{Key: key, Cur: -1 - chain, State: impl.WkMissed, Steps: int64(len(p.chains[chain])) + 1}
					wantWalkOut(t, "missed", got, impl.WalkOut{Slab: want, Walk: w})
					continue
				}
				want.Slots[at].Refs++
				_, place, _ := p.linked(key)
				w := impl.Walk{Key: key, Cur: at, Stage: 2, State: impl.WkFound, Slot: at, Gen: p.slots[at].Gen, Steps: int64(place) + 3}
				wantWalkOut(t, "found", got, impl.WalkOut{Slab: want, Walk: w})
			}
		}
	})
}

// crowd are others who disturb a slab, but put only what they hold.
type crowd struct {
	p    plainSlab
	held []int64
}

// disturb leaves a key alone, if it is given one.
func (c *crowd) disturb(d *dice, keys int64, near int64, alone int64) {
	key, at := c.p.aim(d, keys, near)
	if key == alone {
		return
	}
	switch d.below(7) {
	case 0, 1, 2:
		c.p.add(key)
	case 3, 4:
		c.p.cut(key)
	case 5:
		if _, code := c.p.get(at); code == impl.OK {
			c.held = append(c.held, at)
		}
	default:
		c.putOne(d)
	}
}

func (c *crowd) putOne(d *dice) {
	if len(c.held) == 0 {
		return
	}
	place := d.below(int64(len(c.held)))
	c.p.put(c.held[place])
	c.held = append(c.held[:place:place], c.held[place+1:]...)
}

// history is what was linked of a key while a walker walked.
type history struct {
	linked map[impl.Slot]bool
	absent bool
	anew   int
}

// note takes down what is linked of a key now: its slot, with its number as Next.
func (h *history) note(p plainSlab, key int64) {
	at := p.find(key)
	if at < 0 {
		h.absent = true
		return
	}
	h.linked[impl.Slot{Key: key, Gen: p.slots[at].Gen, Next: at}] = true
}

// walkAmong walks until it is over, with others between its steps, and tells
// what was linked at each time.
func walkAmong(t *testing.T, d *dice, c *crowd, key int64, keys int64, alone int64) (impl.Walk, history) {
	t.Helper()
	h := history{linked: map[impl.Slot]bool{}}
	h.note(c.p, key)
	w := impl.WalkNew(c.p.slab(), key).Walk
	for w.State == impl.WkGoing && w.Steps < 500 {
		for range d.below(4) {
			c.disturb(d, keys, w.Cur, alone)
			h.note(c.p, key)
		}
		before := c.p.slab()
		out := impl.WalkStep(before, w)
		if out.Code != impl.OK || !impl.SlabRight(out.Slab) || !impl.WalkRight(out.Slab, out.Walk) {
			t.Fatalf("WalkStep(%+v, %+v): got %+v", before, w, out)
		}
		for at, slot := range out.Slab.Slots {
			c.p.slots[at].Refs = slot.Refs
		}
		if !sameSlab(out.Slab, c.p.slab()) {
			t.Fatalf("WalkStep(%+v, %+v): more than Refs turned: got %+v", before, w, out)
		}
		if w.Cur < 0 && out.Walk.State == impl.WkGoing || w.Stage > 0 && out.Walk.Stage == 0 {
			h.anew++
		}
		w = out.Walk
	}
	return w, h
}

// refsOf counts who holds each slot: its chain, and the crowd.
func (c *crowd) refsOf(at int64) int64 {
	many := int64(0)
	if c.p.isLinked(at) {
		many++
	}
	for _, one := range c.held {
		if one == at {
			many++
		}
	}
	return many
}

// Promise 10: what is found was linked at some time of the walk, and is held; what
// is missed was not there at some time; and no walk leaves another hold behind.
func TestWalkersAmongOthers(t *testing.T) {
	met := map[string]int{}
	eachSize(func(slots int64, chains int64) {
		d, c := dice(slots*70+chains), &crowd{p: plainOf(slots, chains)}
		keys := slots + slots/3 + 2
		for range slots * 2 {
			c.disturb(&d, keys, -1, -1)
		}
		for walks := range 60 {
			key, alone := d.below(keys), int64(-1)
			if walks%2 == 0 {
				alone = key
			}
			w, h := walkAmong(t, &d, c, key, keys, alone)
			switch w.State {
			case impl.WkFound:
				if c.p.slots[w.Slot].Key != key || !h.linked[impl.Slot{Key: key, Gen: w.Gen, Next: w.Slot}] {
					t.Fatalf("of %d slots and %d chains: %+v found what was not linked: %+v", slots, chains, w, h)
				}
				c.held = append(c.held, w.Slot)
				met["found"]++
			case impl.WkMissed:
				if !h.absent {
					t.Fatalf("of %d slots and %d chains: %+v missed what was there: %+v", slots, chains, w, h)
				}
				met["missed"]++
			default:
				t.Fatalf("of %d slots and %d chains: %+v walks for ever", slots, chains, w)
			}
			if h.absent && len(h.linked) > 0 {
				met["came and went"]++
			}
			met["begun anew"] += h.anew
			for at := range slots {
				if got, want := c.p.slots[at].Refs, c.refsOf(at); got != want {
					t.Fatalf("of %d slots and %d chains: %+v left slot %d with Refs %d, want %d", slots, chains, w, at, got, want)
				}
			}
		}
	})
	for _, what := range []string{"found", "missed", "came and went", "begun anew"} {
		if met[what] < 100 {
			t.Errorf("%s: met %d times: the walks do not come to it", what, met[what])
		}
	}
}

func TestWalkNumbers(t *testing.T) {
	if impl.WkGoing != 0 || impl.WkFound != 1 || impl.WkMissed != 2 {
		t.Errorf("got %d, %d, %d, want 0, 1, 2", impl.WkGoing, impl.WkFound, impl.WkMissed)
	}
}

func TestWalkNew(t *testing.T) {
	for key, cur := range map[int64]int64{0: 3, 2: 3, 4: 3, 6: 3, 998: 3, 1: 1, 5: 1, 7: 1, 999: 1} {
		want := impl.WalkOut{Slab: someSlab(), Walk: impl.Walk{Key: key, Cur: cur}}
		wantWalkOut(t, "WalkNew", impl.WalkNew(someSlab(), key), want)
	}
	for chains := int64(1); chains <= impl.MaxChains; chains++ {
		for _, key := range []int64{0, 1, 2, 3, 999} {
			s := impl.SlabNew(1, chains)
			want := impl.WalkOut{Slab: s, Walk: impl.Walk{Key: key, Cur: -1 - key%chains}}
			wantWalkOut(t, "of an empty chain", impl.WalkNew(s, key), want)
		}
	}
	for _, key := range append(wrongNumbers(999), -1, 1000) {
		wantWalkCode(t, "no key", impl.WalkNew(someSlab(), key), impl.ErrForm)
	}
}

// Of an end: of the key's own chain, of another one.
func TestWalkStepAtAnEnd(t *testing.T) {
	s := someSlab()
	for key := range int64(8) {
		own, other, head := -1-key%2, -2+key%2, s.Heads[key%2]
		wantStep(t, "its own end", s, impl.Walk{Key: key, Cur: own, Steps: 7}, s, impl.Walk{Key: key, Cur: own, State: impl.WkMissed, Steps: 8})
		wantStep(t, "another's end", s, impl.Walk{Key: key, Cur: other, Steps: 7}, s, impl.Walk{Key: key, Cur: head, Steps: 8})
	}
	for chains := int64(1); chains <= impl.MaxChains; chains++ {
		empty := impl.SlabNew(2, chains)
		for cur := -chains; cur < 0; cur++ {
			for _, key := range []int64{0, 1, 2, 3, 999} {
				own := -1 - key%chains
				next := impl.Walk{Key: key, Cur: own, Steps: 1}
				if cur == own {
					next.State = impl.WkMissed
				}
				wantStep(t, "an end", empty, impl.Walk{Key: key, Cur: cur}, empty, next)
			}
		}
		for _, cur := range []int64{-chains - 1, -chains - 2, 2, 3} {
			wantWrongWalk(t, "beyond them all", empty, impl.Walk{Key: 0, Cur: cur})
		}
	}
}

// Stage 0 of slots that are linked, held, and free.
func TestWalkStepAtASlot(t *testing.T) {
	s := someSlab()
	for at, slot := range s.Slots {
		for _, key := range []int64{0, 1, 2, 4, 5, 6, 7, 999} {
			w := impl.Walk{Key: key, Cur: int64(at), Steps: 3}
			next := impl.Walk{Key: key, Cur: slot.Next, Steps: 4}
			if slot.Key == key {
				next = impl.Walk{Key: key, Cur: int64(at), Stage: 1, Steps: 4}
			}
			wantStep(t, "a slot", s, w, s, next)
		}
	}
}

// Stage 1: whether the slot may be got counts alone, not its key.
func TestWalkStepGets(t *testing.T) {
	for at := range int64(6) {
		for _, key := range []int64{4, 5, 7} {
			for _, refs := range []int64{0, 1, 2, impl.MaxTime - 1, impl.MaxTime} {
				s := turnedSlab(func(s *impl.Slab) { s.Slots[at].Refs = refs })
				w := impl.Walk{Key: key, Cur: at, Stage: 1, Steps: 3}
				switch {
				case refs == 0 && at < 4:
					wantWalkCode(t, "a free slot is linked", impl.WalkStep(s, w), impl.ErrForm)
				case refs == 0 || refs == impl.MaxTime:
					wantStep(t, "not got", s, w, s, impl.Walk{Key: key, Cur: s.Heads[key%2], Steps: 4})
				default:
					got := turnedSlab(func(s *impl.Slab) { s.Slots[at].Refs = refs + 1 })
					wantStep(t, "got", s, w, got, impl.Walk{Key: key, Cur: at, Stage: 2, Steps: 4})
				}
			}
		}
	}
}

// Stage 2: of the key or of another one, linked or not, of few and of many Refs.
func TestWalkStepIsSure(t *testing.T) {
	for at := range int64(6) {
		for _, key := range []int64{2, 4, 5, 6, 7, 999} {
			for _, refs := range []int64{1, 2, 3, impl.MaxTime} {
				s := turnedSlab(func(s *impl.Slab) { s.Slots[at].Refs = refs })
				w := impl.Walk{Key: key, Cur: at, Stage: 2, Steps: 3}
				switch {
				case refs == 1 && at < 4:
					wantWrongWalk(t, "linked, and held by nobody", s, w)
				case s.Slots[at].Key == key:
					next := impl.Walk{Key: key, Cur: at, Stage: 2, State: impl.WkFound, Slot: at, Gen: s.Slots[at].Gen, Steps: 4}
					wantStep(t, "found", s, w, s, next)
				default:
					put := turnedSlab(func(s *impl.Slab) { s.Slots[at].Refs = refs - 1 })
					wantStep(t, "used again", s, w, put, impl.Walk{Key: key, Cur: s.Heads[key%2], Steps: 4})
				}
			}
		}
	}
	for at := int64(4); at < 6; at++ {
		free := turnedSlab(func(s *impl.Slab) { s.Slots[at].Refs = 0 })
		wantWrongWalk(t, "free at Stage 2", free, impl.Walk{Key: 7, Cur: at, Stage: 2})
	}
}

// change is what others do to a slab.
type change func(s impl.Slab) impl.SlabOut

func add(key int64) change { return func(s impl.Slab) impl.SlabOut { return impl.SlabAdd(s, key) } }
func cut(key int64) change { return func(s impl.Slab) impl.SlabOut { return impl.SlabCut(s, key) } }
func get(at int64) change  { return func(s impl.Slab) impl.SlabOut { return impl.SlabGet(s, at) } }
func put(at int64) change  { return func(s impl.Slab) impl.SlabOut { return impl.SlabPut(s, at) } }

func changed(t *testing.T, s impl.Slab, changes ...change) impl.Slab {
	t.Helper()
	for n, do := range changes {
		out := do(s)
		if out.Code != impl.OK {
			t.Fatalf("change %d of %+v: code %d", n, s, out.Code)
		}
		s = out.Slab
	}
	return s
}

// racedSlab: the keys 5, 3 and 1, in slots 2, 1 and 0 of chain 1 of 2; slot 3 is free.
func racedSlab(t *testing.T) impl.Slab {
	t.Helper()
	return changed(t, impl.SlabNew(4, 2), add(1), add(3), add(5))
}

// The slot on which a walker stands is cut, freed, used again; which step is next,
// and where the walk comes to.
func TestWalkersOnSlotsThatTurn(t *testing.T) {
	for _, c := range []struct {
		what    string
		key     int64
		steps   int64 // ahead of the changes; they lead to slot 1, of the key 3
		changes []change
		next    impl.Walk
		last    impl.Walk
	}{
		{"looks on, cut and freed", 1, 1, []change{cut(3)},
			impl.Walk{Key: 1, Cur: 0, Steps: 2},
			impl.Walk{Key: 1, Cur: 0, Stage: 2, State: impl.WkFound, Slot: 0, Gen: 1, Steps: 5}},
		{"looks on, cut and held", 1, 1, []change{get(1), cut(3)},
			impl.Walk{Key: 1, Cur: 0, Steps: 2},
			impl.Walk{Key: 1, Cur: 0, Stage: 2, State: impl.WkFound, Slot: 0, Gen: 1, Steps: 5}},
		{"looks on, used by a key of the other chain", 1, 1, []change{cut(3), add(2)},
			impl.Walk{Key: 1, Cur: -1, Steps: 2},
			impl.Walk{Key: 1, Cur: 0, Stage: 2, State: impl.WkFound, Slot: 0, Gen: 1, Steps: 7}},
		{"looks on, used by the same key", 1, 1, []change{cut(3), add(3)},
			impl.Walk{Key: 1, Cur: 2, Steps: 2},
			impl.Walk{Key: 1, Cur: 0, Stage: 2, State: impl.WkFound, Slot: 0, Gen: 1, Steps: 6}},
		{"looks on, used by the key it looks for", 1, 1, []change{get(0), cut(1), cut(3), add(1)},
			impl.Walk{Key: 1, Cur: 1, Stage: 1, Steps: 2},
			impl.Walk{Key: 1, Cur: 1, Stage: 2, State: impl.WkFound, Slot: 1, Gen: 2, Steps: 4}},
		{"looks on, and all is cut", 1, 1, []change{cut(3), cut(1), cut(5)},
			impl.Walk{Key: 1, Cur: 0, Steps: 2},
			// Slot 0 is free, but of the key: it is not got.
			impl.Walk{Key: 1, Cur: -2, State: impl.WkMissed, Steps: 5}},
		{"met the key, cut and freed", 3, 2, []change{cut(3)},
			impl.Walk{Key: 3, Cur: 2, Steps: 3},
			impl.Walk{Key: 3, Cur: -2, State: impl.WkMissed, Steps: 6}},
		{"met the key, cut and held", 3, 2, []change{get(1), cut(3)},
			impl.Walk{Key: 3, Cur: 1, Stage: 2, Steps: 3},
			impl.Walk{Key: 3, Cur: 1, Stage: 2, State: impl.WkFound, Slot: 1, Gen: 1, Steps: 4}},
		{"met the key, used by a key of the other chain", 3, 2, []change{cut(3), add(2)},
			impl.Walk{Key: 3, Cur: 1, Stage: 2, Steps: 3},
			impl.Walk{Key: 3, Cur: -2, State: impl.WkMissed, Steps: 7}},
		{"met the key, used by a key of its chain", 3, 2, []change{cut(3), add(7)},
			impl.Walk{Key: 3, Cur: 1, Stage: 2, Steps: 3},
			impl.Walk{Key: 3, Cur: -2, State: impl.WkMissed, Steps: 8}},
		{"met the key, used by the same key", 3, 2, []change{cut(3), add(3)},
			impl.Walk{Key: 3, Cur: 1, Stage: 2, Steps: 3},
			impl.Walk{Key: 3, Cur: 1, Stage: 2, State: impl.WkFound, Slot: 1, Gen: 2, Steps: 4}},
		{"met the key, which is in another slot then", 3, 2, []change{cut(3), add(2), add(3)},
			impl.Walk{Key: 3, Cur: 1, Stage: 2, Steps: 3},
			impl.Walk{Key: 3, Cur: 3, Stage: 2, State: impl.WkFound, Slot: 3, Gen: 1, Steps: 7}},
		{"holds it, cut", 3, 3, []change{cut(3)},
			impl.Walk{Key: 3, Cur: 1, Stage: 2, State: impl.WkFound, Slot: 1, Gen: 1, Steps: 4},
			impl.Walk{Key: 3, Cur: 1, Stage: 2, State: impl.WkFound, Slot: 1, Gen: 1, Steps: 4}},
		{"holds it, cut, and added again elsewhere", 3, 3, []change{cut(3), add(3)},
			impl.Walk{Key: 3, Cur: 1, Stage: 2, State: impl.WkFound, Slot: 1, Gen: 1, Steps: 4},
			impl.Walk{Key: 3, Cur: 1, Stage: 2, State: impl.WkFound, Slot: 1, Gen: 1, Steps: 4}},
		{"its hold is put, used by another key, and held", 3, 3, []change{put(1), cut(3), add(2), get(1)},
			impl.Walk{Key: 3, Cur: 2, Steps: 4},
			impl.Walk{Key: 3, Cur: -2, State: impl.WkMissed, Steps: 7}},
		{"its hold is put, used by the same key, and held", 3, 3, []change{put(1), cut(3), add(3), get(1)},
			impl.Walk{Key: 3, Cur: 1, Stage: 2, State: impl.WkFound, Slot: 1, Gen: 2, Steps: 4},
			impl.Walk{Key: 3, Cur: 1, Stage: 2, State: impl.WkFound, Slot: 1, Gen: 2, Steps: 4}},
	} {
		s := racedSlab(t)
		begun := impl.WalkEnd(s, impl.WalkNew(s, c.key).Walk, c.steps)
		if begun.Walk.Cur != 1 || begun.Walk.State != impl.WkGoing {
			t.Fatalf("%s: begun as %+v", c.what, begun.Walk)
		}
		s = changed(t, begun.Slab, c.changes...)
		if got := impl.WalkStep(s, begun.Walk); got.Walk != c.next || got.Code != impl.OK {
			t.Errorf("%s, next: got %+v, want %+v", c.what, got, c.next)
		}
		if got := impl.WalkEnd(s, begun.Walk, 100); got.Walk != c.last || got.Code != impl.OK {
			t.Errorf("%s, at last: got %+v, want %+v", c.what, got, c.last)
		}
	}
}

// Who holds a slot, and is put by another, is a walk that is not right.
func TestWalkersWhoseHoldIsPut(t *testing.T) {
	s := racedSlab(t)
	begun := impl.WalkEnd(s, impl.WalkNew(s, 3).Walk, 3)
	for _, changes := range [][]change{
		{put(1)},
		{cut(3), put(1)},
		{put(1), cut(3)},
		{put(1), cut(3), add(2)},
		{put(1), cut(3), add(3)},
	} {
		wantWrongWalk(t, "put", changed(t, begun.Slab, changes...), begun.Walk)
	}
}

// wantWrongWalk: the slab is right, the walk is not.
func wantWrongWalk(t *testing.T, what string, s impl.Slab, w impl.Walk) {
	t.Helper()
	if !impl.SlabRight(s) {
		t.Errorf("%s: the slab %+v is not right", what, s)
	}
	wantWalkRefused(t, what, s, w)
}

func wantWalkRefused(t *testing.T, what string, s impl.Slab, w impl.Walk) {
	t.Helper()
	if impl.WalkRight(s, w) {
		t.Errorf("%s: %+v is right for %+v", what, w, s)
	}
	wantWalkCode(t, what+", WalkStep", impl.WalkStep(s, w), impl.ErrForm)
	for _, steps := range []int64{-1, 0, 1, 100, 101} {
		wantWalkCode(t, what+", WalkEnd", impl.WalkEnd(s, w, steps), impl.ErrForm)
	}
}

// rightWalks: for someSlab, of each stage and state.
func rightWalks() []impl.Walk {
	return []impl.Walk{
		{Key: 2, Cur: 3},
		{Key: 0, Cur: -1},
		{Key: 999, Cur: -1, Steps: 9},
		{Key: 999, Cur: -2, Steps: impl.MaxTime},
		{Key: 6, Cur: 2, Stage: 1, Steps: 2},
		{Key: 5, Cur: 5, Stage: 1, Steps: 2},
		{Key: 6, Cur: 2, Stage: 2, Steps: 3},
		{Key: 7, Cur: 4, Stage: 2, Steps: 3},
		{Key: 5, Cur: 1, Stage: 2, State: impl.WkFound, Slot: 1, Gen: 3, Steps: 3},
		{Key: 5, Cur: 1, Stage: 2, State: impl.WkFound},
		{Key: 5, Cur: -1, State: impl.WkFound, Slot: 5, Gen: impl.MaxTime},
		{Key: 5, Cur: 0, Stage: 1, State: impl.WkFound, Slot: 0, Gen: 8},
		{Key: 5, Cur: 0, State: impl.WkFound, Slot: 3, Gen: 0},
		{Key: 8, Cur: -1, State: impl.WkMissed, Steps: 4},
		{Key: 8, Cur: -2, State: impl.WkMissed},
		{Key: 8, Cur: 0, Stage: 1, State: impl.WkMissed},
		{Key: 8, Cur: 2, Stage: 2, State: impl.WkMissed},
	}
}

func TestWalksThatAreRight(t *testing.T) {
	for _, w := range rightWalks() {
		if !impl.WalkRight(someSlab(), w) {
			t.Errorf("%+v is not right", w)
		}
	}
}

// Each field out of its bounds, of walks of each stage and state.
func TestWrongWalksByNumbers(t *testing.T) {
	for _, right := range rightWalks() {
		turn := func(field func(w *impl.Walk) *int64, numbers []int64) {
			for _, n := range numbers {
				w := right
				*field(&w) = n
				wantWrongWalk(t, "a wrong number", someSlab(), w)
			}
		}
		turn(func(w *impl.Walk) *int64 { return &w.Key }, append(wrongNumbers(999), -1, 1000))
		turn(func(w *impl.Walk) *int64 { return &w.Cur }, wrongLinks())
		turn(func(w *impl.Walk) *int64 { return &w.Stage }, append(wrongNumbers(2), -1, 3))
		turn(func(w *impl.Walk) *int64 { return &w.State }, append(wrongNumbers(2), -1, 3))
		turn(func(w *impl.Walk) *int64 { return &w.Slot }, append(wrongNumbers(5), -1, 6))
		turn(func(w *impl.Walk) *int64 { return &w.Gen }, append(wrongNumbers(impl.MaxTime), -1, impl.MaxTime+1))
		turn(func(w *impl.Walk) *int64 { return &w.Steps }, append(wrongNumbers(impl.MaxTime), -1, impl.MaxTime+1))
		if right.Stage > 0 {
			turn(func(w *impl.Walk) *int64 { return &w.Cur }, []int64{-1, -2})
		}
		if right.Cur < 0 {
			turn(func(w *impl.Walk) *int64 { return &w.Stage }, []int64{1, 2})
		}
		if right.State != impl.WkFound {
			turn(func(w *impl.Walk) *int64 { return &w.Slot }, []int64{1, 2, 5})
			turn(func(w *impl.Walk) *int64 { return &w.Gen }, []int64{1, 3, impl.MaxTime})
		}
		if right.Stage == 2 {
			// Linked by its only hold, and free.
			turn(func(w *impl.Walk) *int64 { return &w.Cur }, []int64{0, 3, 5})
		}
		if right.Slot > 0 || right.Gen > 0 {
			turn(func(w *impl.Walk) *int64 { return &w.State }, []int64{impl.WkGoing, impl.WkMissed})
		}
	}
}

func TestWalksOverWrongSlabs(t *testing.T) {
	walks := []impl.Walk{{}, {Key: 2, Cur: -1}, {Key: 5, Cur: 1}, {Key: 6, Cur: 2, Stage: 1}, {Key: 6, Cur: 2, Stage: 2}, {Key: 6, Cur: -1, State: impl.WkMissed}, {Key: 999, Cur: 500, Steps: impl.MaxTime}, {Key: -1, Cur: -9}}
	refused := func(what string, s impl.Slab) {
		t.Helper()
		before := copyOf(s)
		for _, w := range walks {
			wantWalkRefused(t, what, s, w)
		}
		for _, key := range []int64{-1, 0, 1, 5, 999, 1000} {
			wantWalkCode(t, what+", WalkNew", impl.WalkNew(s, key), impl.ErrForm)
		}
		if !sameSlab(s, before) {
			t.Errorf("%s: %+v was written into, was %+v", what, s, before)
		}
	}
	for what, s := range wrongSlabs() {
		refused(what, s)
	}
	for _, s := range wrongSlabsByNumbers() {
		refused("a wrong number", s)
	}
}

// ErrForm ahead of ErrState ahead of ErrFull.
func TestWalkStepCodes(t *testing.T) {
	s := someSlab()
	over := []impl.Walk{
		{Key: 5, Cur: 1, Stage: 2, State: impl.WkFound, Slot: 1, Gen: 3},
		{Key: 8, Cur: -1, State: impl.WkMissed},
	}
	for _, w := range over {
		for _, steps := range []int64{0, 1, impl.MaxTime - 1, impl.MaxTime} {
			w.Steps = steps
			wantWalkCode(t, "over", impl.WalkStep(s, w), impl.ErrState)
		}
		wrong := w
		wrong.Steps = impl.MaxTime + 1
		wantWalkCode(t, "over, and too many steps", impl.WalkStep(s, wrong), impl.ErrForm)
		wrong = w
		wrong.Steps, wrong.Gen = impl.MaxTime, -1
		wantWalkCode(t, "over, no more steps, and no Gen", impl.WalkStep(s, wrong), impl.ErrForm)
	}
	for _, w := range rightWalks() {
		w.Steps = impl.MaxTime
		code := int64(impl.ErrFull)
		if w.State != impl.WkGoing {
			code = impl.ErrState
		}
		wantWalkCode(t, "no more steps", impl.WalkStep(s, w), code)
		w.Key = 1000
		wantWalkCode(t, "no more steps, and no key", impl.WalkStep(s, w), impl.ErrForm)
	}
	last := impl.Walk{Key: 8, Cur: 0, Steps: impl.MaxTime - 1}
	wantStep(t, "the last step", s, last, s, impl.Walk{Key: 8, Cur: -1, Steps: impl.MaxTime})
}

// As many steps as it may, each as by WalkStep.
func TestWalkEndIsWalkStepAgain(t *testing.T) {
	worn := turnedSlab(func(s *impl.Slab) { s.Slots[2].Refs = impl.MaxTime })
	for _, s := range []impl.Slab{someSlab(), worn} {
		for _, w := range rightWalks() {
			if !impl.WalkRight(s, w) {
				t.Fatalf("%+v is not right for %+v", w, s)
			}
			want := impl.WalkOut{Slab: s, Walk: w}
			for steps := range int64(101) {
				wantWalkOut(t, "WalkEnd", impl.WalkEnd(s, w, steps), want)
				if next := impl.WalkStep(want.Slab, want.Walk); next.Code == impl.OK {
					want = next
				}
			}
			for _, steps := range append(wrongNumbers(100), -1, 101) {
				wantWalkCode(t, "no such steps", impl.WalkEnd(s, w, steps), impl.ErrForm)
			}
		}
	}
}

func TestWalkEnd(t *testing.T) {
	s, w := someSlab(), impl.Walk{Key: 2, Cur: 3}
	for steps, want := range []impl.Walk{
		{Key: 2, Cur: 3},
		{Key: 2, Cur: 2, Steps: 1},
		{Key: 2, Cur: 0, Steps: 2},
		{Key: 2, Cur: 0, Stage: 1, Steps: 3},
		{Key: 2, Cur: 0, Stage: 2, Steps: 4},
		{Key: 2, Cur: 0, Stage: 2, State: impl.WkFound, Gen: 1, Steps: 5},
		{Key: 2, Cur: 0, Stage: 2, State: impl.WkFound, Gen: 1, Steps: 5},
	} {
		slab := someSlab()
		if want.Stage == 2 {
			slab.Slots[0].Refs = 2
		}
		wantWalkOut(t, "found", impl.WalkEnd(s, w, int64(steps)), impl.WalkOut{Slab: slab, Walk: want})
	}
	missed := impl.Walk{Key: 8, Cur: -1, State: impl.WkMissed, Steps: 4}
	wantWalkOut(t, "missed", impl.WalkEnd(s, impl.Walk{Key: 8, Cur: 3}, 100), impl.WalkOut{Slab: s, Walk: missed})
	wantWalkOut(t, "over", impl.WalkEnd(s, missed, 100), impl.WalkOut{Slab: s, Walk: missed})
}

// What ends it is not told: no more steps, by and by or at once.
func TestWalkEndWithoutMoreSteps(t *testing.T) {
	s := someSlab()
	for left, want := range []impl.Walk{
		{Key: 2, Cur: 3},
		{Key: 2, Cur: 2},
		{Key: 2, Cur: 0},
		{Key: 2, Cur: 0, Stage: 1},
		{Key: 2, Cur: 0, Stage: 2},
		{Key: 2, Cur: 0, Stage: 2, State: impl.WkFound, Gen: 1},
	} {
		slab := someSlab()
		if want.Stage == 2 {
			slab.Slots[0].Refs = 2
		}
		want.Steps = impl.MaxTime
		w := impl.Walk{Key: 2, Cur: 3, Steps: impl.MaxTime - int64(left)}
		wantWalkOut(t, "no more steps", impl.WalkEnd(s, w, 100), impl.WalkOut{Slab: slab, Walk: want})
	}
}

// A linked slot that nobody more may get is walked to again and again.
func TestWalkersWhoGetNothing(t *testing.T) {
	s := turnedSlab(func(s *impl.Slab) { s.Slots[2].Refs = impl.MaxTime })
	// Three steps a round: along slot 3, met at slot 2, not got.
	got := impl.WalkEnd(s, impl.WalkNew(s, 6).Walk, 100)
	wantWalkOut(t, "100 steps", got, impl.WalkOut{Slab: s, Walk: impl.Walk{Key: 6, Cur: 2, Steps: 100}})
	put := impl.SlabPut(s, 2).Slab
	if got := impl.WalkEnd(put, got.Walk, 3); got.Walk.State != impl.WkFound || got.Walk.Slot != 2 || got.Slab.Slots[2].Refs != impl.MaxTime {
		t.Errorf("one less: got %+v", got)
	}
}

// Filled slabs, of one chain and of four: the longest ways, keys of both edges.
func TestWalksAlongFullSlabs(t *testing.T) {
	for chains := int64(1); chains <= impl.MaxChains; chains++ {
		s := impl.SlabNew(24, chains)
		for n := range int64(24) {
			s = impl.SlabAdd(s, 999-n*43).Slab
		}
		for n := range int64(24) {
			key := 999 - n*43
			got := impl.WalkEnd(s, impl.WalkNew(s, key).Walk, 100)
			if got.Walk.State != impl.WkFound || got.Walk.Slot != n || got.Walk.Gen != 1 || got.Slab.Slots[n].Refs != 2 {
				t.Errorf("of %d chains, key %d: got %+v", chains, key, got)
			}
		}
		for _, key := range []int64{0, 1, 2, 3, 998} {
			if got := impl.WalkEnd(s, impl.WalkNew(s, key).Walk, 100); got.Walk.State != impl.WkMissed || !sameSlab(got.Slab, s) {
				t.Errorf("of %d chains, key %d: got %+v", chains, key, got)
			}
		}
	}
}

func TestWalkAnswersAreNewMemory(t *testing.T) {
	for what, do := range map[string]func(s impl.Slab) impl.Slab{
		"WalkNew":                    func(s impl.Slab) impl.Slab { return impl.WalkNew(s, 6).Slab },
		"WalkStep, on":               func(s impl.Slab) impl.Slab { return impl.WalkStep(s, impl.Walk{Key: 6, Cur: 3}).Slab },
		"WalkStep, missed":           func(s impl.Slab) impl.Slab { return impl.WalkStep(s, impl.Walk{Key: 6, Cur: -1}).Slab },
		"WalkStep, another's end":    func(s impl.Slab) impl.Slab { return impl.WalkStep(s, impl.Walk{Key: 6, Cur: -2}).Slab },
		"WalkStep, met":              func(s impl.Slab) impl.Slab { return impl.WalkStep(s, impl.Walk{Key: 6, Cur: 2}).Slab },
		"WalkStep, not got":          func(s impl.Slab) impl.Slab { return impl.WalkStep(s, impl.Walk{Key: 5, Cur: 5, Stage: 1}).Slab },
		"WalkStep, got":              func(s impl.Slab) impl.Slab { return impl.WalkStep(s, impl.Walk{Key: 6, Cur: 2, Stage: 1}).Slab },
		"WalkStep, found":            func(s impl.Slab) impl.Slab { return impl.WalkStep(s, impl.Walk{Key: 6, Cur: 2, Stage: 2}).Slab },
		"WalkStep, used again":       func(s impl.Slab) impl.Slab { return impl.WalkStep(s, impl.Walk{Key: 8, Cur: 2, Stage: 2}).Slab },
		"WalkEnd, no steps":          func(s impl.Slab) impl.Slab { return impl.WalkEnd(s, impl.Walk{Key: 6, Cur: 3}, 0).Slab },
		"WalkEnd, over":              func(s impl.Slab) impl.Slab { return impl.WalkEnd(s, impl.Walk{State: impl.WkMissed}, 9).Slab },
		"WalkEnd, found":             func(s impl.Slab) impl.Slab { return impl.WalkEnd(s, impl.Walk{Key: 6, Cur: 3}, 100).Slab },
		"WalkEnd, missed":            func(s impl.Slab) impl.Slab { return impl.WalkEnd(s, impl.Walk{Key: 8, Cur: 3}, 100).Slab },
		"WalkEnd, without any steps": func(s impl.Slab) impl.Slab { return impl.WalkEnd(s, impl.Walk{Steps: impl.MaxTime}, 9).Slab },
	} {
		s, slots, heads := roomySlab()
		wantSlots, wantHeads := append([]impl.Slot{}, slots...), append([]int64{}, heads...)
		got := do(s)
		if len(got.Slots) != 6 || len(got.Heads) != 2 {
			t.Fatalf("%s: got %+v", what, got)
		}
		kept := copyOf(got)
		scribble(got)
		if !reflect.DeepEqual(slots, wantSlots) || !reflect.DeepEqual(heads, wantHeads) {
			t.Errorf("%s: what it was given is now %+v", what, s)
		}
		got = do(s)
		scribble(s)
		if !sameSlab(got, kept) {
			t.Errorf("%s: what it told turned with what it was given: %+v", what, got)
		}
	}
}
