package tests

import (
	"math"
	"reflect"
	"testing"

	"loop.example/g00542/impl"
)

// plainSlab is a slab as the chapter tells of it, with its chains as lists; the
// Next of a slot counts in it only while the slot is in none of them.
type plainSlab struct {
	slots  []impl.Slot
	chains [][]int64
}

func plainOf(slots int64, chains int64) plainSlab {
	p := plainSlab{chains: make([][]int64, chains)}
	for range slots {
		p.slots = append(p.slots, impl.Slot{Next: -1})
	}
	return p
}

// slab lays the lists out as heads and Nexts.
func (p plainSlab) slab() impl.Slab {
	s := impl.Slab{Slots: append([]impl.Slot{}, p.slots...)}
	for chain, along := range p.chains {
		next := int64(-1 - chain)
		for place := len(along) - 1; place >= 0; place-- {
			s.Slots[along[place]].Next = next
			next = along[place]
		}
		s.Heads = append(s.Heads, next)
	}
	return s
}

// linked gives the chain and the place in it of the linked slot of a key.
func (p plainSlab) linked(key int64) (chain int, place int, there bool) {
	for chain, along := range p.chains {
		for place, at := range along {
			if p.slots[at].Key == key {
				return chain, place, true
			}
		}
	}
	return 0, 0, false
}

func (p plainSlab) isLinked(at int64) bool {
	for _, along := range p.chains {
		for _, one := range along {
			if one == at {
				return true
			}
		}
	}
	return false
}

func (p plainSlab) find(key int64) int64 {
	chain, place, there := p.linked(key)
	if !there {
		return -1
	}
	return p.chains[chain][place]
}

func (p plainSlab) firstFree() int64 {
	for at, slot := range p.slots {
		if slot.Refs == 0 {
			return int64(at)
		}
	}
	return -1
}

func (p plainSlab) add(key int64) (at int64, code int64) {
	if _, _, there := p.linked(key); there {
		return 0, impl.ErrThere
	}
	at = p.firstFree()
	if at < 0 || p.slots[at].Gen == impl.MaxTime {
		return 0, impl.ErrFull
	}
	p.slots[at].Key, p.slots[at].Refs = key, 1
	p.slots[at].Gen++
	chain := int(key) % len(p.chains)
	p.chains[chain] = append([]int64{at}, p.chains[chain]...)
	return at, impl.OK
}

func (p plainSlab) cut(key int64) (at int64, code int64) {
	chain, place, there := p.linked(key)
	if !there {
		return 0, impl.ErrNone
	}
	along := p.chains[chain]
	at = along[place]
	p.slots[at].Next = p.slab().Slots[at].Next
	p.slots[at].Refs--
	p.chains[chain] = append(append([]int64{}, along[:place]...), along[place+1:]...)
	return at, impl.OK
}

func (p plainSlab) get(at int64) (int64, int64) {
	switch p.slots[at].Refs {
	case 0:
		return 0, impl.ErrNone
	case impl.MaxTime:
		return 0, impl.ErrFull
	}
	p.slots[at].Refs++
	return at, impl.OK
}

func (p plainSlab) put(at int64) (int64, int64) {
	if p.slots[at].Refs == 0 {
		return 0, impl.ErrNone
	}
	if p.slots[at].Refs == 1 && p.isLinked(at) {
		return 0, impl.ErrState
	}
	p.slots[at].Refs--
	return at, impl.OK
}

// dice gives numbers that look thrown, the same ones at each run.
type dice uint64

func (d *dice) below(many int64) int64 {
	*d = *d*6364136223846793005 + 1442695040888963407
	return int64(uint64(*d)>>33) % many
}

func copyOf(s impl.Slab) impl.Slab {
	return impl.Slab{Slots: append([]impl.Slot{}, s.Slots...), Heads: append([]int64{}, s.Heads...)}
}

func sameSlab(a impl.Slab, b impl.Slab) bool {
	return reflect.DeepEqual(copyOf(a), copyOf(b))
}

func wantSlabOut(t *testing.T, what string, got impl.SlabOut, want impl.SlabOut) {
	t.Helper()
	if !sameSlab(got.Slab, want.Slab) || got.At != want.At || got.Code != want.Code {
		t.Errorf("%s: got %+v, want %+v", what, got, want)
	}
}

// wantCode: with a code all else is its zero value.
func wantCode(t *testing.T, what string, got impl.SlabOut, code int64) {
	t.Helper()
	wantSlabOut(t, what, got, impl.SlabOut{Code: code})
}

func wantAlong(t *testing.T, s impl.Slab, chain int64, want []int64) {
	t.Helper()
	got := impl.ChainOf(s, chain)
	if !reflect.DeepEqual(append([]int64{}, got...), append([]int64{}, want...)) {
		t.Errorf("ChainOf(%+v, %d): got %v, want %v", s, chain, got, want)
	}
}

// eachSize goes through all sizes that a slab may have.
func eachSize(do func(slots int64, chains int64)) {
	for slots := int64(1); slots <= impl.MaxSlots; slots++ {
		for chains := int64(1); chains <= impl.MaxChains; chains++ {
			do(slots, chains)
		}
	}
}

// someSlab: of 6 slots and 2 chains: 4, 6 and 2 in chain 0, 5 in chain 1; slot 4,
// of the key 7, is held, slot 5 is free.
func someSlab() impl.Slab {
	return impl.Slab{
		Slots: []impl.Slot{
			{Key: 2, Gen: 1, Refs: 1, Next: -1},
			{Key: 5, Gen: 3, Refs: 2, Next: -2},
			{Key: 6, Gen: 9, Refs: 4, Next: 0},
			{Key: 4, Gen: 1, Refs: 1, Next: 2},
			{Key: 7, Gen: 2, Refs: 1, Next: 1},
			{Key: 5, Gen: 8, Refs: 0, Next: 3},
		},
		Heads: []int64{3, 1},
	}
}

// turnedSlab: someSlab, turned by a function.
func turnedSlab(turn func(s *impl.Slab)) impl.Slab {
	s := someSlab()
	turn(&s)
	return s
}

func TestSlabSizes(t *testing.T) {
	if impl.MaxSlots != 24 || impl.MaxChains != 4 {
		t.Errorf("at most %d slots and %d chains, want 24 and 4", impl.MaxSlots, impl.MaxChains)
	}
}

func TestSlabNew(t *testing.T) {
	eachSize(func(slots int64, chains int64) {
		s := impl.SlabNew(slots, chains)
		if want := plainOf(slots, chains).slab(); !sameSlab(s, want) {
			t.Errorf("SlabNew(%d, %d): got %+v, want %+v", slots, chains, s, want)
		}
		if !impl.SlabRight(s) {
			t.Errorf("SlabNew(%d, %d) is not right", slots, chains)
		}
		for chain := range chains {
			wantAlong(t, s, chain, nil)
		}
	})
}

func TestSlabNewOfNoSize(t *testing.T) {
	none := func(slots int64, chains int64) {
		if s := impl.SlabNew(slots, chains); s.Slots != nil || s.Heads != nil {
			t.Errorf("SlabNew(%d, %d): got %+v, want the zero one", slots, chains, s)
		}
	}
	for _, slots := range append(wrongNumbers(impl.MaxSlots), 0) {
		for _, chains := range []int64{0, 1, impl.MaxChains, impl.MaxChains + 1} {
			none(slots, chains)
		}
	}
	for _, chains := range append(wrongNumbers(impl.MaxChains), 0) {
		for _, slots := range []int64{0, 1, impl.MaxSlots, impl.MaxSlots + 1} {
			none(slots, chains)
		}
	}
}

// step does one thing to a slab, and to the plain one that is held against it.
func step(d *dice, s impl.Slab, p plainSlab, keys int64) (what string, got impl.SlabOut, at int64, code int64) {
	key, place := d.below(keys), d.below(int64(len(p.slots)))
	switch d.below(7) {
	case 0, 1, 2:
		at, code = p.add(key)
		return "SlabAdd", impl.SlabAdd(s, key), at, code
	case 3, 4:
		at, code = p.cut(key)
		return "SlabCut", impl.SlabCut(s, key), at, code
	case 5:
		at, code = p.get(place)
		return "SlabGet", impl.SlabGet(s, place), at, code
	}
	at, code = p.put(place)
	return "SlabPut", impl.SlabPut(s, place), at, code
}

// wantFound holds all that may be asked of a slab against the plain one.
func wantFound(t *testing.T, s impl.Slab, p plainSlab, keys int64) {
	t.Helper()
	if !impl.SlabRight(s) {
		t.Errorf("%+v is not right", s)
	}
	for key := int64(-1); key <= keys; key++ {
		if got, want := impl.SlabFind(s, key), p.find(key); got != want {
			t.Errorf("SlabFind(%+v, %d): got %d, want %d", s, key, got, want)
		}
	}
	for chain, want := range p.chains {
		wantAlong(t, s, int64(chain), want)
	}
}

// Promise 8, by many steps: a right slab stays right; a key that is added is
// found; one that is cut is not, and all others are.
func TestSlabsByManySteps(t *testing.T) {
	told := map[int64]int{}
	eachSize(func(slots int64, chains int64) {
		d, s, p := dice(slots*100+chains), impl.SlabNew(slots, chains), plainOf(slots, chains)
		keys := slots + slots/2 + 1
		for range 250 {
			before := copyOf(s)
			what, got, at, code := step(&d, s, p, keys)
			want := impl.SlabOut{At: at, Code: code}
			if code == impl.OK {
				want.Slab = p.slab()
			}
			wantSlabOut(t, what, got, want)
			if !sameSlab(s, before) {
				t.Fatalf("%s wrote into what it was given: %+v, was %+v", what, s, before)
			}
			told[code]++
			if code == impl.OK {
				s = got.Slab
			}
			wantFound(t, s, p, keys)
			if t.Failed() {
				t.Fatalf("of %d slots and %d chains, %s", slots, chains, what)
			}
		}
	})
	for _, code := range []int64{impl.OK, impl.ErrThere, impl.ErrFull, impl.ErrNone, impl.ErrState} {
		if told[code] < 100 {
			t.Errorf("code %d was told %d times: the steps do not come to it", code, told[code])
		}
	}
}

// Promise 8, key by key: filled, emptied and filled again, in another order.
func TestSlabsFilledAndEmptied(t *testing.T) {
	eachSize(func(slots int64, chains int64) {
		s := impl.SlabNew(slots, chains)
		for round := int64(1); round <= 3; round++ {
			for n := range slots {
				out := impl.SlabAdd(s, 999-n*round)
				if out.Code != impl.OK || out.Slab.Slots[out.At].Gen != round || impl.SlabFind(out.Slab, 999-n*round) != out.At {
					t.Fatalf("of %d slots and %d chains, round %d, key %d: got %+v", slots, chains, round, 999-n*round, out)
				}
				s = out.Slab
			}
			wantCode(t, "one more", impl.SlabAdd(s, 0), impl.ErrFull)
			for n := range slots {
				// From the middle on, so that heads, ends and those between are cut.
				key := 999 - (n+slots/2)%slots*round
				s = impl.SlabCut(s, key).Slab
				if !impl.SlabRight(s) || impl.SlabFind(s, key) != -1 {
					t.Fatalf("of %d slots and %d chains: %d was cut: %+v", slots, chains, key, s)
				}
				for other := range slots - n - 1 {
					if left := 999 - (other+n+1+slots/2)%slots*round; impl.SlabFind(s, left) < 0 {
						t.Fatalf("of %d slots and %d chains: %d was cut, and %d with it: %+v", slots, chains, key, left, s)
					}
				}
			}
		}
	})
}

func TestSlabFindAndChainOf(t *testing.T) {
	s := someSlab()
	for key, want := range map[int64]int64{2: 0, 5: 1, 6: 2, 4: 3, 7: -1, 0: -1, 1: -1, 999: -1} {
		if got := impl.SlabFind(s, key); got != want {
			t.Errorf("SlabFind of %d: got %d, want %d", key, got, want)
		}
	}
	for _, key := range wrongNumbers(999) {
		if got := impl.SlabFind(s, key); got != -1 {
			t.Errorf("SlabFind of %d: got %d, want -1", key, got)
		}
	}
	wantAlong(t, s, 0, []int64{3, 2, 0})
	wantAlong(t, s, 1, []int64{1})
	for _, chain := range wrongNumbers(1) {
		wantAlong(t, s, chain, nil)
	}
}

func TestSlabAdd(t *testing.T) {
	want := turnedSlab(func(s *impl.Slab) {
		s.Slots[5] = impl.Slot{Key: 9, Gen: 9, Refs: 1, Next: 1}
		s.Heads[1] = 5
	})
	wantSlabOut(t, "the first free one", impl.SlabAdd(someSlab(), 9), impl.SlabOut{Slab: want, At: 5})
	// What is held is not linked: its key may be added.
	want.Slots[5].Key = 7
	wantSlabOut(t, "a key that is held", impl.SlabAdd(someSlab(), 7), impl.SlabOut{Slab: want, At: 5})
	early := turnedSlab(func(s *impl.Slab) { s.Slots[4].Refs = 0 })
	if out := impl.SlabAdd(early, 9); out.At != 4 || out.Slab.Slots[4].Gen != 3 || out.Slab.Slots[5] != early.Slots[5] {
		t.Errorf("of two free ones: got %+v", out)
	}
}

func TestSlabAddIsThereOrFull(t *testing.T) {
	full := turnedSlab(func(s *impl.Slab) { s.Slots[5].Refs = 1 })
	worn := turnedSlab(func(s *impl.Slab) { s.Slots[5].Gen = impl.MaxTime })
	// The first free one counts, though another one could still be used.
	wornFirst := turnedSlab(func(s *impl.Slab) { s.Slots[4].Refs, s.Slots[4].Gen = 0, impl.MaxTime })
	for what, s := range map[string]impl.Slab{"full": full, "worn": worn, "the first one worn": wornFirst} {
		wantCode(t, what, impl.SlabAdd(s, 9), impl.ErrFull)
		for _, key := range []int64{2, 4, 5, 6} {
			wantCode(t, what+", and there", impl.SlabAdd(s, key), impl.ErrThere)
		}
		for _, key := range wrongNumbers(999) {
			wantCode(t, what+", and no key", impl.SlabAdd(s, key), impl.ErrForm)
		}
	}
	wantCode(t, "there", impl.SlabAdd(someSlab(), 6), impl.ErrThere)
	last := turnedSlab(func(s *impl.Slab) { s.Slots[5].Gen = impl.MaxTime - 1 })
	if out := impl.SlabAdd(last, 9); out.Code != impl.OK || out.Slab.Slots[5].Gen != impl.MaxTime {
		t.Errorf("the last Gen: got %+v", out)
	}
	wornLater := turnedSlab(func(s *impl.Slab) { s.Slots[4].Refs, s.Slots[5].Gen = 0, impl.MaxTime })
	if out := impl.SlabAdd(wornLater, 9); out.Code != impl.OK || out.At != 4 {
		t.Errorf("a later one worn: got %+v", out)
	}
}

func TestSlabCut(t *testing.T) {
	first := turnedSlab(func(s *impl.Slab) { s.Heads[0], s.Slots[3].Refs = 2, 0 })
	wantSlabOut(t, "the first one", impl.SlabCut(someSlab(), 4), impl.SlabOut{Slab: first, At: 3})
	middle := turnedSlab(func(s *impl.Slab) { s.Slots[3].Next, s.Slots[2].Refs = 0, 3 })
	wantSlabOut(t, "one between", impl.SlabCut(someSlab(), 6), impl.SlabOut{Slab: middle, At: 2})
	last := turnedSlab(func(s *impl.Slab) { s.Slots[2].Next, s.Slots[0].Refs = -1, 0 })
	wantSlabOut(t, "the last one", impl.SlabCut(someSlab(), 2), impl.SlabOut{Slab: last, At: 0})
	only := turnedSlab(func(s *impl.Slab) { s.Heads[1], s.Slots[1].Refs = -2, 1 })
	wantSlabOut(t, "the only one", impl.SlabCut(someSlab(), 5), impl.SlabOut{Slab: only, At: 1})
	for _, key := range []int64{7, 0, 1, 999} {
		wantCode(t, "what is not linked", impl.SlabCut(someSlab(), key), impl.ErrNone)
	}
	for _, key := range wrongNumbers(999) {
		wantCode(t, "no key", impl.SlabCut(someSlab(), key), impl.ErrForm)
	}
}

// What is held stays when it is cut, and is free with its last put.
func TestSlabHeldAndCut(t *testing.T) {
	s := impl.SlabAdd(impl.SlabNew(2, 1), 0).Slab
	s = impl.SlabGet(s, 0).Slab
	s = impl.SlabCut(s, 0).Slab
	if s.Slots[0] != (impl.Slot{Key: 0, Gen: 1, Refs: 1, Next: -1}) || impl.SlabFind(s, 0) != -1 {
		t.Errorf("held and cut: got %+v", s)
	}
	again := impl.SlabAdd(s, 0)
	if again.At != 1 || impl.SlabFind(again.Slab, 0) != 1 {
		t.Errorf("added again while it is held: got %+v", again)
	}
	// Its Refs are 1, and the key is linked, but by another slot.
	put := impl.SlabPut(again.Slab, 0)
	if put.Code != impl.OK || put.Slab.Slots[0].Refs != 0 {
		t.Errorf("put: got %+v", put)
	}
	wantCode(t, "the linked one", impl.SlabPut(again.Slab, 1), impl.ErrState)
	wantCode(t, "put twice", impl.SlabPut(put.Slab, 0), impl.ErrNone)
	if out := impl.SlabAdd(put.Slab, 3); out.At != 0 || out.Slab.Slots[0] != (impl.Slot{Key: 3, Gen: 2, Refs: 1, Next: 1}) {
		t.Errorf("used again: got %+v", out)
	}
}

func TestSlabGet(t *testing.T) {
	for at, slot := range someSlab().Slots[:5] {
		want := turnedSlab(func(s *impl.Slab) { s.Slots[at].Refs = slot.Refs + 1 })
		wantSlabOut(t, "SlabGet", impl.SlabGet(someSlab(), int64(at)), impl.SlabOut{Slab: want, At: int64(at)})
	}
	wantCode(t, "a free one", impl.SlabGet(someSlab(), 5), impl.ErrNone)
	for _, at := range []int64{2, 4} {
		most := turnedSlab(func(s *impl.Slab) { s.Slots[at].Refs = impl.MaxTime })
		wantCode(t, "of the most Refs", impl.SlabGet(most, at), impl.ErrFull)
		most.Slots[at].Refs--
		if out := impl.SlabGet(most, at); out.Code != impl.OK || out.At != at || out.Slab.Slots[at].Refs != impl.MaxTime {
			t.Errorf("to the most Refs: got %+v", out)
		}
	}
	for _, at := range wrongNumbers(5) {
		wantCode(t, "no slot", impl.SlabGet(someSlab(), at), impl.ErrForm)
	}
}

func TestSlabPut(t *testing.T) {
	for _, at := range []int64{1, 2, 4} {
		want := turnedSlab(func(s *impl.Slab) { s.Slots[at].Refs-- })
		wantSlabOut(t, "SlabPut", impl.SlabPut(someSlab(), at), impl.SlabOut{Slab: want, At: at})
	}
	wantCode(t, "a free one", impl.SlabPut(someSlab(), 5), impl.ErrNone)
	for _, at := range []int64{0, 3} {
		wantCode(t, "a linked one of one Ref", impl.SlabPut(someSlab(), at), impl.ErrState)
	}
	most := turnedSlab(func(s *impl.Slab) { s.Slots[0].Refs = impl.MaxTime })
	if out := impl.SlabPut(most, 0); out.Code != impl.OK || out.Slab.Slots[0].Refs != impl.MaxTime-1 {
		t.Errorf("from the most Refs: got %+v", out)
	}
	for _, at := range wrongNumbers(5) {
		wantCode(t, "no slot", impl.SlabPut(someSlab(), at), impl.ErrForm)
	}
}

func TestSlabKeyEdges(t *testing.T) {
	for chains := int64(1); chains <= impl.MaxChains; chains++ {
		for _, key := range []int64{0, 999} {
			out := impl.SlabAdd(impl.SlabNew(1, chains), key)
			if out.Code != impl.OK || impl.SlabFind(out.Slab, key) != 0 {
				t.Errorf("key %d: got %+v", key, out)
			}
			for chain := range chains {
				want := []int64{}
				if chain == key%chains {
					want = []int64{0}
				}
				wantAlong(t, out.Slab, chain, want)
			}
			if cut := impl.SlabCut(out.Slab, key); cut.Code != impl.OK || impl.SlabFind(cut.Slab, key) != -1 {
				t.Errorf("key %d, cut: got %+v", key, cut)
			}
		}
		for _, key := range []int64{-1, 1000} {
			wantCode(t, "no key is added", impl.SlabAdd(impl.SlabNew(1, chains), key), impl.ErrForm)
			wantCode(t, "no key is cut", impl.SlabCut(impl.SlabNew(1, chains), key), impl.ErrForm)
			if got := impl.SlabFind(impl.SlabNew(1, chains), key); got != -1 {
				t.Errorf("SlabFind of %d: got %d, want -1", key, got)
			}
		}
	}
}

// What may look wrong, and is right: how slots are that are in no chain.
func TestSlabsThatAreRight(t *testing.T) {
	for what, turn := range map[string]func(s *impl.Slab){
		"as it is":                         func(s *impl.Slab) {},
		"a free slot's Next itself":        func(s *impl.Slab) { s.Slots[5].Next = 5 },
		"a free slot's Next the last slot": func(s *impl.Slab) { s.Slots[5].Next = 4 },
		"a free slot's Next another's end": func(s *impl.Slab) { s.Slots[5].Next = -1 },
		"a free slot's Next its own end":   func(s *impl.Slab) { s.Slots[5].Next = -2 },
		"a free slot of a linked key":      func(s *impl.Slab) { s.Slots[5].Key = 6 },
		"a held slot of a linked key":      func(s *impl.Slab) { s.Slots[4].Key = 6 },
		"two that lead round in no chain":  func(s *impl.Slab) { s.Slots[4].Next, s.Slots[5].Next = 5, 4 },
		"the most Gen":                     func(s *impl.Slab) { s.Slots[0].Gen, s.Slots[5].Gen = impl.MaxTime, impl.MaxTime },
		"the least Gen":                    func(s *impl.Slab) { s.Slots[0].Gen, s.Slots[5].Gen = 0, 0 },
		"the most Refs":                    func(s *impl.Slab) { s.Slots[0].Refs, s.Slots[4].Refs = impl.MaxTime, impl.MaxTime },
		"the greatest key":                 func(s *impl.Slab) { s.Slots[1].Key, s.Slots[5].Key = 999, 999 },
		"the least key":                    func(s *impl.Slab) { s.Slots[0].Key, s.Slots[5].Key = 0, 0 },
		"an empty chain":                   func(s *impl.Slab) { s.Heads[1] = -2 },
		"empty chains":                     func(s *impl.Slab) { s.Heads[0], s.Heads[1] = -1, -2 },
	} {
		if s := turnedSlab(turn); !impl.SlabRight(s) {
			t.Errorf("%s: %+v is not right", what, s)
		}
	}
}

// wrongSlabs: not right, each in one way.
func wrongSlabs() map[string]impl.Slab {
	wrong := map[string]impl.Slab{
		"nothing":   {},
		"no slots":  {Heads: []int64{-1}},
		"no chains": {Slots: []impl.Slot{{Next: -1}}},
		"25 slots": turnedSlab(func(s *impl.Slab) {
			s.Slots = append(s.Slots, make([]impl.Slot, 25-len(s.Slots))...)
		}),
		"500 slots": {Slots: make([]impl.Slot, 500), Heads: []int64{-1}},
		"5 chains":  turnedSlab(func(s *impl.Slab) { *s = plainOf(1, 5).slab() }),
	}
	for what, turn := range map[string]func(s *impl.Slab){
		"a chain at another's end at once":     func(s *impl.Slab) { s.Heads[1] = -1 },
		"a chain at another's end":             func(s *impl.Slab) { s.Slots[0].Next = -2 },
		"both at the other's end":              func(s *impl.Slab) { s.Slots[0].Next, s.Slots[1].Next = -2, -1 },
		"empty chains at the other's end":      func(s *impl.Slab) { s.Heads[0], s.Heads[1] = -2, -1 },
		"back upon its head":                   func(s *impl.Slab) { s.Slots[0].Next = 3 },
		"back upon its middle":                 func(s *impl.Slab) { s.Slots[0].Next = 2 },
		"a slot that leads to itself":          func(s *impl.Slab) { s.Slots[1].Next = 1 },
		"into another chain's slots":           func(s *impl.Slab) { s.Slots[1].Next = 2 },
		"a head in another chain":              func(s *impl.Slab) { s.Heads[1] = 0 },
		"two heads on one slot":                func(s *impl.Slab) { s.Heads[0] = 1 },
		"a free slot at the head":              func(s *impl.Slab) { s.Slots[3].Refs = 0 },
		"a free slot between":                  func(s *impl.Slab) { s.Slots[2].Refs = 0 },
		"a free slot at the end":               func(s *impl.Slab) { s.Slots[0].Refs = 0 },
		"a key of another chain at the head":   func(s *impl.Slab) { s.Slots[3].Key = 9 },
		"a key of another chain between":       func(s *impl.Slab) { s.Slots[2].Key = 9 },
		"a key of another chain at the end":    func(s *impl.Slab) { s.Slots[0].Key = 9 },
		"a key of another chain, alone":        func(s *impl.Slab) { s.Slots[1].Key = 8 },
		"a key twice, side by side":            func(s *impl.Slab) { s.Slots[2].Key = 4 },
		"a key twice, at both ends":            func(s *impl.Slab) { s.Slots[0].Key = 4 },
		"a key twice, the last two":            func(s *impl.Slab) { s.Slots[0].Key = 6 },
		"a key twice in the last chain":        func(s *impl.Slab) { s.Slots[4].Key, s.Heads[1] = 5, 4 },
		"a chain too many, which has no slots": func(s *impl.Slab) { s.Heads = append(s.Heads, -1) },
	} {
		wrong[what] = turnedSlab(turn)
	}
	return wrong
}

// wrongLinks: heads and Nexts of someSlab that are neither slot nor end.
func wrongLinks() []int64 {
	return []int64{-3, -4, 6, 7, 24, 1 << 32, -1 << 32, math.MaxInt64, math.MinInt64, math.MinInt64 + 1}
}

func wrongSlabsByNumbers() []impl.Slab {
	var wrong []impl.Slab
	// One that is linked, one that is held, one that is free.
	for _, at := range []int{0, 1, 4, 5} {
		for _, n := range wrongNumbers(999) {
			wrong = append(wrong, turnedSlab(func(s *impl.Slab) { s.Slots[at].Key = n }))
		}
		for _, n := range wrongNumbers(impl.MaxTime) {
			wrong = append(wrong, turnedSlab(func(s *impl.Slab) { s.Slots[at].Gen = n }))
			wrong = append(wrong, turnedSlab(func(s *impl.Slab) { s.Slots[at].Refs = n }))
		}
		for _, n := range wrongLinks() {
			wrong = append(wrong, turnedSlab(func(s *impl.Slab) { s.Slots[at].Next = n }))
		}
	}
	for _, n := range wrongLinks() {
		wrong = append(wrong, turnedSlab(func(s *impl.Slab) { s.Heads[0] = n }))
		wrong = append(wrong, turnedSlab(func(s *impl.Slab) { s.Heads[1] = n }))
	}
	return wrong
}

func wantRefused(t *testing.T, what string, s impl.Slab) {
	t.Helper()
	if impl.SlabRight(s) {
		t.Errorf("%s: %+v is right", what, s)
	}
	for _, n := range []int64{-1, 0, 1, 5, 9, 999, 1000} {
		if got := impl.SlabFind(s, n); got != -1 {
			t.Errorf("%s: SlabFind of %d: got %d, want -1", what, n, got)
		}
		wantAlong(t, s, n, nil)
		wantCode(t, what+", SlabAdd", impl.SlabAdd(s, n), impl.ErrForm)
		wantCode(t, what+", SlabCut", impl.SlabCut(s, n), impl.ErrForm)
		wantCode(t, what+", SlabGet", impl.SlabGet(s, n), impl.ErrForm)
		wantCode(t, what+", SlabPut", impl.SlabPut(s, n), impl.ErrForm)
	}
}

func TestWrongSlabsAreRefused(t *testing.T) {
	for what, s := range wrongSlabs() {
		wantRefused(t, what, s)
	}
	for _, s := range wrongSlabsByNumbers() {
		wantRefused(t, "a wrong number", s)
	}
}

// Filled to the last slot and chain it is right; with one more it is not.
func TestSlabEdgesOfSize(t *testing.T) {
	s := impl.SlabNew(24, 4)
	for key := range int64(24) {
		s = impl.SlabAdd(s, key).Slab
	}
	if !impl.SlabRight(s) || len(impl.ChainOf(s, 3)) != 6 {
		t.Errorf("24 slots and 4 chains: %+v", s)
	}
	for chain := range int64(4) {
		wantAlong(t, s, chain, []int64{chain + 20, chain + 16, chain + 12, chain + 8, chain + 4, chain})
	}
	wantCode(t, "one more key", impl.SlabAdd(s, 24), impl.ErrFull)
	more := copyOf(s)
	more.Slots = append(more.Slots, impl.Slot{Next: -1})
	wantRefused(t, "25 slots", more)
	more = copyOf(impl.SlabNew(24, 4))
	more.Heads = append(more.Heads, -5)
	wantRefused(t, "5 chains", more)
	if one := impl.SlabNew(1, 1); !impl.SlabRight(one) || impl.SlabAdd(one, 999).Code != impl.OK {
		t.Errorf("1 slot and 1 chain: %+v", one)
	}
	// The ends of the chains that are not there are no Nexts.
	for chains := int64(1); chains <= impl.MaxChains; chains++ {
		end := impl.SlabNew(2, chains)
		end.Slots[0].Next = -chains
		if !impl.SlabRight(end) {
			t.Errorf("a Next of %d of %d chains is not right", -chains, chains)
		}
		end.Slots[0].Next = -chains - 1
		if impl.SlabRight(end) {
			t.Errorf("a Next of %d of %d chains is right", -chains-1, chains)
		}
	}
}

// scribble writes over a slab, also behind its end.
func scribble(s impl.Slab) {
	for _, slots := range [][]impl.Slot{s.Slots, append(s.Slots, impl.Slot{Key: -9})} {
		for at := range slots {
			slots[at] = impl.Slot{Key: -9, Gen: -9, Refs: -9, Next: -9}
		}
	}
	for _, heads := range [][]int64{s.Heads, append(s.Heads, -9)} {
		for chain := range heads {
			heads[chain] = -9
		}
	}
}

// roomySlab: someSlab, with room behind its lists in which nobody may write.
func roomySlab() (s impl.Slab, slots []impl.Slot, heads []int64) {
	slots = append(someSlab().Slots, make([]impl.Slot, 4)...)
	heads = append(someSlab().Heads, 0, 0, 0, 0)
	return impl.Slab{Slots: slots[:6], Heads: heads[:2]}, slots, heads
}

func TestSlabAnswersAreNewMemory(t *testing.T) {
	for what, do := range map[string]func(s impl.Slab) impl.Slab{
		"SlabAdd": func(s impl.Slab) impl.Slab { return impl.SlabAdd(s, 9).Slab },
		"SlabCut": func(s impl.Slab) impl.Slab { return impl.SlabCut(s, 6).Slab },
		"SlabGet": func(s impl.Slab) impl.Slab { return impl.SlabGet(s, 2).Slab },
		"SlabPut": func(s impl.Slab) impl.Slab { return impl.SlabPut(s, 2).Slab },
	} {
		s, slots, heads := roomySlab()
		wantSlots, wantHeads := append([]impl.Slot{}, slots...), append([]int64{}, heads...)
		got := do(s)
		kept := copyOf(got)
		scribble(got)
		if !reflect.DeepEqual(slots, wantSlots) || !reflect.DeepEqual(heads, wantHeads) {
			t.Errorf("%s: what it was given is now %+v", what, s)
		}
		got = do(s)
		scribble(s)
		if !sameSlab(got, kept) {
			t.Errorf("%s: what it told turned with what it was given: %+v", what, got)
		}
	}
	s := someSlab()
	along := impl.ChainOf(s, 0)
	for place := range along {
		along[place] = -9
	}
	_ = append(along, -9)
	if !sameSlab(s, someSlab()) {
		t.Errorf("ChainOf: what it was given is now %+v", s)
	}
	scribble(impl.SlabNew(6, 2))
	if !sameSlab(impl.SlabNew(6, 2), plainOf(6, 2).slab()) {
		t.Error("SlabNew tells what was told ahead of it")
	}
}

func TestSlabsAreOnlyRead(t *testing.T) {
	for what, s := range wrongSlabs() {
		before := copyOf(s)
		wantRefused(t, what, s)
		if !sameSlab(s, before) {
			t.Errorf("%s: %+v was written into, was %+v", what, s, before)
		}
	}
	s := someSlab()
	for n := int64(-2); n <= 10; n++ {
		impl.SlabRight(s)
		impl.SlabFind(s, n)
		impl.ChainOf(s, n)
		impl.SlabAdd(s, n)
		impl.SlabCut(s, n)
		impl.SlabGet(s, n)
		impl.SlabPut(s, n)
		if !sameSlab(s, someSlab()) {
			t.Fatalf("by %d it was written into: %+v", n, s)
		}
	}
}
