package tests

import (
	"math"
	"slices"
	"testing"

	"loop.example/g00542/impl"
)

func addrOf(t *testing.T, text string) int64 {
	t.Helper()
	out := impl.AddrRead(text)
	if out.Code != impl.OK {
		t.Fatalf("AddrRead(%q): got code %d", text, out.Code)
	}
	return out.N
}

// srcRule: who is in 10.0.0.0/8 goes on as 203.0.113.1, by ports from low to high.
func srcRule(low int64, high int64) impl.Rule {
	return impl.Rule{Kind: impl.NtSrc, Net: 0x0A000000, Bits: 8, To: 0xCB007101, Low: low, High: high}
}

// dstRule: what goes to 203.0.113.1 goes to 10.0.0.9, at that port.
func dstRule(port int64) impl.Rule {
	return impl.Rule{Kind: impl.NtDst, Net: 0xCB007101, Bits: 32, To: 0x0A000009, Low: port, High: port}
}

// withinTuples: of each Proto and Kind, from who is in 10.0.0.0/8.
func withinTuples() []impl.Tuple {
	all := eachTuple()
	for place := range all {
		all[place].Src, all[place].Dst = 0x0A000001, 0x08080808
	}
	return all
}

// outsideTuples: of each Proto and Kind, to 203.0.113.1.
func outsideTuples() []impl.Tuple {
	all := eachTuple()
	for place := range all {
		all[place].Src, all[place].Dst = 0x08080808, 0xCB007101
	}
	return all
}

func plainTurned(u impl.Tuple) impl.Tuple {
	back := impl.Tuple{Proto: u.Proto, Src: u.Dst, SPort: u.DPort, Dst: u.Src, DPort: u.SPort}
	if u.Proto == impl.PrPing {
		back.Kind = impl.IcAsk + impl.IcReply - u.Kind
	}
	return back
}

// plainInNet goes by the bits one by one, the highest first.
func plainInNet(addr int64, net int64, bits int64) bool {
	for bit := range bits {
		if addr>>(31-bit)&1 != net>>(31-bit)&1 {
			return false
		}
	}
	return true
}

// plainRuleFor gives the place of the first rule for a tuple, -1 without one.
func plainRuleFor(l []impl.Rule, kind int64, u impl.Tuple) int {
	for place, r := range l {
		end := u.Src
		if kind == impl.NtDst {
			end = u.Dst
		}
		if r.Kind == kind && (r.Proto == 0 || r.Proto == u.Proto) && plainInNet(end, r.Net, r.Bits) {
			return place
		}
	}
	return -1
}

func plainUsed(used []impl.Tuple, u impl.Tuple) bool {
	for _, one := range used {
		if one == u || one == plainTurned(u) {
			return true
		}
	}
	return false
}

// withSPort gives a tuple a port of its own; of PrPing it is at both ends.
func withSPort(u impl.Tuple, port int64) impl.Tuple {
	u.SPort = port
	if u.Proto == impl.PrPing {
		u.DPort = port
	}
	return u
}

// plainGoes does what chapter 9 says of right things, and names what it was.
func plainGoes(l []impl.Rule, u impl.Tuple, start int64, used []impl.Tuple) (what string, want impl.TupleOut) {
	if place := plainRuleFor(l, impl.NtDst, u); place >= 0 {
		u.Dst = l[place].To
		if u.Proto != impl.PrPing && l[place].Low != 0 {
			u.DPort = l[place].Low
		}
		what = "turned, "
	}
	place := plainRuleFor(l, impl.NtSrc, u)
	if place < 0 {
		if plainUsed(used, u) {
			return what + "itself used", impl.TupleOut{Code: impl.ErrFull}
		}
		return what + "itself", impl.TupleOut{Tuple: u}
	}
	r := l[place]
	u.Src = r.To
	port := r.Low
	for range start % (r.High - r.Low + 1) {
		port++
	}
	first := port
	for {
		if u = withSPort(u, port); !plainUsed(used, u) {
			break
		}
		if port++; port > r.High {
			port = r.Low
		}
		if port == first {
			return what + "all ports used", impl.TupleOut{Code: impl.ErrFull}
		}
	}
	switch {
	case port < first:
		return what + "round", impl.TupleOut{Tuple: u}
	case port > first:
		return what + "a later port", impl.TupleOut{Tuple: u}
	}
	return what + "the first port", impl.TupleOut{Tuple: u}
}

func wantGoes(t *testing.T, what string, l []impl.Rule, u impl.Tuple, start int64, used []impl.Tuple, want impl.TupleOut) {
	t.Helper()
	if got := impl.GoesAs(l, u, start, used); got != want {
		t.Errorf("%s: GoesAs(%+v, %+v, %d, %+v): got %+v, want %+v", what, l, u, start, used, got, want)
	}
}

func wantGoesCode(t *testing.T, what string, l []impl.Rule, u impl.Tuple, start int64, used []impl.Tuple, code int64) {
	t.Helper()
	wantGoes(t, what, l, u, start, used, impl.TupleOut{Code: code})
}

// oneOf gives one of some things.
func oneOf[T any](d *dice, some ...T) T {
	return some[d.below(int64(len(some)))]
}

// Few addresses, so that rules and tuples meet.
func someAddr(d *dice) int64 {
	return oneOf(d, 0, 0x0A000001, 0x0A000002, 0x0A000009, 0x0B000001, 0x8A000001, 0xCB007101, int64(mostAddr))
}

func thrownRule(d *dice) impl.Rule {
	bits := oneOf(d, 0, 0, 1, 7, 8, 31, 32, 32, d.below(33))
	low := oneOf(d, 0, 1, 500, 65530, 65535, d.below(65536))
	r := impl.Rule{
		Kind: oneOf[int64](d, impl.NtSrc, impl.NtDst), Proto: oneOf[int64](d, 0, 0, impl.PrTcp, impl.PrUdp, impl.PrPing),
		Net: someAddr(d) >> (32 - bits) << (32 - bits), Bits: bits, To: someAddr(d), Low: low, High: low,
	}
	if r.Kind == impl.NtSrc {
		r.High = min(65535, low+oneOf[int64](d, 0, 1, 2, 5, 20, 65535))
	}
	return r
}

func thrownRules(d *dice) []impl.Rule {
	l := []impl.Rule{}
	for range d.below(impl.MaxRules + 1) {
		l = append(l, thrownRule(d))
	}
	return l
}

func thrownTuple(d *dice) impl.Tuple {
	u := oneOf(d, eachTuple()...)
	u.Src, u.Dst = someAddr(d), someAddr(d)
	if u.Proto != impl.PrPing {
		u.DPort = oneOf[int64](d, 0, 80, 500, 65535)
	}
	return withSPort(u, oneOf[int64](d, 0, 7, 500, 501, 65535))
}

// wantUnused: promise 11.
func wantUnused(t *testing.T, u impl.Tuple, used []impl.Tuple) {
	t.Helper()
	if !impl.TupleRight(u) {
		t.Errorf("%+v is not right", u)
	}
	if slices.Contains(used, u) || slices.Contains(used, impl.Invert(u)) {
		t.Errorf("%+v is used: %+v", u, used)
	}
}

// Promise 11, and all else that chapter 9 says of a name: flows of one tuple go
// on, one by one, until none may, by many rules; whoever goes on is used then,
// turned round or not.
func TestManyNamesGivenOut(t *testing.T) {
	met, d := map[string]int{}, dice(8)
	for range 3000 {
		l, u, start := thrownRules(&d), thrownTuple(&d), oneOf(&d, 0, 1, d.below(40), d.below(impl.MaxTime), impl.MaxTime)
		used := []impl.Tuple{}
		for range oneOf(&d, 0, 0, 3, d.below(60)) {
			used = append(used, thrownTuple(&d))
		}
		for len(used) <= 60 {
			what, want := plainGoes(l, u, start, used)
			wantGoes(t, what, l, u, start, used, want)
			if t.Failed() {
				return
			}
			met[what]++
			if want.Code != impl.OK {
				break
			}
			wantUnused(t, want.Tuple, used)
			used = append(used, oneOf(&d, want.Tuple, plainTurned(want.Tuple)))
			if d.below(4) == 0 {
				start = d.below(impl.MaxTime + 1)
			}
		}
	}
	for _, what := range []string{"itself", "itself used", "the first port", "a later port", "round", "all ports used"} {
		if met[what] < 100 || met["turned, "+what] < 100 {
			t.Errorf("%s: met %d times, %d turned: the names do not come to it", what, met[what], met["turned, "+what])
		}
	}
}

func TestNatNumbers(t *testing.T) {
	if impl.NtSrc != 1 || impl.NtDst != 2 || impl.MaxRules != 6 {
		t.Errorf("got %d, %d, %d, want 1, 2, 6", impl.NtSrc, impl.NtDst, impl.MaxRules)
	}
}

func wantInNet(t *testing.T, addr int64, net int64, bits int64, want bool) {
	t.Helper()
	if got := impl.InNet(addr, net, bits); got != want {
		t.Errorf("InNet(%X, %X, %d): got %v", addr, net, bits, got)
	}
}

// Each bit turned, of addresses and nets: those behind Bits count for nothing,
// also where the net has some.
func TestInNetBitByBit(t *testing.T) {
	for bits := int64(0); bits <= 32; bits++ {
		for _, net := range []int64{0, 1, 0x0A000000, 0x7FFFFFFF, 0x80000000, 0xCB007101, mostAddr} {
			wantInNet(t, net, net, bits, true)
			wantInNet(t, mostAddr-net, net, bits, bits == 0)
			for bit := range int64(32) {
				wantInNet(t, net^1<<(31-bit), net, bits, bit >= bits)
				wantInNet(t, net, net^1<<(31-bit), bits, bit >= bits)
			}
		}
	}
}

func TestInNetOfKnownNets(t *testing.T) {
	for _, one := range []struct {
		addr string
		net  string
		bits int64
		want bool
	}{
		{"10.9.9.9", "10.0.0.0", 8, true},
		{"10.255.255.255", "10.0.0.0", 8, true},
		{"11.0.0.0", "10.0.0.0", 8, false},
		{"9.255.255.255", "10.0.0.0", 8, false},
		{"11.0.0.0", "10.0.0.0", 7, true},
		{"203.0.113.1", "203.0.113.1", 32, true},
		{"203.0.113.0", "203.0.113.1", 32, false},
		{"203.0.113.0", "203.0.113.1", 31, true},
		{"203.0.113.2", "203.0.113.1", 31, false},
		{"127.255.255.255", "0.0.0.0", 1, true},
		{"128.0.0.0", "0.0.0.0", 1, false},
		{"255.255.255.255", "0.0.0.0", 0, true},
	} {
		wantInNet(t, addrOf(t, one.addr), addrOf(t, one.net), one.bits, one.want)
	}
}

func TestInNetOfWhatIsNone(t *testing.T) {
	for _, wrong := range wrongNumbers(mostAddr) {
		for _, bits := range []int64{0, 1, 8, 32} {
			wantInNet(t, wrong, 0, bits, false)
			wantInNet(t, 0, wrong, bits, false)
			wantInNet(t, wrong, wrong, bits, false)
		}
	}
	for _, bits := range wrongNumbers(32) {
		wantInNet(t, 0, 0, bits, false)
		wantInNet(t, mostAddr, mostAddr, bits, false)
	}
}

// edgeRules: right rules with each number at its ends.
func edgeRules() []impl.Rule {
	all := []impl.Rule{{Kind: impl.NtSrc}, {Kind: impl.NtDst}}
	for _, r := range []impl.Rule{srcRule(500, 502), srcRule(0, 65535), srcRule(7, 7), dstRule(8080), dstRule(0)} {
		for _, proto := range []int64{0, impl.PrTcp, impl.PrUdp, impl.PrPing} {
			r.Proto = proto
			all = append(all, r)
		}
		for _, to := range []int64{0, 1, 0x80000000, mostAddr} {
			r.To = to
			all = append(all, r)
		}
		for _, port := range someWords() {
			r.Low, r.High = port, port
			all = append(all, r)
		}
		for bits := int64(0); bits <= 32; bits++ {
			r.Net, r.Bits = mostAddr>>(32-bits)<<(32-bits), bits
			all = append(all, r)
			r.Net = 0
			all = append(all, r)
		}
	}
	for _, ports := range [][2]int64{{0, 65535}, {0, 1}, {65534, 65535}, {0, 0}, {65535, 65535}, {1, 65535}, {0, 65534}} {
		all = append(all, srcRule(ports[0], ports[1]))
	}
	return all
}

// wrongRules: rules that are not right, each by one fault alone.
func wrongRules() []impl.Rule {
	all := []impl.Rule{{}, {Proto: impl.PrTcp, To: 1, Low: 1, High: 1}}
	for _, right := range []impl.Rule{srcRule(500, 502), srcRule(500, 500), dstRule(8080), dstRule(0)} {
		turn := func(field func(r *impl.Rule) *int64, numbers ...int64) {
			for _, n := range numbers {
				r := right
				*field(&r) = n
				all = append(all, r)
			}
		}
		turn(func(r *impl.Rule) *int64 { return &r.Kind }, append(wrongNumbers(2), 0, 3)...)
		turn(func(r *impl.Rule) *int64 { return &r.Proto }, append(wrongNumbers(impl.PrUdp), 2, 3, 5, 7, 8, 16, 18)...)
		turn(func(r *impl.Rule) *int64 { return &r.Bits }, append(wrongNumbers(32), -1, 33)...)
		turn(func(r *impl.Rule) *int64 { return &r.Net }, append(wrongNumbers(mostAddr), right.Net+mostAddr+1, right.Net-mostAddr-1)...)
		turn(func(r *impl.Rule) *int64 { return &r.To }, append(wrongNumbers(mostAddr), right.To+mostAddr+1)...)
		for _, wrong := range append(noWords(), math.MinInt64, math.MaxInt64) {
			r := right
			r.Low, r.High = wrong, wrong
			all = append(all, r)
		}
		turn(func(r *impl.Rule) *int64 { return &r.Low }, -1, right.High+1, 65535, 65536, math.MinInt64, math.MaxInt64)
		turn(func(r *impl.Rule) *int64 { return &r.High }, -1, right.Low-1, 65536, math.MinInt64, math.MaxInt64)
	}
	for bits := range int64(32) {
		r := srcRule(1, 2)
		for bit := bits; bit < 32; bit++ {
			r.Net, r.Bits = 1<<(31-bit), bits
			all = append(all, r)
		}
	}
	for _, ports := range [][2]int64{{500, 501}, {0, 1}, {0, 65535}, {65534, 65535}, {501, 500}, {65535, 0}} {
		r := dstRule(0)
		r.Low, r.High = ports[0], ports[1]
		all = append(all, r)
	}
	return all
}

func TestRulesThatAreRight(t *testing.T) {
	for _, r := range edgeRules() {
		if !impl.RuleRight(r) || !impl.RulesRight([]impl.Rule{r}) {
			t.Errorf("%+v is not right", r)
		}
	}
}

// wantRulesRefused: of a list that is not right there is no rule, and nobody goes
// on by it.
func wantRulesRefused(t *testing.T, what string, l []impl.Rule, code int64) {
	t.Helper()
	if impl.RulesRight(l) {
		t.Errorf("%s: RulesRight(%+v): got true", what, l)
	}
	for _, u := range append(withinTuples(), outsideTuples()...) {
		for _, kind := range []int64{impl.NtSrc, impl.NtDst} {
			if got := impl.RuleFor(l, kind, u); got != (impl.Rule{}) {
				t.Errorf("%s: RuleFor(%+v, %d, %+v): got %+v", what, l, kind, u, got)
			}
		}
		wantGoesCode(t, what, l, u, 0, nil, code)
	}
}

func TestRulesThatAreNotRightAreRefused(t *testing.T) {
	for _, r := range wrongRules() {
		if impl.RuleRight(r) {
			t.Errorf("RuleRight(%+v): got true", r)
		}
		first, last := srcRule(500, 502), dstRule(80)
		wantRulesRefused(t, "alone", []impl.Rule{r}, impl.ErrForm)
		wantRulesRefused(t, "behind others", []impl.Rule{first, last, r}, impl.ErrForm)
		wantRulesRefused(t, "ahead of others", []impl.Rule{r, first, last}, impl.ErrForm)
	}
}

func TestHowManyRules(t *testing.T) {
	for many := range 10 {
		l := []impl.Rule{}
		for place := range many {
			l = append(l, srcRule(int64(place), 502))
		}
		if many > impl.MaxRules {
			wantRulesRefused(t, "too many", l, impl.ErrForm)
			continue
		}
		if !impl.RulesRight(l) {
			t.Errorf("%d rules are not right", many)
		}
		for place := range l {
			l[place].Net, l[place].Bits = int64(place)<<24, 8
		}
		for place, r := range l {
			u := tcpTuple()
			u.Src = int64(place)<<24 + 7
			if got := impl.RuleFor(l, impl.NtSrc, u); got != r {
				t.Errorf("RuleFor of %d, the rule %d: got %+v, want %+v", many, place, got, r)
			}
		}
	}
	if !impl.RulesRight(nil) {
		t.Error("no rules are not right")
	}
	many := slices.Repeat([]impl.Rule{srcRule(500, 502)}, impl.MaxList)
	wantRulesRefused(t, "MaxList", many, impl.ErrForm)
	wantRulesRefused(t, "more than MaxList", append(many, srcRule(500, 502)), impl.ErrSize)
}

func wantRuleFor(t *testing.T, l []impl.Rule, kind int64, u impl.Tuple, want impl.Rule) {
	t.Helper()
	if got := impl.RuleFor(l, kind, u); got != want {
		t.Errorf("RuleFor(%+v, %d, %+v): got %+v, want %+v", l, kind, u, got, want)
	}
}

// The first one counts, by Kind, Proto, and Src or Dst.
func TestRuleFor(t *testing.T) {
	every, tcp, ping := srcRule(1, 1), srcRule(2, 2), srcRule(3, 3)
	tcp.Proto, ping.Proto = impl.PrTcp, impl.PrPing
	goal, port := dstRule(80), dstRule(0)
	port.Proto = impl.PrUdp
	l := []impl.Rule{goal, ping, tcp, port, every, srcRule(4, 4)}
	for place, u := range withinTuples() {
		wantRuleFor(t, l, impl.NtSrc, u, []impl.Rule{tcp, every, ping, ping}[place])
		wantRuleFor(t, l, impl.NtDst, u, impl.Rule{})
		wantRuleFor(t, l, impl.NtSrc, plainTurned(u), impl.Rule{})
		wantRuleFor(t, []impl.Rule{every, tcp, ping}, impl.NtSrc, u, every)
		wantRuleFor(t, nil, impl.NtSrc, u, impl.Rule{})
	}
	for _, u := range outsideTuples() {
		wantRuleFor(t, l, impl.NtDst, u, goal)
		wantRuleFor(t, l, impl.NtSrc, u, impl.Rule{})
		wantRuleFor(t, l, impl.NtDst, plainTurned(u), impl.Rule{})
	}
	for place, u := range outsideTuples() {
		wantRuleFor(t, []impl.Rule{port, every}, impl.NtDst, u, []impl.Rule{{}, port, {}, {}}[place])
	}
}

func TestRuleForWhatMayNotBe(t *testing.T) {
	everywhere := []impl.Rule{{Kind: impl.NtSrc}, {Kind: impl.NtDst}}
	for _, u := range edgeTuples() {
		wantRuleFor(t, everywhere, impl.NtSrc, u, everywhere[0])
		wantRuleFor(t, everywhere, impl.NtDst, u, everywhere[1])
		for _, kind := range append(wrongNumbers(2), 0, 3) {
			wantRuleFor(t, everywhere, kind, u, impl.Rule{})
		}
	}
	for _, u := range wrongTuples() {
		wantRuleFor(t, everywhere, impl.NtSrc, u, impl.Rule{})
		wantRuleFor(t, everywhere, impl.NtDst, u, impl.Rule{})
	}
}

func TestRulesAgainstPlainOnes(t *testing.T) {
	d, met := dice(9), 0
	for range 5000 {
		l, u := thrownRules(&d), thrownTuple(&d)
		for _, kind := range []int64{impl.NtSrc, impl.NtDst} {
			want := impl.Rule{}
			if place := plainRuleFor(l, kind, u); place >= 0 {
				want = l[place]
				met++
			}
			wantRuleFor(t, l, kind, u, want)
		}
	}
	if met < 1000 {
		t.Errorf("met %d rules", met)
	}
}

// Out of the house: Src and SPort turn, of PrPing both ports.
func TestWhoIsWithinGoesOn(t *testing.T) {
	for _, u := range withinTuples() {
		for start, port := range map[int64]int64{0: 500, 1: 501, 2: 502, 3: 500, 4: 501, 999999: 500, impl.MaxTime: 501} {
			want := withSPort(u, port)
			want.Src = 0xCB007101
			wantGoes(t, "within", []impl.Rule{srcRule(500, 502)}, u, start, nil, impl.TupleOut{Tuple: want})
		}
	}
}

// Into the house: Dst and DPort turn; of PrPing, and of a Low of 0, the port stays.
func TestWhoIsOutsideComesIn(t *testing.T) {
	for _, u := range outsideTuples() {
		for _, low := range []int64{0, 1, 8080, 65535} {
			want := u
			want.Dst = 0x0A000009
			if low > 0 && u.Proto != impl.PrPing {
				want.DPort = low
			}
			wantGoes(t, "outside", []impl.Rule{dstRule(low)}, u, 5, nil, impl.TupleOut{Tuple: want})
			wantGoes(t, "not to the house", []impl.Rule{dstRule(low)}, plainTurned(u), 5, nil, impl.TupleOut{Tuple: plainTurned(u)})
		}
	}
}

// Who turns from within to the house's own name gets both: the goal first.
func TestBothEndsTurn(t *testing.T) {
	for _, u := range withinTuples() {
		u.Dst = 0xCB007101
		want := withSPort(u, 501)
		want.Src, want.Dst = 0xCB007101, 0x0A000009
		if u.Proto != impl.PrPing {
			want.DPort = 8080
		}
		for _, l := range [][]impl.Rule{{srcRule(500, 502), dstRule(8080)}, {dstRule(8080), srcRule(500, 502)}} {
			wantGoes(t, "both", l, u, 1, nil, impl.TupleOut{Tuple: want})
			wantGoes(t, "both, once more", l, u, 1, []impl.Tuple{plainTurned(want)}, impl.TupleOut{Tuple: withSPort(want, 502)})
			// What is used of the tuple ahead of its turning counts for nothing.
			wantGoes(t, "both, itself used", l, u, 1, []impl.Tuple{u, plainTurned(u)}, impl.TupleOut{Tuple: want})
		}
	}
}

// A rule of NtDst names a Dst alone: the one of NtSrc is sought by the Src that
// the tuple still has, and NtDst is not sought again.
func TestTheOrderOfTurning(t *testing.T) {
	again := dstRule(9)
	again.Net, again.To = 0x0A000009, 7
	for _, u := range outsideTuples() {
		want := u
		want.Dst = 0x0A000009
		if u.Proto != impl.PrPing {
			want.DPort = 8080
		}
		l := []impl.Rule{srcRule(500, 502), again, dstRule(8080), again}
		wantGoes(t, "the Src is outside", l, u, 0, nil, impl.TupleOut{Tuple: want})
	}
	into := dstRule(8080)
	into.Net, into.Bits, into.To = 0, 0, 0xCB007101
	back := srcRule(500, 502)
	back.Net, back.Bits = 0xCB007101, 32
	for _, u := range withinTuples() {
		want := u
		want.Dst = 0xCB007101
		if u.Proto != impl.PrPing {
			want.DPort = 8080
		}
		wantGoes(t, "the Dst is no Src", []impl.Rule{back, into}, u, 0, nil, impl.TupleOut{Tuple: want})
	}
}

// A rule of another Proto counts for nothing, one of any for all.
func TestNamesByProto(t *testing.T) {
	for _, proto := range []int64{0, impl.PrTcp, impl.PrUdp, impl.PrPing} {
		src, dst := srcRule(500, 502), dstRule(8080)
		src.Proto, dst.Proto = proto, proto
		for place := range eachTuple() {
			in, out := withinTuples()[place], outsideTuples()[place]
			wantIn, wantOut := in, out
			if proto == 0 || proto == in.Proto {
				wantIn = withSPort(in, 500)
				wantIn.Src, wantOut.Dst = 0xCB007101, 0x0A000009
				if out.Proto != impl.PrPing {
					wantOut.DPort = 8080
				}
			}
			wantGoes(t, "within", []impl.Rule{src, dst}, in, 0, nil, impl.TupleOut{Tuple: wantIn})
			wantGoes(t, "outside", []impl.Rule{src, dst}, out, 0, nil, impl.TupleOut{Tuple: wantOut})
		}
	}
}

// named gives the name of a tuple from within, by a port.
func named(u impl.Tuple, port int64) impl.Tuple {
	u.Src = 0xCB007101
	return withSPort(u, port)
}

// usedPorts: the names of a tuple by each of some ports, turned round every other one.
func usedPorts(u impl.Tuple, ports ...int64) []impl.Tuple {
	used := []impl.Tuple{}
	for place, port := range ports {
		one := named(u, port)
		if place%2 == 1 {
			one = plainTurned(one)
		}
		used = append(used, one)
	}
	return used
}

// From where start stands on to High, then from Low: the first one that is free;
// each one in turn as the last that is, and then none.
func TestPortsGoRound(t *testing.T) {
	for _, low := range []int64{0, 1, 500, 65532} {
		l := []impl.Rule{srcRule(low, low+3)}
		for _, u := range withinTuples() {
			for start := range int64(8) {
				order := []int64{low, low + 1, low + 2, low + 3, low, low + 1, low + 2, low + 3}[start%4:][:4]
				for many := range 5 {
					want := impl.TupleOut{Code: impl.ErrFull}
					if many < 4 {
						want = impl.TupleOut{Tuple: named(u, order[many])}
					}
					wantGoes(t, "so many used", l, u, start, usedPorts(u, order[:many]...), want)
				}
				for free := range order {
					others := append(slices.Clone(order[:free]), order[free+1:]...)
					wantGoes(t, "one free", l, u, start, usedPorts(u, others...), impl.TupleOut{Tuple: named(u, order[free])})
				}
			}
		}
	}
}

// Just the tuple, or it turned round, takes a port: what differs in one number
// takes none.
func TestWhatTakesAPort(t *testing.T) {
	for _, u := range withinTuples() {
		l := []impl.Rule{srcRule(500, 501)}
		for _, one := range []impl.Tuple{named(u, 500), plainTurned(named(u, 500))} {
			wantGoes(t, "used", l, u, 0, []impl.Tuple{one}, impl.TupleOut{Tuple: named(u, 501)})
			wantGoes(t, "used twice", l, u, 0, []impl.Tuple{one, one}, impl.TupleOut{Tuple: named(u, 501)})
			for _, turn := range []func(x *impl.Tuple){
				func(x *impl.Tuple) { x.Src++ },
				func(x *impl.Tuple) { x.Dst++ },
				func(x *impl.Tuple) { *x = withSPort(*x, x.SPort+9) },
				func(x *impl.Tuple) { x.DPort += 9; x.SPort = x.DPort },
				func(x *impl.Tuple) { x.Src, x.Dst = x.Dst, x.Src },
				func(x *impl.Tuple) { x.SPort, x.DPort = x.DPort+9, x.SPort+9 },
				func(x *impl.Tuple) {
					x.Kind = impl.IcAsk + impl.IcReply - x.Kind
					x.Proto = impl.PrPing
					x.DPort = x.SPort
				},
				func(x *impl.Tuple) { x.Proto, x.Kind = impl.PrTcp+impl.PrUdp-x.Proto, 0 },
			} {
				other := one
				turn(&other)
				if !impl.TupleRight(other) {
					continue
				}
				wantGoes(t, "another used", l, u, 0, []impl.Tuple{other}, impl.TupleOut{Tuple: named(u, 500)})
			}
		}
	}
}

// Of a single port, and of all words.
func TestPortsAtTheirEdges(t *testing.T) {
	for _, u := range withinTuples() {
		for _, port := range []int64{0, 1, 500, 65534, 65535} {
			l := []impl.Rule{srcRule(port, port)}
			for _, start := range []int64{0, 1, 65535, impl.MaxTime} {
				wantGoes(t, "one port", l, u, start, nil, impl.TupleOut{Tuple: named(u, port)})
				wantGoesCode(t, "one port, used", l, u, start, usedPorts(u, port), impl.ErrFull)
			}
		}
		all := []impl.Rule{srcRule(0, 65535)}
		for start, port := range map[int64]int64{0: 0, 1: 1, 65535: 65535, 65536: 0, 65537: 1, impl.MaxTime: 16960} {
			wantGoes(t, "all ports", all, u, start, nil, impl.TupleOut{Tuple: named(u, port)})
		}
		wantGoes(t, "all ports, round", all, u, 65534, usedPorts(u, 65534, 65535, 0), impl.TupleOut{Tuple: named(u, 1)})
		most := []impl.Rule{srcRule(1, 65535)}
		for start, port := range map[int64]int64{0: 1, 65534: 65535, 65535: 1, 65536: 2, impl.MaxTime: 16976} {
			wantGoes(t, "but 0", most, u, start, nil, impl.TupleOut{Tuple: named(u, port)})
		}
	}
}

// 60 used ones leave one port of 61, and none of 60.
func TestManyUsedPorts(t *testing.T) {
	for _, u := range withinTuples() {
		ports := []int64{}
		for port := int64(100); port < 160; port++ {
			ports = append(ports, port)
		}
		for _, start := range []int64{0, 7, 59, 60, 61, impl.MaxTime} {
			used := usedPorts(u, ports...)
			wantGoes(t, "the last one free", []impl.Rule{srcRule(100, 160)}, u, start, used, impl.TupleOut{Tuple: named(u, 160)})
			wantGoesCode(t, "all used", []impl.Rule{srcRule(100, 159)}, u, start, used, impl.ErrFull)
			wantGoesCode(t, "61 used", []impl.Rule{srcRule(100, 161)}, u, start, append(used, named(u, 160)), impl.ErrForm)
		}
	}
}

// Without a rule of NtSrc it is the tuple that goes on, if it may.
func TestNamesWithoutARule(t *testing.T) {
	for _, u := range edgeTuples() {
		back := plainTurned(u)
		other := u
		other.Src ^= 1
		for _, l := range [][]impl.Rule{nil, {}, {{Kind: impl.NtSrc, Net: u.Src ^ 1, Bits: 32}}} {
			for _, start := range []int64{0, 1, impl.MaxTime} {
				wantGoes(t, "itself", l, u, start, nil, impl.TupleOut{Tuple: u})
				wantGoes(t, "itself, another used", l, u, start, []impl.Tuple{other, plainTurned(other)}, impl.TupleOut{Tuple: u})
				wantGoesCode(t, "it is used", l, u, start, []impl.Tuple{other, u}, impl.ErrFull)
				wantGoesCode(t, "its Invert is used", l, u, start, []impl.Tuple{back, other}, impl.ErrFull)
			}
		}
	}
	for _, u := range outsideTuples() {
		l, goal := []impl.Rule{dstRule(0)}, u
		goal.Dst = 0x0A000009
		wantGoes(t, "turned, itself used", l, u, 0, []impl.Tuple{u, plainTurned(u)}, impl.TupleOut{Tuple: goal})
		wantGoesCode(t, "turned, used", l, u, 0, []impl.Tuple{goal}, impl.ErrFull)
		wantGoesCode(t, "turned, its Invert used", l, u, 0, []impl.Tuple{plainTurned(goal)}, impl.ErrFull)
	}
}

func TestStartsThatAreNoTimes(t *testing.T) {
	for _, u := range withinTuples() {
		for _, l := range [][]impl.Rule{nil, {srcRule(500, 502)}, {dstRule(1)}} {
			for _, start := range append(wrongNumbers(impl.MaxTime), -1, impl.MaxTime+1) {
				wantGoesCode(t, "no time", l, u, start, nil, impl.ErrForm)
				wantGoesCode(t, "no time, used", l, u, start, []impl.Tuple{u}, impl.ErrForm)
			}
		}
	}
}

func TestTuplesThatGetNoName(t *testing.T) {
	for _, u := range wrongTuples() {
		for _, l := range [][]impl.Rule{nil, {srcRule(500, 502), dstRule(8080)}} {
			wantGoesCode(t, "not right", l, u, 0, nil, impl.ErrForm)
			wantGoesCode(t, "used, not right", l, tcpTuple(), 0, []impl.Tuple{u}, impl.ErrForm)
			// A fault of form is told ahead of what is used.
			wantGoesCode(t, "used, the last not right", l, tcpTuple(), 0, []impl.Tuple{tcpTuple(), udpTuple(), u}, impl.ErrForm)
			wantGoesCode(t, "used, the first not right", l, tcpTuple(), 0, []impl.Tuple{u, tcpTuple()}, impl.ErrForm)
		}
	}
}

func TestHowManyUsed(t *testing.T) {
	u, l := withinTuples()[0], []impl.Rule{srcRule(500, 502)}
	want := map[int]int64{0: impl.OK, 1: impl.OK, 59: impl.OK, 60: impl.OK, 61: impl.ErrForm, impl.MaxList: impl.ErrForm, impl.MaxList + 1: impl.ErrSize, 1000: impl.ErrSize}
	for many, code := range want {
		used := slices.Repeat([]impl.Tuple{udpTuple()}, many)
		out := impl.TupleOut{Tuple: named(u, 500), Code: code}
		if code != impl.OK {
			out.Tuple = impl.Tuple{}
		}
		wantGoes(t, "so many", l, u, 0, used, out)
		if many > 60 {
			used[many-1] = impl.Tuple{}
			wantGoesCode(t, "so many, one not right", l, u, 0, used, code)
		}
	}
}

// ErrSize is told ahead of all else, ErrForm ahead of ErrFull.
func TestTheOrderOfFaultsOfNames(t *testing.T) {
	long, used := make([]impl.Rule, impl.MaxList+1), make([]impl.Tuple, impl.MaxList+1)
	u := tcpTuple()
	for _, l := range [][]impl.Rule{nil, {srcRule(500, 502)}, {{}}, make([]impl.Rule, impl.MaxList), long} {
		for _, one := range []impl.Tuple{u, {}} {
			for _, start := range []int64{0, -1, impl.MaxTime + 1} {
				wantGoesCode(t, "both lists", l, one, start, used, impl.ErrSize)
				wantGoesCode(t, "the rules", long, one, start, nil, impl.ErrSize)
				wantGoesCode(t, "the rules", long, one, start, []impl.Tuple{one}, impl.ErrSize)
				wantGoesCode(t, "the rules", long, one, start, used[:impl.MaxList], impl.ErrSize)
			}
		}
	}
	wantGoesCode(t, "full", nil, u, 0, []impl.Tuple{u}, impl.ErrFull)
	wantGoesCode(t, "full, a wrong rule", []impl.Rule{{}}, u, 0, []impl.Tuple{u}, impl.ErrForm)
	wantGoesCode(t, "full, no time", nil, u, -1, []impl.Tuple{u}, impl.ErrForm)
	wantGoesCode(t, "full, a used one not right", nil, u, 0, []impl.Tuple{u, {}}, impl.ErrForm)
	wantGoesCode(t, "full, 61 used", nil, u, 0, slices.Repeat([]impl.Tuple{u}, 61), impl.ErrForm)
}

// What is handed in is only read, also behind its end.
func TestNamesAreOnlyRead(t *testing.T) {
	d := dice(10)
	for range 300 {
		rules, tuples := make([]impl.Rule, 10), make([]impl.Tuple, 66)
		l, used := rules[:copy(rules, thrownRules(&d))], tuples[:d.below(61)]
		for place := range used {
			used[place] = thrownTuple(&d)
		}
		if len(l) > 0 && d.below(4) == 0 {
			l[0] = oneOf(&d, wrongRules()...)
		}
		wasRules, wasTuples := slices.Clone(rules), slices.Clone(tuples)
		u, start := thrownTuple(&d), d.below(impl.MaxTime)
		impl.RulesRight(l)
		first := impl.RuleFor(l, impl.NtSrc, u)
		impl.RuleFor(l, impl.NtDst, u)
		out := impl.GoesAs(l, u, start, used)
		if !slices.Equal(rules, wasRules) || !slices.Equal(tuples, wasTuples) {
			t.Fatalf("it wrote into what it was given: %+v and %+v, were %+v and %+v", rules, tuples, wasRules, wasTuples)
		}
		// Nothing is kept from call to call.
		impl.GoesAs(l, out.Tuple, start, used)
		if impl.RuleFor(l, impl.NtSrc, u) != first || impl.GoesAs(l, u, start, used) != out {
			t.Fatalf("of %+v, %+v, %d and %+v it tells another thing now", l, u, start, used)
		}
	}
}
