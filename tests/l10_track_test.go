package tests

import (
	"fmt"
	"math"
	"slices"
	"sort"
	"strings"
	"testing"
	"unsafe"

	"loop.example/g00542/impl"
)

// plainTrack is a track whose flows stand in the order in which they began.
type plainTrack struct {
	rules []impl.Rule
	flows []impl.Flow
	limit int
	now   int64
	bad   int64
	drops int64
}

// track gives it as the program has it.
func (k *plainTrack) track() impl.Track {
	flows := slices.Clone(k.flows)
	sort.Slice(flows, func(a, b int) bool { return plainAhead(flows[a].Orig, flows[b].Orig) })
	return impl.Track{Rules: slices.Clone(k.rules), Flows: flows, Limit: int64(k.limit), Now: k.now, Bad: k.bad, Drops: k.drops}
}

// cut takes the flows of which ask holds, and tells whether there was one.
func (k *plainTrack) cut(ask func(f impl.Flow) bool) bool {
	many := len(k.flows)
	k.flows = slices.DeleteFunc(k.flows, ask)
	return len(k.flows) < many
}

func (k *plainTrack) used() []impl.Tuple {
	all := []impl.Tuple{}
	for _, f := range k.flows {
		all = append(all, f.Back, f.Orig)
	}
	return all
}

// find gives the place of the flow with a tuple, and from which side that comes;
// -1 without one.
func (k *plainTrack) find(u impl.Tuple) (at int, back bool) {
	for at, f := range k.flows {
		if u == f.Orig || u == f.Back {
			return at, u == f.Back
		}
	}
	return -1, false
}

// handle does what chapter 11 says of a packet, and names what it was.
func (k *plainTrack) handle(text string, start int64) (what string, want impl.TrackOut) {
	what, verdict, goes := k.meet(text, start)
	want.Verdict, want.Bytes = verdict, goes
	switch verdict {
	case impl.VdBad:
		k.bad = min(k.bad+1, 1000000)
	case impl.VdDrop:
		k.drops = min(k.drops+1, 1000000)
	}
	want.Track = k.track()
	return what, want
}

func (k *plainTrack) meet(text string, start int64) (what string, verdict int64, goes string) {
	read := impl.PacketRead(text)
	if read.Code != impl.OK {
		return "no packet", impl.VdBad, ""
	}
	p := read.Packet
	u, has := plainTuple(p)
	if !has {
		return k.meetError(p, text)
	}
	gone := ""
	if k.cut(func(f impl.Flow) bool { return f.Until <= k.now && (f.Orig == u || f.Back == u) }) {
		gone = "over, "
	}
	at, back := k.find(u)
	if at < 0 {
		what, verdict, goes = k.begin(p, u, start)
		return gone + what, verdict, goes
	}
	_, next := plainNext(k.flows[at], p, back, k.now)
	if next.Code != impl.OK {
		return fmt.Sprintf("of a flow, code %d", next.Code), impl.VdBad, ""
	}
	goes = plainPacket(plainFlowOut(k.flows[at], p, back).Packet)
	k.flows[at] = next.Flow
	if back {
		return "back", impl.VdBack, goes
	}
	return "known", impl.VdKnown, goes
}

func (k *plainTrack) meetError(p impl.Packet, text string) (what string, verdict int64, goes string) {
	inner := impl.InnerOf(p)
	if inner.Code != impl.OK {
		return "an error of no packet", impl.VdBad, ""
	}
	living := plainTrack{flows: slices.Clone(k.flows)}
	over := living.cut(func(f impl.Flow) bool { return f.Until <= k.now })
	u, _ := plainTuple(inner.Packet)
	at, _ := living.find(u)
	what = "an error"
	if at < 0 {
		at, _ = living.find(plainTurned(u))
		what = "an error, turned"
	}
	overAt, _ := k.find(u)
	overTurned, _ := k.find(plainTurned(u))
	switch {
	case at < 0 && over && (overAt >= 0 || overTurned >= 0):
		return "an error of a flow that is over", impl.VdDrop, ""
	case at < 0:
		return "an error of no flow", impl.VdDrop, ""
	case living.flows[at].Back != plainTurned(living.flows[at].Orig):
		return what + ", by another name", impl.VdDrop, ""
	}
	return what, impl.VdError, text
}

func (k *plainTrack) begin(p impl.Packet, u impl.Tuple, start int64) (what string, verdict int64, goes string) {
	if what, fresh := plainNew(p, u, k.now); fresh.Code != impl.OK {
		return what, impl.VdBad, ""
	}
	if len(k.flows) == k.limit && k.cut(func(f impl.Flow) bool { return f.Until <= k.now }) {
		what = "swept, "
	}
	if len(k.flows) == k.limit {
		least := impl.Flow{}
		for _, f := range k.track().Flows {
			if !f.Assured && (least.Count == 0 || f.Until < least.Until) {
				least = f
			}
		}
		if least.Count == 0 {
			return "all are sure", impl.VdDrop, ""
		}
		k.cut(func(f impl.Flow) bool { return f == least })
		what = "another went, "
	}
	_, name := plainGoes(k.rules, u, start, k.used())
	switch {
	case name.Code != impl.OK:
		return what + "no name", impl.VdDrop, ""
	case plainTurned(name.Tuple) == u:
		return what + "its own answer", impl.VdDrop, ""
	}
	_, fresh := plainNew(p, name.Tuple, k.now)
	k.flows = append(k.flows, fresh.Flow)
	if name.Tuple != u {
		what += "by another name, "
	}
	return what + "new", impl.VdNew, plainPacket(plainFlowOut(fresh.Flow, p, false).Packet)
}

func (k *plainTrack) pass(ticks int64) impl.TrackOut {
	if ticks < 0 || ticks > 1000 || ticks > 1000000-k.now {
		return impl.TrackOut{Code: impl.ErrRange}
	}
	k.now += ticks
	return impl.TrackOut{Track: k.track()}
}

func (k *plainTrack) sweep() impl.TrackOut {
	k.cut(func(f impl.Flow) bool { return f.Until <= k.now })
	return impl.TrackOut{Track: k.track()}
}

func (k *plainTrack) flush() impl.TrackOut {
	k.flows = nil
	return impl.TrackOut{Track: k.track()}
}

func sameTrack(a impl.Track, b impl.Track) bool {
	return slices.Equal(a.Rules, b.Rules) && slices.Equal(a.Flows, b.Flows) &&
		a.Limit == b.Limit && a.Now == b.Now && a.Bad == b.Bad && a.Drops == b.Drops
}

func copyOfTrack(t impl.Track) impl.Track {
	t.Rules, t.Flows = append([]impl.Rule{}, t.Rules...), append([]impl.Flow{}, t.Flows...)
	return t
}

func sameTrackOut(a impl.TrackOut, b impl.TrackOut) bool {
	return sameTrack(a.Track, b.Track) && a.Verdict == b.Verdict && a.Bytes == b.Bytes && a.Code == b.Code
}

func briefTrackOut(out impl.TrackOut) string {
	return fmt.Sprintf("%+v, verdict %d, bytes %q, code %d", out.Track, out.Verdict, out.Bytes, out.Code)
}

func wantTrackOut(t *testing.T, what string, got impl.TrackOut, want impl.TrackOut) {
	t.Helper()
	if !sameTrackOut(got, want) {
		t.Errorf("%s:\n got %s\nwant %s", what, briefTrackOut(got), briefTrackOut(want))
	}
}

func wantTrackCode(t *testing.T, what string, got impl.TrackOut, code int64) {
	t.Helper()
	wantTrackOut(t, what, got, impl.TrackOut{Code: code})
}

// wantRightTrack: promise 13, and of promise 15 how many flows there are.
func wantRightTrack(t *testing.T, what string, track impl.Track) {
	t.Helper()
	if !impl.TrackRight(track) || int64(len(track.Flows)) > track.Limit {
		t.Errorf("%s: %+v is not right", what, track)
	}
	seen := map[impl.Tuple]int{}
	for _, f := range track.Flows {
		seen[f.Orig]++
		seen[f.Back]++
	}
	for u, many := range seen {
		if many != 1 {
			t.Errorf("%s: %+v is %d times in %+v", what, u, many, track.Flows)
		}
	}
}

// wantSureOnesThere: promise 15. Who was sure and not over is there still, and as
// sure.
func wantSureOnesThere(t *testing.T, what string, before impl.Track, behind impl.Track) {
	t.Helper()
	for _, f := range before.Flows {
		if !f.Assured || f.Until <= behind.Now {
			continue
		}
		same := func(other impl.Flow) bool { return other.Orig == f.Orig && other.Back == f.Back && other.Assured }
		if !slices.ContainsFunc(behind.Flows, same) {
			t.Errorf("%s: %+v went, there is %+v", what, f, behind.Flows)
		}
	}
}

// wantAnswerGoesBack: promise 14, of a packet that began a flow.
func wantAnswerGoesBack(t *testing.T, what string, p impl.Packet, out impl.TrackOut) {
	t.Helper()
	went := impl.PacketRead(out.Bytes)
	if went.Code != impl.OK || went.Packet.Body != p.Body {
		t.Errorf("%s: of %s goes on %s, code %d", what, briefPacket(p), briefPacket(went.Packet), went.Code)
		return
	}
	sent, _ := plainTuple(p)
	name, _ := plainTuple(went.Packet)
	for _, flags := range []int64{impl.FlSyn | impl.FlAck, impl.FlRst} {
		answer := packetOf(plainTurned(name), flags, "an answer to "+p.Body[:min(len(p.Body), 80)])
		back := impl.Handle(out.Track, plainPacket(answer), 0)
		home := packetOf(plainTurned(sent), flags, answer.Body)
		if back.Verdict != impl.VdBack || back.Bytes != plainPacket(home) {
			t.Errorf("%s: the answer %s: got %d, %s, want %d, %s", what, briefPacket(answer),
				back.Verdict, briefPacket(impl.PacketRead(back.Bytes).Packet), impl.VdBack, briefPacket(home))
		}
	}
}

// thrownEnd gives an end of a flow of a track, or one that came from nowhere.
func (k *plainTrack) thrownEnd(d *dice) impl.Tuple {
	if len(k.flows) == 0 || d.below(4) == 0 {
		return thrownTuple(d)
	}
	f := oneOf(d, k.flows...)
	return oneOf(d, f.Orig, f.Orig, f.Back, f.Back, f.Back, plainTurned(f.Orig), plainTurned(f.Back))
}

// thrownAnswer gives flags as they lead a flow on, so that many come to be sure.
func (k *plainTrack) thrownAnswer(d *dice, u impl.Tuple) int64 {
	at, back := k.find(u)
	switch {
	case at < 0:
		return oneOf(d, impl.FlSyn, impl.FlSyn, thrownFlags(d))
	case back && k.flows[at].State == impl.TcSent && d.below(4) != 0:
		return impl.FlSyn | impl.FlAck
	case d.below(2) == 0:
		return impl.FlAck
	}
	return thrownFlags(d)
}

// thrownText gives what comes: most often the packet of some end, also an error,
// or what is no packet.
func (k *plainTrack) thrownText(d *dice) string {
	u := k.thrownEnd(d)
	p := packetOf(u, k.thrownAnswer(d, u), mixedText(int(d.below(101))))
	switch d.below(16) {
	case 0:
		return oneOf(d, "", "x", mixedText(28), turned(plainPacket(p), int(d.below(28)), 1), plainPacket(p)+"z")
	case 1, 2:
		from := someAddr(d)
		return plainPacket(impl.Packet{Src: from, Dst: u.Src, Proto: impl.PrPing, Kind: impl.IcError, Body: plainPacket(p)[:28]})
	case 3:
		e := errorPacket(oneOf(d, mixedText(28), plainPacket(errorPacket(mixedText(28)))[:28], plainPacket(p)[:28]+"more"))
		return plainPacket(e)
	}
	return plainPacket(p)
}

// stepOf does one thing with a track, and names it; begun is the packet that came.
func (k *plainTrack) stepOf(d *dice, track impl.Track) (what string, got impl.TrackOut, want impl.TrackOut, begun impl.Packet) {
	switch d.below(20) {
	case 0, 1, 2:
		ticks := oneOf(d, 0, 1, d.below(12), d.below(40), d.below(200), oneOf[int64](d, -1, 1000, 1001))
		return "Pass", impl.Pass(track, ticks), k.pass(ticks), begun
	case 3:
		if d.below(3) == 0 {
			return "Sweep", impl.Sweep(track), k.sweep(), begun
		}
		if d.below(4) == 0 {
			return "Flush", impl.Flush(track), k.flush(), begun
		}
	}
	text, start := k.thrownText(d), oneOf(d, 0, 1, d.below(40), impl.MaxTime)
	got = impl.Handle(track, text, start)
	what, want = k.handle(text, start)
	return what, got, want, impl.PacketRead(text).Packet
}

// ledOn leads one track on by many things, and counts what was met.
func ledOn(t *testing.T, d *dice, k *plainTrack, met map[string]int) {
	t.Helper()
	track := impl.TrackNew(k.rules, int64(k.limit)).Track
	track.Now, track.Bad, track.Drops = k.now, k.bad, k.drops
	for range 120 {
		before := copyOfTrack(track)
		what, got, want, begun := k.stepOf(d, track)
		wantTrackOut(t, what, got, want)
		if !sameTrack(track, before) {
			t.Errorf("%s: %+v was written into, was %+v", what, track, before)
		}
		met[what]++
		if want.Code == impl.OK {
			track = got.Track
		}
		wantRightTrack(t, what, track)
		if what != "Flush" {
			wantSureOnesThere(t, what, before, track)
		}
		if got.Verdict == impl.VdNew && track.Now < impl.MaxTime {
			wantAnswerGoesBack(t, what, begun, got)
		}
		if t.Failed() {
			t.Logf("ahead of that: %+v", before)
			return
		}
	}
}

// Promises 13, 14 and 15, and all else that chapter 11 says: tracks of none to six
// rules, and of several Limits, are led on by many packets from both sides.
func TestTracksByManyPackets(t *testing.T) {
	met, d := map[string]int{}, dice(10)
	for round := range 800 {
		k := &plainTrack{rules: thrownRules(&d), limit: []int{1, 2, 4, 12}[round%4]}
		switch d.below(8) {
		case 0:
			k.now = impl.MaxTime - d.below(300)
		case 1:
			k.bad, k.drops = impl.MaxTime-d.below(3), impl.MaxTime-d.below(3)
		case 2, 3:
			k.rules = []impl.Rule{srcRule(500, 500+d.below(3)), dstRule(8080)}[:1+d.below(2)]
		}
		ledOn(t, &d, k, met)
		if t.Failed() {
			return
		}
	}
	for _, what := range []string{
		"no packet", "known", "back", "new", "by another name, new", "over, new", "over, by another name, new", "swept, new",
		"swept, by another name, new", "another went, new", "another went, by another name, new", "no name", "over, no name",
		"another went, no name", "swept, no name", "all are sure", "its own answer", "another went, its own answer",
		"of a flow, code 10", "flags that begin nothing", "over, flags that begin nothing", "a reply", "over, a reply",
		"an error", "an error, by another name", "an error, turned, by another name", "an error of no flow",
		"an error of a flow that is over", "an error of no packet", "Pass", "Sweep", "Flush",
	} {
		if met[what] < 20 {
			t.Errorf("%s: met %d times: the tracks do not come to it", what, met[what])
		}
	}
}

func TestTrackNumbers(t *testing.T) {
	got := []int64{impl.MaxFlows, impl.VdNew, impl.VdKnown, impl.VdBack, impl.VdError, impl.VdBad, impl.VdDrop}
	if want := []int64{12, 1, 2, 3, 4, 5, 6}; !slices.Equal(got, want) {
		t.Errorf("got %v, want %v", got, want)
	}
}

// sixRules: as many as may be.
func sixRules() []impl.Rule {
	l := []impl.Rule{srcRule(500, 502), dstRule(8080)}
	for net := range int64(4) {
		l = append(l, impl.Rule{Kind: impl.NtSrc, Net: net << 24, Bits: 8, To: 7, High: net})
	}
	return l
}

func TestNewTracks(t *testing.T) {
	for many := range 7 {
		for limit := int64(1); limit <= 12; limit++ {
			l := sixRules()[:many]
			got := impl.TrackNew(l, limit)
			wantTrackOut(t, "new", got, impl.TrackOut{Track: impl.Track{Rules: l, Limit: limit}})
			wantRightTrack(t, "new", got.Track)
		}
	}
	for _, limit := range append(wrongNumbers(12), 0, -1, 13) {
		wantTrackCode(t, fmt.Sprintf("the Limit %d", limit), impl.TrackNew(nil, limit), impl.ErrForm)
		wantTrackCode(t, fmt.Sprintf("the Limit %d", limit), impl.TrackNew(sixRules(), limit), impl.ErrForm)
	}
	for _, r := range wrongRules() {
		wantTrackCode(t, "a wrong rule", impl.TrackNew([]impl.Rule{r}, 4), impl.ErrForm)
		wantTrackCode(t, "a wrong rule behind others", impl.TrackNew(append(sixRules()[:3], r), 4), impl.ErrForm)
	}
	for many, code := range map[int]int64{7: impl.ErrForm, impl.MaxList: impl.ErrForm, impl.MaxList + 1: impl.ErrSize, 5000: impl.ErrSize} {
		for _, limit := range []int64{4, 0, -1, 13} {
			l := slices.Repeat([]impl.Rule{srcRule(500, 502)}, many)
			wantTrackCode(t, fmt.Sprintf("%d rules", many), impl.TrackNew(l, limit), code)
			l[many-1] = impl.Rule{}
			wantTrackCode(t, fmt.Sprintf("%d rules, one wrong", many), impl.TrackNew(l, limit), code)
		}
	}
}

// flowAt gives a flow of PrUdp that goes on by its own name, of a port by which it
// stands among others.
func flowAt(port int64, until int64, sure bool) impl.Flow {
	u := impl.Tuple{Proto: impl.PrUdp, Src: 0x0A000001, SPort: port, Dst: 0x08080808, DPort: 53}
	return impl.Flow{Orig: u, Back: plainTurned(u), Seen: sure, Assured: sure, Until: until, Count: 3}
}

// byName gives a flow that goes on by another name, of a port.
func byName(f impl.Flow, port int64) impl.Flow {
	f.Back = plainTurned(named(f.Orig, port))
	return f
}

// trackOf gives a track of flows in their order.
func trackOf(limit int64, now int64, flows ...impl.Flow) impl.Track {
	k := plainTrack{flows: flows, limit: int(limit), now: now}
	return k.track()
}

// restOf gives a track with other flows, and so many more bad ones and drops.
func restOf(track impl.Track, bad int64, drops int64, flows ...impl.Flow) impl.Track {
	rest := trackOf(track.Limit, track.Now, flows...)
	rest.Rules, rest.Bad, rest.Drops = track.Rules, track.Bad+bad, track.Drops+drops
	return rest
}

func handled(track impl.Track, p impl.Packet) impl.TrackOut {
	return impl.Handle(track, plainPacket(p), 0)
}

// wantBad: the packet is bad, and of the flows these are there.
func wantBad(t *testing.T, what string, track impl.Track, text string, flows ...impl.Flow) {
	t.Helper()
	wantTrackOut(t, what, impl.Handle(track, text, 0), impl.TrackOut{Track: restOf(track, 1, 0, flows...), Verdict: impl.VdBad})
}

func wantDrop(t *testing.T, what string, track impl.Track, p impl.Packet, flows ...impl.Flow) {
	t.Helper()
	wantTrackOut(t, what, handled(track, p), impl.TrackOut{Track: restOf(track, 0, 1, flows...), Verdict: impl.VdDrop})
}

// wantNew: the packet began a flow that goes on as that, at the time of the track,
// and else these are there.
func wantNew(t *testing.T, what string, track impl.Track, p impl.Packet, goes impl.Tuple, flows ...impl.Flow) {
	t.Helper()
	wantNewAt(t, what, track, p, 0, goes, flows...)
}

func wantNewAt(t *testing.T, what string, track impl.Track, p impl.Packet, start int64, goes impl.Tuple, flows ...impl.Flow) {
	t.Helper()
	_, fresh := plainNew(p, goes, track.Now)
	went := plainPacket(plainFlowOut(fresh.Flow, p, false).Packet)
	want := impl.TrackOut{Track: restOf(track, 0, 0, append(slices.Clone(flows), fresh.Flow)...), Verdict: impl.VdNew, Bytes: went}
	wantTrackOut(t, what, impl.Handle(track, plainPacket(p), start), want)
}

func TestTicks(t *testing.T) {
	track := trackOf(4, 100, flowAt(1, 101, false), flowAt(2, 5000, true))
	track.Rules, track.Bad, track.Drops = sixRules(), 3, 4
	for _, ticks := range []int64{0, 1, 2, 999, 1000} {
		want := copyOfTrack(track)
		want.Now += ticks
		wantTrackOut(t, fmt.Sprintf("Pass %d", ticks), impl.Pass(track, ticks), impl.TrackOut{Track: want})
	}
	for _, ticks := range append(wrongNumbers(1000), -1, 1001, math.MaxInt64-100, math.MaxInt64-99) {
		wantTrackCode(t, fmt.Sprintf("Pass %d", ticks), impl.Pass(track, ticks), impl.ErrRange)
	}
	for now := int64(impl.MaxTime - 1002); now <= impl.MaxTime; now++ {
		track.Now = now
		left := impl.MaxTime - now
		if left <= 1000 {
			want := copyOfTrack(track)
			want.Now = impl.MaxTime
			wantTrackOut(t, "to the end of time", impl.Pass(track, left), impl.TrackOut{Track: want})
		}
		wantTrackCode(t, "beyond the end of time", impl.Pass(track, left+1), impl.ErrRange)
	}
}

// A flow whose Until is Now is over, one whose Until is Now and one is not.
func TestFlowsThatAreOver(t *testing.T) {
	for _, sure := range eitherSide() {
		last, living, past := flowAt(10, 100, sure), flowAt(20, 101, sure), flowAt(30, 0, sure)
		track := trackOf(4, 100, last, living, past)
		track.Rules, track.Bad, track.Drops = sixRules()[2:], 7, 8
		wantTrackOut(t, "Sweep", impl.Sweep(track), impl.TrackOut{Track: restOf(track, 0, 0, living)})
		wantTrackOut(t, "Flush", impl.Flush(track), impl.TrackOut{Track: restOf(track, 0, 0)})

		p := packetOf(last.Orig, 0, "anew")
		wantNew(t, "over", track, p, last.Orig, living, past)
		if got := impl.Lookup(track, p); got != 0 {
			t.Errorf("Lookup of a flow that is over: got %d, want 0", got)
		}
		known := handled(track, packetOf(living.Orig, 0, "more"))
		if known.Verdict != impl.VdKnown || len(known.Track.Flows) != 3 || known.Track.Flows[1].Count != 4 {
			t.Errorf("not over yet: got %+v", known)
		}
	}
	track := trackOf(12, 0, flowAt(1, 0, true), flowAt(2, 1, false))
	wantTrackOut(t, "at the beginning of time", impl.Sweep(track), impl.TrackOut{Track: restOf(track, 0, 0, flowAt(2, 1, false))})
	end := trackOf(12, impl.MaxTime, flowAt(1, impl.MaxTime, true), flowAt(2, impl.MaxTime-1, false))
	wantTrackOut(t, "at the end of time", impl.Sweep(end), impl.TrackOut{Track: restOf(end, 0, 0)})
	none := trackOf(1, 5)
	wantTrackOut(t, "Sweep of none", impl.Sweep(none), impl.TrackOut{Track: none})
	wantTrackOut(t, "Flush of none", impl.Flush(none), impl.TrackOut{Track: none})
}

// A packet of a flow that is over begins it anew, from the other side another one,
// and where it begins nothing the flow is gone all the same.
func TestFlowsThatAreBegunAnew(t *testing.T) {
	for _, u := range beginners() {
		for _, goes := range []impl.Tuple{u, byOther(u)} {
			for _, f := range flowsOf(u, goes) {
				f.Until = 100
				track := trackOf(1, 100, f)
				wantNew(t, "anew", track, packetOf(u, impl.FlSyn, "anew"), u)
				back := packetOf(f.Back, impl.FlSyn, "anew")
				if u.Proto == impl.PrPing {
					wantBad(t, "a reply", track, plainPacket(back))
					continue
				}
				wantNew(t, "from the other side", track, back, f.Back)
				if u.Proto == impl.PrTcp {
					wantBad(t, "no first word", track, plainPacket(packetOf(u, impl.FlAck, "")))
					wantBad(t, "no first word, back", track, plainPacket(packetOf(f.Back, impl.FlSyn|impl.FlAck, "")))
				}
			}
		}
	}
	// All others stay, also those that are over.
	over, other, living := flowAt(10, 50, true), flowAt(20, 50, true), flowAt(30, 500, false)
	track := trackOf(3, 100, over, other, living)
	wantNew(t, "over", track, packetOf(over.Orig, 0, ""), over.Orig, other, living)
	wantNew(t, "over, back", track, packetOf(other.Back, 0, ""), other.Back, over, living)
	// What it was to go by is taken: it went all the same.
	track.Rules = []impl.Rule{srcRule(500, 500)}
	track.Flows[2] = impl.Flow{Orig: impl.Tuple{Proto: impl.PrUdp, Src: 7, SPort: 7, Dst: 7, DPort: 9}, Back: plainTurned(named(over.Orig, 500)), Until: 500, Count: 1}
	track = restOf(track, 0, 0, track.Flows...)
	wantDrop(t, "over, no name", track, packetOf(over.Orig, 0, ""), track.Flows[0], other)
}

func TestStartsOfNames(t *testing.T) {
	track := impl.TrackNew([]impl.Rule{srcRule(500, 502)}, 4).Track
	for _, u := range withinTuples()[:3] {
		p := packetOf(u, impl.FlSyn, "out")
		for start, port := range map[int64]int64{0: 500, 1: 501, 2: 502, 3: 500, impl.MaxTime - 1: 500, impl.MaxTime: 501} {
			wantNewAt(t, fmt.Sprintf("start %d", start), track, p, start, named(u, port))
		}
		for _, start := range append(wrongNumbers(impl.MaxTime), -1, impl.MaxTime+1) {
			for _, text := range []string{plainPacket(p), "", "x"} {
				wantTrackCode(t, fmt.Sprintf("start %d", start), impl.Handle(track, text, start), impl.ErrForm)
			}
		}
	}
}

// fullOf gives a track of so many flows as it may have, each by its port.
func fullOf(now int64, flows ...impl.Flow) impl.Track {
	return trackOf(int64(len(flows)), now, flows...)
}

// Who is over goes first, then the one of the least Until that is not sure, and no
// other.
func TestWhoMakesRoom(t *testing.T) {
	u := flowAt(99, 0, false).Orig
	p := packetOf(u, 0, "room")
	a, b, c := flowAt(10, 300, false), flowAt(20, 200, false), flowAt(30, 250, false)
	wantNew(t, "the least Until", fullOf(100, a, b, c), p, u, a, c)
	wantNew(t, "the least Until, the first", fullOf(100, b, flowAt(21, 300, false)), p, u, flowAt(21, 300, false))
	wantNew(t, "the least Until, the last", fullOf(100, a, flowAt(20, 299, false)), p, u, a)
	wantNew(t, "alone", fullOf(100, a), p, u)

	sure := flowAt(5, 101, true)
	wantNew(t, "one that is not sure", fullOf(100, sure, a, flowAt(40, 102, true)), p, u, sure, flowAt(40, 102, true))
	wantNew(t, "two that are not", fullOf(100, sure, a, b), p, u, sure, a)
	seen := c
	seen.Seen = true
	wantNew(t, "seen is not sure", fullOf(100, sure, seen), p, u, sure)

	same := []impl.Flow{flowAt(10, 150, true), flowAt(20, 200, false), flowAt(30, 200, false), flowAt(40, 200, false), flowAt(50, 201, false)}
	wantNew(t, "of several the first", fullOf(100, same...), p, u, same[0], same[2], same[3], same[4])

	over, overSure := flowAt(15, 100, false), flowAt(25, 99, true)
	wantNew(t, "one that is over", fullOf(100, over, b, sure), p, u, b, sure)
	wantNew(t, "one that was sure", fullOf(100, overSure, b, sure), p, u, b, sure)
	wantNew(t, "all that are over", fullOf(100, over, overSure, flowAt(30, 0, true)), p, u)
	wantNew(t, "all that are over, others stay", fullOf(100, over, overSure, sure, flowAt(40, 900, false)), p, u, sure, flowAt(40, 900, false))

	full := fullOf(100, sure, flowAt(10, 101, true), flowAt(40, 1000, true))
	wantDrop(t, "all are sure", full, p, full.Flows...)
	wantDrop(t, "the one is sure", fullOf(100, sure), p, sure)

	// With room there is no need: nobody goes.
	wantNew(t, "room", trackOf(4, 100, over, overSure, b), p, u, over, overSure, b)
}

// A packet that begins nothing, or is of a flow, makes no room.
func TestWhoNeedsNoRoom(t *testing.T) {
	over, loose := flowAt(10, 100, false), flowAt(20, 200, false)
	track := fullOf(100, over, loose)
	for _, p := range []impl.Packet{
		packetOf(tcpTuple(), impl.FlAck, ""), packetOf(tcpTuple(), impl.FlSyn|impl.FlRst, ""), packetOf(pingTuple(impl.IcReply), 0, ""),
	} {
		wantBad(t, "begins nothing", track, plainPacket(p), over, loose)
	}
	wantBad(t, "no packet", track, "x", over, loose)
	for verdict, u := range map[int64]impl.Tuple{impl.VdKnown: loose.Orig, impl.VdBack: loose.Back} {
		p := packetOf(u, 0, "more")
		_, next := plainNext(loose, p, verdict == impl.VdBack, 100)
		want := impl.TrackOut{Track: restOf(track, 0, 0, over, next.Flow), Verdict: verdict, Bytes: plainPacket(p)}
		wantTrackOut(t, "of a flow", handled(track, p), want)
	}
}

func TestTheCountsOfBadAndDrops(t *testing.T) {
	sure := flowAt(10, 500, true)
	for _, n := range []int64{0, 1, impl.MaxTime - 2, impl.MaxTime - 1, impl.MaxTime} {
		track := fullOf(100, sure)
		track.Bad, track.Drops = n, impl.MaxTime-n
		bad, drop := copyOfTrack(track), copyOfTrack(track)
		bad.Bad, drop.Drops = min(n+1, impl.MaxTime), min(impl.MaxTime-n+1, impl.MaxTime)
		wantTrackOut(t, "bad", impl.Handle(track, "x", 0), impl.TrackOut{Track: bad, Verdict: impl.VdBad})
		wantTrackOut(t, "begins nothing", handled(track, packetOf(tcpTuple(), 0, "")), impl.TrackOut{Track: bad, Verdict: impl.VdBad})
		wantTrackOut(t, "drop", handled(track, packetOf(udpTuple(), 0, "")), impl.TrackOut{Track: drop, Verdict: impl.VdDrop})
		e := impl.ErrorOf(packetOf(udpTuple(), 0, ""), 5).Packet
		wantTrackOut(t, "an error of no flow", handled(track, e), impl.TrackOut{Track: drop, Verdict: impl.VdDrop})
	}
}

// Without a name that is free there is no flow; who went to make room stays gone.
func TestNoNameThatIsFree(t *testing.T) {
	u := flowAt(99, 0, false).Orig
	p := packetOf(u, 0, "out")
	taken := byName(flowAt(10, 900, true), 500)
	loose, over := flowAt(20, 200, false), flowAt(30, 50, true)
	for _, c := range []struct {
		what   string
		limit  int64
		flows  []impl.Flow
		behind []impl.Flow
	}{
		{"room", 4, []impl.Flow{taken, loose, over}, []impl.Flow{taken, loose, over}},
		{"another went", 2, []impl.Flow{taken, loose}, []impl.Flow{taken}},
		{"those that are over went", 3, []impl.Flow{taken, loose, over}, []impl.Flow{taken, loose}},
	} {
		track := trackOf(c.limit, 100, c.flows...)
		track.Rules = []impl.Rule{srcRule(500, 500)}
		wantDrop(t, c.what, track, p, c.behind...)
		track.Rules = []impl.Rule{srcRule(500, 501)}
		wantNew(t, c.what+", one more name", track, p, named(u, 501), c.behind...)
	}
	// Who goes, or is over, gives its name free, but one that is over and stays does not.
	for _, one := range []impl.Flow{byName(flowAt(10, 200, false), 500), byName(flowAt(10, 100, true), 500)} {
		track := trackOf(1, 100, one)
		track.Rules = []impl.Rule{srcRule(500, 500)}
		wantNew(t, "its name is free", track, p, named(u, 500))
		track.Limit = 2
		wantDrop(t, "its name is not free", track, p, one)
	}
	// Without a rule it is the packet's own tuple, turned round, that may be taken.
	for _, other := range beginners() {
		f := flowsOf(other, byOther(other))[0]
		f.Until = 900
		if other.Proto != impl.PrPing {
			wantDrop(t, "from whom it went to", trackOf(4, 100, f), packetOf(plainTurned(f.Orig), impl.FlSyn, ""), f)
			wantDrop(t, "as it went on", trackOf(4, 100, f), packetOf(plainTurned(f.Back), impl.FlSyn, ""), f)
			continue
		}
		wantBad(t, "a reply from whom it went to", trackOf(4, 100, f), plainPacket(packetOf(plainTurned(f.Orig), 0, "")), f)
		wantDrop(t, "as it went on", trackOf(4, 100, f), packetOf(plainTurned(f.Back), 0, ""), f)
	}
}

// Who would be answered by what it sends begins nothing, and who went stays gone.
func TestWhoTalksToItself(t *testing.T) {
	loose, over := flowAt(20, 200, false), flowAt(30, 50, true)
	for _, proto := range []int64{impl.PrTcp, impl.PrUdp} {
		self := impl.Tuple{Proto: proto, Src: 0x0A000001, SPort: 500, Dst: 0x0A000001, DPort: 500}
		p := packetOf(self, impl.FlSyn, "echo")
		wantDrop(t, "to itself", trackOf(4, 100, loose, over), p, loose, over)
		wantDrop(t, "to itself, another went", fullOf(100, loose), p)
		wantDrop(t, "to itself, those that are over went", fullOf(100, loose, over), p, loose)

		// By the rules it goes to whom it comes from, as whom it goes to.
		away := impl.Tuple{Proto: proto, Src: 0x0A000001, SPort: 9, Dst: 0xCB007101, DPort: 500}
		track := trackOf(4, 100, loose, over)
		track.Rules = []impl.Rule{
			{Kind: impl.NtDst, Net: 0xCB007101, Bits: 32, To: 0x0A000001, Low: 9, High: 9}, srcRule(500, 500),
		}
		wantDrop(t, "its own answer", track, packetOf(away, impl.FlSyn, "echo"), loose, over)
		track.Rules[1] = srcRule(500, 501)
		wantDrop(t, "its own answer, by the first name", track, packetOf(away, impl.FlSyn, "echo"), loose, over)
		goes := named(away, 501)
		goes.Dst, goes.DPort = 0x0A000001, 9
		wantNewAt(t, "by the next name", track, packetOf(away, impl.FlSyn, "echo"), 1, goes, loose, over)
	}
	// An ask is never a reply, so it may go to whom it comes from.
	ask := impl.Tuple{Proto: impl.PrPing, Src: 7, SPort: 7, Dst: 7, DPort: 7, Kind: impl.IcAsk}
	wantNew(t, "an ask", trackOf(4, 100, loose), packetOf(ask, 0, ""), ask, loose)
}

func TestWhatBeginsNothing(t *testing.T) {
	track := trackOf(4, 100, flowAt(10, 200, false))
	track.Rules = sixRules()
	for flags := range int64(64) {
		p := packetOf(tcpTuple(), flags, "hi")
		if flags&impl.FlSyn != 0 && flags&(impl.FlAck|impl.FlRst) == 0 {
			if got := handled(track, p).Verdict; got != impl.VdNew {
				t.Errorf("the flags %d: got %d, want %d", flags, got, impl.VdNew)
			}
			continue
		}
		wantBad(t, fmt.Sprintf("the flags %d", flags), track, plainPacket(p), track.Flows...)
	}
	reply := pingTuple(impl.IcReply)
	wantBad(t, "a reply", track, plainPacket(packetOf(reply, 0, "")), track.Flows...)
	asked := flowsOf(pingTuple(impl.IcAsk), pingTuple(impl.IcAsk))[0]
	asked.Until = 900
	reply.SPort, reply.DPort = 7, 7
	wantBad(t, "a reply to another id", trackOf(4, 100, asked), plainPacket(packetOf(reply, 0, "")), asked)
}

// Each flow in each state, by each flags from both sides, and by a Count of MaxTime.
func TestFlowsOfATrackAreLedOn(t *testing.T) {
	other := flowAt(1, 5000, true)
	for _, f := range eachFlow() {
		for _, count := range []int64{5, impl.MaxTime - 1, impl.MaxTime} {
			f.Count = count
			track := trackOf(2, 60, other, f)
			track.Rules, track.Bad, track.Drops = sixRules(), 3, 4
			for _, back := range eitherSide() {
				for flags := range int64(64) {
					p := packetOf(endOfFlow(f, back), flags, "said")
					_, next := plainNext(f, p, back, 60)
					if next.Code != impl.OK {
						wantBad(t, "refused", track, plainPacket(p), other, f)
						continue
					}
					verdict := int64(impl.VdKnown)
					if back {
						verdict = impl.VdBack
					}
					goes := plainPacket(plainFlowOut(f, p, back).Packet)
					want := impl.TrackOut{Track: restOf(track, 0, 0, other, next.Flow), Verdict: verdict, Bytes: goes}
					wantTrackOut(t, "led on", handled(track, p), want)
					if count == impl.MaxTime {
						t.Errorf("a Count of MaxTime: %+v is led on to %+v", f, next.Flow)
					}
				}
			}
		}
	}
}

// A flow comes to stand in its place, whatever begins ahead of it and behind it.
func TestFlowsStandInTheirOrder(t *testing.T) {
	d := dice(3)
	for range 200 {
		k, track := plainTrack{limit: 12}, impl.TrackNew(nil, 12).Track
		for range 12 {
			u := thrownTuple(&d)
			text := plainPacket(packetOf(u, impl.FlSyn, ""))
			out := impl.Handle(track, text, 0)
			_, want := k.handle(text, 0)
			wantTrackOut(t, "in order", out, want)
			track = out.Track
		}
		for place := 1; place < len(track.Flows); place++ {
			if !plainAhead(track.Flows[place-1].Orig, track.Flows[place].Orig) {
				t.Fatalf("%+v is not in order", track.Flows)
			}
		}
	}
}

// errorOfTuple gives the error that is told of a packet of a tuple.
func errorOfTuple(u impl.Tuple) impl.Packet {
	return impl.ErrorOf(packetOf(u, impl.FlAck, "sent"), 9).Packet
}

func TestErrorsOfFlows(t *testing.T) {
	for _, u := range beginners() {
		plain, by := flowsOf(u, u)[0], flowsOf(u, byOther(u))[0]
		plain.Until, by.Until = 101, 101
		own, other := trackOf(2, 100, plain), trackOf(2, 100, by)
		over, overOther := trackOf(2, plain.Until, plain), trackOf(2, by.Until, by)
		for _, back := range eitherSide() {
			// As it was sent, and as it goes on.
			for _, end := range []impl.Tuple{endOfFlow(plain, back), plainTurned(endOfFlow(plain, !back))} {
				e := errorOfTuple(end)
				wantTrackOut(t, "of a flow", handled(own, e), impl.TrackOut{Track: own, Verdict: impl.VdError, Bytes: plainPacket(e)})
				e.Src, e.Dst, e.Body = 1, 2, e.Body+"and more"
				wantTrackOut(t, "from anywhere", handled(own, e), impl.TrackOut{Track: own, Verdict: impl.VdError, Bytes: plainPacket(e)})
				wantDrop(t, "of a flow that is over", over, e, plain)
			}
			for _, end := range []impl.Tuple{endOfFlow(by, back), plainTurned(endOfFlow(by, !back))} {
				wantDrop(t, "by another name", other, errorOfTuple(end), by)
				wantDrop(t, "by another name, over", overOther, errorOfTuple(end), by)
			}
			for _, end := range append(oneTurned(endOfFlow(plain, back)), oneTurned(plainTurned(endOfFlow(plain, back)))...) {
				wantDrop(t, "of no flow", own, errorOfTuple(end), plain)
			}
		}
		wantDrop(t, "of none", trackOf(2, 100), errorOfTuple(u))
	}
}

// Who has the tuple of which an error speaks turned round alone goes by another
// name, so the error is dropped; who goes by its own name has both.
func TestWhichFlowAnErrorIsOf(t *testing.T) {
	u := impl.Tuple{Proto: impl.PrUdp, Src: 1, SPort: 2, Dst: 3, DPort: 4}
	far := impl.Tuple{Proto: impl.PrUdp, Src: 5, SPort: 6, Dst: 7, DPort: 8}
	e := errorOfTuple(u)
	for _, until := range []int64{100, 200} {
		straight := impl.Flow{Orig: far, Back: u, Until: until, Count: 1}
		turned := impl.Flow{Orig: plainTurned(far), Back: plainTurned(u), Until: 200, Count: 1}
		wantDrop(t, "it by one, turned by another", trackOf(4, 100, straight, turned), e, straight, turned)
		wantDrop(t, "turned alone", trackOf(4, 100, turned), e, turned)
		wantDrop(t, "it alone", trackOf(4, 100, straight), e, straight)
	}
	for _, f := range []impl.Flow{{Orig: u, Back: plainTurned(u), Count: 1}, {Orig: plainTurned(u), Back: u, Count: 1}} {
		f.Until = 101
		track := trackOf(4, 100, f, flowAt(10, 500, true))
		wantTrackOut(t, "both", handled(track, e), impl.TrackOut{Track: track, Verdict: impl.VdError, Bytes: plainPacket(e)})
		f.Until = 100
		wantDrop(t, "both, over", trackOf(4, 100, f), e, f)
	}
}

// An error leads no flow on, and makes nobody go, not even who is over.
func TestAnErrorTurnsNoFlow(t *testing.T) {
	f, over := flowAt(10, 200, false), flowAt(20, 100, false)
	track := fullOf(100, f, over)
	track.Rules, track.Bad, track.Drops = sixRules(), 5, 6
	e := errorOfTuple(f.Orig)
	wantTrackOut(t, "an error", handled(track, e), impl.TrackOut{Track: track, Verdict: impl.VdError, Bytes: plainPacket(e)})
	wantDrop(t, "of one that is over", track, errorOfTuple(over.Orig), f, over)
	wantDrop(t, "of none", track, errorOfTuple(tcpTuple()), f, over)
	if got := impl.Lookup(track, e); got != -1 {
		t.Errorf("Lookup of an error: got %d", got)
	}
}

func TestErrorsThatSpeakOfNoPacket(t *testing.T) {
	f := flowAt(10, 200, false)
	track := trackOf(2, 100, f)
	start := plainPacket(packetOf(f.Orig, 0, "sent"))[:28]
	bodies := []string{mixedText(28), mixedText(100), strings.Repeat("\x00", 28), strings.Repeat("\x00", 100), plainPacket(errorPacket(mixedText(28)))[:28]}
	for _, at := range []int{0, 1, 4, 5, 6, 7, 8} {
		bodies = append(bodies, turned(start, at, 1))
	}
	for _, proto := range []byte{0, 2, 5, 18, 255} {
		bodies = append(bodies, start[:9]+string([]byte{proto})+start[10:])
	}
	for _, kind := range []byte{1, impl.IcError, 7, 9, 255} {
		ping := plainPacket(packetOf(pingTuple(impl.IcAsk), 0, ""))
		bodies = append(bodies, ping[:20]+string([]byte{kind})+ping[21:28])
	}
	for _, body := range bodies {
		wantBad(t, "no packet within", track, plainPacket(errorPacket(body)), f)
	}
	for _, body := range []string{start, start + "more", turned(start, 10, 1), turned(start, 2, 1), turned(start, 26, 9)} {
		e := errorPacket(body)
		want := impl.TrackOut{Track: track, Verdict: impl.VdError, Bytes: plainPacket(e)}
		wantTrackOut(t, "a packet within", handled(track, e), want)
	}
}

func TestBytesThatAreNoPacket(t *testing.T) {
	f, over := flowAt(10, 200, false), flowAt(20, 100, false)
	track := fullOf(100, f, over)
	track.Rules, track.Bad, track.Drops = sixRules(), 5, 6
	for _, text := range []string{"", "x", strings.Repeat("\x00", 27), strings.Repeat("\x00", 28), strings.Repeat("E", impl.MaxBytes)} {
		wantBad(t, "no packet", track, text, f, over)
	}
	for _, p := range append(eachKind(28), packetOf(f.Orig, 0, "said"), packetOf(over.Orig, 0, "said")) {
		text := plainPacket(p)
		for _, bad := range []string{
			text[:27], text[:len(text)-1], text + "\x00", turned(text, 0, 1), turned(text, 8, 1), turned(text, 3, 1), turned(text, 9, 64),
			turned(text, 10, 1), turned(text, checkPlace(p), 1), turned(text, 15, 1), turned(text, len(text)-1, 1),
		} {
			wantBad(t, fmt.Sprintf("%q", bad), track, bad, f, over)
		}
	}
	for length := 101; length < 110; length++ {
		wantBad(t, "a long body", track, plainPacket(packetOf(f.Orig, 0, mixedText(length))), f, over)
	}
	noCheck := turnedTo(plainPacket(packetOf(f.Orig, 0, "said")), 26, 0)
	wantBad(t, "no check", track, noCheck, f, over)
}

func TestALongTextIsRefusedByATrack(t *testing.T) {
	wrong := trackOf(4, 100)
	wrong.Now = -1
	text := plainPacket(packetOf(udpTuple(), 0, ""))
	for _, track := range []impl.Track{trackOf(4, 100), fullOf(100, flowAt(10, 200, false)), wrong, {}} {
		for _, start := range []int64{0, -1, impl.MaxTime + 1} {
			long := text + strings.Repeat("\x00", impl.MaxBytes+1-len(text))
			wantTrackCode(t, "more than MaxBytes", impl.Handle(track, long, start), impl.ErrSize)
			if impl.TrackRight(track) && start == 0 {
				wantBad(t, "MaxBytes", track, long[1:], track.Flows...)
			} else {
				wantTrackCode(t, "MaxBytes", impl.Handle(track, long[1:], start), impl.ErrForm)
			}
		}
	}
}

func TestFlowsThatAreLookedUp(t *testing.T) {
	first, second, third := flowAt(10, 200, true), byName(flowAt(20, 100, false), 500), flowsOf(tcpTuple(), byOther(tcpTuple()))[0]
	track := trackOf(4, 100, first, second, third)
	for at, f := range track.Flows {
		for _, back := range eitherSide() {
			end := endOfFlow(f, back)
			if got := impl.Lookup(track, packetOf(end, impl.FlAck, "hi")); got != int64(at) {
				t.Errorf("Lookup(%+v): got %d, want %d", end, got, at)
			}
			for _, u := range oneTurned(end) {
				if got := impl.Lookup(track, packetOf(u, impl.FlAck, "hi")); got != -1 {
					t.Errorf("Lookup(%+v): got %d, want -1", u, got)
				}
			}
			long := packetOf(end, impl.FlAck, mixedText(101))
			wrong := packetOf(end, impl.FlAck, "hi")
			wrong.Flags = 64
			for _, p := range []impl.Packet{long, wrong, errorOfTuple(end), errorOfTuple(plainTurned(end))} {
				if got := impl.Lookup(track, p); got != -1 {
					t.Errorf("Lookup(%s): got %d, want -1", briefPacket(p), got)
				}
			}
		}
		if f.Back != plainTurned(f.Orig) {
			for _, u := range []impl.Tuple{plainTurned(f.Orig), plainTurned(f.Back)} {
				if got := impl.Lookup(track, packetOf(u, impl.FlAck, "hi")); got != -1 {
					t.Errorf("Lookup(%+v): got %d, want -1", u, got)
				}
			}
		}
	}
	for _, p := range wrongPackets() {
		for _, one := range []impl.Track{track, trackOf(4, 100)} {
			if got := impl.Lookup(one, p); got != -1 {
				t.Errorf("Lookup(%s): got %d, want -1", briefPacket(p), got)
			}
		}
	}
}

// A flow of noughts is not that of a packet without a tuple.
func TestLookupAmongPings(t *testing.T) {
	ask := impl.Tuple{Proto: impl.PrPing, Kind: impl.IcAsk}
	track := trackOf(4, 0, impl.Flow{Orig: ask, Back: plainTurned(ask), Until: 9, Count: 1})
	for p, want := range map[impl.Packet]int64{
		{Proto: impl.PrPing, Kind: impl.IcAsk}: 0, {Proto: impl.PrPing, Kind: impl.IcReply}: 0, {}: -1,
		{Proto: impl.PrPing, Kind: impl.IcAsk, B: 1}: -1, {Proto: impl.PrUdp}: -1, {Proto: impl.PrPing, Kind: impl.IcError}: -1,
	} {
		if got := impl.Lookup(track, p); got != want {
			t.Errorf("Lookup(%+v): got %d, want %d", p, got, want)
		}
	}
}

func wantDump(t *testing.T, track impl.Track, want ...string) {
	t.Helper()
	if got := impl.Dump(track); !slices.Equal(got, want) {
		t.Errorf("Dump: got %q, want %q", got, want)
	}
}

func TestDumps(t *testing.T) {
	wantDump(t, trackOf(4, 100))
	for _, f := range eachFlow() {
		wantDump(t, trackOf(1, 100, f), plainFlowText(f))
	}
	tcp := flowsOf(tcpTuple(), tcpTuple())[1]
	wantDump(t, trackOf(4, 100, flowAt(20, 0, true), tcp, byName(flowAt(3, 200, false), 500)),
		"tcp 10.0.0.1:40001>203.0.113.9:443 tcp 203.0.113.9:443>10.0.0.1:40001 sent seen",
		"udp 10.0.0.1:3>8.8.8.8:53 udp 8.8.8.8:53>203.0.113.1:500 none new",
		"udp 10.0.0.1:20>8.8.8.8:53 udp 8.8.8.8:53>10.0.0.1:20 none sure")
}

// came is a packet that comes, at a time, and what comes of it.
type came struct {
	now     int64
	from    string
	a       int64
	to      string
	b       int64
	flags   int64
	verdict int64
	goes    string
}

// A house of one name, three ports and one server, by the desk's rules.
func TestAHouse(t *testing.T) {
	const syn, ack = impl.FlSyn, impl.FlAck
	track := impl.TrackNew(deskRules(t), 2).Track
	if desk := impl.DeskTrack(); !sameTrack(desk, impl.TrackNew(deskRules(t), 4).Track) {
		t.Errorf("the desk's track is %+v", desk)
	}
	for place, c := range []came{
		{0, "10.0.0.1", 40, "8.8.8.8", 80, syn, impl.VdNew, "tcp 203.0.113.1:500>8.8.8.8:80"},
		{1, "8.8.8.8", 80, "203.0.113.1", 500, syn | ack, impl.VdBack, "tcp 8.8.8.8:80>10.0.0.1:40"},
		{2, "10.0.0.1", 40, "8.8.8.8", 80, ack, impl.VdKnown, "tcp 203.0.113.1:500>8.8.8.8:80"},
		{3, "9.9.9.9", 70, "203.0.113.1", 80, syn, impl.VdNew, "tcp 9.9.9.9:70>10.0.0.9:8080"},
		{4, "10.0.0.9", 8080, "9.9.9.9", 70, syn | ack, impl.VdBack, "tcp 203.0.113.1:80>9.9.9.9:70"},
		{5, "9.9.9.9", 71, "203.0.113.1", 80, ack, impl.VdBad, ""},
		{6, "10.0.0.2", 40, "8.8.8.8", 80, syn, impl.VdNew, "tcp 203.0.113.1:501>8.8.8.8:80"},
		{7, "9.9.9.9", 70, "203.0.113.1", 80, ack, impl.VdBad, ""},
		{8, "8.8.8.8", 80, "203.0.113.1", 501, syn | ack, impl.VdBack, "tcp 8.8.8.8:80>10.0.0.2:40"},
		{9, "10.0.0.2", 40, "8.8.8.8", 80, ack, impl.VdKnown, "tcp 203.0.113.1:501>8.8.8.8:80"},
		{10, "10.0.0.3", 40, "8.8.8.8", 80, syn, impl.VdDrop, ""},
		{600, "10.0.0.3", 40, "8.8.8.8", 80, syn, impl.VdNew, "tcp 203.0.113.1:500>8.8.8.8:80"},
	} {
		track = impl.Pass(track, c.now-track.Now).Track
		p := impl.Packet{Src: addrOf(t, c.from), Dst: addrOf(t, c.to), Proto: impl.PrTcp, A: c.a, B: c.b, Flags: c.flags, Body: "word"}
		out := handled(track, p)
		went := impl.PacketRead(out.Bytes).Packet
		if out.Verdict != c.verdict || impl.TupleText(impl.TupleOf(went)) != c.goes || c.goes != "" && went.Body != "word" {
			t.Errorf("packet %d: got %d, %s, want %d, %s", place, out.Verdict, briefPacket(went), c.verdict, c.goes)
		}
		wantRightTrack(t, "a house", out.Track)
		track = out.Track
	}
	wantDump(t, track, "tcp 10.0.0.3:40>8.8.8.8:80 tcp 8.8.8.8:80>203.0.113.1:500 sent new")
	if track.Bad != 2 || track.Drops != 1 {
		t.Errorf("got %d bad and %d drops, want 2 and 1", track.Bad, track.Drops)
	}
}

// The body of what goes on is the very same, of each length.
func TestBodiesThatGoOn(t *testing.T) {
	track := impl.TrackNew([]impl.Rule{srcRule(500, 502), dstRule(8080)}, 4).Track
	for _, length := range []int{0, 1, 2, 27, 28, 99, 100} {
		for _, u := range append(withinTuples()[:3], outsideTuples()[:3]...) {
			p := packetOf(u, impl.FlSyn, mixedText(length))
			out := handled(track, p)
			if out.Verdict != impl.VdNew {
				t.Errorf("%s: got %d", briefPacket(p), out.Verdict)
				continue
			}
			wantAnswerGoesBack(t, "a body", p, out)
			again := impl.Handle(out.Track, plainPacket(p), 5)
			if again.Verdict != impl.VdKnown || again.Bytes != out.Bytes {
				t.Errorf("%s again: got %d, %q, want %q", briefPacket(p), again.Verdict, again.Bytes, out.Bytes)
			}
		}
	}
}

// wrongTracks: tracks that are not right, each by one fault alone.
func wrongTracks() map[string]impl.Track {
	all := map[string]impl.Track{"the zero track": {}}
	turn := func(what string, change func(track *impl.Track)) {
		track := trackOf(4, 100, flowAt(10, 200, false), flowAt(20, 200, true), flowAt(30, 50, false))
		track.Rules, track.Bad, track.Drops = sixRules()[:2], 3, 4
		change(&track)
		all[what] = track
	}
	for place, r := range wrongRules() {
		turn(fmt.Sprintf("the wrong rule %d", place), func(track *impl.Track) { track.Rules[place%2] = r })
	}
	turn("seven rules", func(track *impl.Track) { track.Rules = append(sixRules(), srcRule(500, 502)) })
	turn("401 rules", func(track *impl.Track) { track.Rules = slices.Repeat(sixRules()[:1], 401) })
	for _, limit := range append(wrongNumbers(12), 0, -1, 13, 2, 1) {
		turn(fmt.Sprintf("the Limit %d", limit), func(track *impl.Track) { track.Limit = limit })
	}
	for _, n := range append(wrongNumbers(impl.MaxTime), -1, impl.MaxTime+1) {
		turn(fmt.Sprintf("Now %d", n), func(track *impl.Track) { track.Now = n })
		turn(fmt.Sprintf("Bad %d", n), func(track *impl.Track) { track.Bad = n })
		turn(fmt.Sprintf("Drops %d", n), func(track *impl.Track) { track.Drops = n })
	}
	for _, right := range []impl.Flow{flowAt(20, 200, true), flowsOf(tcpTuple(), tcpTuple())[1], flowsOf(pingTuple(impl.IcAsk), pingTuple(impl.IcAsk))[0]} {
		for place, f := range turnedFlows(right) {
			turn(fmt.Sprintf("the wrong flow %d of %d", place, right.Orig.Proto), func(track *impl.Track) { track.Flows = []impl.Flow{f} })
		}
	}
	turn("a wrong flow among others", func(track *impl.Track) { track.Flows[1].Count = 0 })
	turn("a wrong flow behind others", func(track *impl.Track) { track.Flows[2].Until = -1 })
	addWrongOrders(turn)
	return all
}

// addWrongOrders adds tracks whose flows are right, but not beside each other.
func addWrongOrders(turn func(what string, change func(track *impl.Track))) {
	turn("the last flow first", func(track *impl.Track) { track.Flows[0], track.Flows[2] = track.Flows[2], track.Flows[0] })
	turn("the first two turned", func(track *impl.Track) { track.Flows[0], track.Flows[1] = track.Flows[1], track.Flows[0] })
	turn("the last two turned", func(track *impl.Track) { track.Flows[1], track.Flows[2] = track.Flows[2], track.Flows[1] })
	turn("falling", func(track *impl.Track) { slices.Reverse(track.Flows) })
	turn("a flow twice", func(track *impl.Track) { track.Flows[1] = track.Flows[0] })
	turn("an Orig twice", func(track *impl.Track) { track.Flows[1].Orig = track.Flows[0].Orig })
	turn("a Back twice", func(track *impl.Track) { track.Flows[2].Back = track.Flows[0].Back })
	turn("a Back twice, side by side", func(track *impl.Track) { track.Flows[1].Back = track.Flows[0].Back })
	turn("an Orig that is a Back", func(track *impl.Track) { track.Flows[2].Orig = track.Flows[0].Back })
	turn("a Back that is an Orig", func(track *impl.Track) { track.Flows[2].Back = track.Flows[0].Orig })
	turn("a Back that is an Orig behind it", func(track *impl.Track) { track.Flows[0].Back = track.Flows[2].Orig })
	turn("a tuple twice in one", func(track *impl.Track) { track.Flows[1].Back = track.Flows[1].Orig })
	turn("a tuple twice in the last one", func(track *impl.Track) { track.Flows[2].Back = track.Flows[2].Orig })
	turn("five flows of four", func(track *impl.Track) {
		*track = trackOf(4, 100, flowAt(10, 200, true), flowAt(20, 200, true), flowAt(30, 200, true), flowAt(40, 200, true), flowAt(50, 200, true))
	})
	turn("thirteen flows of twelve", func(track *impl.Track) {
		flows := []impl.Flow{}
		for port := range int64(13) {
			flows = append(flows, flowAt(port, 200, true))
		}
		*track = trackOf(12, 100, flows...)
	})
	turn("401 flows", func(track *impl.Track) {
		flows := []impl.Flow{}
		for port := range int64(401) {
			flows = append(flows, flowAt(port, 200, true))
		}
		*track = trackOf(12, 100, flows...)
	})
}

// endsOfSome gives the ends of a track's first flows.
func endsOfSome(track impl.Track) []impl.Tuple {
	all := []impl.Tuple{}
	for _, f := range track.Flows[:min(3, len(track.Flows))] {
		all = append(all, f.Orig, f.Back)
	}
	return all
}

// wantTrackRefused: of a track that is not right nothing is told, whatever comes;
// also where the rest is wrong as well.
func wantTrackRefused(t *testing.T, what string, track impl.Track) {
	t.Helper()
	if impl.TrackRight(track) {
		t.Errorf("%s: %+v is right", what, track)
	}
	for _, u := range append([]impl.Tuple{tcpTuple()}, endsOfSome(track)...) {
		p := packetOf(u, impl.FlSyn, "hi")
		if got := impl.Lookup(track, p); got != -1 {
			t.Errorf("%s: Lookup: got %d", what, got)
		}
		wantTrackCode(t, what+": Handle", impl.Handle(track, impl.PacketBytes(p), 0), impl.ErrForm)
	}
	wantTrackCode(t, what+": Handle of no packet", impl.Handle(track, "x", 0), impl.ErrForm)
	wantTrackCode(t, what+": Handle, no start", impl.Handle(track, "x", -1), impl.ErrForm)
	for _, ticks := range []int64{0, 1, -1, 1001} {
		wantTrackCode(t, what+": Pass", impl.Pass(track, ticks), impl.ErrForm)
	}
	wantTrackCode(t, what+": Sweep", impl.Sweep(track), impl.ErrForm)
	wantTrackCode(t, what+": Flush", impl.Flush(track), impl.ErrForm)
	if got := impl.Dump(track); len(got) != 0 {
		t.Errorf("%s: Dump: got %q", what, got)
	}
}

func TestTracksThatAreNotRightAreRefused(t *testing.T) {
	for what, track := range wrongTracks() {
		before := copyOfTrack(track)
		wantTrackRefused(t, what, track)
		if !sameTrack(track, before) {
			t.Errorf("%s: %+v was written into, was %+v", what, track, before)
		}
	}
}

func TestTracksThatAreRight(t *testing.T) {
	flows := []impl.Flow{}
	for port := range int64(12) {
		for limit := max(1, port); limit <= 12; limit++ {
			for _, n := range []int64{0, 1, impl.MaxTime - 1, impl.MaxTime} {
				track := trackOf(limit, n, flows...)
				track.Bad, track.Drops, track.Rules = impl.MaxTime-n, n, sixRules()[:port%7]
				wantRightTrack(t, "right", track)
			}
		}
		flows = append(flows, flowAt(port, port, port%2 == 0))
	}
	wantRightTrack(t, "twelve flows", trackOf(12, 5, flows...))
	for _, f := range edgeFlows() {
		if f.Orig != f.Back {
			wantRightTrack(t, "an edge", trackOf(1, 5, f))
		}
	}
}

// scribbleTrack writes over a track's lists, also behind their ends.
func scribbleTrack(track impl.Track) {
	rule, flow := impl.Rule{Kind: -9, Net: -9}, impl.Flow{State: -9, Until: -9, Count: -9}
	for _, rules := range [][]impl.Rule{track.Rules, append(track.Rules, rule)} {
		for at := range rules {
			rules[at] = rule
		}
	}
	for _, flows := range [][]impl.Flow{track.Flows, append(track.Flows, flow)} {
		for at := range flows {
			flows[at] = flow
		}
	}
}

// roomyTrack gives a track with room behind its lists in which nobody may write.
func roomyTrack() (track impl.Track, rules []impl.Rule, flows []impl.Flow) {
	track = trackOf(4, 100, flowAt(10, 200, false), byName(flowAt(20, 200, true), 500), flowAt(30, 100, false))
	track.Limit = 3
	rules, flows = append(sixRules()[:2], make([]impl.Rule, 4)...), append(track.Flows, make([]impl.Flow, 4)...)
	track.Rules, track.Flows = rules[:2], flows[:3]
	return track, rules, flows
}

// doings: each thing that may be done with the roomy track, by name.
func doings() map[string]func(track impl.Track) impl.TrackOut {
	all := map[string]func(track impl.Track) impl.TrackOut{
		"TrackNew":       func(track impl.Track) impl.TrackOut { return impl.TrackNew(track.Rules, 4) },
		"Pass":           func(track impl.Track) impl.TrackOut { return impl.Pass(track, 7) },
		"Pass 0":         func(track impl.Track) impl.TrackOut { return impl.Pass(track, 0) },
		"Sweep":          impl.Sweep,
		"Flush":          impl.Flush,
		"Handle, no one": func(track impl.Track) impl.TrackOut { return impl.Handle(track, "x", 0) },
	}
	for name, p := range map[string]impl.Packet{
		"new, those that are over went": packetOf(flowAt(1, 0, false).Orig, 0, "hi"),
		"new at the end":                packetOf(flowAt(99, 0, false).Orig, 0, "hi"),
		"known":                         packetOf(flowAt(10, 0, false).Orig, 0, "hi"),
		"back":                          packetOf(flowAt(10, 0, false).Back, 0, "hi"),
		"anew":                          packetOf(flowAt(30, 0, false).Orig, 0, "hi"),
		"an error":                      errorOfTuple(flowAt(10, 0, false).Orig),
		"an error of none":              errorOfTuple(tcpTuple()),
		"begins nothing":                packetOf(tcpTuple(), 0, "hi"),
		"to itself":                     packetOf(impl.Tuple{Proto: impl.PrUdp, Src: 7, SPort: 7, Dst: 7, DPort: 7}, 0, "hi"),
	} {
		all["Handle, "+name] = func(track impl.Track) impl.TrackOut { return handled(track, p) }
	}
	return all
}

func TestTracksAreNewMemory(t *testing.T) {
	for what, do := range doings() {
		track, rules, flows := roomyTrack()
		wantRules, wantFlows := slices.Clone(rules), slices.Clone(flows)
		got := do(track)
		if got.Code != impl.OK {
			t.Errorf("%s: got code %d", what, got.Code)
		}
		kept := got
		kept.Track = copyOfTrack(got.Track)
		scribbleTrack(got.Track)
		if !slices.Equal(rules, wantRules) || !slices.Equal(flows, wantFlows) {
			t.Errorf("%s: what it was given is now %+v, %+v", what, rules, flows)
		}
		got = do(track)
		scribbleTrack(track)
		wantTrackOut(t, what+": what it was given turned", got, kept)
	}
}

// What goes on is text of its own, also where it goes on as it is.
func TestBytesAreNewMemory(t *testing.T) {
	f := flowAt(10, 200, false)
	for _, p := range []impl.Packet{packetOf(f.Orig, 0, mixedText(100)), packetOf(f.Back, 0, ""), packetOf(udpTuple(), 0, "hi"), errorOfTuple(f.Orig)} {
		text := plainPacket(p)
		out := impl.Handle(trackOf(4, 100, f), text, 0)
		if out.Bytes != text || unsafe.StringData(out.Bytes) == unsafe.StringData(text) {
			t.Errorf("%s: the bytes that go on are not the same, or are those that came", briefPacket(p))
		}
	}
}

// Nothing is kept from call to call.
func TestTracksAreToldAnew(t *testing.T) {
	for what, do := range doings() {
		track, _, _ := roomyTrack()
		first := do(track)
		for _, other := range doings() {
			other(other(track).Track)
		}
		wantTrackOut(t, what, do(track), first)
	}
}
