package tests

import (
	"fmt"
	"math"
	"strings"
	"testing"
	"unsafe"

	"loop.example/g00542/impl"
)

// byOther gives a tuple other names at both its ends.
func byOther(u impl.Tuple) impl.Tuple {
	u.Src, u.Dst = 0xCB007101, 0x0A000009
	if u.Proto != impl.PrPing {
		u.DPort = 8080
	}
	return withSPort(u, 501)
}

// packetOf gives a packet of a right tuple; the flags are for PrTcp alone.
func packetOf(u impl.Tuple, flags int64, body string) impl.Packet {
	p := impl.Packet{Src: u.Src, Dst: u.Dst, Proto: u.Proto, A: u.SPort, B: u.DPort, Kind: u.Kind, Body: body}
	switch u.Proto {
	case impl.PrPing:
		p.B, p.Seq = 0, 300
	case impl.PrTcp:
		p.Flags, p.Seq, p.Ack = flags, 0x89ABCDEF, 0x01234567
	}
	return p
}

// beginners: tuples of each Proto that may begin a flow.
func beginners() []impl.Tuple {
	return []impl.Tuple{tcpTuple(), udpTuple(), pingTuple(impl.IcAsk)}
}

func endOfFlow(f impl.Flow, back bool) impl.Tuple {
	if back {
		return f.Back
	}
	return f.Orig
}

// flowsOf: right flows of a tuple that goes on as another one, in each state,
// new, seen and sure.
func flowsOf(u impl.Tuple, goes impl.Tuple) []impl.Flow {
	states := []int64{0}
	if u.Proto == impl.PrTcp {
		states = statesThere()
	}
	all := []impl.Flow{}
	for _, state := range states {
		f := impl.Flow{Orig: u, Back: plainTurned(goes), State: state, Until: 77, Count: 5}
		seen, sure := f, f
		seen.Seen = true
		sure.Seen, sure.Assured = true, true
		all = append(all, f, seen, sure)
	}
	return all
}

// eachFlow: right flows of each Proto, by their own names and by others.
func eachFlow() []impl.Flow {
	all := []impl.Flow{}
	for _, u := range beginners() {
		all = append(append(all, flowsOf(u, u)...), flowsOf(u, byOther(u))...)
	}
	return all
}

func isATime(n int64) bool {
	return n >= 0 && n <= 1000000
}

func plainFlowRight(f impl.Flow) bool {
	first, last := int64(0), int64(0)
	switch f.Orig.Proto {
	case impl.PrTcp:
		first, last = 1, 8
	case impl.PrPing:
		if f.Orig.Kind != 8 || f.Back.Kind != 0 {
			return false
		}
	}
	ends := impl.TupleRight(f.Orig) && impl.TupleRight(f.Back) && f.Orig.Proto == f.Back.Proto
	numbers := f.State >= first && f.State <= last && isATime(f.Until) && isATime(f.Count) && f.Count != 0
	return ends && numbers && !(f.Assured && !f.Seen)
}

// plainUntil gives until when a flow is there, by the numbers of the document.
func plainUntil(f impl.Flow, now int64) int64 {
	life := int64(10)
	switch {
	case f.Orig.Proto == impl.PrTcp:
		life = []int64{0, 20, 10, 500, 20, 15, 5, 20, 2}[f.State]
	case f.Orig.Proto == impl.PrUdp && f.Assured:
		life = 180
	case f.Orig.Proto == impl.PrUdp:
		life = 30
	}
	if now > 1000000-life {
		return 1000000
	}
	return now + life
}

// plainTuple gives the tuple of a packet, and whether it has one.
func plainTuple(p impl.Packet) (impl.Tuple, bool) {
	u := impl.Tuple{Proto: p.Proto, Src: p.Src, SPort: p.A, Dst: p.Dst, DPort: p.B, Kind: p.Kind}
	if p.Proto == impl.PrPing {
		u.DPort = p.A
	}
	return u, impl.PacketRight(p) && !(p.Proto == impl.PrPing && p.Kind == impl.IcError)
}

// plainNew does what chapter 10 says of a packet that begins, and names what it
// was.
func plainNew(p impl.Packet, goes impl.Tuple, now int64) (what string, want impl.FlowOut) {
	u, has := plainTuple(p)
	switch {
	case !has:
		return "a packet without a tuple", impl.FlowOut{Code: impl.ErrForm}
	case !impl.TupleRight(goes):
		return "goes not right", impl.FlowOut{Code: impl.ErrForm}
	case goes.Proto != u.Proto || goes.Kind != u.Kind:
		return "goes of another Proto or Kind", impl.FlowOut{Code: impl.ErrForm}
	case !isATime(now):
		return "no time", impl.FlowOut{Code: impl.ErrForm}
	case u.Proto == impl.PrTcp && p.Flags&(impl.FlSyn|impl.FlAck|impl.FlRst) != impl.FlSyn:
		return "flags that begin nothing", impl.FlowOut{Code: impl.ErrState}
	case u.Proto == impl.PrPing && u.Kind == impl.IcReply:
		return "a reply", impl.FlowOut{Code: impl.ErrState}
	}
	f := impl.Flow{Orig: u, Back: plainTurned(goes), Count: 1}
	if u.Proto == impl.PrTcp {
		f.State = impl.TcSent
	}
	f.Until = plainUntil(f, now)
	return "begun", impl.FlowOut{Flow: f}
}

// plainNext does what chapter 10 says of one more packet, and names what it was.
func plainNext(f impl.Flow, p impl.Packet, back bool, now int64) (what string, want impl.FlowOut) {
	u, has := plainTuple(p)
	switch {
	case !plainFlowRight(f):
		return "a flow not right", impl.FlowOut{Code: impl.ErrForm}
	case !has:
		return "a packet without a tuple", impl.FlowOut{Code: impl.ErrForm}
	case u != endOfFlow(f, back):
		return "a packet of another tuple", impl.FlowOut{Code: impl.ErrForm}
	case !isATime(now):
		return "no time", impl.FlowOut{Code: impl.ErrForm}
	}
	next := f
	if u.Proto == impl.PrTcp {
		next.State = impl.NextState(f.State, back, impl.SignOf(p.Flags))
	}
	switch {
	case next.State == -1:
		return "flags that say nothing there", impl.FlowOut{Code: impl.ErrState}
	case f.Count == 1000000:
		return "full", impl.FlowOut{Code: impl.ErrFull}
	}
	next.Seen = f.Seen || back
	sure := u.Proto == impl.PrTcp && next.State == impl.TcOpen || u.Proto == impl.PrUdp && !back
	if next.Seen && sure {
		next.Assured = true
	}
	next.Until, next.Count = plainUntil(next, now), f.Count+1
	return "led on", impl.FlowOut{Flow: next}
}

// plainFlowOut does what chapter 10 says of as which a packet goes on.
func plainFlowOut(f impl.Flow, p impl.Packet, back bool) impl.PacketOut {
	u, has := plainTuple(p)
	if !plainFlowRight(f) || !has || u != endOfFlow(f, back) {
		return impl.PacketOut{Code: impl.ErrForm}
	}
	goes := plainTurned(endOfFlow(f, !back))
	p.Src, p.Dst, p.A = goes.Src, goes.Dst, goes.SPort
	if p.Proto != impl.PrPing {
		p.B = goes.DPort
	}
	return impl.PacketOut{Packet: p}
}

// plainFlowText writes a flow's text another way.
func plainFlowText(f impl.Flow) string {
	if !plainFlowRight(f) {
		return ""
	}
	names := []string{"none", "sent", "recv", "open", "fin", "half", "last", "wait", "shut"}
	mark := map[[2]bool]string{{false, false}: "new", {true, false}: "seen", {true, true}: "sure"}[[2]bool{f.Seen, f.Assured}]
	return fmt.Sprintf("%s %s %s %s", impl.TupleText(f.Orig), impl.TupleText(f.Back), names[f.State], mark)
}

// What is told of a call is put together only where it fails: there are many.
func wantFlowNew(t *testing.T, what string, p impl.Packet, goes impl.Tuple, now int64, want impl.FlowOut) {
	t.Helper()
	if got := impl.FlowNew(p, goes, now); got != want {
		t.Errorf("%s: FlowNew(%s, %+v, %d): got %+v, want %+v", what, briefPacket(p), goes, now, got, want)
	}
}

func wantFlowNext(t *testing.T, what string, f impl.Flow, p impl.Packet, back bool, now int64, want impl.FlowOut) {
	t.Helper()
	if got := impl.FlowNext(f, p, back, now); got != want {
		t.Errorf("%s: FlowNext(%+v, %s, %v, %d): got %+v, want %+v", what, f, briefPacket(p), back, now, got, want)
	}
}

func wantFlowOut(t *testing.T, what string, f impl.Flow, p impl.Packet, back bool, want impl.PacketOut) {
	t.Helper()
	if got := impl.FlowOut2(f, p, back); got != want {
		wantPacket(t, fmt.Sprintf("%s: FlowOut2(%+v, %s, %v)", what, f, briefPacket(p), back), got, want)
	}
}

func wantFlowText(t *testing.T, f impl.Flow, want string) {
	t.Helper()
	if got := impl.FlowText(f); got != want {
		t.Errorf("FlowText(%+v): got %q, want %q", f, got, want)
	}
	if got := impl.FlowRight(f); got != (want != "") {
		t.Errorf("FlowRight(%+v): got %v", f, got)
	}
}

// oneTurned: tuples that are another one in one of their numbers alone.
func oneTurned(u impl.Tuple) []impl.Tuple {
	from, to, fromPort, toPort := u, u, u, u
	from.Src ^= 1
	to.Dst ^= 1 << 31
	fromPort.SPort ^= 1
	toPort.DPort ^= 1 << 15
	if u.Proto == impl.PrPing {
		fromPort.DPort, toPort.SPort = fromPort.SPort, toPort.DPort
	}
	return []impl.Tuple{from, to, fromPort, toPort}
}

// wantAnswered: promise 12. What goes on of a packet, turned round, is what comes
// back the other way, and goes on there as the packet turned round; and nothing
// else comes back so.
func wantAnswered(t *testing.T, f impl.Flow, p impl.Packet, back bool) {
	t.Helper()
	sent, _ := plainTuple(p)
	out := impl.FlowOut2(f, p, back)
	went, has := plainTuple(out.Packet)
	if out.Code != impl.OK || !has {
		t.Errorf("FlowOut2(%+v, %s, %v): got code %d, %s", f, briefPacket(p), back, out.Code, briefPacket(out.Packet))
		return
	}
	answer := packetOf(plainTurned(went), impl.FlAck, "an answer")
	want := packetOf(plainTurned(sent), impl.FlAck, "an answer")
	wantFlowOut(t, "the answer", f, answer, !back, impl.PacketOut{Packet: want})
	for _, u := range oneTurned(plainTurned(went)) {
		wantFlowOut(t, "no answer", f, packetOf(u, impl.FlAck, "no answer"), !back, impl.PacketOut{Code: impl.ErrForm})
	}
}

// thrownGoes gives a name for a tuple, now and then one that may not be.
func thrownGoes(d *dice, u impl.Tuple) impl.Tuple {
	switch d.below(12) {
	case 0:
		return oneOf(d, wrongTuples()...)
	case 1:
		return thrownTuple(d)
	case 2, 3:
		return u
	}
	goes := u
	goes.Src, goes.Dst = someAddr(d), someAddr(d)
	return withSPort(goes, d.below(65536))
}

// thrownFlags gives flags as they come often.
func thrownFlags(d *dice) int64 {
	return oneOf[int64](d, impl.FlSyn, impl.FlSyn|impl.FlAck, impl.FlAck, impl.FlAck, impl.FlFin|impl.FlAck, impl.FlRst, 0, d.below(64))
}

// thrownPacket gives a packet of a side, now and then of none.
func thrownPacket(d *dice, f impl.Flow, back bool) impl.Packet {
	switch d.below(25) {
	case 0:
		return oneOf(d, wrongPackets()...)
	case 1:
		back = !back
	case 2:
		return packetOf(oneOf(d, oneTurned(endOfFlow(f, back))...), thrownFlags(d), "x")
	}
	return packetOf(endOfFlow(f, back), thrownFlags(d), mixedText(int(d.below(101))))
}

func thrownTime(d *dice, now int64) int64 {
	switch d.below(30) {
	case 0:
		return oneOf(d, wrongNumbers(impl.MaxTime)...)
	case 1:
		return impl.MaxTime - d.below(600)
	}
	return now
}

// Promise 12, and all else that chapter 10 says: flows begin as they are and by
// another name, and are led on from both sides, over many packets.
func TestFlowsByManyPackets(t *testing.T) {
	met, d := map[string]int{}, dice(9)
	for range 4000 {
		u := thrownTuple(&d)
		p, goes, now := packetOf(u, oneOf(&d, impl.FlSyn, impl.FlSyn, thrownFlags(&d)), "first"), thrownGoes(&d, u), d.below(1000)
		if d.below(20) == 0 {
			p = oneOf(&d, wrongPackets()...)
		}
		when := thrownTime(&d, now)
		what, want := plainNew(p, goes, when)
		wantFlowNew(t, what, p, goes, when, want)
		met[what]++
		if want.Code != impl.OK {
			continue
		}
		f := want.Flow
		if d.below(10) == 0 {
			f.Count = impl.MaxTime - d.below(20)
		}
		for range d.below(60) {
			now += d.below(20)
			back := d.below(2) == 0
			p, when := thrownPacket(&d, f, back), thrownTime(&d, now)
			what, want := plainNext(f, p, back, when)
			wantFlowNext(t, what, f, p, back, when, want)
			wantFlowOut(t, what, f, p, back, plainFlowOut(f, p, back))
			wantFlowText(t, f, plainFlowText(f))
			met["next: "+what]++
			if want.Code == impl.OK {
				wantAnswered(t, f, p, back)
				f = want.Flow
				met[strings.Fields(impl.FlowText(f))[0]+" "+impl.StateName(f.State)]++
				met[impl.FlowText(f)[strings.LastIndex(impl.FlowText(f), " ")+1:]]++
			}
			if t.Failed() {
				return
			}
		}
	}
	for _, what := range []string{
		"begun", "a packet without a tuple", "goes not right", "goes of another Proto or Kind", "no time", "flags that begin nothing", "a reply",
		"next: led on", "next: a packet without a tuple", "next: a packet of another tuple", "next: no time", "next: flags that say nothing there",
		"next: full", "udp none", "ping none", "tcp sent", "tcp recv", "tcp open", "tcp fin", "tcp half", "tcp last", "tcp wait", "tcp shut",
		"new", "seen", "sure",
	} {
		if met[what] < 20 {
			t.Errorf("%s: met %d times: the flows do not come to it", what, met[what])
		}
	}
}

// Promise 12 of names that are given out by rules, of each right flow, and of
// flows whose ends are at their edges.
func TestWhatGoesOnIsAnswered(t *testing.T) {
	for _, u := range append(beginners(), withinTuples()[:3]...) {
		for _, l := range [][]impl.Rule{nil, {srcRule(500, 502)}, {{Kind: impl.NtDst, To: 0x0A000009, Low: 8080, High: 8080}, {Kind: impl.NtSrc, To: 7}}} {
			p := packetOf(u, impl.FlSyn, "first")
			goes := impl.GoesAs(l, u, 4, nil).Tuple
			f := impl.FlowNew(p, goes, 5).Flow
			wantAnswered(t, f, p, false)
			wantAnswered(t, f, packetOf(plainTurned(goes), impl.FlSyn|impl.FlAck, "back"), true)
			if got := impl.TupleOf(impl.FlowOut2(f, p, false).Packet); got != goes {
				t.Errorf("of %+v %+v goes on, want %+v", u, got, goes)
			}
		}
	}
	for _, f := range append(eachFlow(), edgeFlows()...) {
		for _, back := range eitherSide() {
			wantAnswered(t, f, packetOf(endOfFlow(f, back), impl.FlAck, ""), back)
		}
	}
}

// edgeFlows: right flows with each number at its ends.
func edgeFlows() []impl.Flow {
	all := []impl.Flow{}
	for _, u := range edgeTuples() {
		state := int64(0)
		if u.Proto == impl.PrTcp {
			state = impl.TcSent
		}
		if u.Proto == impl.PrPing {
			u.Kind = impl.IcAsk
		}
		f := impl.Flow{Orig: u, Back: plainTurned(u), State: state, Count: 1}
		other, own := f, f
		other.Back = plainTurned(byOther(u))
		own.Orig, own.Back = byOther(u), f.Back
		all = append(all, f, other, own)
	}
	for _, f := range eachFlow() {
		for _, n := range []int64{1, 2, impl.MaxTime - 1, impl.MaxTime} {
			count, until := f, f
			count.Count, until.Until = n, n
			all = append(all, count, until)
		}
		f.Until = 0
		all = append(all, f)
	}
	// Who talks to itself is answered by what it sends.
	self := impl.Tuple{Proto: impl.PrTcp, Src: 7, SPort: 7, Dst: 7, DPort: 7}
	all = append(all, flowsOf(self, self)...)
	self.Proto = impl.PrUdp
	return append(all, flowsOf(self, self)...)
}

func TestFlowsThatAreRight(t *testing.T) {
	for _, f := range append(eachFlow(), edgeFlows()...) {
		wantFlowText(t, f, plainFlowText(f))
	}
}

// turnedFlows: a right flow with one field turned so that it may not be.
func turnedFlows(right impl.Flow) []impl.Flow {
	all := []impl.Flow{}
	turn := func(change func(f *impl.Flow)) {
		f := right
		change(&f)
		all = append(all, f)
	}
	for _, u := range wrongTuples() {
		turn(func(f *impl.Flow) { f.Orig = u })
		turn(func(f *impl.Flow) { f.Back = u })
		turn(func(f *impl.Flow) { f.Orig, f.Back = u, u })
	}
	for _, u := range eachTuple() {
		if u.Proto != right.Orig.Proto {
			turn(func(f *impl.Flow) { f.Orig = u })
			turn(func(f *impl.Flow) { f.Back = u })
		}
	}
	states := append(wrongNumbers(impl.TcShut), impl.TcNone)
	if right.Orig.Proto != impl.PrTcp {
		states = append(wrongNumbers(0), statesThere()...)
	}
	for _, state := range states {
		turn(func(f *impl.Flow) { f.State = state })
	}
	for _, n := range append(wrongNumbers(impl.MaxTime), -1, impl.MaxTime+1) {
		turn(func(f *impl.Flow) { f.Until = n })
		turn(func(f *impl.Flow) { f.Count = n })
	}
	turn(func(f *impl.Flow) { f.Count = 0 })
	turn(func(f *impl.Flow) { f.Seen, f.Assured = false, true })
	if right.Orig.Proto == impl.PrPing {
		turn(func(f *impl.Flow) { f.Orig.Kind = impl.IcReply })
		turn(func(f *impl.Flow) { f.Back.Kind = impl.IcAsk })
		turn(func(f *impl.Flow) { f.Orig, f.Back = f.Back, f.Orig })
	}
	return all
}

// wantFlowRefused: of a flow that is not right nothing is told, whatever comes.
func wantFlowRefused(t *testing.T, f impl.Flow, packets ...impl.Packet) {
	t.Helper()
	wantFlowText(t, f, "")
	for _, p := range packets {
		for _, back := range eitherSide() {
			for _, now := range []int64{0, -1} {
				wantFlowNext(t, "not right", f, p, back, now, impl.FlowOut{Code: impl.ErrForm})
			}
			wantFlowOut(t, "not right", f, p, back, impl.PacketOut{Code: impl.ErrForm})
		}
	}
}

func TestFlowsThatAreNotRightAreRefused(t *testing.T) {
	wantFlowRefused(t, impl.Flow{}, impl.Packet{}, packetOf(tcpTuple(), impl.FlSyn, ""))
	for _, right := range eachFlow() {
		there := packetOf(right.Orig, impl.FlAck, "there")
		back := packetOf(right.Back, impl.FlAck, "back")
		for _, f := range turnedFlows(right) {
			// Of the ends as they were, and as they are, with flags that say nothing too.
			wantFlowRefused(t, f, there, back, packetOf(f.Orig, 0, ""), packetOf(f.Back, 0, ""))
			if t.Failed() {
				return
			}
		}
	}
}

// What an end has of an IcError, or of another Kind, is no flow's.
func TestFlowsOfPingsByKind(t *testing.T) {
	kinds := []int64{impl.IcReply, 1, impl.IcError, impl.IcAsk, 9, -1, 256 + impl.IcAsk}
	for _, orig := range kinds {
		for _, back := range kinds {
			f := impl.Flow{Orig: pingTuple(orig), Back: pingTuple(back), Count: 1}
			want := ""
			if orig == impl.IcAsk && back == impl.IcReply {
				want = "ping 10.0.0.2:4660>1.1.1.1:4660? ping 10.0.0.2:4660>1.1.1.1:4660! none new"
			}
			wantFlowText(t, f, want)
		}
	}
}

func TestTextsOfFlows(t *testing.T) {
	tcp, udp, ping := tcpTuple(), udpTuple(), pingTuple(impl.IcAsk)
	for _, c := range []struct {
		flow impl.Flow
		want string
	}{
		{impl.Flow{Orig: tcp, Back: plainTurned(tcp), State: impl.TcSent, Count: 1},
			"tcp 10.0.0.1:40001>203.0.113.9:443 tcp 203.0.113.9:443>10.0.0.1:40001 sent new"},
		{impl.Flow{Orig: tcp, Back: plainTurned(byOther(tcp)), State: impl.TcRecv, Seen: true, Count: 1},
			"tcp 10.0.0.1:40001>203.0.113.9:443 tcp 10.0.0.9:8080>203.0.113.1:501 recv seen"},
		{impl.Flow{Orig: tcp, Back: tcp, State: impl.TcShut, Seen: true, Assured: true, Count: 1},
			"tcp 10.0.0.1:40001>203.0.113.9:443 tcp 10.0.0.1:40001>203.0.113.9:443 shut sure"},
		{impl.Flow{Orig: udp, Back: plainTurned(byOther(udp)), Count: impl.MaxTime},
			"udp 192.168.0.1:50000>8.8.8.8:53 udp 10.0.0.9:8080>203.0.113.1:501 none new"},
		{impl.Flow{Orig: ping, Back: plainTurned(byOther(ping)), Seen: true, Until: impl.MaxTime, Count: 2},
			"ping 10.0.0.2:4660>1.1.1.1:4660? ping 10.0.0.9:501>203.0.113.1:501! none seen"},
		{impl.Flow{}, ""},
	} {
		wantFlowText(t, c.flow, c.want)
	}
	for place, name := range []string{"sent", "recv", "open", "fin", "half", "last", "wait", "shut"} {
		f := impl.Flow{Orig: tcp, Back: plainTurned(tcp), State: int64(place + 1), Count: 1}
		wantFlowText(t, f, "tcp 10.0.0.1:40001>203.0.113.9:443 tcp 203.0.113.9:443>10.0.0.1:40001 "+name+" new")
	}
}

// heard is a packet of a flow, when it came, and what the flow is behind it: the
// end of its text, its Until; the code, if it was refused.
type heard struct {
	back  bool
	flags int64
	now   int64
	text  string
	until int64
	code  int64
}

// wantHeard: a flow of a tuple, which another packet than the first leads on.
func wantHeard(t *testing.T, u impl.Tuple, goes impl.Tuple, packets []heard) {
	t.Helper()
	f, count := impl.Flow{}, int64(0)
	for place, one := range packets {
		out := impl.FlowNew(packetOf(u, one.flags, ""), goes, one.now)
		if place > 0 {
			out = impl.FlowNext(f, packetOf(endOfFlow(f, one.back), one.flags, ""), one.back, one.now)
		}
		if out.Code != one.code {
			t.Errorf("%+v, packet %d: got code %d, want %d", u, place, out.Code, one.code)
		}
		if out.Code != impl.OK {
			continue
		}
		f = out.Flow
		count++
		want := impl.TupleText(u) + " " + impl.TupleText(plainTurned(goes)) + " " + one.text
		wantFlowText(t, f, want)
		if f.Until != one.until || f.Count != count {
			t.Errorf("%+v, packet %d: got until %d, count %d, want %d, %d", u, place, f.Until, f.Count, one.until, count)
		}
	}
}

func TestWholeFlows(t *testing.T) {
	const fin, syn, rst, ack = impl.FlFin, impl.FlSyn, impl.FlRst, impl.FlAck
	flows := map[int64][][]heard{
		impl.PrTcp: {
			{
				{false, syn, 100, "sent new", 120, 0}, {false, syn, 105, "sent new", 125, 0}, {true, ack, 106, "", 0, impl.ErrState},
				{true, syn | ack, 110, "recv seen", 120, 0}, {true, ack, 111, "recv seen", 121, 0}, {false, ack, 112, "open sure", 612, 0},
				{false, syn, 113, "", 0, impl.ErrState}, {false, 0, 113, "", 0, impl.ErrState}, {true, ack, 300, "open sure", 800, 0},
				{false, fin | ack, 301, "fin sure", 321, 0}, {true, ack, 302, "half sure", 317, 0}, {true, fin, 303, "last sure", 308, 0},
				{false, ack, 304, "wait sure", 324, 0}, {true, rst, 305, "shut sure", 307, 0}, {false, syn, 400, "sent sure", 420, 0},
			},
			{{false, syn, 0, "sent new", 20, 0}, {true, rst | ack, 0, "shut seen", 2, 0}, {false, ack, 1, "shut seen", 3, 0}},
			{{false, syn | fin | 8, 7, "sent new", 27, 0}, {true, rst | ack, 3, "shut seen", 5, 0}},
			{{false, syn, 0, "sent new", 20, 0}, {false, rst, 0, "shut new", 2, 0}, {false, fin, 1, "shut new", 3, 0}},
		},
		impl.PrUdp: {
			{
				{false, 0, 100, "none new", 130, 0}, {false, 0, 110, "none new", 140, 0}, {true, 0, 111, "none seen", 141, 0},
				{true, 0, 112, "none seen", 142, 0}, {false, 0, 113, "none sure", 293, 0}, {true, 0, 114, "none sure", 294, 0},
			},
		},
		impl.PrPing: {
			{
				{false, 0, 100, "none new", 110, 0}, {true, 0, 101, "none seen", 111, 0}, {false, 0, 102, "none seen", 112, 0},
				{true, 0, 103, "none seen", 113, 0},
			},
		},
	}
	for _, u := range beginners() {
		for _, packets := range flows[u.Proto] {
			wantHeard(t, u, u, packets)
			wantHeard(t, u, byOther(u), packets)
		}
	}
}

// Each state with each flags, from both sides, by the table of chapter 6: its
// State, Seen, Assured, Until and Count.
func TestFlowsByEachFlags(t *testing.T) {
	moves := movesOf(t)
	for _, f := range eachFlow() {
		if f.Orig.Proto != impl.PrTcp {
			continue
		}
		for flags := range int64(64) {
			for _, back := range eitherSide() {
				p := packetOf(endOfFlow(f, back), flags, "")
				to, there := moves[[2]int64{f.State, impl.SignOf(flags)}][back]
				if !there {
					wantFlowNext(t, "nothing is named", f, p, back, 9, impl.FlowOut{Code: impl.ErrState})
					continue
				}
				want := f
				want.State, want.Until, want.Count = to, 9+impl.LifeOf(to), 6
				want.Seen = f.Seen || back
				want.Assured = f.Assured || want.Seen && to == impl.TcOpen
				wantFlowNext(t, "it goes on", f, p, back, 9, impl.FlowOut{Flow: want})
			}
		}
	}
}

// A flow that was not seen is sure only by what comes back while it is open, and
// one that is sure stays so.
func TestWhenAFlowIsSure(t *testing.T) {
	open := impl.Flow{Orig: tcpTuple(), Back: plainTurned(tcpTuple()), State: impl.TcOpen, Count: 1}
	udp := impl.Flow{Orig: udpTuple(), Back: plainTurned(udpTuple()), Count: 1}
	ping := impl.Flow{Orig: pingTuple(impl.IcAsk), Back: pingTuple(impl.IcReply), Count: 1}
	for _, c := range []struct {
		flow  impl.Flow
		seen  bool
		sure  bool
		back  bool
		flags int64
		want  string
		until int64
	}{
		{open, false, false, false, impl.FlAck, "open new", 501},
		{open, false, false, true, impl.FlAck, "open sure", 501},
		{open, true, false, false, impl.FlAck, "open sure", 501},
		{open, false, false, true, impl.FlFin, "fin seen", 21},
		{open, true, false, false, impl.FlRst, "shut seen", 3},
		{open, true, true, false, impl.FlRst, "shut sure", 3},
		{open, true, true, true, impl.FlFin, "fin sure", 21},
		{udp, false, false, false, 0, "none new", 31},
		{udp, false, false, true, 0, "none seen", 31},
		{udp, true, false, true, 0, "none seen", 31},
		{udp, true, false, false, 0, "none sure", 181},
		{udp, true, true, true, 0, "none sure", 181},
		{udp, true, true, false, 0, "none sure", 181},
		{ping, false, false, false, 0, "none new", 11},
		{ping, false, false, true, 0, "none seen", 11},
		{ping, true, false, false, 0, "none seen", 11},
		{ping, true, false, true, 0, "none seen", 11},
		{ping, true, true, false, 0, "none sure", 11},
		{ping, true, true, true, 0, "none sure", 11},
	} {
		f := c.flow
		f.Seen, f.Assured = c.seen, c.sure
		out := impl.FlowNext(f, packetOf(endOfFlow(f, c.back), c.flags, ""), c.back, 1)
		if got := impl.FlowText(out.Flow); !strings.HasSuffix(got, " "+c.want) || out.Flow.Until != c.until || out.Code != impl.OK {
			t.Errorf("%+v, flags %d, back %v: got %q, until %d, code %d, want %q, %d", f, c.flags, c.back, got, out.Flow.Until, out.Code, c.want, c.until)
		}
	}
}

// Where now and the life together are more than MaxTime it is MaxTime.
func TestUntilAtTheEndOfTime(t *testing.T) {
	for _, u := range beginners() {
		for now := int64(impl.MaxTime - 600); now <= impl.MaxTime; now++ {
			_, want := plainNew(packetOf(u, impl.FlSyn, ""), u, now)
			wantFlowNew(t, "new", packetOf(u, impl.FlSyn, ""), u, now, want)
		}
	}
	lives := map[int64]int64{impl.PrTcp: 20, impl.PrUdp: 30, impl.PrPing: 10}
	for _, u := range beginners() {
		for more := int64(-1); more <= 1; more++ {
			now := impl.MaxTime - lives[u.Proto] + more
			if got := impl.FlowNew(packetOf(u, impl.FlSyn, ""), u, now).Flow.Until; got != impl.MaxTime+min(more, 0) {
				t.Errorf("FlowNew of %+v at %d: got until %d", u, now, got)
			}
		}
	}
	for _, f := range eachFlow() {
		for _, back := range eitherSide() {
			for _, flags := range []int64{impl.FlAck, impl.FlRst, impl.FlFin, impl.FlSyn, impl.FlSyn | impl.FlAck} {
				p := packetOf(endOfFlow(f, back), flags, "")
				nows := []int64{0, 1, impl.MaxTime - 1, impl.MaxTime}
				for _, life := range []int64{2, 5, 10, 15, 20, 30, 180, 500} {
					nows = append(nows, impl.MaxTime-life-1, impl.MaxTime-life, impl.MaxTime-life+1)
				}
				for _, now := range nows {
					what, want := plainNext(f, p, back, now)
					wantFlowNext(t, what, f, p, back, now, want)
				}
			}
		}
	}
}

func TestCountsOfFlows(t *testing.T) {
	for _, f := range eachFlow() {
		for _, back := range eitherSide() {
			p := packetOf(endOfFlow(f, back), impl.FlRst, "")
			for _, count := range []int64{1, 2, 65535, impl.MaxTime - 2, impl.MaxTime - 1} {
				f.Count = count
				if out := impl.FlowNext(f, p, back, 3); out.Code != impl.OK || out.Flow.Count != count+1 {
					t.Errorf("FlowNext(%+v, %s, %v, 3): got %+v", f, briefPacket(p), back, out)
				}
			}
			f.Count = impl.MaxTime
			wantFlowNext(t, "full", f, p, back, 3, impl.FlowOut{Code: impl.ErrFull})
			wantFlowOut(t, "full", f, p, back, plainFlowOut(f, p, back))
		}
	}
}

// A body of 100 bytes goes on whole, one of 101 is refused.
func TestBodiesOfFlows(t *testing.T) {
	for _, length := range []int{0, 1, 28, 99, 100, 101, impl.MaxBytes, impl.MaxBytes + 1} {
		body, code := mixedText(length), int64(impl.OK)
		if length > 100 {
			code = impl.ErrForm
		}
		for _, u := range beginners() {
			p := packetOf(u, impl.FlSyn, body)
			_, want := plainNew(p, byOther(u), 3)
			wantFlowNew(t, "a body", p, byOther(u), 3, want)
			if want.Code != code {
				t.Errorf("a body of %d bytes: got code %d, want %d", length, want.Code, code)
			}
		}
		for _, f := range eachFlow() {
			for _, back := range eitherSide() {
				p := packetOf(endOfFlow(f, back), impl.FlRst, body)
				if out := impl.FlowNext(f, p, back, 3); out.Code != code || code != impl.OK && out.Flow != (impl.Flow{}) {
					t.Errorf("FlowNext(%+v, %s, %v): got %+v, want code %d", f, briefPacket(p), back, out, code)
				}
				if out := impl.FlowOut2(f, p, back); out.Code != code || code == impl.OK && out.Packet.Body != body {
					t.Errorf("FlowOut2(%+v, %s, %v): got code %d, %s, want code %d", f, briefPacket(p), back, out.Code, briefPacket(out.Packet), code)
				}
				wantFlowOut(t, "a body", f, p, back, plainFlowOut(f, p, back))
			}
		}
	}
}

func TestWhatBeginsNoFlow(t *testing.T) {
	for flags := range int64(64) {
		p, code := packetOf(tcpTuple(), flags, ""), int64(impl.ErrState)
		if flags&impl.FlSyn != 0 && flags&(impl.FlAck|impl.FlRst) == 0 {
			code = impl.OK
		}
		for _, goes := range []impl.Tuple{tcpTuple(), byOther(tcpTuple())} {
			out := impl.FlowNew(p, goes, 3)
			if out.Code != code || (out.Flow == impl.Flow{}) != (code != impl.OK) {
				t.Errorf("FlowNew with the flags %d: got %+v, want code %d", flags, out, code)
			}
		}
	}
	reply := pingTuple(impl.IcReply)
	wantFlowNew(t, "a reply", packetOf(reply, 0, ""), reply, 3, impl.FlowOut{Code: impl.ErrState})
	wantFlowNew(t, "a reply", packetOf(reply, 0, ""), byOther(reply), 3, impl.FlowOut{Code: impl.ErrState})
}

func TestPacketsThatAreOfNoFlow(t *testing.T) {
	for _, p := range wrongPackets() {
		for _, goes := range append(eachTuple(), impl.Tuple{}, impl.Tuple{Proto: p.Proto, Src: p.Src, SPort: p.A, Dst: p.Dst, DPort: p.A, Kind: p.Kind}) {
			wantFlowNew(t, "no tuple", p, goes, 3, impl.FlowOut{Code: impl.ErrForm})
		}
		for _, f := range eachFlow() {
			for _, back := range eitherSide() {
				wantFlowNext(t, "no tuple", f, p, back, 3, impl.FlowOut{Code: impl.ErrForm})
				wantFlowOut(t, "no tuple", f, p, back, impl.PacketOut{Code: impl.ErrForm})
			}
		}
	}
}

// An error that speaks of a flow, or comes between its ends, is not of it.
func TestErrorsAreOfNoFlow(t *testing.T) {
	for _, f := range eachFlow() {
		for _, back := range eitherSide() {
			p := packetOf(endOfFlow(f, back), impl.FlAck, "")
			speaks := impl.ErrorOf(p, 9).Packet
			between := impl.ErrorOf(p, p.Dst).Packet
			between.Src, between.Dst = p.Src, p.Dst
			for _, e := range []impl.Packet{speaks, between} {
				if !impl.PacketRight(e) {
					t.Fatalf("%s is not right", briefPacket(e))
				}
				for _, side := range eitherSide() {
					wantFlowNext(t, "an error", f, e, side, 3, impl.FlowOut{Code: impl.ErrForm})
					wantFlowOut(t, "an error", f, e, side, impl.PacketOut{Code: impl.ErrForm})
				}
				wantFlowNew(t, "an error", e, f.Orig, 3, impl.FlowOut{Code: impl.ErrForm})
			}
		}
	}
}

func TestNamesThatAFlowMayNotHave(t *testing.T) {
	for _, u := range eachTuple() {
		// Also where it begins nothing: ErrForm is told ahead of ErrState.
		for _, flags := range []int64{impl.FlSyn, impl.FlAck, 0} {
			p := packetOf(u, flags, "")
			for _, goes := range wrongTuples() {
				wantFlowNew(t, "not right", p, goes, 3, impl.FlowOut{Code: impl.ErrForm})
			}
			for _, goes := range eachTuple() {
				if goes.Proto != u.Proto || goes.Kind != u.Kind {
					wantFlowNew(t, "of another Proto or Kind", p, goes, 3, impl.FlowOut{Code: impl.ErrForm})
					wantFlowNew(t, "of another Proto or Kind", p, byOther(goes), 3, impl.FlowOut{Code: impl.ErrForm})
				}
			}
			if u.Proto == impl.PrPing {
				wantFlowNew(t, "its Invert", p, plainTurned(u), 3, impl.FlowOut{Code: impl.ErrForm})
			}
		}
	}
}

func TestFlowsAtNoTime(t *testing.T) {
	for _, now := range append(wrongNumbers(impl.MaxTime), -1, impl.MaxTime+1, math.MaxInt64-1) {
		for _, u := range eachTuple() {
			for _, flags := range []int64{impl.FlSyn, impl.FlAck} {
				wantFlowNew(t, "no time", packetOf(u, flags, ""), u, now, impl.FlowOut{Code: impl.ErrForm})
			}
		}
		for _, f := range eachFlow() {
			for _, back := range eitherSide() {
				for _, flags := range []int64{impl.FlRst, 0} {
					wantFlowNext(t, "no time", f, packetOf(endOfFlow(f, back), flags, ""), back, now, impl.FlowOut{Code: impl.ErrForm})
				}
			}
		}
	}
}

func TestPacketsOfAnotherSideOrNone(t *testing.T) {
	for _, f := range eachFlow() {
		for _, back := range eitherSide() {
			others := append(oneTurned(endOfFlow(f, back)), endOfFlow(f, !back), plainTurned(endOfFlow(f, !back)))
			for _, u := range append(others, eachTuple()...) {
				if u == endOfFlow(f, back) {
					continue
				}
				p := packetOf(u, impl.FlRst, "")
				wantFlowNext(t, "another tuple", f, p, back, 3, impl.FlowOut{Code: impl.ErrForm})
				wantFlowOut(t, "another tuple", f, p, back, impl.PacketOut{Code: impl.ErrForm})
			}
		}
	}
}

// Where two faults meet: ErrForm ahead of ErrState, and that ahead of ErrFull.
func TestTheOrderOfFaultsOfFlows(t *testing.T) {
	for _, f := range eachFlow() {
		f.Count = impl.MaxTime
		for _, back := range eitherSide() {
			full, silent := packetOf(endOfFlow(f, back), impl.FlRst, ""), packetOf(endOfFlow(f, back), 0, "")
			other := packetOf(endOfFlow(f, !back), 0, "")
			state := int64(impl.ErrFull)
			if f.Orig.Proto == impl.PrTcp {
				state = impl.ErrState
			}
			wantFlowNext(t, "full", f, full, back, 3, impl.FlowOut{Code: impl.ErrFull})
			wantFlowNext(t, "full, says nothing", f, silent, back, 3, impl.FlowOut{Code: state})
			wantFlowNext(t, "full, no time", f, full, back, impl.MaxTime+1, impl.FlowOut{Code: impl.ErrForm})
			wantFlowNext(t, "full, says nothing, no time", f, silent, back, -1, impl.FlowOut{Code: impl.ErrForm})
			wantFlowNext(t, "full, another side", f, other, back, 3, impl.FlowOut{Code: impl.ErrForm})
			wrong := f
			wrong.Until = -1
			wantFlowNext(t, "full, not right", wrong, silent, back, 3, impl.FlowOut{Code: impl.ErrForm})
			long := silent
			long.Body = mixedText(101)
			wantFlowNext(t, "full, a long body", f, long, back, 3, impl.FlowOut{Code: impl.ErrForm})
		}
	}
}

// An end may be any, so long as it is right: what goes on need not be what Orig
// is.
func TestFlowsWhoseEndsHaveNothingInCommon(t *testing.T) {
	f := impl.Flow{Orig: tcpTuple(), Back: impl.Tuple{Proto: impl.PrTcp, Src: 1, SPort: 2, Dst: 3, DPort: 4}, State: impl.TcSent, Count: 1}
	p := packetOf(f.Orig, impl.FlSyn, "hi")
	went := packetOf(impl.Tuple{Proto: impl.PrTcp, Src: 3, SPort: 4, Dst: 1, DPort: 2}, impl.FlSyn, "hi")
	wantFlowOut(t, "there", f, p, false, impl.PacketOut{Packet: went})
	answer := packetOf(f.Back, impl.FlSyn|impl.FlAck, "ho")
	came := packetOf(plainTurned(f.Orig), impl.FlSyn|impl.FlAck, "ho")
	wantFlowOut(t, "back", f, answer, true, impl.PacketOut{Packet: came})
	next := f
	next.State, next.Seen, next.Until, next.Count = impl.TcRecv, true, 19, 2
	wantFlowNext(t, "back", f, answer, true, 9, impl.FlowOut{Flow: next})
}

func TestTheBodyThatGoesOnIsNewMemory(t *testing.T) {
	for _, f := range eachFlow() {
		for _, back := range eitherSide() {
			p := packetOf(endOfFlow(f, back), impl.FlAck, mixedText(100))
			body := impl.FlowOut2(f, p, back).Packet.Body
			if body != p.Body || unsafe.StringData(body) == unsafe.StringData(p.Body) {
				t.Errorf("FlowOut2(%+v): the body is not the same, or is p's own", f)
			}
		}
	}
}

// Nothing is kept from call to call.
func TestFlowsAreToldAnew(t *testing.T) {
	for _, f := range eachFlow() {
		for _, back := range eitherSide() {
			p := packetOf(endOfFlow(f, back), impl.FlRst, "hi")
			first, out, text := impl.FlowNext(f, p, back, 3), impl.FlowOut2(f, p, back), impl.FlowText(f)
			impl.FlowNext(first.Flow, p, back, 4)
			impl.FlowNext(f, p, !back, 4)
			wantFlowNext(t, "again", f, p, back, 3, first)
			wantFlowOut(t, "again", f, p, back, out)
			wantFlowText(t, f, text)
		}
	}
}
