package tests

import (
	"fmt"
	"hash/crc32"
	"math"
	"strings"
	"testing"
	"unsafe"

	"loop.example/g00542/impl"
)

func tcpTuple() impl.Tuple {
	return impl.Tuple{Proto: impl.PrTcp, Src: 0x0A000001, SPort: 40001, Dst: 0xCB007109, DPort: 443}
}

func udpTuple() impl.Tuple {
	return impl.Tuple{Proto: impl.PrUdp, Src: 0xC0A80001, SPort: 50000, Dst: 0x08080808, DPort: 53}
}

func pingTuple(kind int64) impl.Tuple {
	return impl.Tuple{Proto: impl.PrPing, Src: 0x0A000002, SPort: 4660, Dst: 0x01010101, DPort: 4660, Kind: kind}
}

func eachTuple() []impl.Tuple {
	return []impl.Tuple{tcpTuple(), udpTuple(), pingTuple(impl.IcAsk), pingTuple(impl.IcReply)}
}

// withPorts gives t with a port at one of its ends; of PrPing at both, where it
// must be the same.
func withPorts(t impl.Tuple, port int64) []impl.Tuple {
	from, to, both := t, t, t
	from.SPort, to.DPort, both.SPort, both.DPort = port, port, port, port
	if t.Proto == impl.PrPing {
		return []impl.Tuple{both}
	}
	return []impl.Tuple{from, to, both}
}

// edgeTuples: right tuples with each number at its ends.
func edgeTuples() []impl.Tuple {
	all := []impl.Tuple{}
	for _, t := range eachTuple() {
		all = append(all, t)
		for _, addr := range []int64{0, 1, 0x7FFFFFFF, 0x80000000, mostAddr - 1, mostAddr} {
			from, to, both := t, t, t
			from.Src, to.Dst, both.Src, both.Dst = addr, addr, addr, addr
			all = append(all, from, to, both)
		}
		for _, port := range someWords() {
			all = append(all, withPorts(t, port)...)
		}
	}
	return append(all, impl.Tuple{Proto: impl.PrTcp}, impl.Tuple{Proto: impl.PrUdp},
		impl.Tuple{Proto: impl.PrPing}, impl.Tuple{Proto: impl.PrPing, Kind: impl.IcAsk})
}

// wrongTuples: tuples that are not right, each by one fault alone.
func wrongTuples() []impl.Tuple {
	all := []impl.Tuple{{}}
	for _, t := range eachTuple() {
		for _, addr := range []int64{-1, mostAddr + 1, math.MinInt64, math.MaxInt64} {
			from, to := t, t
			from.Src, to.Dst = addr, addr
			all = append(all, from, to)
		}
		for _, port := range noWords() {
			all = append(all, withPorts(t, port)...)
		}
		for _, proto := range []int64{0, 2, 5, 7, 16, 18, -1, -6, 256 + 6, math.MinInt64, math.MaxInt64} {
			other := t
			other.Proto = proto
			all = append(all, other)
		}
		for _, kind := range []int64{-1, 1, 2, impl.IcError, 4, 7, 9, 256, 256 + 8, math.MinInt64, math.MaxInt64} {
			other := t
			other.Kind = kind
			all = append(all, other)
		}
	}
	for _, t := range []impl.Tuple{tcpTuple(), udpTuple()} {
		t.Kind = impl.IcAsk
		all = append(all, t)
		t.SPort = t.DPort
		all = append(all, t)
	}
	for _, kind := range []int64{impl.IcAsk, impl.IcReply} {
		for _, ports := range [][2]int64{{4660, 4661}, {4661, 4660}, {0, 65535}, {65535, 0}, {1, 0}} {
			t := pingTuple(kind)
			t.SPort, t.DPort = ports[0], ports[1]
			all = append(all, t)
		}
	}
	return all
}

func TestTuplesThatAreRight(t *testing.T) {
	for _, u := range edgeTuples() {
		if !impl.TupleRight(u) {
			t.Errorf("TupleRight(%+v): got false", u)
		}
	}
}

func TestTuplesThatAreNotRightAreRefused(t *testing.T) {
	for _, u := range wrongTuples() {
		if impl.TupleRight(u) {
			t.Errorf("TupleRight(%+v): got true", u)
		}
		if got := impl.Invert(u); got != (impl.Tuple{}) {
			t.Errorf("Invert(%+v): got %+v, want the zero one", u, got)
		}
		if got := impl.TupleText(u); got != "" {
			t.Errorf("TupleText(%+v): got %q, want none", u, got)
		}
		for _, many := range []int64{0, 1, 8, 64} {
			wantHash(t, u, "k", many, -1)
			wantHash(t, u, "", many, -1)
		}
	}
}

func TestProtosOfTuples(t *testing.T) {
	for proto := int64(-300); proto <= 300; proto++ {
		same := impl.Tuple{Proto: proto, Src: 1, SPort: 7, Dst: 2, DPort: 7}
		apart := impl.Tuple{Proto: proto, Src: 1, SPort: 7, Dst: 2, DPort: 8}
		ports := proto == impl.PrTcp || proto == impl.PrUdp
		if got := impl.TupleRight(same); got != (ports || proto == impl.PrPing) {
			t.Errorf("TupleRight(%+v): got %v", same, got)
		}
		if got := impl.TupleRight(apart); got != ports {
			t.Errorf("TupleRight(%+v): got %v", apart, got)
		}
	}
}

func TestKindsOfTuples(t *testing.T) {
	for kind := int64(-300); kind <= 300; kind++ {
		for _, u := range eachTuple() {
			u.Kind = kind
			want := kind == 0 || u.Proto == impl.PrPing && kind == impl.IcAsk
			if got := impl.TupleRight(u); got != want {
				t.Errorf("TupleRight(%+v): got %v", u, got)
			}
		}
	}
}

func wantTuple(t *testing.T, what string, got impl.Tuple, want impl.Tuple) {
	t.Helper()
	if got != want {
		t.Errorf("%s: got %+v, want %+v", what, got, want)
	}
}

func TestTuplesOfKnownPackets(t *testing.T) {
	for _, length := range []int{0, 28, 100} {
		body := mixedText(length)
		for _, c := range []struct {
			packet impl.Packet
			want   impl.Tuple
		}{
			{tcpPacket(body), tcpTuple()},
			{udpPacket(body), udpTuple()},
			{pingPacket(impl.IcAsk, body), pingTuple(impl.IcAsk)},
			{pingPacket(impl.IcReply, body), pingTuple(impl.IcReply)},
		} {
			wantTuple(t, "TupleOf("+briefPacket(c.packet)+")", impl.TupleOf(c.packet), c.want)
		}
	}
}

func TestTuplesOfPacketsAtTheirEdges(t *testing.T) {
	for _, p := range edgePackets() {
		want := impl.Tuple{Proto: p.Proto, Src: p.Src, SPort: p.A, Dst: p.Dst, DPort: p.B, Kind: p.Kind}
		if p.Proto == impl.PrPing {
			want.DPort = p.A
		}
		if p.Kind == impl.IcError {
			want = impl.Tuple{}
		}
		got := impl.TupleOf(p)
		wantTuple(t, "TupleOf("+briefPacket(p)+")", got, want)
		if impl.TupleRight(got) != (p.Kind != impl.IcError) {
			t.Errorf("TupleOf(%s): %+v is right: %v", briefPacket(p), got, impl.TupleRight(got))
		}
	}
}

// wrongPackets: packets that are not right, each by one fault alone, and right
// ones that have no tuple.
func wrongPackets() []impl.Packet {
	all := []impl.Packet{{}, errorPacket(mixedText(28)), errorPacket(mixedText(100)), impl.ErrorOf(udpPacket("hi"), 5).Packet,
		errorPacket(mixedText(27)), pingPacket(impl.IcError, mixedText(28))}
	for _, p := range eachKind(101) {
		all = append(all, p)
	}
	for _, p := range eachKind(10) {
		for _, bad := range []int64{-1, mostAddr + 1, math.MinInt64, math.MaxInt64} {
			for field := range 8 {
				other := p
				*[]*int64{&other.Src, &other.Dst, &other.Proto, &other.A, &other.B, &other.Kind, &other.Flags, &other.Seq}[field] = bad
				all = append(all, other)
			}
		}
		ack := p
		ack.Ack = -1
		all = append(all, ack)
	}
	for _, kind := range []int64{1, impl.IcError, impl.IcAsk} {
		tcp, udp := tcpPacket("x"), udpPacket("x")
		tcp.Kind, udp.Kind = kind, kind
		all = append(all, tcp, udp)
	}
	for _, p := range []impl.Packet{pingPacket(impl.IcAsk, "x"), pingPacket(impl.IcReply, "x")} {
		p.B = p.A
		all = append(all, p)
	}
	return all
}

func TestPacketsWithoutATuple(t *testing.T) {
	for _, p := range wrongPackets() {
		wantTuple(t, "TupleOf("+briefPacket(p)+")", impl.TupleOf(p), impl.Tuple{})
	}
}

func TestATupleTurnedRoundTwiceIsItself(t *testing.T) {
	for _, u := range edgeTuples() {
		once := impl.Invert(u)
		if !impl.TupleRight(once) {
			t.Errorf("Invert(%+v): %+v is not right", u, once)
		}
		wantTuple(t, fmt.Sprintf("Invert of Invert(%+v)", u), impl.Invert(once), u)
	}
}

func TestATupleTurnedRound(t *testing.T) {
	for _, u := range edgeTuples() {
		want := impl.Tuple{Proto: u.Proto, Src: u.Dst, SPort: u.DPort, Dst: u.Src, DPort: u.SPort}
		if u.Proto == impl.PrPing && u.Kind == impl.IcReply {
			want.Kind = impl.IcAsk
		}
		wantTuple(t, fmt.Sprintf("Invert(%+v)", u), impl.Invert(u), want)
	}
	ask := impl.Tuple{Proto: impl.PrPing, Src: 1, SPort: 7, Dst: 1, DPort: 7, Kind: impl.IcAsk}
	reply := impl.Tuple{Proto: impl.PrPing, Src: 1, SPort: 7, Dst: 1, DPort: 7, Kind: impl.IcReply}
	wantTuple(t, "Invert of an ask to oneself", impl.Invert(ask), reply)
	wantTuple(t, "Invert of a reply to oneself", impl.Invert(reply), ask)
	self := impl.Tuple{Proto: impl.PrTcp, Src: 1, SPort: 7, Dst: 1, DPort: 7}
	wantTuple(t, "Invert of who talks to itself", impl.Invert(self), self)
}

func TestTextsOfTuples(t *testing.T) {
	low, high := impl.Tuple{Proto: impl.PrUdp}, impl.Tuple{Proto: impl.PrTcp, Src: mostAddr, SPort: 65535, Dst: mostAddr, DPort: 65535}
	for _, c := range []struct {
		tuple impl.Tuple
		want  string
	}{
		{tcpTuple(), "tcp 10.0.0.1:40001>203.0.113.9:443"},
		{udpTuple(), "udp 192.168.0.1:50000>8.8.8.8:53"},
		{pingTuple(impl.IcAsk), "ping 10.0.0.2:4660>1.1.1.1:4660?"},
		{pingTuple(impl.IcReply), "ping 10.0.0.2:4660>1.1.1.1:4660!"},
		{impl.Invert(tcpTuple()), "tcp 203.0.113.9:443>10.0.0.1:40001"},
		{impl.Invert(pingTuple(impl.IcAsk)), "ping 1.1.1.1:4660>10.0.0.2:4660!"},
		{low, "udp 0.0.0.0:0>0.0.0.0:0"},
		{high, "tcp 255.255.255.255:65535>255.255.255.255:65535"},
		{impl.Tuple{Proto: impl.PrPing}, "ping 0.0.0.0:0>0.0.0.0:0!"},
	} {
		if got := impl.TupleText(c.tuple); got != c.want {
			t.Errorf("TupleText(%+v): got %q, want %q", c.tuple, got, c.want)
		}
	}
}

func wantLess(t *testing.T, a impl.Tuple, b impl.Tuple, want bool) {
	t.Helper()
	if got := impl.TupleLess(a, b); got != want {
		t.Errorf("TupleLess(%+v, %+v): got %v", a, b, got)
	}
}

func TestTuplesThatDifferInOneFieldAlone(t *testing.T) {
	base := impl.Tuple{Proto: impl.PrTcp, Src: 5, SPort: 5, Dst: 5, DPort: 5}
	for field := range 4 {
		for _, n := range []int64{6, 256, 65535} {
			more, less := base, base
			*[]*int64{&more.Src, &more.SPort, &more.Dst, &more.DPort}[field] = n
			*[]*int64{&less.Src, &less.SPort, &less.Dst, &less.DPort}[field] = 0
			wantLess(t, base, more, true)
			wantLess(t, more, base, false)
			wantLess(t, less, base, true)
			wantLess(t, base, less, false)
			wantLess(t, less, more, true)
			wantLess(t, more, less, false)
		}
	}
	udp, reply := base, base
	udp.Proto, reply.Proto = impl.PrUdp, impl.PrPing
	ask := reply
	ask.Kind = impl.IcAsk
	for _, c := range [][2]impl.Tuple{{base, udp}, {reply, base}, {ask, base}, {reply, udp}, {ask, udp}, {reply, ask}} {
		wantLess(t, c[0], c[1], true)
		wantLess(t, c[1], c[0], false)
	}
	far := base
	far.Src, far.Dst = mostAddr, 0
	wantLess(t, base, far, true)
	wantLess(t, far, base, false)
}

// Each pair has its first difference in the field that its place tells, and all
// fields behind it the other way round.
func TestTheEarlierFieldDecides(t *testing.T) {
	for _, c := range [][2]impl.Tuple{
		{{Proto: impl.PrPing, Src: 9, SPort: 9, Dst: 9, DPort: 9, Kind: impl.IcAsk}, {Proto: impl.PrTcp, Src: 1, SPort: 1, Dst: 1, DPort: 1}},
		{{Proto: impl.PrTcp, Src: 9, SPort: 9, Dst: 9, DPort: 9}, {Proto: impl.PrUdp, Src: 1, SPort: 1, Dst: 1, DPort: 1}},
		{{Proto: impl.PrTcp, Src: 1, SPort: 9, Dst: 9, DPort: 9}, {Proto: impl.PrTcp, Src: 2, SPort: 1, Dst: 1, DPort: 1}},
		{{Proto: impl.PrUdp, Src: 1, SPort: 1, Dst: 9, DPort: 9}, {Proto: impl.PrUdp, Src: 1, SPort: 2, Dst: 1, DPort: 1}},
		{{Proto: impl.PrTcp, Src: 1, SPort: 1, Dst: 1, DPort: 9}, {Proto: impl.PrTcp, Src: 1, SPort: 1, Dst: 2, DPort: 1}},
		{{Proto: impl.PrTcp, Src: 1, SPort: 1, Dst: 1, DPort: 1}, {Proto: impl.PrTcp, Src: 1, SPort: 1, Dst: 1, DPort: 2}},
		{{Proto: impl.PrPing, Src: 1, SPort: 9, Dst: 9, DPort: 9, Kind: impl.IcAsk}, {Proto: impl.PrPing, Src: 2, SPort: 1, Dst: 1, DPort: 1}},
		{{Proto: impl.PrPing, Src: 1, SPort: 1, Dst: 9, DPort: 1, Kind: impl.IcAsk}, {Proto: impl.PrPing, Src: 1, SPort: 2, Dst: 1, DPort: 2}},
		{{Proto: impl.PrPing, Src: 1, SPort: 1, Dst: 1, DPort: 1, Kind: impl.IcAsk}, {Proto: impl.PrPing, Src: 1, SPort: 1, Dst: 2, DPort: 1}},
		{{Proto: impl.PrPing, Src: 1, SPort: 1, Dst: 1, DPort: 1}, {Proto: impl.PrPing, Src: 1, SPort: 1, Dst: 1, DPort: 1, Kind: impl.IcAsk}},
	} {
		wantLess(t, c[0], c[1], true)
		wantLess(t, c[1], c[0], false)
	}
}

// plainAhead compares two tuples another way: as texts of numbers of one width.
func plainAhead(a impl.Tuple, b impl.Tuple) bool {
	row := func(u impl.Tuple) string {
		return fmt.Sprintf("%03d %010d %05d %010d %05d %03d", u.Proto, u.Src, u.SPort, u.Dst, u.DPort, u.Kind)
	}
	return row(a) < row(b)
}

func TestTheOrderOfTuples(t *testing.T) {
	all := edgeTuples()
	for _, a := range all {
		wantLess(t, a, a, false)
		for _, b := range all {
			wantLess(t, a, b, plainAhead(a, b))
		}
	}
}

func TestNoneIsAheadWhereOneIsNotRight(t *testing.T) {
	for _, bad := range wrongTuples() {
		for _, good := range append(eachTuple(), impl.Tuple{Proto: impl.PrPing}, impl.Tuple{Proto: impl.PrUdp, Src: mostAddr, SPort: 65535, Dst: mostAddr, DPort: 65535}) {
			wantLess(t, bad, good, false)
			wantLess(t, good, bad, false)
		}
		wantLess(t, bad, bad, false)
		wantLess(t, bad, impl.Tuple{}, false)
		wantLess(t, impl.Tuple{}, bad, false)
	}
}

func wantHash(t *testing.T, u impl.Tuple, key string, many int64, want int64) {
	t.Helper()
	if got := impl.TupleHash(u, key, many); got != want {
		t.Errorf("TupleHash(%+v, %s, %d): got %d, want %d", u, brief(key), many, got, want)
	}
}

func TestHashesOfTuples(t *testing.T) {
	for _, u := range edgeTuples() {
		for _, key := range []string{"", "k", "\x00", "\xff\x00 :", mixedText(19), mixedText(20)} {
			crc := int64(crc32.ChecksumIEEE([]byte(key + impl.TupleText(u))))
			for _, many := range []int64{1, 2, 3, 8, 63, 64} {
				wantHash(t, u, key, many, crc%many)
			}
		}
	}
	crc := int64(crc32.ChecksumIEEE([]byte("ktcp 10.0.0.1:40001>203.0.113.9:443")))
	for many := int64(1); many <= 64; many++ {
		wantHash(t, tcpTuple(), "k", many, crc%many)
	}
}

func TestHashesBeyondTheirBounds(t *testing.T) {
	for _, u := range eachTuple() {
		for _, many := range []int64{0, -1, -64, 65, 66, 256, 1 << 32, math.MinInt64, math.MaxInt64} {
			wantHash(t, u, "", many, -1)
			wantHash(t, u, mixedText(20), many, -1)
		}
		for _, length := range []int{21, 22, 100, impl.MaxBytes, impl.MaxBytes + 1} {
			for _, many := range []int64{0, 1, 64, 65} {
				wantHash(t, u, strings.Repeat("k", length), many, -1)
			}
		}
	}
}

func wantWith(t *testing.T, p impl.Packet, u impl.Tuple, want impl.PacketOut) {
	t.Helper()
	wantPacket(t, fmt.Sprintf("WithTuple(%s, %+v)", briefPacket(p), u), impl.WithTuple(p, u), want)
}

func TestAPacketWithATuple(t *testing.T) {
	for _, length := range []int{0, 1, 28, 100} {
		for _, p := range eachKind(length) {
			for _, u := range edgeTuples() {
				if p.Kind == impl.IcError || p.Proto != u.Proto || p.Kind != u.Kind {
					wantWith(t, p, u, impl.PacketOut{Code: impl.ErrForm})
					continue
				}
				want := p
				want.Src, want.Dst, want.A = u.Src, u.Dst, u.SPort
				if p.Proto != impl.PrPing {
					want.B = u.DPort
				}
				wantWith(t, p, u, impl.PacketOut{Packet: want})
				wantTuple(t, "TupleOf what WithTuple tells", impl.TupleOf(want), u)
			}
		}
	}
}

func TestAPacketWithItsOwnTupleIsItself(t *testing.T) {
	for _, p := range edgePackets() {
		if p.Kind != impl.IcError {
			wantWith(t, p, impl.TupleOf(p), impl.PacketOut{Packet: p})
		}
	}
}

func TestAPacketTurnedRoundKeepsAllButItsEnds(t *testing.T) {
	tcp := impl.Packet{Src: 0xCB007109, Dst: 0x0A000001, Proto: impl.PrTcp, A: 443, B: 40001, Flags: impl.FlSyn | impl.FlAck, Seq: 0x89ABCDEF, Ack: 0x01234567, Body: "ab"}
	wantWith(t, tcpPacket("ab"), impl.Invert(tcpTuple()), impl.PacketOut{Packet: tcp})
	udp := impl.Packet{Src: 0x08080808, Dst: 0xC0A80001, Proto: impl.PrUdp, A: 53, B: 50000, Body: "ab"}
	wantWith(t, udpPacket("ab"), impl.Invert(udpTuple()), impl.PacketOut{Packet: udp})
	other := impl.Tuple{Proto: impl.PrPing, Src: 1, SPort: 9, Dst: 2, DPort: 9, Kind: impl.IcAsk}
	ping := impl.Packet{Src: 1, Dst: 2, Proto: impl.PrPing, Kind: impl.IcAsk, A: 9, Seq: 300, Body: "ab"}
	wantWith(t, pingPacket(impl.IcAsk, "ab"), other, impl.PacketOut{Packet: ping})
}

func TestAPacketWithATupleOfAnotherProtoOrKind(t *testing.T) {
	refused := impl.PacketOut{Code: impl.ErrForm}
	for i, p := range eachKind(40)[:4] {
		for j, u := range eachTuple() {
			if i != j {
				wantWith(t, p, u, refused)
			}
		}
	}
	for _, kind := range []int64{impl.IcAsk, impl.IcReply} {
		wantWith(t, pingPacket(kind, "x"), impl.Invert(pingTuple(kind)), refused)
	}
	same := impl.Tuple{Src: 1, SPort: 7, Dst: 2, DPort: 7}
	for _, p := range eachKind(0) {
		for _, proto := range []int64{impl.PrPing, impl.PrTcp, impl.PrUdp} {
			u := same
			u.Proto = proto
			if proto != p.Proto {
				wantWith(t, p, u, refused)
			}
		}
	}
}

func TestAPacketWithATupleThatIsNotRight(t *testing.T) {
	for _, p := range eachKind(30) {
		for _, u := range wrongTuples() {
			wantWith(t, p, u, impl.PacketOut{Code: impl.ErrForm})
		}
	}
}

func TestAPacketThatMayHaveNoTuple(t *testing.T) {
	for _, p := range wrongPackets() {
		for _, u := range append(eachTuple(), wrongTuples()[:40]...) {
			wantWith(t, p, u, impl.PacketOut{Code: impl.ErrForm})
		}
	}
	errorTuple := pingTuple(impl.IcError)
	wantWith(t, errorPacket(mixedText(28)), errorTuple, impl.PacketOut{Code: impl.ErrForm})
	errorTuple.SPort, errorTuple.DPort = 0, 0
	wantWith(t, errorPacket(mixedText(28)), errorTuple, impl.PacketOut{Code: impl.ErrForm})
}

func TestTheBodyOfAPacketWithATupleIsNewMemory(t *testing.T) {
	p := tcpPacket(mixedText(100))
	body := impl.WithTuple(p, impl.Invert(tcpTuple())).Packet.Body
	if body != p.Body || unsafe.StringData(body) == unsafe.StringData(p.Body) {
		t.Errorf("WithTuple: the body is not the same, or is p's own")
	}
}
