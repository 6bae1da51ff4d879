package tests

import (
	"encoding/binary"
	"fmt"
	"math"
	"strings"
	"testing"
	"unsafe"

	"loop.example/g00542/impl"
)

const mostAddr = 1<<32 - 1

func briefPacket(p impl.Packet) string {
	body := p.Body
	p.Body = ""
	return fmt.Sprintf("%+v with a body of %s", p, brief(body))
}

func wantRight(t *testing.T, p impl.Packet, want bool) {
	t.Helper()
	if got := impl.PacketRight(p); got != want {
		t.Errorf("PacketRight(%s): got %v", briefPacket(p), got)
	}
	if got := impl.PacketBytes(p); (got != "") != want {
		t.Errorf("PacketBytes(%s): got %s", briefPacket(p), brief(got))
	}
}

func wantPacket(t *testing.T, what string, got impl.PacketOut, want impl.PacketOut) {
	t.Helper()
	if got != want {
		t.Errorf("%s: got code %d, %s, want code %d, %s", what, got.Code, briefPacket(got.Packet), want.Code, briefPacket(want.Packet))
	}
}

func wantRead(t *testing.T, text string, want impl.PacketOut) {
	t.Helper()
	wantPacket(t, fmt.Sprintf("PacketRead(%q)", text[:min(len(text), 60)]), impl.PacketRead(text), want)
}

func wantReadCode(t *testing.T, text string, code int64) {
	t.Helper()
	wantRead(t, text, impl.PacketOut{Code: code})
}

// plainPacket writes a packet's bytes another way: in one go, by the list of the
// document, and its checks by plainSum.
func plainPacket(p impl.Packet) string {
	ends := binary.BigEndian.AppendUint32(binary.BigEndian.AppendUint32(nil, uint32(p.Src)), uint32(p.Dst))
	var part []byte
	checkAt := 2
	switch {
	case p.Proto == impl.PrTcp:
		part = binary.BigEndian.AppendUint16(part, uint16(p.A))
		part = binary.BigEndian.AppendUint16(part, uint16(p.B))
		part = binary.BigEndian.AppendUint32(part, uint32(p.Seq))
		part = binary.BigEndian.AppendUint32(part, uint32(p.Ack))
		part = append(part, 80, byte(p.Flags), 32, 0, 0, 0, 0, 0)
		checkAt = 16
	case p.Proto == impl.PrUdp:
		part = binary.BigEndian.AppendUint16(part, uint16(p.A))
		part = binary.BigEndian.AppendUint16(part, uint16(p.B))
		part = binary.BigEndian.AppendUint16(part, uint16(8+len(p.Body)))
		part = append(part, 0, 0)
		checkAt = 6
	case p.Kind == impl.IcError:
		part = []byte{3, 1, 0, 0, 0, 0, 0, 0}
	default:
		part = append(part, byte(p.Kind), 0, 0, 0)
		part = binary.BigEndian.AppendUint16(part, uint16(p.A))
		part = binary.BigEndian.AppendUint16(part, uint16(p.Seq))
	}
	part = append(part, p.Body...)
	summed := string(part)
	if p.Proto != impl.PrPing {
		summed = string(ends) + wordText(p.Proto) + wordText(int64(len(part))) + summed
	}
	check := 65535 - plainSum(summed)
	if p.Proto == impl.PrUdp && check == 0 {
		check = 65535
	}
	binary.BigEndian.PutUint16(part[checkAt:], uint16(check))

	head := append([]byte{69, 0}, wordText(int64(20+len(part)))...)
	head = append(head, 0, 0, 0, 0, 64, byte(p.Proto), 0, 0)
	head = append(head, ends...)
	binary.BigEndian.PutUint16(head[10:], uint16(65535-plainSum(string(head))))
	return string(head) + string(part)
}

// checkPlace: where the check of what is behind the head stands.
func checkPlace(p impl.Packet) int {
	return map[int64]int{impl.PrTcp: 36, impl.PrUdp: 26, impl.PrPing: 22}[p.Proto]
}

func tcpPacket(body string) impl.Packet {
	return impl.Packet{Src: 0x0A000001, Dst: 0xCB007109, Proto: impl.PrTcp, A: 40001, B: 443, Flags: impl.FlSyn | impl.FlAck, Seq: 0x89ABCDEF, Ack: 0x01234567, Body: body}
}

func udpPacket(body string) impl.Packet {
	return impl.Packet{Src: 0xC0A80001, Dst: 0x08080808, Proto: impl.PrUdp, A: 50000, B: 53, Body: body}
}

func pingPacket(kind int64, body string) impl.Packet {
	return impl.Packet{Src: 0x0A000002, Dst: 0x01010101, Proto: impl.PrPing, Kind: kind, A: 4660, Seq: 300, Body: body}
}

func errorPacket(body string) impl.Packet {
	return impl.Packet{Src: 0xFE000001, Dst: 0x0A0000FF, Proto: impl.PrPing, Kind: impl.IcError, Body: body}
}

// eachKind: a packet of each Proto and Kind with a body of that length; an
// IcError only where it may have it.
func eachKind(length int) []impl.Packet {
	body := mixedText(length)
	all := []impl.Packet{tcpPacket(body), udpPacket(body), pingPacket(impl.IcAsk, body), pingPacket(impl.IcReply, body)}
	if length >= 28 {
		all = append(all, errorPacket(body))
	}
	return all
}

// edgePackets: right packets with each number at its ends.
func edgePackets() []impl.Packet {
	all := []impl.Packet{}
	for _, p := range eachKind(28) {
		for _, addr := range []int64{0, 1, 0x7FFFFFFF, 0x80000000, mostAddr} {
			from, to := p, p
			from.Src, to.Dst = addr, addr
			all = append(all, from, to)
		}
	}
	for _, word := range someWords() {
		for _, body := range []string{"", "x"} {
			tcpA, tcpB, udpA, udpB := tcpPacket(body), tcpPacket(body), udpPacket(body), udpPacket(body)
			ask, reply, askSeq := pingPacket(impl.IcAsk, body), pingPacket(impl.IcReply, body), pingPacket(impl.IcAsk, body)
			tcpA.A, tcpB.B, udpA.A, udpB.B = word, word, word, word
			ask.A, reply.A, askSeq.Seq = word, word, word
			all = append(all, tcpA, tcpB, udpA, udpB, ask, reply, askSeq)
		}
	}
	for flags := range int64(64) {
		p := tcpPacket("")
		p.Flags = flags
		all = append(all, p)
	}
	for _, n := range []int64{0, 1, 65535, 65536, 0x80000000, mostAddr} {
		seq, ack := tcpPacket("abc"), tcpPacket("abc")
		seq.Seq, ack.Ack = n, n
		all = append(all, seq, ack)
	}
	return append(all, impl.Packet{Proto: impl.PrTcp}, impl.Packet{Proto: impl.PrUdp},
		impl.Packet{Proto: impl.PrPing}, impl.Packet{Proto: impl.PrPing, Kind: impl.IcAsk})
}

func TestPacketsComeBackFromTheirBytes(t *testing.T) {
	all := edgePackets()
	for length := 0; length <= 100; length++ {
		all = append(all, eachKind(length)...)
	}
	for _, p := range all {
		wantRight(t, p, true)
		written := impl.PacketBytes(p)
		if want := plainPacket(p); written != want {
			t.Errorf("PacketBytes(%s): got %q, want %q", briefPacket(p), written, want)
		}
		wantRead(t, written, impl.PacketOut{Packet: p})
	}
}

func TestTheChecksOfAPacketAreGood(t *testing.T) {
	for _, length := range []int{0, 1, 27, 28, 99, 100} {
		for _, p := range append(eachKind(length), edgePackets()...) {
			written := impl.PacketBytes(p)
			if !impl.CheckGood(written[:20]) {
				t.Errorf("%s: its head's check is not good: %q", briefPacket(p), written[:20])
			}
			summed := written[20:]
			if p.Proto != impl.PrPing {
				summed = written[12:20] + wordText(p.Proto) + wordText(int64(len(summed))) + summed
			}
			if !impl.CheckGood(summed) {
				t.Errorf("%s: its own check is not good: %q", briefPacket(p), written)
			}
		}
	}
}

// The bytes here are written out, and their checks worked out, without the
// program and without plainPacket.
func TestBytesOfKnownPackets(t *testing.T) {
	for _, c := range []struct {
		packet impl.Packet
		want   string
	}{
		{impl.Packet{Src: 0xC0A80001, Dst: 0xC0A800C7, Proto: impl.PrUdp, A: 1, B: 2, Body: "a"},
			"\x45\x00\x00\x1d\x00\x00\x00\x00\x40\x11\xf8\xb7\xc0\xa8\x00\x01\xc0\xa8\x00\xc7" +
				"\x00\x01\x00\x02\x00\x09\x1c\xc0a"},
		{impl.Packet{Src: 0x0A000001, Dst: 0x0A000002, Proto: impl.PrPing, Kind: impl.IcAsk, A: 1, Seq: 2},
			"\x45\x00\x00\x1c\x00\x00\x00\x00\x40\x01\x66\xdf\x0a\x00\x00\x01\x0a\x00\x00\x02" +
				"\x08\x00\xf7\xfc\x00\x01\x00\x02"},
		{impl.Packet{Src: 0x0A000001, Dst: 0x0A000002, Proto: impl.PrTcp, A: 256, B: 80, Flags: impl.FlSyn, Seq: 7},
			"\x45\x00\x00\x28\x00\x00\x00\x00\x40\x06\x66\xce\x0a\x00\x00\x01\x0a\x00\x00\x02" +
				"\x01\x00\x00\x50\x00\x00\x00\x07\x00\x00\x00\x00\x50\x02\x20\x00\x7a\x89\x00\x00"},
	} {
		if got := impl.PacketBytes(c.packet); got != c.want {
			t.Errorf("PacketBytes(%s): got %q, want %q", briefPacket(c.packet), got, c.want)
		}
		wantRead(t, c.want, impl.PacketOut{Packet: c.packet})
	}
}

func TestABodyThatIsReadIsNewMemory(t *testing.T) {
	for _, p := range eachKind(100) {
		written := impl.PacketBytes(p)
		body := impl.PacketRead(written).Packet.Body
		inside := uintptr(unsafe.Pointer(unsafe.StringData(body))) - uintptr(unsafe.Pointer(unsafe.StringData(written)))
		if inside < uintptr(len(written)) {
			t.Errorf("%s: the body that is read lies in the text", briefPacket(p))
		}
	}
}

func TestBodiesAtTheirLimits(t *testing.T) {
	for length, want := range map[int]bool{0: true, 27: true, 28: true, 99: true, 100: true, 101: false, 102: false, impl.MaxBytes: false, impl.MaxBytes + 1: false} {
		body := mixedText(length)
		for _, p := range []impl.Packet{tcpPacket(body), udpPacket(body), pingPacket(impl.IcAsk, body), pingPacket(impl.IcReply, body)} {
			wantRight(t, p, want)
		}
		wantRight(t, errorPacket(body), want && length >= 28)
		if length <= impl.MaxBytes && length > 100 {
			for _, p := range []impl.Packet{tcpPacket(body), udpPacket(body), pingPacket(impl.IcAsk, body), errorPacket(body)} {
				if text := plainPacket(p); len(text) <= impl.MaxBytes {
					wantReadCode(t, text, impl.ErrSyntax)
				}
			}
		}
	}
	for _, length := range []int{0, 1, 26, 27} {
		wantReadCode(t, plainPacket(errorPacket(mixedText(length))), impl.ErrSyntax)
	}
}

func TestAddressesOfPacketsAtTheirLimits(t *testing.T) {
	for _, p := range eachKind(40) {
		for _, bad := range []int64{-1, mostAddr + 1, math.MinInt64, math.MaxInt64} {
			from, to := p, p
			from.Src, to.Dst = bad, bad
			wantRight(t, from, false)
			wantRight(t, to, false)
		}
	}
}

func TestPortsIdsAndFlagsBeyondTheirBounds(t *testing.T) {
	for _, bad := range noWords() {
		tcpA, tcpB, udpA, udpB := tcpPacket("x"), tcpPacket("x"), udpPacket("x"), udpPacket("x")
		ask, replySeq := pingPacket(impl.IcAsk, "x"), pingPacket(impl.IcReply, "x")
		tcpA.A, tcpB.B, udpA.A, udpB.B, ask.A, replySeq.Seq = bad, bad, bad, bad, bad, bad
		for _, p := range []impl.Packet{tcpA, tcpB, udpA, udpB, ask, replySeq} {
			wantRight(t, p, false)
		}
	}
	for _, bad := range []int64{-1, 64, 65, 128, 256, 256 + 2, math.MinInt64, math.MaxInt64} {
		p := tcpPacket("x")
		p.Flags = bad
		wantRight(t, p, false)
	}
	for _, bad := range []int64{-1, mostAddr + 1, math.MinInt64, math.MaxInt64} {
		seq, ack := tcpPacket("x"), tcpPacket("x")
		seq.Seq, ack.Ack = bad, bad
		wantRight(t, seq, false)
		wantRight(t, ack, false)
	}
}

func TestFieldsThatAreNotNamedAreNought(t *testing.T) {
	for _, n := range []int64{1, -1, 3, 8, 65536, math.MaxInt64} {
		body := mixedText(50)
		tcp := tcpPacket(body)
		tcp.Kind = n
		wantRight(t, tcp, false)
		for field := range 4 {
			p := udpPacket(body)
			*[]*int64{&p.Kind, &p.Flags, &p.Seq, &p.Ack}[field] = n
			wantRight(t, p, false)
		}
		for field := range 3 {
			for _, p := range []impl.Packet{pingPacket(impl.IcAsk, body), pingPacket(impl.IcReply, body)} {
				*[]*int64{&p.B, &p.Flags, &p.Ack}[field] = n
				wantRight(t, p, false)
			}
		}
		for field := range 5 {
			p := errorPacket(body)
			*[]*int64{&p.A, &p.B, &p.Flags, &p.Seq, &p.Ack}[field] = n
			wantRight(t, p, false)
		}
	}
}

func TestProtosAndKindsThatAreNone(t *testing.T) {
	wantRight(t, impl.Packet{}, false)
	for proto := int64(-300); proto <= 300; proto++ {
		if proto == impl.PrPing || proto == impl.PrTcp || proto == impl.PrUdp {
			continue
		}
		wantRight(t, impl.Packet{Src: 1, Dst: 2, Proto: proto}, false)
		wantRight(t, impl.Packet{Src: 1, Dst: 2, Proto: proto, Kind: impl.IcError, Body: mixedText(28)}, false)
	}
	for kind := int64(-300); kind <= 300; kind++ {
		right := kind == impl.IcAsk || kind == impl.IcReply
		wantRight(t, pingPacket(kind, mixedText(40)), right)
		wantRight(t, errorPacketOfKind(kind), right || kind == impl.IcError)
	}
}

func errorPacketOfKind(kind int64) impl.Packet {
	p := errorPacket(mixedText(28))
	p.Kind = kind
	return p
}

// noughtCheck gives p with the B at which what its check sums up is 65535, so
// that its check would be 0.
func noughtCheck(t *testing.T, p impl.Packet) impl.Packet {
	t.Helper()
	for p.B = range int64(65536) {
		whole := plainPacket(p)
		part := turnedTo(whole, checkPlace(p), 0)[20:]
		if plainSum(whole[12:20]+wordText(p.Proto)+wordText(int64(len(part)))+part) == 65535 {
			return p
		}
	}
	t.Fatalf("no B gives %s a check of 0", briefPacket(p))
	return p
}

// turnedTo gives a text with that word at that place.
func turnedTo(text string, at int, word int64) string {
	return text[:at] + wordText(word) + text[at+2:]
}

func TestACheckThatWouldBeNought(t *testing.T) {
	for _, body := range []string{"", "a", "ab", mixedText(100)} {
		udp := noughtCheck(t, udpPacket(body))
		written := impl.PacketBytes(udp)
		if got := written[26:28]; got != "\xff\xff" {
			t.Errorf("the check of PrUdp: got %q, want 65535", got)
		}
		wantRead(t, written, impl.PacketOut{Packet: udp})
		wantReadCode(t, turnedTo(written, 26, 0), impl.ErrSum)

		tcp := noughtCheck(t, tcpPacket(body))
		written = impl.PacketBytes(tcp)
		if got := written[36:38]; got != "\x00\x00" {
			t.Errorf("the check of PrTcp: got %q, want 0", got)
		}
		wantRead(t, written, impl.PacketOut{Packet: tcp})
		wantReadCode(t, turnedTo(written, 36, 65535), impl.ErrSum)
	}
}

func TestAPingWhoseCheckIsNought(t *testing.T) {
	p := pingPacket(impl.IcAsk, "")
	p.A, p.Seq = 0xF7FF, 0
	written := impl.PacketBytes(p)
	if got := written[22:24]; got != "\x00\x00" {
		t.Errorf("the check of PrPing: got %q, want 0", got)
	}
	wantRead(t, written, impl.PacketOut{Packet: p})
	wantReadCode(t, turnedTo(written, 22, 65535), impl.ErrSum)

	p.Kind, p.A = impl.IcReply, 0
	written = impl.PacketBytes(p)
	if got := written[22:24]; got != "\xff\xff" {
		t.Errorf("the check of a PrPing of noughts: got %q, want 65535", got)
	}
	wantRead(t, written, impl.PacketOut{Packet: p})
	wantReadCode(t, turnedTo(written, 22, 0), impl.ErrSum)
}

func TestNoCheckOfPrUdpIsRefused(t *testing.T) {
	for _, body := range []string{"", "hi", mixedText(99)} {
		wantReadCode(t, turnedTo(impl.PacketBytes(udpPacket(body)), 26, 0), impl.ErrSum)
	}
}

func TestShortTexts(t *testing.T) {
	for _, p := range eachKind(28) {
		written := impl.PacketBytes(p)
		for cut := range len(written) {
			code := int64(impl.ErrSyntax)
			if cut < 28 {
				code = impl.ErrShort
			}
			wantReadCode(t, written[:cut], code)
		}
	}
	for _, fill := range []string{"\x00", "\xff", "E"} {
		wantReadCode(t, strings.Repeat(fill, 27), impl.ErrShort)
		wantReadCode(t, strings.Repeat(fill, 28), impl.ErrSyntax)
		wantReadCode(t, strings.Repeat(fill, 8000), impl.ErrSyntax)
		wantReadCode(t, strings.Repeat(fill, 8001), impl.ErrSize)
	}
	for _, p := range []impl.Packet{udpPacket(""), pingPacket(impl.IcAsk, ""), pingPacket(impl.IcReply, "")} {
		written := impl.PacketBytes(p)
		if len(written) != 28 {
			t.Errorf("PacketBytes(%s) has %d bytes, want 28", briefPacket(p), len(written))
		}
		wantRead(t, written, impl.PacketOut{Packet: p})
		wantReadCode(t, written[:27], impl.ErrShort)
	}
}

func TestALongTextIsRefusedAheadOfAllElse(t *testing.T) {
	for _, p := range eachKind(100) {
		written := impl.PacketBytes(p)
		wantReadCode(t, written+strings.Repeat("\x00", impl.MaxBytes-len(written)), impl.ErrSyntax)
		wantReadCode(t, written+strings.Repeat("\x00", impl.MaxBytes+1-len(written)), impl.ErrSize)
	}
	long := strings.Repeat("1", impl.MaxBytes)
	wantAddr(t, long, impl.NumOut{Code: impl.ErrSyntax})
	wantAddr(t, long+"1", impl.NumOut{Code: impl.ErrSize})
	wantAddr(t, strings.Repeat(".", impl.MaxBytes), impl.NumOut{Code: impl.ErrSyntax})
	wantAddr(t, strings.Repeat(".", impl.MaxBytes+1), impl.NumOut{Code: impl.ErrSize})
}

func TestAByteMoreOrLessThanTheHeadTells(t *testing.T) {
	for _, length := range []int{0, 1, 28, 29, 50, 100} {
		for _, p := range eachKind(length) {
			written := impl.PacketBytes(p)
			for _, more := range []string{"\x00", "z", "\x00\x00"} {
				wantReadCode(t, written+more, impl.ErrSyntax)
			}
			if len(written) > 28 {
				wantReadCode(t, written[:len(written)-1], impl.ErrSyntax)
			}
			for _, count := range []int{0, 20, len(written) - 1, len(written) + 1, 65535} {
				wantReadCode(t, mendedHead(turnedTo(written, 2, int64(count))), impl.ErrSyntax)
			}
		}
	}
}

// mendedHead gives a packet's bytes with the check that its head should have.
func mendedHead(text string) string {
	bare := turnedTo(text, 10, 0)
	return turnedTo(text, 10, 65535-plainSum(bare[:20]))
}

func TestTheCountOfPrUdp(t *testing.T) {
	for _, body := range []string{"", "ab", mixedText(100)} {
		written := impl.PacketBytes(udpPacket(body))
		for _, count := range []int{0, 7, 8 + len(body) - 1, 8 + len(body) + 1, len(written), 65535} {
			wantReadCode(t, turnedTo(written, 24, int64(count)), impl.ErrSyntax)
		}
	}
}

// turnedCode: what PacketRead says of p's bytes with the byte at that place
// turned to b. Of the Proto it says less: then anything but OK will do.
func turnedCode(p impl.Packet, at int, b byte) int64 {
	bySum := func(right bool) int64 {
		if right {
			return impl.ErrSum
		}
		return impl.ErrSyntax
	}
	if at < 20 {
		return bySum(at >= 10)
	}
	switch place := at - 20; p.Proto {
	case impl.PrTcp:
		if place == 13 {
			return bySum(b <= 63)
		}
		return bySum(place < 12 || place == 16 || place == 17 || place >= 20)
	case impl.PrUdp:
		return bySum(place != 4 && place != 5)
	default:
		if place == 0 {
			return bySum(p.Kind != impl.IcError && (b == impl.IcAsk || b == impl.IcReply))
		}
		if p.Kind == impl.IcError {
			return bySum(place == 2 || place == 3 || place >= 8)
		}
		return bySum(place != 1)
	}
}

func TestEachByteTurnedIsRefused(t *testing.T) {
	const protoAt = 9
	for _, length := range []int{0, 1, 28, 31} {
		for _, p := range eachKind(length) {
			written := impl.PacketBytes(p)
			for at := range len(written) {
				for turn := 1; turn < 256; turn++ {
					text := turned(written, at, byte(turn))
					if at == protoAt {
						if got := impl.PacketRead(text); got.Code == impl.OK || got.Packet != (impl.Packet{}) {
							t.Errorf("%s with another Proto, %d: got %+v", briefPacket(p), text[at], got)
						}
						continue
					}
					wantReadCode(t, text, turnedCode(p, at, text[at]))
				}
			}
		}
	}
}

func TestFaultsOfFormAreToldAheadOfSums(t *testing.T) {
	for _, p := range eachKind(28) {
		written := impl.PacketBytes(p)
		noSums := turned(turned(written, 10, 0x55), checkPlace(p), 0x55)
		wantReadCode(t, noSums, impl.ErrSum)
		wantReadCode(t, turned(written, 11, 1), impl.ErrSum)
		wantReadCode(t, turned(written, checkPlace(p)+1, 1), impl.ErrSum)
		for _, at := range []int{0, 1, 2, 3, 4, 5, 6, 7, 8} {
			wantReadCode(t, turned(noSums, at, 0x10), impl.ErrSyntax)
		}
		wantReadCode(t, noSums+"\x00", impl.ErrSyntax)
	}
}

func TestProtosAndKindsThatNoPacketHas(t *testing.T) {
	for proto := range 256 {
		if proto == impl.PrPing || proto == impl.PrTcp || proto == impl.PrUdp {
			continue
		}
		for _, p := range eachKind(28) {
			text := []byte(impl.PacketBytes(p))
			text[9] = byte(proto)
			wantReadCode(t, mendedHead(string(text)), impl.ErrSyntax)
		}
	}
	for kind := range int64(256) {
		if p := pingPacket(kind, "ab"); kind != impl.IcAsk && kind != impl.IcReply && kind != impl.IcError {
			wantReadCode(t, plainPacket(p), impl.ErrSyntax)
		}
	}
}

func TestAnErrorWithAnIdOrOtherBytesIsNone(t *testing.T) {
	written := impl.PacketBytes(errorPacket(mixedText(28)))
	for _, c := range []struct {
		at int
		to string
	}{{21, "\x00"}, {21, "\x02"}, {24, "\x01"}, {25, "\x01"}, {26, "\x01"}, {27, "\x01"}} {
		text := written[:c.at] + c.to + written[c.at+1:]
		sum := plainSum(text[20:22] + text[24:])
		wantReadCode(t, turnedTo(text, 22, 65535-sum), impl.ErrSyntax)
	}
}

func wantAddr(t *testing.T, text string, want impl.NumOut) {
	t.Helper()
	if got := impl.AddrRead(text); got != want {
		t.Errorf("AddrRead(%s): got %+v, want %+v", brief(text), got, want)
	}
}

func TestAddressesAndTheirTexts(t *testing.T) {
	for n, want := range map[int64]string{
		0: "0.0.0.0", 1: "0.0.0.1", 255: "0.0.0.255", 256: "0.0.1.0", 65536: "0.1.0.0", 1 << 24: "1.0.0.0",
		0x0A000001: "10.0.0.1", 0x01020304: "1.2.3.4", 0xCB007101: "203.0.113.1", 0x80000000: "128.0.0.0",
		0x7FFFFFFF: "127.255.255.255", mostAddr: "255.255.255.255", mostAddr - 1: "255.255.255.254",
	} {
		if got := impl.AddrText(n); got != want {
			t.Errorf("AddrText(%d): got %q, want %q", n, got, want)
		}
		wantAddr(t, want, impl.NumOut{N: n})
	}
	for b := range int64(256) {
		for place := range 4 {
			n := b << (8 * place)
			wantAddr(t, impl.AddrText(n), impl.NumOut{N: n})
		}
	}
	for _, bad := range []int64{-1, mostAddr + 1, math.MinInt64, math.MaxInt64} {
		if got := impl.AddrText(bad); got != "" {
			t.Errorf("AddrText(%d): got %q, want none", bad, got)
		}
	}
}

func TestTextsThatAreNoAddress(t *testing.T) {
	for _, text := range []string{
		"", ".", "...", "....", "1", "1.2", "1.2.3", "1.2.3.", ".1.2.3", "1..2.3", "1.2.3.4.", ".1.2.3.4", "1.2.3.4.5", "0.1.2.3.4", "0.0.0.0.0",
		"01.2.3.4", "1.02.3.4", "1.2.003.4", "1.2.3.04", "00.0.0.0", "0.0.0.00", "1.2.3.000",
		"256.0.0.0", "0.256.0.0", "0.0.256.0", "0.0.0.256", "1.2.3.300", "1.2.3.999", "1.2.3.1000", "0.0.0.4294967296",
		"1.2.3.18446744073709551616", "1.2.3.18446744073709551617", "1.2.3.99999999999999999999999999999999",
		"a.b.c.d", "1.2.3.a", "1.2.3.0x4", "1.2.3.4a", "1.2.3.-4", "-1.2.3.4", "1.2.3.+4", "+1.2.3.4", "1.2.3.-0", "1.2.3.1_0", "1.2.3.1e1",
		" 1.2.3.4", "1.2.3.4 ", "1. 2.3.4", "1.2.3.4\n", "1.2.3.4\x00", "1,2,3,4", "1.2.3,4", "1:2:3:4", "1.2.3.\xd9\xa4", "1.2.3./", "1.2.3.:",
	} {
		wantAddr(t, text, impl.NumOut{Code: impl.ErrSyntax})
	}
	for b := range 256 {
		want := impl.NumOut{Code: impl.ErrSyntax}
		if b >= '0' && b <= '9' {
			want = impl.NumOut{N: 0x01020300 + int64(b-'0')}
		}
		wantAddr(t, "1.2.3."+string([]byte{byte(b)}), want)
	}
}

// speaksOf: what an error that is told of p tells of it.
func speaksOf(p impl.Packet) impl.Packet {
	told := impl.Packet{Src: p.Src, Dst: p.Dst, Proto: p.Proto, A: p.A, B: p.B, Kind: p.Kind}
	if p.Proto != impl.PrUdp {
		told.Seq = p.Seq
	}
	return told
}

func wantInner(t *testing.T, p impl.Packet, want impl.PacketOut) {
	t.Helper()
	wantPacket(t, "InnerOf("+briefPacket(p)+")", impl.InnerOf(p), want)
}

func TestAnErrorSpeaksOfThePacketsEnds(t *testing.T) {
	all := edgePackets()
	for _, length := range []int{0, 1, 27, 28, 99, 100} {
		all = append(all, eachKind(length)...)
	}
	for _, p := range all {
		if p.Kind == impl.IcError {
			continue
		}
		for _, from := range []int64{0, 5, mostAddr} {
			e := impl.ErrorOf(p, from)
			want := impl.Packet{Src: from, Dst: p.Src, Proto: impl.PrPing, Kind: impl.IcError, Body: plainPacket(p)[:28]}
			wantPacket(t, "ErrorOf("+briefPacket(p)+")", e, impl.PacketOut{Packet: want})
			wantRead(t, impl.PacketBytes(e.Packet), impl.PacketOut{Packet: want})
			wantInner(t, e.Packet, impl.PacketOut{Packet: speaksOf(p)})
		}
	}
}

func TestErrorOfWhatMayNotBe(t *testing.T) {
	refused := impl.PacketOut{Code: impl.ErrForm}
	for _, from := range []int64{0, 5, mostAddr} {
		wantPacket(t, "ErrorOf the zero packet", impl.ErrorOf(impl.Packet{}, from), refused)
		wantPacket(t, "ErrorOf an IcError", impl.ErrorOf(errorPacket(mixedText(28)), from), refused)
		wantPacket(t, "ErrorOf an error", impl.ErrorOf(impl.ErrorOf(udpPacket("hi"), 5).Packet, from), refused)
		wantPacket(t, "ErrorOf too long a body", impl.ErrorOf(udpPacket(mixedText(101)), from), refused)
		bad := tcpPacket("hi")
		bad.Src = mostAddr + 1
		wantPacket(t, "ErrorOf no address", impl.ErrorOf(bad, from), refused)
	}
	for _, p := range eachKind(10) {
		for _, from := range []int64{-1, mostAddr + 1, math.MinInt64, math.MaxInt64} {
			wantPacket(t, fmt.Sprintf("ErrorOf from %d", from), impl.ErrorOf(p, from), refused)
		}
	}
}

func TestInnerOfWhatIsNoError(t *testing.T) {
	refused := impl.PacketOut{Code: impl.ErrForm}
	start := plainPacket(udpPacket(""))
	for _, p := range []impl.Packet{{}, tcpPacket(start), udpPacket(start), pingPacket(impl.IcAsk, start), pingPacket(impl.IcReply, start),
		errorPacket(""), errorPacket(start[:27]), errorPacket(start + mixedText(73)), {Proto: impl.PrTcp, Kind: impl.IcError, Body: start}} {
		wantInner(t, p, refused)
	}
	for field := range 7 {
		p := errorPacket(start)
		*[]*int64{&p.A, &p.B, &p.Flags, &p.Seq, &p.Ack, &p.Src, &p.Dst}[field] = -1
		wantInner(t, p, refused)
	}
}

func TestInnerOfWithOtherChecksAndCounts(t *testing.T) {
	for _, length := range []int{0, 1, 28, 100} {
		for _, p := range eachKind(length) {
			if p.Kind == impl.IcError {
				continue
			}
			start := plainPacket(p)[:28]
			for _, word := range someWords() {
				texts := []string{turnedTo(start, 2, word), turnedTo(start, 10, word), turnedTo(turnedTo(start, 2, word), 10, word)}
				switch p.Proto {
				case impl.PrUdp:
					texts = append(texts, turnedTo(start, 24, word), turnedTo(start, 26, word))
				case impl.PrPing:
					texts = append(texts, turnedTo(start, 22, word))
				}
				for _, text := range texts {
					wantInner(t, errorPacket(text), impl.PacketOut{Packet: speaksOf(p)})
				}
			}
		}
	}
}

func TestWhatIsBehindTheInnerBytesCountsForNothing(t *testing.T) {
	for _, p := range eachKind(0) {
		start := plainPacket(p)[:28]
		for _, behind := range []string{"\x00", "z", strings.Repeat("\xff", 12), mixedText(71), mixedText(72)} {
			wantInner(t, errorPacket(start+behind), impl.PacketOut{Packet: speaksOf(p)})
		}
	}
}

func TestInnerBytesThatAreNoPackets(t *testing.T) {
	bad := impl.PacketOut{Code: impl.ErrSyntax}
	for _, p := range eachKind(0) {
		start := plainPacket(p)[:28]
		for _, at := range []int{0, 1, 4, 5, 6, 7, 8} {
			for turn := 1; turn < 256; turn++ {
				wantInner(t, errorPacket(turned(start, at, byte(turn))), bad)
			}
		}
		for proto := range 256 {
			if proto == impl.PrPing || proto == impl.PrTcp || proto == impl.PrUdp {
				continue
			}
			wantInner(t, errorPacket(start[:9]+string([]byte{byte(proto)})+start[10:]), bad)
		}
	}
	ping := plainPacket(pingPacket(impl.IcAsk, ""))
	for b := 1; b < 256; b++ {
		wantInner(t, errorPacket(ping[:21]+string([]byte{byte(b)})+ping[22:]), bad)
		if b != impl.IcAsk {
			wantInner(t, errorPacket(ping[:20]+string([]byte{byte(b)})+ping[21:]), bad)
		}
	}
	for _, fill := range []string{"\x00", "\xff", "E"} {
		wantInner(t, errorPacket(strings.Repeat(fill, 28)), bad)
	}
}

func TestAnErrorOfAnErrorTellsNothing(t *testing.T) {
	outer := plainPacket(errorPacket(plainPacket(udpPacket(""))))
	for _, cut := range []int{28, 56} {
		wantInner(t, errorPacket(outer[:cut]), impl.PacketOut{Code: impl.ErrSyntax})
	}
}

func TestEachFieldOfTheInnerPacketIsTold(t *testing.T) {
	for _, p := range eachKind(0) {
		start := plainPacket(p)[:28]
		for at := 12; at < 20; at++ {
			other := p
			if at < 16 {
				other.Src ^= 0x5A << (8 * (15 - at))
			} else {
				other.Dst ^= 0x5A << (8 * (19 - at))
			}
			wantInner(t, errorPacket(turned(start, at, 0x5A)), impl.PacketOut{Packet: speaksOf(other)})
		}
	}
	tcp := plainPacket(tcpPacket(""))[:20] + "\x01\x02\x03\x04\xfa\xfb\xfc\xfd"
	wantInner(t, errorPacket(tcp), impl.PacketOut{Packet: impl.Packet{Src: 0x0A000001, Dst: 0xCB007109, Proto: impl.PrTcp, A: 0x0102, B: 0x0304, Seq: 0xFAFBFCFD}})
	udp := plainPacket(udpPacket(""))[:20] + "\xf1\xf2\xf3\xf4\xfa\xfb\xfc\xfd"
	wantInner(t, errorPacket(udp), impl.PacketOut{Packet: impl.Packet{Src: 0xC0A80001, Dst: 0x08080808, Proto: impl.PrUdp, A: 0xF1F2, B: 0xF3F4}})
	ping := plainPacket(pingPacket(impl.IcReply, ""))[:20] + "\x00\x00\xf3\xf4\xfa\xfb\xfc\xfd"
	wantInner(t, errorPacket(ping), impl.PacketOut{Packet: impl.Packet{Src: 0x0A000002, Dst: 0x01010101, Proto: impl.PrPing, Kind: impl.IcReply, A: 0xFAFB, Seq: 0xFCFD}})
}
