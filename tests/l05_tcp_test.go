package tests

import (
	"math"
	"slices"
	"testing"

	"loop.example/g00542/impl"
)

// stateRow is a row of the chapter's table; sides are those from which its signs
// may come (true: back).
type stateRow struct {
	signs []int64
	sides []bool
	from  []int64
	to    int64
}

// theSame stands in a row for the state from which it leads.
const theSame = -2

func eitherSide() []bool {
	return []bool{false, true}
}

func stateRows() []stateRow {
	front, back := []bool{false}, []bool{true}
	return []stateRow{
		{[]int64{impl.SgRst}, eitherSide(), statesThere(), impl.TcShut},
		{[]int64{impl.SgSyn}, front, []int64{impl.TcNone, impl.TcSent, impl.TcWait, impl.TcShut}, impl.TcSent},
		{[]int64{impl.SgBoth}, back, []int64{impl.TcSent, impl.TcRecv}, impl.TcRecv},
		{[]int64{impl.SgFin}, eitherSide(), []int64{impl.TcRecv, impl.TcOpen}, impl.TcFin},
		{[]int64{impl.SgFin}, eitherSide(), []int64{impl.TcFin, impl.TcHalf, impl.TcLast}, impl.TcLast},
		{[]int64{impl.SgFin, impl.SgAck}, eitherSide(), []int64{impl.TcWait, impl.TcShut}, theSame},
		{[]int64{impl.SgAck}, front, []int64{impl.TcRecv}, impl.TcOpen},
		{[]int64{impl.SgAck}, back, []int64{impl.TcRecv}, impl.TcRecv},
		{[]int64{impl.SgAck}, eitherSide(), []int64{impl.TcOpen}, impl.TcOpen},
		{[]int64{impl.SgAck}, eitherSide(), []int64{impl.TcFin, impl.TcHalf}, impl.TcHalf},
		{[]int64{impl.SgAck}, eitherSide(), []int64{impl.TcLast}, impl.TcWait},
	}
}

// statesThere: all but TcNone, in which nothing is there.
func statesThere() []int64 {
	return []int64{impl.TcSent, impl.TcRecv, impl.TcOpen, impl.TcFin, impl.TcHalf, impl.TcLast, impl.TcWait, impl.TcShut}
}

func eachState() []int64 {
	return append([]int64{impl.TcNone}, statesThere()...)
}

func eachSign() []int64 {
	return []int64{impl.SgNone, impl.SgSyn, impl.SgBoth, impl.SgFin, impl.SgAck, impl.SgRst}
}

// wrongNumbers: what is no number from 0 to most, also those that are one in
// their lower bits.
func wrongNumbers(most int64) []int64 {
	wrong := []int64{-1, -2, -most, most + 1, most + 2, 2*most + 1, math.MinInt64, math.MinInt64 + 1, math.MaxInt64}
	for _, high := range []int64{1 << 8, 1 << 16, 1 << 31, 1 << 32, 1 << 62} {
		wrong = append(wrong, high, high+1, high+most, -high, most-high)
	}
	return slices.DeleteFunc(wrong, func(n int64) bool { return n >= 0 && n <= most })
}

func wantNext(t *testing.T, state int64, back bool, sign int64, want int64) {
	t.Helper()
	if got := impl.NextState(state, back, sign); got != want {
		t.Errorf("NextState(%d, %v, %d): got %d, want %d", state, back, sign, got, want)
	}
}

func TestTcpNumbers(t *testing.T) {
	for want, got := range eachState() {
		if got != int64(want) {
			t.Errorf("state %d: got %d", want, got)
		}
	}
	for want, got := range eachSign() {
		if got != int64(want) {
			t.Errorf("sign %d: got %d", want, got)
		}
	}
}

func TestSignOfEachFlags(t *testing.T) {
	// By FIN, SYN and RST as the bits of the place.
	alone := []int64{impl.SgNone, impl.SgFin, impl.SgSyn, impl.SgSyn, impl.SgRst, impl.SgRst, impl.SgRst, impl.SgRst}
	acked := []int64{impl.SgAck, impl.SgFin, impl.SgBoth, impl.SgBoth, impl.SgRst, impl.SgRst, impl.SgRst, impl.SgRst}
	// The bits 8 and 32 say nothing.
	for flags, row := range [][]int64{alone, alone, acked, acked, alone, alone, acked, acked} {
		for low, want := range row {
			if got := impl.SignOf(int64(flags*8 + low)); got != want {
				t.Errorf("SignOf(%d): got %d, want %d", flags*8+low, got, want)
			}
		}
	}
}

func TestSignOfOrder(t *testing.T) {
	for _, one := range []struct{ flags, want int64 }{
		{0, impl.SgNone},
		{8 | 32, impl.SgNone},
		{impl.FlFin, impl.SgFin},
		{impl.FlSyn, impl.SgSyn},
		{impl.FlAck, impl.SgAck},
		{impl.FlRst, impl.SgRst},
		{impl.FlRst | impl.FlSyn, impl.SgRst},
		{impl.FlRst | impl.FlSyn | impl.FlAck, impl.SgRst},
		{impl.FlSyn | impl.FlAck, impl.SgBoth},
		{impl.FlSyn | impl.FlFin, impl.SgSyn},
		{impl.FlSyn | impl.FlFin | impl.FlAck, impl.SgBoth},
		{impl.FlFin | impl.FlAck, impl.SgFin},
		{63, impl.SgRst},
	} {
		if got := impl.SignOf(one.flags); got != one.want {
			t.Errorf("SignOf(%d): got %d, want %d", one.flags, got, one.want)
		}
	}
}

func TestSignOfWrongFlags(t *testing.T) {
	for _, flags := range append(wrongNumbers(63), 64+impl.FlSyn, 128+impl.FlRst, -impl.FlAck) {
		if got := impl.SignOf(flags); got != -1 {
			t.Errorf("SignOf(%d): got %d, want -1", flags, got)
		}
	}
}

// movesOf lays the table out: what a sign from a side leads to, by state.
func movesOf(t *testing.T) map[[2]int64]map[bool]int64 {
	moves := map[[2]int64]map[bool]int64{}
	for _, row := range stateRows() {
		for _, from := range row.from {
			for _, sign := range row.signs {
				place := [2]int64{from, sign}
				if moves[place] == nil {
					moves[place] = map[bool]int64{}
				}
				for _, back := range row.sides {
					if _, there := moves[place][back]; there {
						t.Fatalf("two rows of the table name state %d, back %v, sign %d", from, back, sign)
					}
					moves[place][back] = row.to
					if row.to == theSame {
						moves[place][back] = from
					}
				}
			}
		}
	}
	return moves
}

func TestNextStateRowByRow(t *testing.T) {
	for _, row := range stateRows() {
		for _, from := range row.from {
			want := row.to
			if want == theSame {
				want = from
			}
			for _, sign := range row.signs {
				for _, back := range row.sides {
					wantNext(t, from, back, sign, want)
				}
			}
		}
	}
}

func TestNextStateWhereNothingIsNamed(t *testing.T) {
	moves, none := movesOf(t), 0
	for _, state := range eachState() {
		for _, sign := range eachSign() {
			for _, back := range eitherSide() {
				if _, there := moves[[2]int64{state, sign}][back]; !there {
					none++
					wantNext(t, state, back, sign, -1)
				}
			}
		}
	}
	// Of 108 the table names 8 and 8 resets, 4 first words, 2 of both, 14 ends, 14 answers.
	if none != 108-50 {
		t.Errorf("the table names nothing at %d places, want %d", none, 108-50)
	}
}

func TestNextStateWrongNumbers(t *testing.T) {
	for _, back := range eitherSide() {
		for _, state := range wrongNumbers(impl.TcShut) {
			for _, sign := range append(eachSign(), -1, impl.SgRst+1) {
				wantNext(t, state, back, sign, -1)
			}
		}
		for _, sign := range wrongNumbers(impl.SgRst) {
			for _, state := range eachState() {
				wantNext(t, state, back, sign, -1)
			}
		}
	}
}

// Promise 7: a reset shuts all that is there ..
func TestResetShutsAllThatIsThere(t *testing.T) {
	for flags := range int64(64) {
		if flags&impl.FlRst == 0 {
			continue
		}
		for _, back := range eitherSide() {
			for _, state := range statesThere() {
				wantNext(t, state, back, impl.SignOf(flags), impl.TcShut)
			}
			wantNext(t, impl.TcNone, back, impl.SignOf(flags), -1)
		}
	}
}

// .. and nothing but a first word begins.
func TestOnlyAFirstWordBegins(t *testing.T) {
	for flags := range int64(64) {
		first := flags&impl.FlSyn != 0 && flags&(impl.FlAck|impl.FlRst) == 0
		for _, back := range eitherSide() {
			want := int64(-1)
			if first && !back {
				want = impl.TcSent
			}
			wantNext(t, impl.TcNone, back, impl.SignOf(flags), want)
		}
	}
}

func TestNothingLeadsBackToNone(t *testing.T) {
	for _, state := range eachState() {
		for _, sign := range eachSign() {
			for _, back := range eitherSide() {
				if impl.NextState(state, back, sign) == impl.TcNone {
					t.Errorf("NextState(%d, %v, %d) is TcNone", state, back, sign)
				}
			}
		}
	}
}

// said is a packet of a talk, and the name of the state behind it; the empty
// name, if it says nothing there, and the state stays.
type said struct {
	back  bool
	flags int64
	name  string
}

func TestWholeTalks(t *testing.T) {
	const fin, syn, rst, ack = impl.FlFin, impl.FlSyn, impl.FlRst, impl.FlAck
	talks := map[string][]said{
		"who began ends first, and begins anew": {
			{false, ack, ""}, {true, syn, ""}, {false, syn, "sent"}, {false, syn, "sent"}, {true, ack, ""}, {false, syn | ack, ""},
			{true, syn | ack, "recv"}, {true, syn | ack, "recv"}, {false, syn, ""}, {true, ack, "recv"}, {false, ack, "open"},
			{true, ack | 8, "open"}, {false, ack, "open"}, {false, syn, ""}, {true, syn | ack, ""}, {false, 0, ""},
			{false, fin | ack, "fin"}, {true, ack, "half"}, {false, ack, "half"}, {false, syn, ""}, {true, fin | ack, "last"},
			{true, fin | ack, "last"}, {true, syn | ack, ""}, {false, ack, "wait"}, {true, fin | ack, "wait"}, {false, ack, "wait"},
			{true, syn, ""}, {true, syn | ack, ""}, {false, syn, "sent"}, {true, syn | ack, "recv"}, {false, ack, "open"},
		},
		"the other side ends first, both at once": {
			{false, syn, "sent"}, {true, syn | ack, "recv"}, {false, ack, "open"}, {true, fin, "fin"}, {false, fin, "last"},
			{true, ack, "wait"}, {false, syn | fin, "sent"}, {false, fin, ""}, {true, rst | ack, "shut"},
		},
		"ended ahead of being open": {
			{false, syn, "sent"}, {true, syn | ack, "recv"}, {true, fin, "fin"}, {false, ack, "half"}, {false, fin, "last"}, {true, ack, "wait"},
		},
		"refused, and begun anew": {
			{false, rst, ""}, {false, syn, "sent"}, {true, rst | ack, "shut"}, {true, rst, "shut"}, {false, fin | ack, "shut"},
			{true, ack, "shut"}, {true, syn | ack, ""}, {true, syn, ""}, {false, 0, ""}, {false, syn, "sent"},
		},
	}
	for what, talk := range talks {
		state := int64(impl.TcNone)
		for place, one := range talk {
			next := impl.NextState(state, one.back, impl.SignOf(one.flags))
			if got := impl.StateName(next); got != one.name {
				t.Errorf("%s, packet %d: from %s to %q, want %q", what, place, impl.StateName(state), got, one.name)
			}
			if next != -1 {
				state = next
			}
		}
	}
}

func TestLifeOfAndStateName(t *testing.T) {
	for _, one := range []struct {
		state int64
		life  int64
		name  string
	}{
		{impl.TcNone, 0, "none"},
		{impl.TcSent, 20, "sent"},
		{impl.TcRecv, 10, "recv"},
		{impl.TcOpen, 500, "open"},
		{impl.TcFin, 20, "fin"},
		{impl.TcHalf, 15, "half"},
		{impl.TcLast, 5, "last"},
		{impl.TcWait, 20, "wait"},
		{impl.TcShut, 2, "shut"},
	} {
		if got := impl.LifeOf(one.state); got != one.life {
			t.Errorf("LifeOf(%d): got %d, want %d", one.state, got, one.life)
		}
		if got := impl.StateName(one.state); got != one.name {
			t.Errorf("StateName(%d): got %q, want %q", one.state, got, one.name)
		}
	}
}

func TestLifeOfAndStateNameOfNoState(t *testing.T) {
	for _, state := range wrongNumbers(impl.TcShut) {
		if got := impl.LifeOf(state); got != -1 {
			t.Errorf("LifeOf(%d): got %d, want -1", state, got)
		}
		if got := impl.StateName(state); got != "" {
			t.Errorf("StateName(%d): got %q, want none", state, got)
		}
	}
}
