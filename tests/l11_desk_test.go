package tests

import (
	"slices"
	"testing"

	"loop.example/g00542/impl"
)

func deskRules(t *testing.T) []impl.Rule {
	return []impl.Rule{
		{Kind: impl.NtDst, Proto: impl.PrTcp, Net: addrOf(t, "203.0.113.1"), Bits: 32, To: addrOf(t, "10.0.0.9"), Low: 8080, High: 8080},
		{Kind: impl.NtSrc, Net: addrOf(t, "10.0.0.0"), Bits: 8, To: addrOf(t, "203.0.113.1"), Low: 500, High: 502},
	}
}

func TestDeskTrack(t *testing.T) {
	got := impl.DeskTrack()
	if !slices.Equal(got.Rules, deskRules(t)) || !impl.RulesRight(got.Rules) {
		t.Errorf("got the rules %+v, want %+v", got.Rules, deskRules(t))
	}
	if got.Limit != 4 || len(got.Flows) != 0 || got.Now != 0 || got.Bad != 0 || got.Drops != 0 {
		t.Errorf("got %+v, want the Limit 4 and a track on which nothing came yet", got)
	}
	got.Rules[0], got.Rules[1] = impl.Rule{}, impl.Rule{}
	if again := impl.DeskTrack().Rules; !slices.Equal(again, deskRules(t)) {
		t.Errorf("got the rules %+v once what was told ahead of it was written over", again)
	}
}

// By the desk's rules: who is within goes out as the house, and what comes to the
// house by TCP goes to one within.
func TestNamesByTheDesksRules(t *testing.T) {
	rules := impl.DeskTrack().Rules
	out := impl.Tuple{Proto: impl.PrUdp, Src: addrOf(t, "10.0.0.1"), SPort: 9, Dst: addrOf(t, "8.8.8.8"), DPort: 53}
	name := out
	name.Src, name.SPort = addrOf(t, "203.0.113.1"), 502
	wantGoes(t, "out", rules, out, 5, nil, impl.TupleOut{Tuple: name})
	in := impl.Tuple{Proto: impl.PrTcp, Src: addrOf(t, "8.8.8.8"), SPort: 9, Dst: addrOf(t, "203.0.113.1"), DPort: 80}
	goal := in
	goal.Dst, goal.DPort = addrOf(t, "10.0.0.9"), 8080
	wantGoes(t, "in", rules, in, 5, nil, impl.TupleOut{Tuple: goal})
	in.Proto = impl.PrUdp
	wantGoes(t, "in, no TCP", rules, in, 5, nil, impl.TupleOut{Tuple: in})
}
