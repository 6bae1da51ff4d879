/- Proved here: nothing of a program: what a right flow is, a new one, one led on by a packet, as plain functions. -/
import Derived.Test.YtbhemimhmkgfiaaDoorAll7
import Derived.Test.YtbhemimhmkgfiaaDoorAll8
import Derived.Test.YtbhemimhmkgfiaaDoorTupEq
namespace Go.Proofs.YtbhemimhmkgfiaaDoor
set_option linter.unusedVariables false
set_option linter.unusedSimpArgs false

/-- a flow -/
structure Fl where
  orig : Tp
  back : Tp
  state : Int
  seen : Bool
  sure : Bool
  till : Int
  count : Int
def zeroFl : Fl := ⟨zeroTp, zeroTp, 0, false, false, 0, 0⟩
def cntB (n : Int) : Bool := decide (1 ≤ n) && decide (n ≤ 1000000)
theorem cntB_iff {n : Int} : cntB n = true ↔ 1 ≤ n ∧ n ≤ 1000000 := by unfold cntB; simp
/-- may its state be so? -/
def partB (f : Fl) : Bool := if f.orig.proto = 6 then decide (1 ≤ f.state) && decide (f.state ≤ 8) else if f.orig.proto = 1 then f.state == 0 && (f.orig.kind == 8 && f.back.kind == 0) else f.state == 0
/-- is it right? -/
def rightF (f : Fl) : Bool := rightT f.orig && rightT f.back && f.orig.proto == f.back.proto && !(f.sure && !f.seen) && tmB f.till && cntB f.count && partB f
/-- how long does it live? -/
def liveF (f : Fl) : Int := if f.orig.proto = 6 then lifeZ f.state else if f.orig.proto = 17 then (if f.sure then 180 else 30) else 10
/-- the lesser one -/
def minN (a b : Int) : Int := if a < b then a else b
def tillF (f : Fl) (now : Int) : Int := minN 1000000 (now + liveF f)
/-- may a packet begin a flow? -/
def packB (p : Pk) : Bool := rightB p && !errorB p
def newB (p : Pk) (g : Tp) (now : Int) : Bool := packB p && rightT g && g.proto == p.proto && g.kind == p.kind && tmB now
/-- the state behind a packet -/
def toZ (proto s : Int) (b : Bool) (flags : Int) : Int := if proto = 6 then nextZ s b (signZ flags) else 0
def begin (p : Pk) (g : Tp) : Fl := ⟨ofP p, invT g, toZ p.proto 0 false p.flags, false, false, 0, 1⟩
def newF (p : Pk) (g : Tp) (now : Int) : Fl := { begin p g with till := tillF (begin p g) now }
def codeN (p : Pk) : Int := if p.proto = 6 ∧ toZ p.proto 0 false p.flags < 0 then 10 else if p.proto = 1 ∧ p.kind = 0 then 10 else 0
def flowN (p : Pk) (g : Tp) (now : Int) : Fl := if codeN p = 0 then newF p g now else zeroFl
def newC (p : Pk) (g : Tp) (now : Int) : Int := if newB p g now = true then codeN p else 1
def newA (p : Pk) (g : Tp) (now : Int) : Fl := if newB p g now = true then flowN p g now else zeroFl
/-- the tuple by which a packet comes -/
def sideF (f : Fl) (b : Bool) : Tp := if b then f.back else f.orig
def isOfF (f : Fl) (p : Pk) (b : Bool) : Bool := rightF f && packB p && sameT (ofP p) (sideF f b)
def led (f : Fl) (p : Pk) (b : Bool) : Fl :=
  let s := if p.proto = 6 then toZ p.proto f.state b p.flags else f.state
  let n := f.seen || b
  { f with state := s, seen := n, sure := f.sure || ((p.proto == 6 && n && s == 3) || (p.proto == 17 && n && !b)) }
def nextF (f : Fl) (p : Pk) (b : Bool) (now : Int) : Fl := { led f p b with till := tillF (led f p b) now, count := f.count + 1 }
def codeX (f : Fl) (p : Pk) (b : Bool) : Int := if p.proto = 6 ∧ toZ p.proto f.state b p.flags < 0 then 10 else if f.count = 1000000 then 9 else 0
def flowX (f : Fl) (p : Pk) (b : Bool) (now : Int) : Fl := if codeX f p b = 0 then nextF f p b now else zeroFl
def nextC (f : Fl) (p : Pk) (b : Bool) (now : Int) : Int := if (isOfF f p b && tmB now) = true then codeX f p b else 1
def nextA (f : Fl) (p : Pk) (b : Bool) (now : Int) : Fl := if (isOfF f p b && tmB now) = true then flowX f p b now else zeroFl
def outC (f : Fl) (p : Pk) (b : Bool) : Int := if isOfF f p b = true then 0 else 1
def outP (f : Fl) (p : Pk) (b : Bool) : Pk := if isOfF f p b = true then withT p (invT (sideF f (!b))) else zeroPk
theorem newA_no {p : Pk} {g : Tp} {now : Int} (h : newB p g now = false) : newA p g now = zeroFl := if_neg (by rw [h]; simp)
theorem newC_no {p : Pk} {g : Tp} {now : Int} (h : newB p g now = false) : newC p g now = 1 := if_neg (by rw [h]; simp)
theorem newA_yes {p : Pk} {g : Tp} {now : Int} (h : newB p g now = true) : newA p g now = flowN p g now := if_pos h
theorem newC_yes {p : Pk} {g : Tp} {now : Int} (h : newB p g now = true) : newC p g now = codeN p := if_pos h
theorem nextA_no {f : Fl} {p : Pk} {b : Bool} {now : Int} (h : (isOfF f p b && tmB now) = false) : nextA f p b now = zeroFl := if_neg (by rw [h]; simp)
theorem nextC_no {f : Fl} {p : Pk} {b : Bool} {now : Int} (h : (isOfF f p b && tmB now) = false) : nextC f p b now = 1 := if_neg (by rw [h]; simp)
theorem nextA_yes {f : Fl} {p : Pk} {b : Bool} {now : Int} (h : (isOfF f p b && tmB now) = true) : nextA f p b now = flowX f p b now := if_pos h
theorem nextC_yes {f : Fl} {p : Pk} {b : Bool} {now : Int} (h : (isOfF f p b && tmB now) = true) : nextC f p b now = codeX f p b := if_pos h
theorem count_right {f : Fl} (h : rightF f = true) : 1 ≤ f.count ∧ f.count ≤ 1000000 := by
  unfold rightF at h
  simp only [Bool.and_eq_true] at h
  exact cntB_iff.1 h.1.2
theorem right_back {f : Fl} (h : rightF f = true) : rightT f.orig = true ∧ rightT f.back = true := by
  unfold rightF at h
  simp only [Bool.and_eq_true] at h
  exact ⟨h.1.1.1.1.1.1, h.1.1.1.1.1.2⟩
theorem side_right {f : Fl} (b : Bool) (h : rightF f = true) : rightT (sideF f b) = true := by
  cases b
  · exact (right_back h).1
  · exact (right_back h).2
theorem led_eq (fo fb : Tp) (fs ft fc : Int) (n u : Bool) (p : Pk) (b : Bool) (q6 q17 : Bool) (s : Int) (h6 : (p.proto == 6) = q6) (h17 : (p.proto == 17) = q17) (hs : (if p.proto = 6 then toZ p.proto fs b p.flags else fs) = s) :
    led ⟨fo, fb, fs, n, u, ft, fc⟩ p b = ⟨fo, fb, s, n || b, u || ((q6 && (n || b) && s == 3) || (q17 && (n || b) && !b)), ft, fc⟩ := by
  unfold led
  simp only [h6, h17, hs]
/-- may two tuples be a flow's ends? -/
def formB (o b : Tp) : Bool := rightT o && rightT b && o.proto == b.proto && (!(o.proto == 1) || (o.kind == 8 && b.kind == 0))
def stateB (f : Fl) : Bool := if f.orig.proto = 6 then stB f.state && !(f.state == 0) else f.state == 0
def rightK (f : Fl) : Bool := formB f.orig f.back && stateB f && (f.seen || !f.sure) && (tmB f.till && tmB f.count) && decide (0 < f.count)
theorem rightK_eq (f : Fl) : rightK f = rightF f := by
  obtain ⟨o, b, s, n, u, t, c⟩ := f
  unfold rightK rightF formB stateB partB
  simp only
  cases h0 : rightT o <;> cases h1 : rightT b <;> cases h2 : (o.proto == b.proto) <;> cases ht : tmB t <;> try (simp; done)
  have e1 : (tmB c && decide (0 < c)) = cntB c := by unfold tmB cntB; by_cases c1 : 0 < c <;> by_cases c2 : c ≤ 1000000 <;> simp [c1, c2] <;> omega
  have e2 : (n || !u) = !(u && !n) := by cases n <;> cases u <;> rfl
  have e3 : (stB s && !(s == 0)) = (decide (1 ≤ s) && decide (s ≤ 8)) := by
    unfold stB
    by_cases s1 : 1 ≤ s <;> by_cases s2 : s ≤ 8 <;> by_cases s3 : s = 0 <;> simp [s1, s2, s3] <;> omega
  rw [e2, e3, ← e1]
  by_cases h6 : o.proto = 6
  · simp [h6]
    cases (decide (1 ≤ s)) <;> cases (decide (s ≤ 8)) <;> cases (!u || n) <;> cases (tmB c) <;> cases (decide (0 < c)) <;> rfl
  · by_cases h1 : o.proto = 1
    · simp [h6, h1]
      cases (s == 0) <;> cases (o.kind == 8) <;> cases (b.kind == 0) <;> cases (!u || n) <;> cases (tmB c) <;> cases (decide (0 < c)) <;> rfl
    · have q1 : (o.proto == 1) = false := beq_eq_false_iff_ne.2 h1
      simp [h6, h1, q1]
      cases (s == 0) <;> cases (!u || n) <;> cases (tmB c) <;> cases (decide (0 < c)) <;> rfl
def liveI (f : Fl) : Int := if f.orig.proto = 6 then lifeZ f.state else if f.orig.proto = 1 then 10 else if f.sure then 180 else 30
theorem liveI_eq {f : Fl} (h : rightT f.orig = true) : liveI f = liveF f := by
  have hp : f.orig.proto = 1 ∨ f.orig.proto = 6 ∨ f.orig.proto = 17 := by
    unfold rightT at h
    by_cases h1 : f.orig.proto = 1
    · exact .inl h1
    · simp [h1] at h; omega
  unfold liveI liveF
  rcases hp with e | e | e <;> simp [e]
def tillI (f : Fl) (now : Int) : Int := minN 1000000 (now + liveI f)
theorem tillI_eq {f : Fl} (now : Int) (h : rightT f.orig = true) : tillI f now = tillF f now := by unfold tillI tillF; rw [liveI_eq h]
theorem liveI_bd (f : Fl) : -1 ≤ liveI f ∧ liveI f ≤ 500 := by
  unfold liveI lifeZ
  (repeat' split) <;> omega
def counted (f : Fl) (now : Int) : Fl := { f with till := tillI f now, count := f.count + 1 }
def byB (f : Fl) (b : Bool) : Bool := f.seen && ((f.orig.proto == 6 && f.state == 3) || (f.orig.proto == 17 && !b))
def ledTo (f : Fl) (s : Int) (b : Bool) : Fl := { f with state := s, seen := f.seen || b, sure := f.sure || byB { f with state := s, seen := f.seen || b } b }
def mayB (a g : Tp) : Bool := rightT a && rightT g && a.proto == g.proto && a.kind == g.kind
theorem life_bd (s : Int) : -1 ≤ lifeZ s ∧ lifeZ s ≤ 500 := by
  unfold lifeZ
  (repeat' split) <;> omega
theorem codeN_syn {p : Pk} (h6 : p.proto = 6) (hn : nextZ 0 false (signZ p.flags) < 0) : codeN p = 10 := if_pos ⟨h6, by unfold toZ; rw [if_pos h6]; exact hn⟩
theorem codeN_reply {p : Pk} (h1 : p.proto = 1) (h0 : p.kind = 0) : codeN p = 10 := by unfold codeN; rw [if_neg (by omega), if_pos ⟨h1, h0⟩]
theorem codeN_ok6 {p : Pk} (h6 : p.proto = 6) (hn : ¬ nextZ 0 false (signZ p.flags) < 0) : codeN p = 0 := by
  unfold codeN
  rw [if_neg (fun h => hn (by have := h.2; unfold toZ at this; rwa [if_pos h6] at this)), if_neg (by omega)]
theorem codeN_ok1 {p : Pk} (h1 : p.proto = 1) (h0 : ¬ p.kind = 0) : codeN p = 0 := by unfold codeN; rw [if_neg (by omega), if_neg (by omega)]
theorem codeN_ok {p : Pk} (h6 : ¬ p.proto = 6) (h1 : ¬ p.proto = 1) : codeN p = 0 := by unfold codeN; rw [if_neg (by omega), if_neg (by omega)]
theorem flowN_no {p : Pk} (g : Tp) (now : Int) (h : codeN p = 10) : flowN p g now = zeroFl := if_neg (by omega)
theorem flowN_yes {p : Pk} (g : Tp) (now s : Int) (h : codeN p = 0) (hs : toZ p.proto 0 false p.flags = s) : flowN p g now = ⟨ofP p, invT g, s, false, false, tillF ⟨ofP p, invT g, s, false, false, 0, 1⟩ now, 1⟩ := by
  unfold flowN
  rw [if_pos h]
  unfold newF begin
  rw [hs]
theorem toZ_6 {q s f : Int} {b : Bool} (h : q = 6) : toZ q s b f = nextZ s b (signZ f) := if_pos h
theorem toZ_no {q s f : Int} {b : Bool} (h : ¬ q = 6) : toZ q s b f = 0 := if_neg h
theorem codeX_state {f : Fl} {p : Pk} {b : Bool} (h6 : p.proto = 6) (hn : nextZ f.state b (signZ p.flags) < 0) : codeX f p b = 10 := if_pos ⟨h6, by unfold toZ; rw [if_pos h6]; exact hn⟩
theorem codeX_full {f : Fl} {p : Pk} {b : Bool} (hn : ¬ (p.proto = 6 ∧ toZ p.proto f.state b p.flags < 0)) (hc : f.count = 1000000) : codeX f p b = 9 := by unfold codeX; rw [if_neg hn, if_pos hc]
theorem codeX_ok {f : Fl} {p : Pk} {b : Bool} (hn : ¬ (p.proto = 6 ∧ toZ p.proto f.state b p.flags < 0)) (hc : ¬ f.count = 1000000) : codeX f p b = 0 := by unfold codeX; rw [if_neg hn, if_neg hc]
theorem flowX_no {f : Fl} {p : Pk} {b : Bool} (now : Int) (h : ¬ codeX f p b = 0) : flowX f p b now = zeroFl := if_neg h
theorem flowX_yes {f : Fl} {p : Pk} {b : Bool} (now : Int) (g : Fl) (h : codeX f p b = 0) (hg : led f p b = g) : flowX f p b now = { g with till := tillF g now, count := f.count + 1 } := by
  unfold flowX
  rw [if_pos h]
  unfold nextF
  rw [hg]
end Go.Proofs.YtbhemimhmkgfiaaDoor
