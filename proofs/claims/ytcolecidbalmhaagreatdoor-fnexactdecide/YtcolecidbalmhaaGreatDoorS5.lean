/- Texts of this seat that several laws rest on, laid into one. Conditions: as each theorem states. -/
import Derived.Test.YtcolecidbalmhaaGreatDoorS1
import Derived.Test.YtcolecidbalmhaaGreatDoorS2
import Derived.Test.YtcolecidbalmhaaGreatDoorS3
import Derived.Test.YtcolecidbalmhaaGreatDoorS4
import Derived.Deep.DeepCutAuto
import Derived.Maps.OwnSet
import Derived.Maps.RangeWalk
import Derived.DeepKeys4
namespace Go.Proofs.YtcolecidbalmhaaGreatDoor
open Go.RowKit
set_option maxRecDepth 100000
set_option linter.unusedVariables false

/-- How much of a bound an asking leaves. -/
def szA (q : AskD) (l : Int) : Int := if szP q.ps l < 0 then -1 else if szTP q.ts (szP q.ps l) < 0 then -1 else if szTP q.ts (szP q.ps l) < q.n.size then -1 else szTP q.ts (szP q.ps l) - q.n.size
theorem szP_neg {ps : List PinD} {l : Int} (h0 : 0 ≤ l) (h : szP ps l < 0) : szP ps l = -1 := by
  unfold szP at h ⊢
  split
  · rfl
  · rw [if_neg ‹_›] at h
    have := (szL_le ps (l - ps.length) (by omega)).2
    omega
theorem szTP_neg {ps : List TlsaD} {l : Int} (h0 : 0 ≤ l) (h : szTP ps l < 0) : szTP ps l = -1 := by
  unfold szTP at h ⊢
  split
  · rfl
  · rw [if_neg ‹_›] at h
    have := (szTL_le ps (l - ps.length) (by omega)).2
    omega
theorem szA_ok {q : AskD} {l : Int} (h : 0 ≤ szA q l) : 0 ≤ szP q.ps l ∧ 0 ≤ szTP q.ts (szP q.ps l) ∧ (q.n.size : Int) ≤ szTP q.ts (szP q.ps l) := by
  unfold szA at h
  split at h
  · omega
  split at h
  · omega
  split at h
  · omega
  exact ⟨by omega, by omega, by omega⟩
theorem szA_neg {q : AskD} {l : Int} (h : szA q l < 0) : szA q l = -1 := by
  unfold szA at h ⊢
  repeat' split
  all_goals first | rfl | skip
  rw [if_neg ‹_›, if_neg ‹_›, if_neg ‹_›] at h
  omega
/-- It is not too great. -/
structure SmallA (q : AskD) : Prop where
  ps : q.ps.length ≤ 1048576
  ts : q.ts.length ≤ 1048576
theorem szA_small {q : AskD} {l : Int} (hl : l ≤ 1048576) (h : 0 ≤ szA q l) : SmallA q := by
  obtain ⟨h1, h2, _⟩ := szA_ok h
  obtain ⟨a, _, b⟩ := szP_ok h1
  obtain ⟨c, _, _⟩ := szTP_ok h2
  exact ⟨by omega, by omega⟩
theorem szAsk_any (a1 : Option Addr) (n1 c1 : Nat) (a2 : Option Addr) (n2 c2 B : Nat) (q : AskD) (l : Int) (w : World) (h : ARow w B a1 n1 c1 a2 n2 c2 q) (hB : B ≤ w.heap.size) (l0 : 0 ≤ l) (l1 : l ≤ 1048576) :
    Calls Tryz.prog 60 #[A6 a1 n1 c1 a2 n2 c2 q, .int .i64 l] w fun r w' => r = .returned (.int .i64 (szA q l)) ∧ Below w.heap.size w w' := by
  obtain ⟨f, ps, ts, n, p, t⟩ := q
  have b0 := bal (Below.refl _ w) (.cells #[.bool f, .slice a1 n1 c1, .slice a2 n2 c2, .string n, .int .i64 p, .int .i64 t] 99)
  have A0 : At w.heap.size [.bool f, .slice a1 n1 c1, .slice a2 n2 c2, .string n, .int .i64 p, .int .i64 t] (w.alloc (.cells #[.bool f, .slice a1 n1 c1, .slice a2 n2 c2, .string n, .int .i64 p, .int .i64 t] 99)) := At.new w [.bool f, .slice a1 n1 c1, .slice a2 n2 c2, .string n, .int .i64 p, .int .i64 t] 99
  have P := szPinS_any a1 n1 c1 B ps l _ (h.ps.below (b0.mono hB)) (Nat.le_trans hB b0.size) l0 l1
  have hn := h.nm
  dsimp only at hn
  unfold maxLen at hn
  by_cases h1 : szP ps l < 0
  · have e : szA ⟨f, ps, ts, n, p, t⟩ l = -1 := by unfold szA; rw [if_pos h1]
    rw [e]
    rw [szP_neg l0 h1] at P
    clear e h h1
    go_enter Tryz.func60, Tryz.ntmps60
    go_wp2_with fail
    generalize w.alloc (.cells #[.bool f, .slice a1 n1 c1, .slice a2 n2 c2, .string n, .int .i64 p, .int .i64 t] 99) = W0 at *
    refine P.mono ?_
    rintro r u1 ⟨rfl, b1⟩
    have B1 := btr b0 b1
    have A1 := A0.on b1
    clear b0 b1 A0
    have d0 := A1.cell 0 _ rfl
    have d1 := A1.cell 1 _ rfl
    have d2 := A1.cell 2 _ rfl
    have d3 := A1.cell 3 _ rfl
    have d4 := A1.cell 4 _ rfl
    have d5 := A1.cell 5 _ rfl
    go_wp2_with fail
    go_ret
    exact ⟨rfl, B1⟩
  have hs1 : szP ps l ≤ l := (szP_ok (by omega)).2.2
  have D := Lib.hid (fun (w' : World) (hb : Below w.heap.size w w') => szTlsaS_any a2 n2 c2 B ts (szP ps l) w' (h.ts.below (hb.mono hB)) (Nat.le_trans hB hb.size) (by omega) (by omega))
  by_cases h2 : szTP ts (szP ps l) < 0
  · have e : szA ⟨f, ps, ts, n, p, t⟩ l = -1 := by unfold szA; rw [if_neg h1, if_pos h2]
    rw [e]
    rw [szTP_neg (by omega) h2] at D
    generalize szP ps l = m at *
    clear e h h2
    go_enter Tryz.func60, Tryz.ntmps60
    go_wp2_with fail
    generalize w.alloc (.cells #[.bool f, .slice a1 n1 c1, .slice a2 n2 c2, .string n, .int .i64 p, .int .i64 t] 99) = W0 at *
    refine P.mono ?_
    rintro r u1 ⟨rfl, b1⟩
    have B1 := btr b0 b1
    have A1 := A0.on b1
    clear b0 b1 A0
    have d0 := A1.cell 0 _ rfl
    have d1 := A1.cell 1 _ rfl
    have d2 := A1.cell 2 _ rfl
    have d3 := A1.cell 3 _ rfl
    have d4 := A1.cell 4 _ rfl
    have d5 := A1.cell 5 _ rfl
    go_wp2_with fail
    refine (D.out _ B1).mono ?_
    rintro r u2 ⟨rfl, b2⟩
    have B2 := btr B1 b2
    have A2 := A1.on b2
    clear B1 A1 b2 d0 d1 d2 d3 d4 d5
    have d0 := A2.cell 0 _ rfl
    have d1 := A2.cell 1 _ rfl
    have d2 := A2.cell 2 _ rfl
    have d3 := A2.cell 3 _ rfl
    have d4 := A2.cell 4 _ rfl
    have d5 := A2.cell 5 _ rfl
    go_wp2_with fail
    go_ret
    exact ⟨rfl, B2⟩
  have hs2 : szTP ts (szP ps l) ≤ szP ps l := (szTP_ok (by omega)).2.2
  by_cases h3 : szTP ts (szP ps l) < n.size
  · have e : szA ⟨f, ps, ts, n, p, t⟩ l = -1 := by unfold szA; rw [if_neg h1, if_neg h2, if_pos h3]
    rw [e]
    generalize szTP ts (szP ps l) = m2 at *
    generalize szP ps l = m at *
    have h3' : m2 - n.size < 0 := by omega
    clear e h
    go_enter Tryz.func60, Tryz.ntmps60
    go_wp2_with fail
    generalize w.alloc (.cells #[.bool f, .slice a1 n1 c1, .slice a2 n2 c2, .string n, .int .i64 p, .int .i64 t] 99) = W0 at *
    refine P.mono ?_
    rintro r u1 ⟨rfl, b1⟩
    have B1 := btr b0 b1
    have A1 := A0.on b1
    clear b0 b1 A0
    have d0 := A1.cell 0 _ rfl
    have d1 := A1.cell 1 _ rfl
    have d2 := A1.cell 2 _ rfl
    have d3 := A1.cell 3 _ rfl
    have d4 := A1.cell 4 _ rfl
    have d5 := A1.cell 5 _ rfl
    go_wp2_with fail
    refine (D.out _ B1).mono ?_
    rintro r u2 ⟨rfl, b2⟩
    have B2 := btr B1 b2
    have A2 := A1.on b2
    clear B1 A1 b2 d0 d1 d2 d3 d4 d5
    have d0 := A2.cell 0 _ rfl
    have d1 := A2.cell 1 _ rfl
    have d2 := A2.cell 2 _ rfl
    have d3 := A2.cell 3 _ rfl
    have d4 := A2.cell 4 _ rfl
    have d5 := A2.cell 5 _ rfl
    go_wp2_with fail
    go_ret
    exact ⟨rfl, B2⟩
  · have e : szA ⟨f, ps, ts, n, p, t⟩ l = szTP ts (szP ps l) - n.size := by unfold szA; rw [if_neg h1, if_neg h2, if_neg h3]
    rw [e]
    generalize szTP ts (szP ps l) = m2 at *
    generalize szP ps l = m at *
    have h3' : ¬ m2 - n.size < 0 := by omega
    clear e h
    go_enter Tryz.func60, Tryz.ntmps60
    go_wp2_with fail
    generalize w.alloc (.cells #[.bool f, .slice a1 n1 c1, .slice a2 n2 c2, .string n, .int .i64 p, .int .i64 t] 99) = W0 at *
    refine P.mono ?_
    rintro r u1 ⟨rfl, b1⟩
    have B1 := btr b0 b1
    have A1 := A0.on b1
    clear b0 b1 A0
    have d0 := A1.cell 0 _ rfl
    have d1 := A1.cell 1 _ rfl
    have d2 := A1.cell 2 _ rfl
    have d3 := A1.cell 3 _ rfl
    have d4 := A1.cell 4 _ rfl
    have d5 := A1.cell 5 _ rfl
    go_wp2_with fail
    refine (D.out _ B1).mono ?_
    rintro r u2 ⟨rfl, b2⟩
    have B2 := btr B1 b2
    have A2 := A1.on b2
    clear B1 A1 b2 d0 d1 d2 d3 d4 d5
    have d0 := A2.cell 0 _ rfl
    have d1 := A2.cell 1 _ rfl
    have d2 := A2.cell 2 _ rfl
    have d3 := A2.cell 3 _ rfl
    have d4 := A2.cell 4 _ rfl
    have d5 := A2.cell 5 _ rfl
    go_wp2_with fail
    go_ret
    exact ⟨rfl, B2⟩
/-- An asking was copied. -/
def AskCopied (q : AskD) (w : World) (e : Ending) (w' : World) : Prop :=
  ∃ x1 x2, e = .returned (A6 x1 q.ps.length q.ps.length x2 q.ts.length q.ts.length q) ∧ ARow w' w'.heap.size x1 q.ps.length q.ps.length x2 q.ts.length q.ts.length q ∧ Below w.heap.size w w'
set_option maxHeartbeats 2000000 in
theorem toAsk_any (a1 : Option Addr) (n1 c1 : Nat) (a2 : Option Addr) (n2 c2 B : Nat) (q : AskD) (w : World) (h : ARow w B a1 n1 c1 a2 n2 c2 q) (hB : B ≤ w.heap.size) (hs : SmallA q) :
    Calls Tryz.prog 61 #[A6 a1 n1 c1 a2 n2 c2 q] w (AskCopied q w) := by
  obtain ⟨f, ps, ts, n, p, t⟩ := q
  have b0 := bal (bal (bal (Below.refl _ w) (.cells #[.bool f, .slice a1 n1 c1, .slice a2 n2 c2, .string n, .int .i64 p, .int .i64 t] 99)) (.cells #[.bool false, .slice none 0 0, .slice none 0 0, .string { data := #[] }, .int .i64 0, .int .i64 0] 60)) (.cells #[.bool f, .slice none 0 0, .slice none 0 0, .string { data := #[] }, .int .i64 0, .int .i64 0] 60)
  have A0 : At w.heap.size [.bool f, .slice a1 n1 c1, .slice a2 n2 c2, .string n, .int .i64 p, .int .i64 t] (((w.alloc (.cells #[.bool f, .slice a1 n1 c1, .slice a2 n2 c2, .string n, .int .i64 p, .int .i64 t] 99)).alloc (.cells #[.bool false, .slice none 0 0, .slice none 0 0, .string { data := #[] }, .int .i64 0, .int .i64 0] 60)).alloc (.cells #[.bool f, .slice none 0 0, .slice none 0 0, .string { data := #[] }, .int .i64 0, .int .i64 0] 60)) := ((At.new w [.bool f, .slice a1 n1 c1, .slice a2 n2 c2, .string n, .int .i64 p, .int .i64 t] 99).alloc _).alloc _
  have R0 := (At.new (w.alloc (.cells #[.bool f, .slice a1 n1 c1, .slice a2 n2 c2, .string n, .int .i64 p, .int .i64 t] 99)) [.bool false, .slice none 0 0, .slice none 0 0, .string { data := #[] }, .int .i64 0, .int .i64 0] 60).alloc (.cells #[.bool f, .slice none 0 0, .slice none 0 0, .string { data := #[] }, .int .i64 0, .int .i64 0] 60)
  have D0 := At.new ((w.alloc (.cells #[.bool f, .slice a1 n1 c1, .slice a2 n2 c2, .string n, .int .i64 p, .int .i64 t] 99)).alloc (.cells #[.bool false, .slice none 0 0, .slice none 0 0, .string { data := #[] }, .int .i64 0, .int .i64 0] 60)) [.bool f, .slice none 0 0, .slice none 0 0, .string { data := #[] }, .int .i64 0, .int .i64 0] 60
  rw [World.size_alloc] at R0
  rw [World.size_alloc, World.size_alloc] at D0
  have l1 := h.ps.length
  have l2 := h.ts.length
  have g1 := hs.ps
  have g2 := hs.ts
  dsimp only at l1 l2 g1 g2
  have HNP := Lib.hid h.ps.names
  have HNT := Lib.hid h.ts.names
  have HNN := Lib.hid h.nm
  have P := toPinS_any a1 n1 c1 B ps _ (h.ps.below (b0.mono hB)) (Nat.le_trans hB b0.size) (by omega)
  have D := Lib.hid (fun (w' : World) (hb : Below w.heap.size w w') => toTlsaS_any a2 n2 c2 B ts w' (h.ts.below (hb.mono hB)) (Nat.le_trans hB hb.size) (by omega))
  have HS := Lib.hid (show AskCopied ⟨f, ps, ts, n, p, t⟩ w = fun e w' => ∃ x1 x2, e = .returned (.agg #[.bool f, .slice x1 n1 n1, .slice x2 n2 n2, .string n, .int .i64 p, .int .i64 t]) ∧ ARow w' w'.heap.size x1 n1 n1 x2 n2 n2 ⟨f, ps, ts, n, p, t⟩ ∧ Below w.heap.size w w' by unfold AskCopied; dsimp only; rw [l1, l2])
  rw [HS.out]
  have HA0 := Lib.hid A0
  have HR0 := Lib.hid (show At (w.heap.size + 1) [.bool false, .slice none 0 0, .slice none 0 0, .string { data := #[] }, .int .i64 0, .int .i64 0] (((w.alloc (.cells #[.bool f, .slice a1 n1 c1, .slice a2 n2 c2, .string n, .int .i64 p, .int .i64 t] 99)).alloc (.cells #[.bool false, .slice none 0 0, .slice none 0 0, .string { data := #[] }, .int .i64 0, .int .i64 0] 60)).alloc (.cells #[.bool f, .slice none 0 0, .slice none 0 0, .string { data := #[] }, .int .i64 0, .int .i64 0] 60)) from R0)
  have HD0 := Lib.hid (show At (w.heap.size + 1 + 1) [.bool f, .slice none 0 0, .slice none 0 0, .string { data := #[] }, .int .i64 0, .int .i64 0] (((w.alloc (.cells #[.bool f, .slice a1 n1 c1, .slice a2 n2 c2, .string n, .int .i64 p, .int .i64 t] 99)).alloc (.cells #[.bool false, .slice none 0 0, .slice none 0 0, .string { data := #[] }, .int .i64 0, .int .i64 0] 60)).alloc (.cells #[.bool f, .slice none 0 0, .slice none 0 0, .string { data := #[] }, .int .i64 0, .int .i64 0] 60)) from D0)
  have HB0 := Lib.hid b0
  clear HS h hs R0 D0 b0 g1 g2 l1 l2
  unfold CopiedP at P
  unfold CopiedT at D
  have d0 := A0.cell 0 _ rfl
  have d1 := A0.cell 1 _ rfl
  have d2 := A0.cell 2 _ rfl
  have d3 := A0.cell 3 _ rfl
  have d4 := A0.cell 4 _ rfl
  have d5 := A0.cell 5 _ rfl
  clear A0
  go_enter Tryz.func61, Tryz.ntmps61
  go_wp2_with fail
  generalize ((w.alloc (.cells #[.bool f, .slice a1 n1 c1, .slice a2 n2 c2, .string n, .int .i64 p, .int .i64 t] 99)).alloc (.cells #[.bool false, .slice none 0 0, .slice none 0 0, .string { data := #[] }, .int .i64 0, .int .i64 0] 60)).alloc (.cells #[.bool f, .slice none 0 0, .slice none 0 0, .string { data := #[] }, .int .i64 0, .int .i64 0] 60) = W0 at *
  refine P.mono ?_
  rintro r u1 ⟨rfl, O1, b1⟩
  have hz0 : w.heap.size + 1 + 1 < W0.heap.size := HD0.out.lt (by simp)
  have lt1 : W0.heap.size ≤ u1.heap.size := b1.size
  have A1 := HA0.out.on b1
  have D1 := HD0.out.on b1
  clear d0 d1 d2 d3 d4 d5 P
  have d0 := A1.cell 0 _ rfl
  have d1 := A1.cell 1 _ rfl
  have d2 := A1.cell 2 _ rfl
  have d3 := A1.cell 3 _ rfl
  have d4 := A1.cell 4 _ rfl
  have d5 := A1.cell 5 _ rfl
  have p0 := D1.cell 0 _ rfl
  have p1 := D1.cell 1 _ rfl
  have p2 := D1.cell 2 _ rfl
  have p3 := D1.cell 3 _ rfl
  have p4 := D1.cell 4 _ rfl
  have p5 := D1.cell 5 _ rfl
  have z0 := D1.free 0 _ rfl
  have z1 := D1.free 1 _ rfl
  have z2 := D1.free 2 _ rfl
  have z3 := D1.free 3 _ rfl
  have z4 := D1.free 4 _ rfl
  have z5 := D1.free 5 _ rfl
  have A2 := A1.setB (p := ⟨w.heap.size + 1 + 1, 1, none⟩) (by show w.heap.size ≠ w.heap.size + 1 + 1; omega) (.slice (some ⟨W0.heap.size, 0, none⟩) n1 n1)
  have R2 := (HR0.out.on b1).setB (p := ⟨w.heap.size + 1 + 1, 1, none⟩) (by show w.heap.size + 1 ≠ w.heap.size + 1 + 1; omega) (.slice (some ⟨W0.heap.size, 0, none⟩) n1 n1)
  have D2 := D1.set 1 (.slice (some ⟨W0.heap.size, 0, none⟩) n1 n1)
  have O2 : OwnP (u1.setCell ⟨w.heap.size + 1 + 1, 1, none⟩ (.slice (some ⟨W0.heap.size, 0, none⟩) n1 n1)) W0.heap.size (.slice (some ⟨W0.heap.size, 0, none⟩) n1 n1) ps := Own.setCell O1 (fun k e => by have := (Own.lt O1 k e).1; show k ≠ w.heap.size + 1 + 1; omega) _
  have B2 : Below w.heap.size w (u1.setCell ⟨w.heap.size + 1 + 1, 1, none⟩ (.slice (some ⟨W0.heap.size, 0, none⟩) n1 n1)) := bset (btr HB0.out b1) (by show w.heap.size ≤ w.heap.size + 1 + 1; omega) _
  have hs2 : (u1.setCell ⟨w.heap.size + 1 + 1, 1, none⟩ (.slice (some ⟨W0.heap.size, 0, none⟩) n1 n1)).heap.size = u1.heap.size := by simp [World.setCell]
  have HA2 := Lib.hid A2
  have HR2 := Lib.hid R2
  have HD2 := Lib.hid D2
  have HO2 := Lib.hid O2
  have HB2 := Lib.hid B2
  have HS2 := Lib.hid hs2
  have ne1 : w.heap.size ≠ w.heap.size + 1 + 1 := by omega
  clear A1 D1 A2 R2 D2 O2 B2 hs2 O1 b1 HA0 HR0 HD0 HB0
  go_upto_region 4 with fail
  generalize u1.setCell ⟨w.heap.size + 1 + 1, 1, none⟩ (.slice (some ⟨W0.heap.size, 0, none⟩) n1 n1) = W2 at *
  have hlo : W0.heap.size ≤ W2.heap.size := by have := HS2.out; omega
  clear d0 d1 d2 d3 d4 d5 p0 p1 p2 p3 p4 p5 z0 z1 z2 z3 z4 z5
  have d0 := HA2.out.cell 0 _ rfl
  have d1 := HA2.out.cell 1 _ rfl
  have d2 := HA2.out.cell 2 _ rfl
  have d3 := HA2.out.cell 3 _ rfl
  have d4 := HA2.out.cell 4 _ rfl
  have d5 := HA2.out.cell 5 _ rfl
  go_wp2_with fail
  refine (D.out _ HB2.out).mono ?_
  rintro r u3 ⟨rfl, O3, b3⟩
  have A3 := HA2.out.on b3
  have R3 := HR2.out.on b3
  have D3 := HD2.out.on b3
  have HB3 := Lib.hid (btr HB2.out b3)
  have HO3 := Lib.hid O3
  have HOP := Lib.hid (OwnP.below HO2.out b3)
  clear HA2 HR2 HD2 HB2 HO2 HS2 b3 O3 d0 d1 d2 d3 d4 d5 D
  have D3' : At (w.heap.size + 1 + 1) [.bool f, .slice (some ⟨W0.heap.size, 0, none⟩) n1 n1, .slice none 0 0, .string { data := #[] }, .int .i64 0, .int .i64 0] u3 := D3
  have d0 := A3.cell 0 _ rfl
  have d1 := A3.cell 1 _ rfl
  have d2 := A3.cell 2 _ rfl
  have d3 := A3.cell 3 _ rfl
  have d4 := A3.cell 4 _ rfl
  have d5 := A3.cell 5 _ rfl
  have p0 := D3'.cell 0 _ rfl
  have p1 := D3'.cell 1 _ rfl
  have p2 := D3'.cell 2 _ rfl
  have p3 := D3'.cell 3 _ rfl
  have p4 := D3'.cell 4 _ rfl
  have p5 := D3'.cell 5 _ rfl
  have z0 := D3'.free 0 _ rfl
  have z1 := D3'.free 1 _ rfl
  have z2 := D3'.free 2 _ rfl
  have z3 := D3'.free 3 _ rfl
  have z4 := D3'.free 4 _ rfl
  have z5 := D3'.free 5 _ rfl
  have q0 := R3.cell 0 _ rfl
  have q1 := R3.cell 1 _ rfl
  have q2 := R3.cell 2 _ rfl
  have q3 := R3.cell 3 _ rfl
  have q4 := R3.cell 4 _ rfl
  have q5 := R3.cell 5 _ rfl
  have y0 := R3.free 0 _ rfl
  have y1 := R3.free 1 _ rfl
  have y2 := R3.free 2 _ rfl
  have y3 := R3.free 3 _ rfl
  have y4 := R3.free 4 _ rfl
  have y5 := R3.free 5 _ rfl
  have ne2 : w.heap.size + 1 ≠ w.heap.size + 1 + 1 := by omega
  clear A3 R3 D3 D3'
  go_wp2_with fail
  refine bodyPost_ret (v := .agg #[.bool f, .slice (some ⟨W0.heap.size, 0, none⟩) n1 n1, .slice (some ⟨W2.heap.size, 0, none⟩) n2 n2, .string n, .int .i64 p, .int .i64 t]) (by simp [results, Tryz.results61, go_sem, q0, q1, q2, q3, q4, q5]) rfl ⟨_, _, rfl, ⟨?_, ?_, HNN.out⟩, ?_⟩
  · refine OwnP.row (B := W0.heap.size) ?_ HNP.out
    iterate 10 (refine Own.setCell ?_ (fun k e => by have := (Own.lt HOP.out k e).1; dsimp only; omega) _)
    exact HOP.out
  · refine OwnT.row (B := W2.heap.size) ?_ HNT.out
    iterate 10 (refine Own.setCell ?_ (fun k e => by have := (Own.lt HO3.out k e).1; dsimp only; omega) _)
    exact HO3.out
  · iterate 10 (refine bset ?_ (by dsimp only; omega) _)
    exact HB3.out
set_option maxHeartbeats 2000000 in
theorem eqAsk_any (a1 b1 : Option Addr) (n1 c1 d1 : Nat) (a2 b2 : Option Addr) (n2 c2 d2 B : Nat) (q : AskD) (w : World) (h : ARow w B a1 n1 c1 a2 n2 c2 q) (g : ARow w B b1 n1 d1 b2 n2 d2 q) (hB : B ≤ w.heap.size) :
    Calls Tryz.prog 63 #[A6 a1 n1 c1 a2 n2 c2 q, A6 b1 n1 d1 b2 n2 d2 q] w fun e w' => e = .returned (.bool true) ∧ Below w.heap.size w w' := by
  obtain ⟨f, ps, ts, n, p, t⟩ := q
  have b0 := bal (bal (Below.refl _ w) (.cells #[.bool f, .slice a1 n1 c1, .slice a2 n2 c2, .string n, .int .i64 p, .int .i64 t] 60)) (.cells #[.bool f, .slice b1 n1 d1, .slice b2 n2 d2, .string n, .int .i64 p, .int .i64 t] 60)
  have A0 : At w.heap.size [.bool f, .slice a1 n1 c1, .slice a2 n2 c2, .string n, .int .i64 p, .int .i64 t] ((w.alloc (.cells #[.bool f, .slice a1 n1 c1, .slice a2 n2 c2, .string n, .int .i64 p, .int .i64 t] 60)).alloc (.cells #[.bool f, .slice b1 n1 d1, .slice b2 n2 d2, .string n, .int .i64 p, .int .i64 t] 60)) := (At.new w [.bool f, .slice a1 n1 c1, .slice a2 n2 c2, .string n, .int .i64 p, .int .i64 t] 60).alloc _
  have A1 := At.new (w.alloc (.cells #[.bool f, .slice a1 n1 c1, .slice a2 n2 c2, .string n, .int .i64 p, .int .i64 t] 60)) [.bool f, .slice b1 n1 d1, .slice b2 n2 d2, .string n, .int .i64 p, .int .i64 t] 60
  rw [World.size_alloc] at A1
  have EP := eqPinS_any a1 b1 n1 c1 d1 B ps _ (h.ps.below (b0.mono hB)) (g.ps.below (b0.mono hB)) (Nat.le_trans hB b0.size)
  have D := Lib.hid (fun (w' : World) (hb : Below w.heap.size w w') => eqTlsaS_any a2 b2 n2 c2 d2 B ts w' (h.ts.below (hb.mono hB)) (g.ts.below (hb.mono hB)) (Nat.le_trans hB hb.size))
  have HA0 := Lib.hid A0
  have HA1 := Lib.hid (show At (w.heap.size + 1) [.bool f, .slice b1 n1 d1, .slice b2 n2 d2, .string n, .int .i64 p, .int .i64 t] ((w.alloc (.cells #[.bool f, .slice a1 n1 c1, .slice a2 n2 c2, .string n, .int .i64 p, .int .i64 t] 60)).alloc (.cells #[.bool f, .slice b1 n1 d1, .slice b2 n2 d2, .string n, .int .i64 p, .int .i64 t] 60)) from A1)
  have HB0 := Lib.hid b0
  clear h g A0 A1 b0
  cases f
  all_goals
    go_enter Tryz.func63, Tryz.ntmps63
    have p0 := HA0.out.cell 0 _ rfl
    have p1 := HA0.out.cell 1 _ rfl
    have p2 := HA0.out.cell 2 _ rfl
    have p3 := HA0.out.cell 3 _ rfl
    have p4 := HA0.out.cell 4 _ rfl
    have p5 := HA0.out.cell 5 _ rfl
    have q0 := HA1.out.cell 0 _ rfl
    have q1 := HA1.out.cell 1 _ rfl
    have q2 := HA1.out.cell 2 _ rfl
    have q3 := HA1.out.cell 3 _ rfl
    have q4 := HA1.out.cell 4 _ rfl
    have q5 := HA1.out.cell 5 _ rfl
    go_wp2_with fail
    generalize (w.alloc (.cells #[.bool _, .slice a1 n1 c1, .slice a2 n2 c2, .string n, .int .i64 p, .int .i64 t] 60)).alloc (.cells #[.bool _, .slice b1 n1 d1, .slice b2 n2 d2, .string n, .int .i64 p, .int .i64 t] 60) = W0 at *
    refine EP.mono ?_
    rintro r u1 ⟨rfl, e1⟩
    have X0 := HA0.out.on e1
    have X1 := HA1.out.on e1
    have HB1 := Lib.hid (btr HB0.out e1)
    clear p0 p1 p2 p3 p4 p5 q0 q1 q2 q3 q4 q5 EP e1 HA0 HA1 HB0
    have p0 := X0.cell 0 _ rfl
    have p1 := X0.cell 1 _ rfl
    have p2 := X0.cell 2 _ rfl
    have p3 := X0.cell 3 _ rfl
    have p4 := X0.cell 4 _ rfl
    have p5 := X0.cell 5 _ rfl
    have q0 := X1.cell 0 _ rfl
    have q1 := X1.cell 1 _ rfl
    have q2 := X1.cell 2 _ rfl
    have q3 := X1.cell 3 _ rfl
    have q4 := X1.cell 4 _ rfl
    have q5 := X1.cell 5 _ rfl
    go_wp2_with fail
    refine (D.out _ HB1.out).mono ?_
    rintro r u2 ⟨rfl, e2⟩
    have Y0 := X0.on e2
    have Y1 := X1.on e2
    have HB2 := Lib.hid (btr HB1.out e2)
    clear p0 p1 p2 p3 p4 p5 q0 q1 q2 q3 q4 q5 D e2 X0 X1 HB1
    have p0 := Y0.cell 0 _ rfl
    have p1 := Y0.cell 1 _ rfl
    have p2 := Y0.cell 2 _ rfl
    have p3 := Y0.cell 3 _ rfl
    have p4 := Y0.cell 4 _ rfl
    have p5 := Y0.cell 5 _ rfl
    have q0 := Y1.cell 0 _ rfl
    have q1 := Y1.cell 1 _ rfl
    have q2 := Y1.cell 2 _ rfl
    have q3 := Y1.cell 3 _ rfl
    have q4 := Y1.cell 4 _ rfl
    have q5 := Y1.cell 5 _ rfl
    clear Y0 Y1
    go_wp2_with fail
    go_ret
    exact ⟨rfl, HB2.out⟩
theorem eqVerdict_any (c : Int) (b : Bool) (r : Int) (w : World) : Calls Tryz.prog 62 #[.agg #[.int .i64 c, .bool b, .int .i64 r], .agg #[.int .i64 c, .bool b, .int .i64 r]] w fun e w' => e = .returned (.bool true) ∧ Below w.heap.size w w' := by
  have b0 := bal (bal (Below.refl _ w) (.cells #[.int .i64 c, .bool b, .int .i64 r] 63)) (.cells #[.int .i64 c, .bool b, .int .i64 r] 63)
  cases b
  all_goals
    go_enter Tryz.func62, Tryz.ntmps62
    go_wp2_with fail
    go_ret
    exact ⟨rfl, b0⟩
end Go.Proofs.YtcolecidbalmhaaGreatDoor
namespace Go.Proofs.YtcolecidbalmhaaGreatDoor
open Go.RowKit Go.Maps Go.WideShapes
open Go.ChangeMaps (putKey delKey notKey)
set_option maxRecDepth 100000
set_option linter.unusedVariables false

/-- How a pin in a map reads. -/
def pinR (v : Value) : Option (DataW PinD × List MemPlace) :=
  match v with
  | .agg cs => match cs.toList with
    | [.string n, .int .i64 a, .int .i64 b, .int .i64 e, .int .i64 u] => some (.held ⟨n, a, b, e, u⟩, [])
    | _ => none
  | _ => none
theorem pinR_mk (p : PinD) : pinR (P5 p) = some (.held p, []) := rfl
theorem pinR_inv {v : Value} {y : DataW PinD × List MemPlace} (h : pinR v = some y) : ∃ p, v = P5 p ∧ y = (.held p, []) := by
  unfold pinR at h
  split at h
  · rename_i cs
    split at h
    · rename_i n a b e u hcs
      injection h with h
      refine ⟨⟨n, a, b, e, u⟩, ?_, h.symm⟩
      have : cs = #[.string n, .int .i64 a, .int .i64 b, .int .i64 e, .int .i64 u] := by
        rw [← Array.toList_inj, hcs]
      rw [this]
    · cases h
  · cases h
def ent (p : PinD) : Lit × DataW PinD := (.string p.nm, .held p)
theorem same_str (x y : List UInt8) : (Lit.string x).sameKey (.string y) = decide (x = y) := by
  show (x == y) = decide (x = y)
  by_cases e : x = y <;> simp [e]
abbrev Apart (ps : List PinD) : Prop := ps.Pairwise fun p q => p.nm ≠ q.nm
theorem Rise.apart {ps : List PinD} (h : Rise ps) : Apart ps := h.imp fun h => nlt_ne h
theorem apart_inj : ∀ {ps : List PinD}, Apart ps → ∀ {p q : PinD}, p ∈ ps → q ∈ ps → p.nm = q.nm → p = q
  | [], _, _, _, h, _, _ => by cases h
  | x :: r, hr, p, q, hp, hq, e => by
    obtain ⟨h1, h2⟩ := List.pairwise_cons.1 hr
    rcases List.mem_cons.1 hp with rfl | hp'
    · rcases List.mem_cons.1 hq with rfl | hq'
      · rfl
      · exact absurd e (h1 q hq')
    · rcases List.mem_cons.1 hq with rfl | hq'
      · exact absurd e.symm (h1 p hp')
      · exact apart_inj h2 hp' hq' e
/-- The map holds just those pins, each at its name. -/
def MapIs (D : DataW PinD) (ps : List PinD) : Prop := ∃ es, D = .map es ∧ es.Perm (ps.map ent)
theorem MapIs.nil : MapIs (.map []) [] := ⟨[], rfl, .refl _⟩
theorem MapIs.has {D : DataW PinD} {ps : List PinD} (h : MapIs D ps) (l : List UInt8) : Maps.has D (.string l) = (findP ps l).isSome := by
  obtain ⟨es, rfl, hp⟩ := h
  rw [Maps.has_eq, Bool.eq_iff_iff, List.any_eq_true]
  unfold findP
  rw [List.find?_isSome]
  constructor
  · rintro ⟨x, hx, hs⟩
    obtain ⟨p, hpm, rfl⟩ := List.mem_map.1 (hp.mem_iff.1 hx)
    exact ⟨p, hpm, by simpa [ent, same_str] using hs⟩
  · rintro ⟨p, hpm, hs⟩
    exact ⟨ent p, hp.mem_iff.2 (List.mem_map.2 ⟨p, hpm, rfl⟩), by simpa [ent, same_str] using hs⟩
theorem MapIs.at' {D : DataW PinD} {ps : List PinD} (h : MapIs D ps) (ha : Apart ps) (l : List UInt8) : D.atKey (.string l) (.held pin0) = .held ((findP ps l).getD pin0) := by
  obtain ⟨es, rfl, hp⟩ := h
  unfold DataW.atKey
  cases hf : es.find? (fun p => p.1.sameKey (.string l)) with
  | none =>
    have : findP ps l = none := by
      unfold findP
      rw [List.find?_eq_none]
      intro p hpm
      have := List.find?_eq_none.1 hf (ent p) (hp.mem_iff.2 (List.mem_map.2 ⟨p, hpm, rfl⟩))
      simpa [ent, same_str] using this
    simp only [hf]
    rw [this]
    rfl
  | some x =>
    have hx := List.mem_of_find?_eq_some hf
    have hs := List.find?_some hf
    obtain ⟨p, hpm, rfl⟩ := List.mem_map.1 (hp.mem_iff.1 hx)
    have hl : p.nm = l := by simpa [ent, same_str] using hs
    have : findP ps l = some p := by
      cases hq : findP ps l with
      | none => exact absurd hl (findP_none hq p hpm)
      | some q =>
        obtain ⟨q1, q2⟩ := findP_mem hq
        rw [apart_inj ha q1 hpm (q2.trans hl.symm)]
    simp only [hf]
    rw [this]
    rfl
theorem MapIs.put {D : DataW PinD} {ps : List PinD} (h : MapIs D ps) {p : PinD} (hn : ∀ q ∈ ps, q.nm ≠ p.nm) : MapIs (D.put (.string p.nm) (.held p)) (ps ++ [p]) := by
  obtain ⟨es, rfl, hp⟩ := h
  refine ⟨_, DataW.put_eq _ _ _, ?_⟩
  unfold putKey
  have hf : es.filter (notKey (.string p.nm)) = es := by
    refine List.filter_eq_self.2 fun x hx => ?_
    obtain ⟨q, hq, rfl⟩ := List.mem_map.1 (hp.mem_iff.1 hx)
    have := hn q hq
    simp [notKey, ent, same_str, this]
  have e : delKey (.string p.nm) es = es := hf
  refine (insert_perm _ _).trans ?_
  rw [List.map_append]
  have h1 : ((Lit.string p.nm, DataW.held p) :: es.filter (notKey (.string p.nm))).Perm (ent p :: ps.map ent) := by
    rw [hf]
    exact hp.cons _
  exact h1.trans (List.perm_append_singleton _ _).symm
theorem MapIs.del {D : DataW PinD} {ps : List PinD} (h : MapIs D ps) (l : List UInt8) : MapIs (D.del (.string l)) (ps.filter fun q => !decide (q.nm = l)) := by
  obtain ⟨es, rfl, hp⟩ := h
  refine ⟨_, DataW.del_eq _ _, ?_⟩
  have e : ((ps.map ent).filter (notKey (.string l))) = (ps.filter fun q => !decide (q.nm = l)).map ent := by
    rw [List.filter_map]
    congr 1
    refine List.filter_congr fun q _ => ?_
    simp [notKey, ent, same_str]
  rw [← e]
  exact hp.filter _
theorem MapIs.size {D : DataW PinD} {ps : List PinD} (h : MapIs D ps) : Maps.size D = ps.length := by
  obtain ⟨es, rfl, hp⟩ := h
  rw [Maps.size_eq, hp.length_eq, List.length_map]

/-- Block b is a map of pins: those of ps. -/
structure PMap (w : World) (b : Nat) (ps : List PinD) : Prop where
  own : ∃ D, w.ownsMap Tryz.prog 9 pinR b ps.length D ∧ MapIs D ps
  apart : Apart ps
theorem str_law : Keyed Tryz.prog 9 := string_keyed Tryz.underlying9
theorem key_str {s : ByteArray} (h : s.size ≤ maxLen) : keyOf Tryz.prog 9 (.string s) = some (.string s.data.toList) := WideMaps.keyOf_string_mk Tryz.underlying9 h
section
variable {w w' : World} {b : Nat} {ps : List PinD}
theorem map_fit {n : Nat} {D : DataW PinD} (h : w.ownsMap Tryz.prog 9 pinR b n D) (hm : MapIs D ps) : w.ownsMap Tryz.prog 9 pinR b ps.length D := by
  have hz := hm.size
  obtain ⟨es, c, hb, F, hs, rfl⟩ := h
  refine ⟨es, c, hb, F, ?_, rfl⟩
  rw [← hz]
  simp [Maps.size, length_sorted]
theorem PMap.lt (h : PMap w b ps) : b < w.heap.size := by
  obtain ⟨D, ho, _⟩ := h.own
  exact ho.lt
theorem PMap.keep (h : PMap w b ps) (hk : w'.heap[b]? = w.heap[b]?) : PMap w' b ps := by
  obtain ⟨D, ⟨es, c, hb, r⟩, hm⟩ := h.own
  exact ⟨⟨D, ⟨es, c, hk.trans hb, r⟩, hm⟩, h.apart⟩
theorem PMap.on (h : PMap w b ps) (hb : Below w.heap.size w w') : PMap w' b ps := h.keep (hb.block b h.lt)
theorem PMap.alloc (h : PMap w b ps) (o : Obj) : PMap (w.alloc o) b ps := h.on (bal (Below.refl _ _) o)
theorem PMap.new (w : World) : PMap (w.alloc (.map #[] 0)) w.heap.size [] := ⟨⟨_, World.ownsMap_made w _ _ _, MapIs.nil⟩, .nil⟩
theorem PMap.look (h : PMap w b ps) {s : ByteArray} (hs : s.size ≤ maxLen) :
    (Instr.lookup 134 (.map (some b)) (.string s) true).run Tryz.prog w = .ok (.tuple #[P5 ((findP ps s.data.toList).getD pin0), .bool (findP ps s.data.toList).isSome]) w := by
  obtain ⟨D, ho, hm⟩ := h.own
  obtain ⟨v, z, hrun, hv⟩ := ho.look_ok str_law Tryz.underlying134 (z := P5 pin0) (by kernel_rfl) (pinR_mk pin0) (key_str hs)
  rw [hm.at' h.apart] at hv
  obtain ⟨p, rfl, e⟩ := pinR_inv hv
  injection e with e1 e2
  injection e1 with e1
  rw [hm.has] at hrun
  rw [hrun, e1]
theorem PMap.len (h : PMap w b ps) (ty : TypeId) : (Builtin.len_ #[134] ty #[.map (some b)]).run Tryz.prog w = .ok (.int .i64 ps.length) w := by
  obtain ⟨D, ho, hm⟩ := h.own
  rw [ho.len Tryz.underlying134 ty, hm.size]
theorem PMap.drop (h : PMap w b ps) {s : ByteArray} (hs : s.size ≤ maxLen) (ty : TypeId) :
    ∃ w', (Builtin.delete_ #[134, 9] ty #[.map (some b), .string s]).run Tryz.prog w = .ok (.tuple #[]) w' ∧ PMap w' b (ps.filter fun q => !decide (q.nm = s.data.toList)) ∧ w.mapTurned w' b := by
  obtain ⟨D, ho, hm⟩ := h.own
  obtain ⟨w', hrun, h1, h2⟩ := ho.drop str_law Tryz.underlying134 (key_str hs) ty
  exact ⟨w', hrun, ⟨⟨_, map_fit h1 (hm.del _), hm.del _⟩, h.apart.filter _⟩, h2⟩
theorem PMap.store (h : PMap w b ps) {p : PinD} (hl : ps.length ≤ 1000) (hs : p.n.size ≤ maxLen) (hn : ∀ q ∈ ps, q.nm ≠ p.nm) :
    ∃ w', (Instr.mapUpdate 134 (.map (some b)) (.string p.n) (P5 p)).run Tryz.prog w = .ok () w' ∧ PMap w' b (ps ++ [p]) ∧ w.mapTurned w' b := by
  obtain ⟨D, ho, hm⟩ := h.own
  obtain ⟨w', hrun, h1, h2⟩ := ho.store str_law Tryz.underlying134 (by simp only [maxLen]; omega) (key_str hs) (pinR_mk p)
  refine ⟨w', hrun, ⟨⟨_, map_fit h1 (hm.put hn), hm.put hn⟩, ?_⟩, h2⟩
  exact List.pairwise_append.2 ⟨h.apart, by simp, fun q hq r hr => by simp at hr; subst hr; exact hn q hq⟩
theorem turned_below {W : World} (h : w.mapTurned w' b) (hb : Below W.heap.size W w) (hB : W.heap.size ≤ b) : Below W.heap.size W w' := hb.grown h.grown hb.size (fun k e => by injection e with e; subst e; exact hB)
end
end Go.Proofs.YtcolecidbalmhaaGreatDoor
namespace Go.Proofs.YtcolecidbalmhaaGreatDoor
open Go.RowKit Go.Maps Go.WideShapes
open Go.ChangeMaps (putKey delKey notKey)
set_option maxRecDepth 100000
set_option linter.unusedVariables false

abbrev KeyOk (k : ByteArray × Int) : Prop := k.1.size ≤ maxLen ∧ (Lit.int .i64 k.2).wf = true
/-- How a key of a name reads. -/
def keyC (k : ByteArray × Int) : List UInt8 := keyBytes [.string k.1.data.toList, .int .i64 k.2]
theorem keyC_inj {k l : ByteArray × Int} (hk : KeyOk k) (hl : KeyOk l) (h : keyC k = keyC l) : k = l := by
  have h1 : k.1.data.toList.length ≤ maxLen := by have := hk.1; simpa using this
  have h2 : l.1.data.toList.length ≤ maxLen := by have := hl.1; simpa using this
  have e := keyBytes_inj (l := [.string k.1.data.toList, .int .i64 k.2]) (l' := [.string l.1.data.toList, .int .i64 l.2]) ⟨trivial, rfl, trivial⟩ (by
    intro a ha
    simp only [List.mem_cons, List.not_mem_nil, or_false] at ha
    rcases ha with rfl | rfl
    · exact h1
    · exact hk.2) (by
    intro a ha
    simp only [List.mem_cons, List.not_mem_nil, or_false] at ha
    rcases ha with rfl | rfl
    · exact h2
    · exact hl.2) h
  simp only [List.cons.injEq, Lit.string.injEq, Lit.int.injEq, and_true, true_and] at e
  obtain ⟨e1, e2⟩ := e
  have e3 := nm_inj e1
  obtain ⟨a, b⟩ := k
  obtain ⟨c, d⟩ := l
  simp only at e2 e3
  rw [e2, e3]
theorem claim_deep : Tryz.prog.keyTypeAt 3 279 = true := by kernel_rfl
theorem claim_type : Tryz.prog.keyType 279 = true := by kernel_rfl
theorem claim_wide : (match Tryz.prog.underlying 279 with | some (.array _ _) | some (.struct _) => true | _ => false) = true := by kernel_rfl
theorem claim_law : Keyed Tryz.prog 279 := Keyed.of_law (deep_law_laid (by kernel_rfl) (m := 3) (by omega) (of_decide_eq_true (by kernel_rfl)) claim_deep claim_wide)
theorem claim_cells : Tryz.prog.cellsOf 279 = 2 := by kernel_rfl
theorem key_claim {k : ByteArray × Int} (hk : KeyOk k) : keyOf Tryz.prog 279 (.agg #[.string k.1, .int .i64 k.2]) = some (.string (keyC k)) := by
  obtain ⟨h1, h2⟩ := hk
  obtain ⟨m, hm⟩ : ∃ m, Tryz.prog.types.size = m + 1 := ⟨Tryz.prog.types.size - 1, by have : 0 < Tryz.prog.types.size := of_decide_eq_true (by kernel_rfl); omega⟩
  have q0 : Tryz.prog.cellsOf 9 = 1 := by kernel_rfl
  have q1 : Tryz.prog.cellsOf 2 = 1 := by kernel_rfl
  unfold keyOf
  simp only [Tryz.underlying279]
  rw [if_pos (by simp [claim_type, Value.formed, Tryz.underlying279, claim_cells]), hm]
  unfold Program.keyLits
  simp only [Tryz.underlying279, Value.cells]
  rw [if_pos (by simp [claim_cells])]
  simp [q0, q1, Program.keyLits, Tryz.underlying9, Tryz.underlying2, h1, h2, keyC]
/-- How a reason in such a map reads. -/
def clmR (v : Value) : Option (DataW Int × List MemPlace) :=
  match v with
  | .int .i64 a => some (.held a, [])
  | _ => none
theorem clmR_mk (a : Int) : clmR (.int .i64 a) = some (.held a, []) := rfl
theorem clmR_inv {v : Value} {y : DataW Int × List MemPlace} (h : clmR v = some y) : ∃ a, v = .int .i64 a ∧ y = (.held a, []) := by
  unfold clmR at h
  split at h
  · rename_i a
    injection h with h
    exact ⟨a, rfl, h.symm⟩
  · cases h
abbrev Clm : Type := (ByteArray × Int) × Int
def entC (e : Clm) : Lit × DataW Int := (.string (keyC e.1), .held e.2)
def MapIsC (D : DataW Int) (es : List Clm) : Prop := ∃ fs, D = .map fs ∧ fs.Perm (es.map entC)
theorem MapIsC.nil : MapIsC (.map []) [] := ⟨[], rfl, .refl _⟩
theorem same_ent {es : List Clm} (ho : ∀ e ∈ es, KeyOk e.1) {k : ByteArray × Int} (hk : KeyOk k) {e : Clm} (he : e ∈ es) : (entC e).1.sameKey (.string (keyC k)) = decide (e.1 = k) := by
  show (Lit.string (keyC e.1)).sameKey (.string (keyC k)) = _
  rw [same_str]
  by_cases h : e.1 = k
  · simp [h]
  · rw [decide_eq_false h, decide_eq_false fun h2 => h (keyC_inj (ho e he) hk h2)]
theorem MapIsC.has {D : DataW Int} {es : List Clm} (h : MapIsC D es) (ho : ∀ e ∈ es, KeyOk e.1) {n : ByteArray} {x : Int} (hk : KeyOk (n, x)) : Maps.has D (.string (keyC (n, x))) = (lookL es n x).isSome := by
  obtain ⟨fs, rfl, hp⟩ := h
  rw [Maps.has_eq, Bool.eq_iff_iff, List.any_eq_true]
  unfold lookL
  rw [Option.isSome_map, List.find?_isSome]
  constructor
  · rintro ⟨y, hy, hs⟩
    obtain ⟨e, he, rfl⟩ := List.mem_map.1 (hp.mem_iff.1 hy)
    exact ⟨e, he, by rw [← same_ent ho hk he]; exact hs⟩
  · rintro ⟨e, he, hs⟩
    exact ⟨entC e, hp.mem_iff.2 (List.mem_map.2 ⟨e, he, rfl⟩), by rw [same_ent ho hk he]; exact hs⟩
theorem apartC_inj : ∀ {es : List Clm}, es.Pairwise (fun p q => p.1 ≠ q.1) → ∀ {p q : Clm}, p ∈ es → q ∈ es → p.1 = q.1 → p = q
  | [], _, _, _, h, _, _ => by cases h
  | x :: r, hr, p, q, hp, hq, e => by
    obtain ⟨h1, h2⟩ := List.pairwise_cons.1 hr
    rcases List.mem_cons.1 hp with rfl | hp'
    · rcases List.mem_cons.1 hq with rfl | hq'
      · rfl
      · exact absurd e (h1 q hq')
    · rcases List.mem_cons.1 hq with rfl | hq'
      · exact absurd e.symm (h1 p hp')
      · exact apartC_inj h2 hp' hq' e
theorem MapIsC.at' {D : DataW Int} {es : List Clm} (h : MapIsC D es) (ho : ∀ e ∈ es, KeyOk e.1) (ha : es.Pairwise (fun p q => p.1 ≠ q.1)) {n : ByteArray} {x : Int} (hk : KeyOk (n, x)) : D.atKey (.string (keyC (n, x))) (.held 0) = .held ((lookL es n x).getD 0) := by
  obtain ⟨fs, rfl, hp⟩ := h
  unfold DataW.atKey
  cases hf : fs.find? (fun p => p.1.sameKey (.string (keyC (n, x)))) with
  | none =>
    have : lookL es n x = none := by
      unfold lookL
      rw [Option.map_eq_none_iff, List.find?_eq_none]
      intro e he
      have := List.find?_eq_none.1 hf (entC e) (hp.mem_iff.2 (List.mem_map.2 ⟨e, he, rfl⟩))
      rw [same_ent ho hk he] at this
      exact this
    simp only [hf]
    rw [this]
    rfl
  | some y =>
    have hy := List.mem_of_find?_eq_some hf
    have hs := List.find?_some hf
    obtain ⟨e, he, rfl⟩ := List.mem_map.1 (hp.mem_iff.1 hy)
    rw [same_ent ho hk he] at hs
    have hl : e.1 = (n, x) := of_decide_eq_true hs
    have : lookL es n x = some e.2 := by
      unfold lookL
      cases hq : es.find? (fun e => decide (e.1 = (n, x))) with
      | none =>
        have := List.find?_eq_none.1 hq e he
        simp [hl] at this
      | some q =>
        have q1 := List.mem_of_find?_eq_some hq
        have q2 : q.1 = (n, x) := of_decide_eq_true (by simpa using List.find?_some hq)
        rw [apartC_inj ha q1 he (q2.trans hl.symm)]
        rfl
    simp only [hf]
    rw [this]
    rfl
theorem MapIsC.put {D : DataW Int} {es : List Clm} (h : MapIsC D es) (ho : ∀ e ∈ es, KeyOk e.1) {e : Clm} (hk : KeyOk e.1) (hn : ∀ q ∈ es, q.1 ≠ e.1) : MapIsC (D.put (.string (keyC e.1)) (.held e.2)) (es ++ [e]) := by
  obtain ⟨fs, rfl, hp⟩ := h
  refine ⟨_, DataW.put_eq _ _ _, ?_⟩
  unfold putKey
  have hf : fs.filter (notKey (.string (keyC e.1))) = fs := by
    refine List.filter_eq_self.2 fun y hy => ?_
    obtain ⟨q, hq, rfl⟩ := List.mem_map.1 (hp.mem_iff.1 hy)
    show (!(entC q).1.sameKey (.string (keyC e.1))) = true
    rw [same_ent ho hk hq, decide_eq_false (hn q hq)]
    rfl
  refine (insert_perm _ _).trans ?_
  rw [List.map_append]
  have h1 : ((Lit.string (keyC e.1), DataW.held e.2) :: fs.filter (notKey (.string (keyC e.1)))).Perm (entC e :: es.map entC) := by
    rw [hf]
    exact hp.cons _
  exact h1.trans (List.perm_append_singleton _ _).symm
theorem MapIsC.size {D : DataW Int} {es : List Clm} (h : MapIsC D es) : Maps.size D = es.length := by
  obtain ⟨fs, rfl, hp⟩ := h
  rw [Maps.size_eq, hp.length_eq, List.length_map]
/-- Block b is a map of names and keys: those of es. -/
structure CMap (w : World) (b : Nat) (es : List Clm) : Prop where
  own : ∃ D, w.ownsMap Tryz.prog 279 clmR b es.length D ∧ MapIsC D es
  apart : es.Pairwise fun p q => p.1 ≠ q.1
  ok : ∀ e ∈ es, KeyOk e.1
section
variable {w w' : World} {b : Nat} {es : List Clm}
theorem mapC_fit {n : Nat} {D : DataW Int} (h : w.ownsMap Tryz.prog 279 clmR b n D) (hm : MapIsC D es) : w.ownsMap Tryz.prog 279 clmR b es.length D := by
  have hz := hm.size
  obtain ⟨fs, c, hb, F, hs, rfl⟩ := h
  refine ⟨fs, c, hb, F, ?_, rfl⟩
  rw [← hz]
  simp [Maps.size, length_sorted]
theorem CMap.lt (h : CMap w b es) : b < w.heap.size := by
  obtain ⟨D, ho, _⟩ := h.own
  exact ho.lt
theorem CMap.keep (h : CMap w b es) (hk : w'.heap[b]? = w.heap[b]?) : CMap w' b es := by
  obtain ⟨D, ⟨fs, c, hb, r⟩, hm⟩ := h.own
  exact ⟨⟨D, ⟨fs, c, hk.trans hb, r⟩, hm⟩, h.apart, h.ok⟩
theorem CMap.on (h : CMap w b es) (hb : Below w.heap.size w w') : CMap w' b es := h.keep (hb.block b h.lt)
theorem CMap.alloc (h : CMap w b es) (o : Obj) : CMap (w.alloc o) b es := h.on (bal (Below.refl _ _) o)
theorem CMap.new (w : World) : CMap (w.alloc (.map #[] 0)) w.heap.size [] := ⟨⟨_, World.ownsMap_made w _ _ _, MapIsC.nil⟩, .nil, by simp⟩
theorem CMap.look (h : CMap w b es) {n : ByteArray} {x : Int} (hk : KeyOk (n, x)) :
    (Instr.lookup 276 (.map (some b)) (.agg #[.string n, .int .i64 x]) true).run Tryz.prog w = .ok (.tuple #[.int .i64 ((lookL es n x).getD 0), .bool (lookL es n x).isSome]) w := by
  obtain ⟨D, ho, hm⟩ := h.own
  obtain ⟨v, z, hrun, hv⟩ := ho.look_ok claim_law Tryz.underlying276 (z := .int .i64 0) (by kernel_rfl) (clmR_mk 0) (key_claim hk)
  rw [hm.at' h.ok h.apart hk] at hv
  obtain ⟨p, rfl, e⟩ := clmR_inv hv
  injection e with e1 e2
  injection e1 with e1
  rw [hm.has h.ok hk] at hrun
  rw [hrun, e1]
theorem CMap.store (h : CMap w b es) {e : Clm} (hl : es.length ≤ 1000) (hk : KeyOk e.1) (hn : ∀ q ∈ es, q.1 ≠ e.1) :
    ∃ w', (Instr.mapUpdate 276 (.map (some b)) (.agg #[.string e.1.1, .int .i64 e.1.2]) (.int .i64 e.2)).run Tryz.prog w = .ok () w' ∧ CMap w' b (es ++ [e]) ∧ w.mapTurned w' b := by
  obtain ⟨D, ho, hm⟩ := h.own
  obtain ⟨w', hrun, h1, h2⟩ := ho.store claim_law Tryz.underlying276 (by simp only [maxLen]; omega) (key_claim hk) (clmR_mk e.2)
  refine ⟨w', hrun, ⟨⟨_, mapC_fit h1 (hm.put h.ok hk hn), hm.put h.ok hk hn⟩, ?_, ?_⟩, h2⟩
  · exact List.pairwise_append.2 ⟨h.apart, by simp, fun q hq r hr => by simp at hr; subst hr; exact hn q hq⟩
  · intro q hq
    rcases List.mem_append.1 hq with hq | hq
    · exact h.ok q hq
    · simp at hq
      subst hq
      exact hk
end
end Go.Proofs.YtcolecidbalmhaaGreatDoor
namespace Go.Proofs.YtcolecidbalmhaaGreatDoor
open Go.RowKit
set_option maxRecDepth 100000
set_option linter.unusedVariables false

theorem isTime_any (v : Int) (w : World) : Calls Tryz.prog 114 #[.int .i64 v] w fun e w' => e = .returned (.bool (timB v)) ∧ w = w' := by
  by_cases h0 : 0 ≤ v
  · by_cases h1 : v ≤ 9999
    · have e : timB v = true := by simp [timB]; omega
      rw [e]
      go_enter Tryz.func114, Tryz.ntmps114
      go_wp2_with fail
      go_ret
      simp
    · have e : timB v = false := by simp [timB]; omega
      rw [e]
      go_enter Tryz.func114, Tryz.ntmps114
      go_wp2_with fail
      go_ret
      simp
  · have e : timB v = false := by simp [timB]; omega
    rw [e]
    go_enter Tryz.func114, Tryz.ntmps114
    go_wp2_with fail
    go_ret
    simp
theorem isEpoch_any (v : Int) (w : World) : Calls Tryz.prog 181 #[.int .i64 v] w fun e w' => e = .returned (.bool (epB v)) ∧ w = w' := by
  by_cases h0 : 1 ≤ v
  · by_cases h1 : v ≤ 200
    · have e : epB v = true := by simp [epB]; omega
      rw [e]
      go_enter Tryz.func181, Tryz.ntmps181
      go_wp2_with fail
      go_ret
      simp
    · have e : epB v = false := by simp [epB]; omega
      rw [e]
      go_enter Tryz.func181, Tryz.ntmps181
      go_wp2_with fail
      go_ret
      simp
  · have e : epB v = false := by simp [epB]; omega
    rw [e]
    go_enter Tryz.func181, Tryz.ntmps181
    go_wp2_with fail
    go_ret
    simp
theorem isBackup_any (v : Int) (w : World) : Calls Tryz.prog 180 #[.int .i64 v] w fun e w' => e = .returned (.bool (bakB v)) ∧ Below w.heap.size w w' := by
  by_cases h0 : v = 0
  · have e : bakB v = true := by simp [bakB, h0]
    rw [e]
    subst h0
    go_enter Tryz.func180, Tryz.ntmps180
    go_wp2_with fail
    go_ret
    exact ⟨rfl, Below.refl _ _⟩
  · have e : bakB v = pubB v := by simp [bakB, h0]
    rw [e]
    have q0 : (v == 0) = false := by simpa using h0
    generalize hp : pubB v = c
    go_enter Tryz.func180, Tryz.ntmps180
    go_wp2_with fail
    refine (implIsPublic_any _ _).mono ?_
    rintro r u1 ⟨rfl, b1⟩
    rw [hp]
    go_wp2_with fail
    go_ret
    exact ⟨rfl, b1⟩

theorem implPinFault_any (p : PinD) (w : World) (hn : p.n.size ≤ maxLen) :
    Calls Tryz.prog 116 #[P5 p] w fun e w' => e = .returned (.int .i64 p.f) ∧ Below w.heap.size w w' := by
  obtain ⟨n, a, b, c, u⟩ := p
  show Calls Tryz.prog 116 #[.agg #[.string n, .int .i64 a, .int .i64 b, .int .i64 c, .int .i64 u]] w fun e w' => e = .returned (.int .i64 (pinF n.data.toList a b c u)) ∧ Below w.heap.size w w'
  have b0 := bal (Below.refl _ w) (.cells #[.string n, .int .i64 a, .int .i64 b, .int .i64 c, .int .i64 u] 31)
  have A0 := At.new w [.string n, .int .i64 a, .int .i64 b, .int .i64 c, .int .i64 u] 31
  have F := fun w => implNormalFault_any n w hn
  by_cases h0 : M.normF n.data.toList = 0
  · rw [h0] at F
    cases hp : pubB a
    · rw [pinF_no h0 (by simp [pinB, hp])]
      go_enter Tryz.func116, Tryz.ntmps116
      go_wp2_with fail
      generalize w.alloc (.cells #[.string n, .int .i64 a, .int .i64 b, .int .i64 c, .int .i64 u] 31) = W0 at *
      refine (F _).mono ?_
      rintro r u1 ⟨rfl, b1⟩
      have A1 := A0.on b1
      have p0 := A1.cell 0 _ rfl
      have p1 := A1.cell 1 _ rfl
      have p2 := A1.cell 2 _ rfl
      have p3 := A1.cell 3 _ rfl
      have p4 := A1.cell 4 _ rfl
      have B1 := btr b0 b1
      clear A0 b0 b1 F
      go_wp2_with fail
      refine (implIsPublic_any _ _).mono ?_
      rintro r u2 ⟨rfl, b2⟩
      have A2 := A1.on b2
      have q0 := A2.cell 0 _ rfl
      have q1 := A2.cell 1 _ rfl
      have q2 := A2.cell 2 _ rfl
      have q3 := A2.cell 3 _ rfl
      have q4 := A2.cell 4 _ rfl
      have B2 := btr B1 b2
      clear A1 B1 b2 p0 p1 p2 p3 p4
      go_wp2_with fail
      go_ret
      exact ⟨rfl, B2⟩
    cases hk : bakB b
    · rw [pinF_no h0 (by simp [pinB, hk])]
      go_enter Tryz.func116, Tryz.ntmps116
      go_wp2_with fail
      generalize w.alloc (.cells #[.string n, .int .i64 a, .int .i64 b, .int .i64 c, .int .i64 u] 31) = W0 at *
      refine (F _).mono ?_
      rintro r u1 ⟨rfl, b1⟩
      have A1 := A0.on b1
      have p0 := A1.cell 0 _ rfl
      have p1 := A1.cell 1 _ rfl
      have p2 := A1.cell 2 _ rfl
      have p3 := A1.cell 3 _ rfl
      have p4 := A1.cell 4 _ rfl
      have B1 := btr b0 b1
      clear A0 b0 b1 F
      go_wp2_with fail
      refine (implIsPublic_any _ _).mono ?_
      rintro r u2 ⟨rfl, b2⟩
      have A2 := A1.on b2
      have q0 := A2.cell 0 _ rfl
      have q1 := A2.cell 1 _ rfl
      have q2 := A2.cell 2 _ rfl
      have q3 := A2.cell 3 _ rfl
      have q4 := A2.cell 4 _ rfl
      have B2 := btr B1 b2
      clear A1 B1 b2 p0 p1 p2 p3 p4
      go_wp2_with fail
      refine (isBackup_any _ _).mono ?_
      rintro r u3 ⟨rfl, b3⟩
      have A3 := A2.on b3
      have x0 := A3.cell 0 _ rfl
      have x1 := A3.cell 1 _ rfl
      have x2 := A3.cell 2 _ rfl
      have x3 := A3.cell 3 _ rfl
      have x4 := A3.cell 4 _ rfl
      have B3 := btr B2 b3
      clear A2 B2 b3 q0 q1 q2 q3 q4
      go_wp2_with fail
      go_ret
      exact ⟨rfl, B3⟩
    cases he : epB c
    · rw [pinF_no h0 (by simp [pinB, he])]
      go_enter Tryz.func116, Tryz.ntmps116
      go_wp2_with fail
      generalize w.alloc (.cells #[.string n, .int .i64 a, .int .i64 b, .int .i64 c, .int .i64 u] 31) = W0 at *
      refine (F _).mono ?_
      rintro r u1 ⟨rfl, b1⟩
      have A1 := A0.on b1
      have p0 := A1.cell 0 _ rfl
      have p1 := A1.cell 1 _ rfl
      have p2 := A1.cell 2 _ rfl
      have p3 := A1.cell 3 _ rfl
      have p4 := A1.cell 4 _ rfl
      have B1 := btr b0 b1
      clear A0 b0 b1 F
      go_wp2_with fail
      refine (implIsPublic_any _ _).mono ?_
      rintro r u2 ⟨rfl, b2⟩
      have A2 := A1.on b2
      have q0 := A2.cell 0 _ rfl
      have q1 := A2.cell 1 _ rfl
      have q2 := A2.cell 2 _ rfl
      have q3 := A2.cell 3 _ rfl
      have q4 := A2.cell 4 _ rfl
      have B2 := btr B1 b2
      clear A1 B1 b2 p0 p1 p2 p3 p4
      go_wp2_with fail
      refine (isBackup_any _ _).mono ?_
      rintro r u3 ⟨rfl, b3⟩
      have A3 := A2.on b3
      have x0 := A3.cell 0 _ rfl
      have x1 := A3.cell 1 _ rfl
      have x2 := A3.cell 2 _ rfl
      have x3 := A3.cell 3 _ rfl
      have x4 := A3.cell 4 _ rfl
      have B3 := btr B2 b3
      clear A2 B2 b3 q0 q1 q2 q3 q4
      go_wp2_with fail
      refine (isEpoch_any _ _).mono ?_
      rintro r w' ⟨rfl, rfl⟩
      go_wp2_with fail
      go_ret
      exact ⟨rfl, B3⟩
    cases ht : timB u
    · rw [pinF_no h0 (by simp [pinB, ht])]
      go_enter Tryz.func116, Tryz.ntmps116
      go_wp2_with fail
      generalize w.alloc (.cells #[.string n, .int .i64 a, .int .i64 b, .int .i64 c, .int .i64 u] 31) = W0 at *
      refine (F _).mono ?_
      rintro r u1 ⟨rfl, b1⟩
      have A1 := A0.on b1
      have p0 := A1.cell 0 _ rfl
      have p1 := A1.cell 1 _ rfl
      have p2 := A1.cell 2 _ rfl
      have p3 := A1.cell 3 _ rfl
      have p4 := A1.cell 4 _ rfl
      have B1 := btr b0 b1
      clear A0 b0 b1 F
      go_wp2_with fail
      refine (implIsPublic_any _ _).mono ?_
      rintro r u2 ⟨rfl, b2⟩
      have A2 := A1.on b2
      have q0 := A2.cell 0 _ rfl
      have q1 := A2.cell 1 _ rfl
      have q2 := A2.cell 2 _ rfl
      have q3 := A2.cell 3 _ rfl
      have q4 := A2.cell 4 _ rfl
      have B2 := btr B1 b2
      clear A1 B1 b2 p0 p1 p2 p3 p4
      go_wp2_with fail
      refine (isBackup_any _ _).mono ?_
      rintro r u3 ⟨rfl, b3⟩
      have A3 := A2.on b3
      have x0 := A3.cell 0 _ rfl
      have x1 := A3.cell 1 _ rfl
      have x2 := A3.cell 2 _ rfl
      have x3 := A3.cell 3 _ rfl
      have x4 := A3.cell 4 _ rfl
      have B3 := btr B2 b3
      clear A2 B2 b3 q0 q1 q2 q3 q4
      go_wp2_with fail
      refine (isEpoch_any _ _).mono ?_
      rintro r w' ⟨rfl, rfl⟩
      go_wp2_with fail
      refine (isTime_any _ _).mono ?_
      rintro r w' ⟨rfl, rfl⟩
      go_wp2_with fail
      go_ret
      exact ⟨rfl, B3⟩
    by_cases hba : b = a
    · rw [pinF_taken h0 (by simp [pinB, hp, hk, he, ht]) hba]
      have qba : (b == a) = true := by simpa using hba
      clear hba
      go_enter Tryz.func116, Tryz.ntmps116
      go_wp2_with fail
      generalize w.alloc (.cells #[.string n, .int .i64 a, .int .i64 b, .int .i64 c, .int .i64 u] 31) = W0 at *
      refine (F _).mono ?_
      rintro r u1 ⟨rfl, b1⟩
      have A1 := A0.on b1
      have p0 := A1.cell 0 _ rfl
      have p1 := A1.cell 1 _ rfl
      have p2 := A1.cell 2 _ rfl
      have p3 := A1.cell 3 _ rfl
      have p4 := A1.cell 4 _ rfl
      have B1 := btr b0 b1
      clear A0 b0 b1 F
      go_wp2_with fail
      refine (implIsPublic_any _ _).mono ?_
      rintro r u2 ⟨rfl, b2⟩
      have A2 := A1.on b2
      have q0 := A2.cell 0 _ rfl
      have q1 := A2.cell 1 _ rfl
      have q2 := A2.cell 2 _ rfl
      have q3 := A2.cell 3 _ rfl
      have q4 := A2.cell 4 _ rfl
      have B2 := btr B1 b2
      clear A1 B1 b2 p0 p1 p2 p3 p4
      go_wp2_with fail
      refine (isBackup_any _ _).mono ?_
      rintro r u3 ⟨rfl, b3⟩
      have A3 := A2.on b3
      have x0 := A3.cell 0 _ rfl
      have x1 := A3.cell 1 _ rfl
      have x2 := A3.cell 2 _ rfl
      have x3 := A3.cell 3 _ rfl
      have x4 := A3.cell 4 _ rfl
      have B3 := btr B2 b3
      clear A2 B2 b3 q0 q1 q2 q3 q4
      go_wp2_with fail
      refine (isEpoch_any _ _).mono ?_
      rintro r w' ⟨rfl, rfl⟩
      go_wp2_with fail
      refine (isTime_any _ _).mono ?_
      rintro r w' ⟨rfl, rfl⟩
      go_wp2_with fail
      go_ret
      exact ⟨rfl, B3⟩
    · rw [pinF_yes h0 (by simp [pinB, hp, hk, he, ht]) hba]
      have qba : (b == a) = false := by simpa using hba
      go_enter Tryz.func116, Tryz.ntmps116
      go_wp2_with fail
      generalize w.alloc (.cells #[.string n, .int .i64 a, .int .i64 b, .int .i64 c, .int .i64 u] 31) = W0 at *
      refine (F _).mono ?_
      rintro r u1 ⟨rfl, b1⟩
      have A1 := A0.on b1
      have p0 := A1.cell 0 _ rfl
      have p1 := A1.cell 1 _ rfl
      have p2 := A1.cell 2 _ rfl
      have p3 := A1.cell 3 _ rfl
      have p4 := A1.cell 4 _ rfl
      have B1 := btr b0 b1
      clear A0 b0 b1 F
      go_wp2_with fail
      refine (implIsPublic_any _ _).mono ?_
      rintro r u2 ⟨rfl, b2⟩
      have A2 := A1.on b2
      have q0 := A2.cell 0 _ rfl
      have q1 := A2.cell 1 _ rfl
      have q2 := A2.cell 2 _ rfl
      have q3 := A2.cell 3 _ rfl
      have q4 := A2.cell 4 _ rfl
      have B2 := btr B1 b2
      clear A1 B1 b2 p0 p1 p2 p3 p4
      go_wp2_with fail
      refine (isBackup_any _ _).mono ?_
      rintro r u3 ⟨rfl, b3⟩
      have A3 := A2.on b3
      have x0 := A3.cell 0 _ rfl
      have x1 := A3.cell 1 _ rfl
      have x2 := A3.cell 2 _ rfl
      have x3 := A3.cell 3 _ rfl
      have x4 := A3.cell 4 _ rfl
      have B3 := btr B2 b3
      clear A2 B2 b3 q0 q1 q2 q3 q4
      go_wp2_with fail
      refine (isEpoch_any _ _).mono ?_
      rintro r w' ⟨rfl, rfl⟩
      go_wp2_with fail
      refine (isTime_any _ _).mono ?_
      rintro r w' ⟨rfl, rfl⟩
      go_wp2_with fail
      go_ret
      exact ⟨rfl, B3⟩
  · rw [pinF_norm h0]
    generalize M.normF n.data.toList = c0 at *
    go_enter Tryz.func116, Tryz.ntmps116
    go_wp2_with fail
    generalize w.alloc (.cells #[.string n, .int .i64 a, .int .i64 b, .int .i64 c, .int .i64 u] 31) = W0 at *
    refine (F _).mono ?_
    rintro r u1 ⟨rfl, b1⟩
    have A1 := A0.on b1
    have p0 := A1.cell 0 _ rfl
    have p1 := A1.cell 1 _ rfl
    have p2 := A1.cell 2 _ rfl
    have p3 := A1.cell 3 _ rfl
    have p4 := A1.cell 4 _ rfl
    have B1 := btr b0 b1
    clear A0 b0 b1 F
    go_wp2_with fail
    go_ret
    exact ⟨rfl, B1⟩

theorem l7Time_any (v : Int) (w : World) : Calls Tryz.prog 157 #[.int .i64 v] w fun e w' => e = .returned (.bool (timB v)) ∧ w = w' := by
  have T : ∀ w, Calls Tryz.prog 108 #[.int .i64 v, .int .i64 0, .int .i64 9999] w fun e w' => e = .returned (.bool (timB v)) ∧ w = w' := fun w => l1In_any v 0 9999 w
  generalize timB v = c at *
  go_enter Tryz.func157, Tryz.ntmps157
  go_wp2_with fail
  refine (T _).mono ?_
  rintro r w' ⟨rfl, rfl⟩
  go_wp2_with fail
  go_ret
  simp
theorem l1In_ep (v : Int) (w : World) : Calls Tryz.prog 108 #[.int .i64 v, .int .i64 1, .int .i64 200] w fun e w' => e = .returned (.bool (epB v)) ∧ w = w' := l1In_any v 1 200 w

set_option maxHeartbeats 4000000 in
theorem l7Fault_at (g o : Nat) (p : PinD) (w : World) (hn : p.n.size ≤ maxLen)
    (d0 : w.cell? ⟨g, o, none⟩ = some (.string p.n)) (d1 : w.cell? ⟨g, o + 1, none⟩ = some (.int .i64 p.a)) (d2 : w.cell? ⟨g, o + 2, none⟩ = some (.int .i64 p.b)) (d3 : w.cell? ⟨g, o + 3, none⟩ = some (.int .i64 p.e)) (d4 : w.cell? ⟨g, o + 4, none⟩ = some (.int .i64 p.u)) :
    Calls Tryz.prog 88 #[.pointer (some ⟨g, o, none⟩)] w fun e w' => e = .returned (.int .i64 p.f) ∧ Below w.heap.size w w' := by
  obtain ⟨n, a, b, c, u⟩ := p
  show Calls Tryz.prog 88 #[.pointer (some ⟨g, o, none⟩)] w fun e w' => e = .returned (.int .i64 (pinF n.data.toList a b c u)) ∧ Below w.heap.size w w'
  dsimp only at hn d0 d1 d2 d3 d4
  have hL : n.data.toList.length = n.size := by simp
  have F := fun w => l5Fault_any n w hn
  by_cases h0 : M.nameF n.data.toList = 0
  · obtain ⟨h20, hm⟩ := M.nameF_zero h0
    rw [hL] at h20
    have N := fun w : World => l5Normal_any n w h20
    have Q := text_beq (M.bs (M.nrm n.data.toList)) n
    rw [M.bs_list] at Q
    rw [h0] at F
    by_cases hq : M.nrm n.data.toList = n.data.toList
    · have h1 := M.normF_yes h0 hq
      rw [decide_eq_true hq] at Q
      generalize M.bs (M.nrm n.data.toList) = R at *
      clear h0 hm hq hL
      cases hp : pubB a
      · rw [pinF_no h1 (by simp [pinB, hp])]
        go_enter Tryz.func88, Tryz.ntmps88
        go_wp2_with fail
        refine (F _).mono ?_
        rintro r u1 ⟨rfl, b1⟩
        have p0 := cell_keep b1 d0
        go_wp2_with fail
        refine wp_region_line (Bel u1) [(0, true), (1, true), (2, true), (3, true), (5, true), (6, true), (7, true), (8, true), (4, false), (9, true)] (by kernel_rfl) (by kernel_rfl) (fun _ _ d _ _ h => by cases d <;> exact h) (Bel.drew u1) ?_
        have hst := Bel.drew u1
        have inst : Nonempty (Of (Bel u1)) := ⟨⟨_, hst⟩⟩
        have q0 := bel_cell p0
        iterate 8 (refine line_read rfl (by kernel_rfl) (fun K hK => ?_); go_big_quiet_op; refine hK _ ?_; clear hK K)
        refine line_alone rfl (by kernel_rfl) (fun K hK => ?_)
        refine call_wp (args := #[.string n]) rfl (by kernel_rfl) (by kernel_rfl) (N _) (fun wn hbn => ?_)
        have hst2 := hst.on hbn
        refine hK _ _ hst2 ?_
        clear hK K hst hbn
        have hst := hst2
        clear hst2
        simp only [Act.put, List.setIfInBounds_toArray, List.set_cons_zero, List.set_cons_succ]
        iterate 1 (refine line_read rfl (by kernel_rfl) (fun K hK => ?_); go_big_quiet_op; refine hK _ ?_; clear hK K)
        refine line_nil ?_
        have bb := btr b1 hst.out
        have y1 := cell_keep bb d1
        have y2 := cell_keep bb d2
        have y3 := cell_keep bb d3
        have y4 := cell_keep bb d4
        clear hst inst q0 p0 b1 F N d0 d1 d2 d3 d4
        go_wp2_with fail
        refine (l1Public_any _ _).mono ?_
        rintro r w' ⟨rfl, rfl⟩
        go_wp2_with fail
        go_ret
        exact ⟨rfl, bb⟩
      by_cases hb0 : b = 0
      · have hk : bakB b = true := by simp [bakB, hb0]
        subst hb0
        cases he : epB c
        · rw [pinF_no h1 (by simp [pinB, he])]
          go_enter Tryz.func88, Tryz.ntmps88
          go_wp2_with fail
          refine (F _).mono ?_
          rintro r u1 ⟨rfl, b1⟩
          have p0 := cell_keep b1 d0
          go_wp2_with fail
          refine wp_region_line (Bel u1) [(0, true), (1, true), (2, true), (3, true), (5, true), (6, true), (7, true), (8, true), (4, false), (9, true)] (by kernel_rfl) (by kernel_rfl) (fun _ _ d _ _ h => by cases d <;> exact h) (Bel.drew u1) ?_
          have hst := Bel.drew u1
          have inst : Nonempty (Of (Bel u1)) := ⟨⟨_, hst⟩⟩
          have q0 := bel_cell p0
          iterate 8 (refine line_read rfl (by kernel_rfl) (fun K hK => ?_); go_big_quiet_op; refine hK _ ?_; clear hK K)
          refine line_alone rfl (by kernel_rfl) (fun K hK => ?_)
          refine call_wp (args := #[.string n]) rfl (by kernel_rfl) (by kernel_rfl) (N _) (fun wn hbn => ?_)
          have hst2 := hst.on hbn
          refine hK _ _ hst2 ?_
          clear hK K hst hbn
          have hst := hst2
          clear hst2
          simp only [Act.put, List.setIfInBounds_toArray, List.set_cons_zero, List.set_cons_succ]
          iterate 1 (refine line_read rfl (by kernel_rfl) (fun K hK => ?_); go_big_quiet_op; refine hK _ ?_; clear hK K)
          refine line_nil ?_
          have bb := btr b1 hst.out
          have y1 := cell_keep bb d1
          have y2 := cell_keep bb d2
          have y3 := cell_keep bb d3
          have y4 := cell_keep bb d4
          clear hst inst q0 p0 b1 F N d0 d1 d2 d3 d4
          go_wp2_with fail
          refine (l1Public_any _ _).mono ?_
          rintro r w' ⟨rfl, rfl⟩
          go_wp2_with fail
          refine (l1In_ep _ _).mono ?_
          rintro r w' ⟨rfl, rfl⟩
          go_wp2_with fail
          go_ret
          exact ⟨rfl, bb⟩
        cases ht : timB u
        · rw [pinF_no h1 (by simp [pinB, ht])]
          go_enter Tryz.func88, Tryz.ntmps88
          go_wp2_with fail
          refine (F _).mono ?_
          rintro r u1 ⟨rfl, b1⟩
          have p0 := cell_keep b1 d0
          go_wp2_with fail
          refine wp_region_line (Bel u1) [(0, true), (1, true), (2, true), (3, true), (5, true), (6, true), (7, true), (8, true), (4, false), (9, true)] (by kernel_rfl) (by kernel_rfl) (fun _ _ d _ _ h => by cases d <;> exact h) (Bel.drew u1) ?_
          have hst := Bel.drew u1
          have inst : Nonempty (Of (Bel u1)) := ⟨⟨_, hst⟩⟩
          have q0 := bel_cell p0
          iterate 8 (refine line_read rfl (by kernel_rfl) (fun K hK => ?_); go_big_quiet_op; refine hK _ ?_; clear hK K)
          refine line_alone rfl (by kernel_rfl) (fun K hK => ?_)
          refine call_wp (args := #[.string n]) rfl (by kernel_rfl) (by kernel_rfl) (N _) (fun wn hbn => ?_)
          have hst2 := hst.on hbn
          refine hK _ _ hst2 ?_
          clear hK K hst hbn
          have hst := hst2
          clear hst2
          simp only [Act.put, List.setIfInBounds_toArray, List.set_cons_zero, List.set_cons_succ]
          iterate 1 (refine line_read rfl (by kernel_rfl) (fun K hK => ?_); go_big_quiet_op; refine hK _ ?_; clear hK K)
          refine line_nil ?_
          have bb := btr b1 hst.out
          have y1 := cell_keep bb d1
          have y2 := cell_keep bb d2
          have y3 := cell_keep bb d3
          have y4 := cell_keep bb d4
          clear hst inst q0 p0 b1 F N d0 d1 d2 d3 d4
          go_wp2_with fail
          refine (l1Public_any _ _).mono ?_
          rintro r w' ⟨rfl, rfl⟩
          go_wp2_with fail
          refine (l1In_ep _ _).mono ?_
          rintro r w' ⟨rfl, rfl⟩
          go_wp2_with fail
          refine (l7Time_any _ _).mono ?_
          rintro r w' ⟨rfl, rfl⟩
          go_wp2_with fail
          go_ret
          exact ⟨rfl, bb⟩
        by_cases hba : (0 : Int) = a
        · rw [pinF_taken h1 (by simp [pinB, hp, hk, he, ht]) hba]
          subst hba
          go_enter Tryz.func88, Tryz.ntmps88
          go_wp2_with fail
          refine (F _).mono ?_
          rintro r u1 ⟨rfl, b1⟩
          have p0 := cell_keep b1 d0
          go_wp2_with fail
          refine wp_region_line (Bel u1) [(0, true), (1, true), (2, true), (3, true), (5, true), (6, true), (7, true), (8, true), (4, false), (9, true)] (by kernel_rfl) (by kernel_rfl) (fun _ _ d _ _ h => by cases d <;> exact h) (Bel.drew u1) ?_
          have hst := Bel.drew u1
          have inst : Nonempty (Of (Bel u1)) := ⟨⟨_, hst⟩⟩
          have q0 := bel_cell p0
          iterate 8 (refine line_read rfl (by kernel_rfl) (fun K hK => ?_); go_big_quiet_op; refine hK _ ?_; clear hK K)
          refine line_alone rfl (by kernel_rfl) (fun K hK => ?_)
          refine call_wp (args := #[.string n]) rfl (by kernel_rfl) (by kernel_rfl) (N _) (fun wn hbn => ?_)
          have hst2 := hst.on hbn
          refine hK _ _ hst2 ?_
          clear hK K hst hbn
          have hst := hst2
          clear hst2
          simp only [Act.put, List.setIfInBounds_toArray, List.set_cons_zero, List.set_cons_succ]
          iterate 1 (refine line_read rfl (by kernel_rfl) (fun K hK => ?_); go_big_quiet_op; refine hK _ ?_; clear hK K)
          refine line_nil ?_
          have bb := btr b1 hst.out
          have y1 := cell_keep bb d1
          have y2 := cell_keep bb d2
          have y3 := cell_keep bb d3
          have y4 := cell_keep bb d4
          clear hst inst q0 p0 b1 F N d0 d1 d2 d3 d4
          go_wp2_with fail
          refine (l1Public_any _ _).mono ?_
          rintro r w' ⟨rfl, rfl⟩
          go_wp2_with fail
          refine (l1In_ep _ _).mono ?_
          rintro r w' ⟨rfl, rfl⟩
          go_wp2_with fail
          refine (l7Time_any _ _).mono ?_
          rintro r w' ⟨rfl, rfl⟩
          go_wp2_with fail
          go_quiet (fail)
          go_wp2_with fail
          go_ret
          exact ⟨rfl, bdrewN bb _⟩
        · rw [pinF_yes h1 (by simp [pinB, hp, hk, he, ht]) hba]
          have qba : ((0 : Int) == a) = false := by simpa using hba
          go_enter Tryz.func88, Tryz.ntmps88
          go_wp2_with fail
          refine (F _).mono ?_
          rintro r u1 ⟨rfl, b1⟩
          have p0 := cell_keep b1 d0
          go_wp2_with fail
          refine wp_region_line (Bel u1) [(0, true), (1, true), (2, true), (3, true), (5, true), (6, true), (7, true), (8, true), (4, false), (9, true)] (by kernel_rfl) (by kernel_rfl) (fun _ _ d _ _ h => by cases d <;> exact h) (Bel.drew u1) ?_
          have hst := Bel.drew u1
          have inst : Nonempty (Of (Bel u1)) := ⟨⟨_, hst⟩⟩
          have q0 := bel_cell p0
          iterate 8 (refine line_read rfl (by kernel_rfl) (fun K hK => ?_); go_big_quiet_op; refine hK _ ?_; clear hK K)
          refine line_alone rfl (by kernel_rfl) (fun K hK => ?_)
          refine call_wp (args := #[.string n]) rfl (by kernel_rfl) (by kernel_rfl) (N _) (fun wn hbn => ?_)
          have hst2 := hst.on hbn
          refine hK _ _ hst2 ?_
          clear hK K hst hbn
          have hst := hst2
          clear hst2
          simp only [Act.put, List.setIfInBounds_toArray, List.set_cons_zero, List.set_cons_succ]
          iterate 1 (refine line_read rfl (by kernel_rfl) (fun K hK => ?_); go_big_quiet_op; refine hK _ ?_; clear hK K)
          refine line_nil ?_
          have bb := btr b1 hst.out
          have y1 := cell_keep bb d1
          have y2 := cell_keep bb d2
          have y3 := cell_keep bb d3
          have y4 := cell_keep bb d4
          clear hst inst q0 p0 b1 F N d0 d1 d2 d3 d4
          go_wp2_with fail
          refine (l1Public_any _ _).mono ?_
          rintro r w' ⟨rfl, rfl⟩
          go_wp2_with fail
          refine (l1In_ep _ _).mono ?_
          rintro r w' ⟨rfl, rfl⟩
          go_wp2_with fail
          refine (l7Time_any _ _).mono ?_
          rintro r w' ⟨rfl, rfl⟩
          go_wp2_with fail
          go_quiet (fail)
          go_wp2_with fail
          go_ret
          exact ⟨rfl, bdrewN bb _⟩
      · have hk : bakB b = pubB b := by simp [bakB, hb0]
        have qb0 : (b == 0) = false := by simpa using hb0
        cases hkp : pubB b
        · rw [pinF_no h1 (by simp [pinB, hk, hkp])]
          clear hk
          go_enter Tryz.func88, Tryz.ntmps88
          go_wp2_with fail
          refine (F _).mono ?_
          rintro r u1 ⟨rfl, b1⟩
          have p0 := cell_keep b1 d0
          go_wp2_with fail
          refine wp_region_line (Bel u1) [(0, true), (1, true), (2, true), (3, true), (5, true), (6, true), (7, true), (8, true), (4, false), (9, true)] (by kernel_rfl) (by kernel_rfl) (fun _ _ d _ _ h => by cases d <;> exact h) (Bel.drew u1) ?_
          have hst := Bel.drew u1
          have inst : Nonempty (Of (Bel u1)) := ⟨⟨_, hst⟩⟩
          have q0 := bel_cell p0
          iterate 8 (refine line_read rfl (by kernel_rfl) (fun K hK => ?_); go_big_quiet_op; refine hK _ ?_; clear hK K)
          refine line_alone rfl (by kernel_rfl) (fun K hK => ?_)
          refine call_wp (args := #[.string n]) rfl (by kernel_rfl) (by kernel_rfl) (N _) (fun wn hbn => ?_)
          have hst2 := hst.on hbn
          refine hK _ _ hst2 ?_
          clear hK K hst hbn
          have hst := hst2
          clear hst2
          simp only [Act.put, List.setIfInBounds_toArray, List.set_cons_zero, List.set_cons_succ]
          iterate 1 (refine line_read rfl (by kernel_rfl) (fun K hK => ?_); go_big_quiet_op; refine hK _ ?_; clear hK K)
          refine line_nil ?_
          have bb := btr b1 hst.out
          have y1 := cell_keep bb d1
          have y2 := cell_keep bb d2
          have y3 := cell_keep bb d3
          have y4 := cell_keep bb d4
          clear hst inst q0 p0 b1 F N d0 d1 d2 d3 d4
          go_wp2_with fail
          refine (l1Public_any _ _).mono ?_
          rintro r w' ⟨rfl, rfl⟩
          go_wp2_with fail
          refine (l1Public_any _ _).mono ?_
          rintro r w' ⟨rfl, rfl⟩
          go_wp2_with fail
          go_ret
          exact ⟨rfl, bb⟩
        rw [hkp] at hk
        cases he : epB c
        · rw [pinF_no h1 (by simp [pinB, he])]
          go_enter Tryz.func88, Tryz.ntmps88
          go_wp2_with fail
          refine (F _).mono ?_
          rintro r u1 ⟨rfl, b1⟩
          have p0 := cell_keep b1 d0
          go_wp2_with fail
          refine wp_region_line (Bel u1) [(0, true), (1, true), (2, true), (3, true), (5, true), (6, true), (7, true), (8, true), (4, false), (9, true)] (by kernel_rfl) (by kernel_rfl) (fun _ _ d _ _ h => by cases d <;> exact h) (Bel.drew u1) ?_
          have hst := Bel.drew u1
          have inst : Nonempty (Of (Bel u1)) := ⟨⟨_, hst⟩⟩
          have q0 := bel_cell p0
          iterate 8 (refine line_read rfl (by kernel_rfl) (fun K hK => ?_); go_big_quiet_op; refine hK _ ?_; clear hK K)
          refine line_alone rfl (by kernel_rfl) (fun K hK => ?_)
          refine call_wp (args := #[.string n]) rfl (by kernel_rfl) (by kernel_rfl) (N _) (fun wn hbn => ?_)
          have hst2 := hst.on hbn
          refine hK _ _ hst2 ?_
          clear hK K hst hbn
          have hst := hst2
          clear hst2
          simp only [Act.put, List.setIfInBounds_toArray, List.set_cons_zero, List.set_cons_succ]
          iterate 1 (refine line_read rfl (by kernel_rfl) (fun K hK => ?_); go_big_quiet_op; refine hK _ ?_; clear hK K)
          refine line_nil ?_
          have bb := btr b1 hst.out
          have y1 := cell_keep bb d1
          have y2 := cell_keep bb d2
          have y3 := cell_keep bb d3
          have y4 := cell_keep bb d4
          clear hst inst q0 p0 b1 F N d0 d1 d2 d3 d4
          go_wp2_with fail
          refine (l1Public_any _ _).mono ?_
          rintro r w' ⟨rfl, rfl⟩
          go_wp2_with fail
          refine (l1Public_any _ _).mono ?_
          rintro r w' ⟨rfl, rfl⟩
          go_wp2_with fail
          refine (l1In_ep _ _).mono ?_
          rintro r w' ⟨rfl, rfl⟩
          go_wp2_with fail
          go_ret
          exact ⟨rfl, bb⟩
        cases ht : timB u
        · rw [pinF_no h1 (by simp [pinB, ht])]
          go_enter Tryz.func88, Tryz.ntmps88
          go_wp2_with fail
          refine (F _).mono ?_
          rintro r u1 ⟨rfl, b1⟩
          have p0 := cell_keep b1 d0
          go_wp2_with fail
          refine wp_region_line (Bel u1) [(0, true), (1, true), (2, true), (3, true), (5, true), (6, true), (7, true), (8, true), (4, false), (9, true)] (by kernel_rfl) (by kernel_rfl) (fun _ _ d _ _ h => by cases d <;> exact h) (Bel.drew u1) ?_
          have hst := Bel.drew u1
          have inst : Nonempty (Of (Bel u1)) := ⟨⟨_, hst⟩⟩
          have q0 := bel_cell p0
          iterate 8 (refine line_read rfl (by kernel_rfl) (fun K hK => ?_); go_big_quiet_op; refine hK _ ?_; clear hK K)
          refine line_alone rfl (by kernel_rfl) (fun K hK => ?_)
          refine call_wp (args := #[.string n]) rfl (by kernel_rfl) (by kernel_rfl) (N _) (fun wn hbn => ?_)
          have hst2 := hst.on hbn
          refine hK _ _ hst2 ?_
          clear hK K hst hbn
          have hst := hst2
          clear hst2
          simp only [Act.put, List.setIfInBounds_toArray, List.set_cons_zero, List.set_cons_succ]
          iterate 1 (refine line_read rfl (by kernel_rfl) (fun K hK => ?_); go_big_quiet_op; refine hK _ ?_; clear hK K)
          refine line_nil ?_
          have bb := btr b1 hst.out
          have y1 := cell_keep bb d1
          have y2 := cell_keep bb d2
          have y3 := cell_keep bb d3
          have y4 := cell_keep bb d4
          clear hst inst q0 p0 b1 F N d0 d1 d2 d3 d4
          go_wp2_with fail
          refine (l1Public_any _ _).mono ?_
          rintro r w' ⟨rfl, rfl⟩
          go_wp2_with fail
          refine (l1Public_any _ _).mono ?_
          rintro r w' ⟨rfl, rfl⟩
          go_wp2_with fail
          refine (l1In_ep _ _).mono ?_
          rintro r w' ⟨rfl, rfl⟩
          go_wp2_with fail
          refine (l7Time_any _ _).mono ?_
          rintro r w' ⟨rfl, rfl⟩
          go_wp2_with fail
          go_ret
          exact ⟨rfl, bb⟩
        by_cases hba : b = a
        · rw [pinF_taken h1 (by simp [pinB, hp, hk, he, ht]) hba]
          have qba : (b == a) = true := by simpa using hba
          clear hba
          go_enter Tryz.func88, Tryz.ntmps88
          go_wp2_with fail
          refine (F _).mono ?_
          rintro r u1 ⟨rfl, b1⟩
          have p0 := cell_keep b1 d0
          go_wp2_with fail
          refine wp_region_line (Bel u1) [(0, true), (1, true), (2, true), (3, true), (5, true), (6, true), (7, true), (8, true), (4, false), (9, true)] (by kernel_rfl) (by kernel_rfl) (fun _ _ d _ _ h => by cases d <;> exact h) (Bel.drew u1) ?_
          have hst := Bel.drew u1
          have inst : Nonempty (Of (Bel u1)) := ⟨⟨_, hst⟩⟩
          have q0 := bel_cell p0
          iterate 8 (refine line_read rfl (by kernel_rfl) (fun K hK => ?_); go_big_quiet_op; refine hK _ ?_; clear hK K)
          refine line_alone rfl (by kernel_rfl) (fun K hK => ?_)
          refine call_wp (args := #[.string n]) rfl (by kernel_rfl) (by kernel_rfl) (N _) (fun wn hbn => ?_)
          have hst2 := hst.on hbn
          refine hK _ _ hst2 ?_
          clear hK K hst hbn
          have hst := hst2
          clear hst2
          simp only [Act.put, List.setIfInBounds_toArray, List.set_cons_zero, List.set_cons_succ]
          iterate 1 (refine line_read rfl (by kernel_rfl) (fun K hK => ?_); go_big_quiet_op; refine hK _ ?_; clear hK K)
          refine line_nil ?_
          have bb := btr b1 hst.out
          have y1 := cell_keep bb d1
          have y2 := cell_keep bb d2
          have y3 := cell_keep bb d3
          have y4 := cell_keep bb d4
          clear hst inst q0 p0 b1 F N d0 d1 d2 d3 d4
          go_wp2_with fail
          refine (l1Public_any _ _).mono ?_
          rintro r w' ⟨rfl, rfl⟩
          go_wp2_with fail
          refine (l1Public_any _ _).mono ?_
          rintro r w' ⟨rfl, rfl⟩
          go_wp2_with fail
          refine (l1In_ep _ _).mono ?_
          rintro r w' ⟨rfl, rfl⟩
          go_wp2_with fail
          refine (l7Time_any _ _).mono ?_
          rintro r w' ⟨rfl, rfl⟩
          go_wp2_with fail
          go_quiet (fail)
          go_wp2_with fail
          go_ret
          exact ⟨rfl, bdrewN bb _⟩
        · rw [pinF_yes h1 (by simp [pinB, hp, hk, he, ht]) hba]
          have qba : (b == a) = false := by simpa using hba
          go_enter Tryz.func88, Tryz.ntmps88
          go_wp2_with fail
          refine (F _).mono ?_
          rintro r u1 ⟨rfl, b1⟩
          have p0 := cell_keep b1 d0
          go_wp2_with fail
          refine wp_region_line (Bel u1) [(0, true), (1, true), (2, true), (3, true), (5, true), (6, true), (7, true), (8, true), (4, false), (9, true)] (by kernel_rfl) (by kernel_rfl) (fun _ _ d _ _ h => by cases d <;> exact h) (Bel.drew u1) ?_
          have hst := Bel.drew u1
          have inst : Nonempty (Of (Bel u1)) := ⟨⟨_, hst⟩⟩
          have q0 := bel_cell p0
          iterate 8 (refine line_read rfl (by kernel_rfl) (fun K hK => ?_); go_big_quiet_op; refine hK _ ?_; clear hK K)
          refine line_alone rfl (by kernel_rfl) (fun K hK => ?_)
          refine call_wp (args := #[.string n]) rfl (by kernel_rfl) (by kernel_rfl) (N _) (fun wn hbn => ?_)
          have hst2 := hst.on hbn
          refine hK _ _ hst2 ?_
          clear hK K hst hbn
          have hst := hst2
          clear hst2
          simp only [Act.put, List.setIfInBounds_toArray, List.set_cons_zero, List.set_cons_succ]
          iterate 1 (refine line_read rfl (by kernel_rfl) (fun K hK => ?_); go_big_quiet_op; refine hK _ ?_; clear hK K)
          refine line_nil ?_
          have bb := btr b1 hst.out
          have y1 := cell_keep bb d1
          have y2 := cell_keep bb d2
          have y3 := cell_keep bb d3
          have y4 := cell_keep bb d4
          clear hst inst q0 p0 b1 F N d0 d1 d2 d3 d4
          go_wp2_with fail
          refine (l1Public_any _ _).mono ?_
          rintro r w' ⟨rfl, rfl⟩
          go_wp2_with fail
          refine (l1Public_any _ _).mono ?_
          rintro r w' ⟨rfl, rfl⟩
          go_wp2_with fail
          refine (l1In_ep _ _).mono ?_
          rintro r w' ⟨rfl, rfl⟩
          go_wp2_with fail
          refine (l7Time_any _ _).mono ?_
          rintro r w' ⟨rfl, rfl⟩
          go_wp2_with fail
          go_quiet (fail)
          go_wp2_with fail
          go_ret
          exact ⟨rfl, bdrewN bb _⟩
    · have h1 := M.normF_form h0 hq
      rw [decide_eq_false hq] at Q
      rw [pinF_norm (by rw [h1]; omega), h1]
      generalize M.bs (M.nrm n.data.toList) = R at *
      clear h0 hm hq hL h1
      go_enter Tryz.func88, Tryz.ntmps88
      go_wp2_with fail
      refine (F _).mono ?_
      rintro r u1 ⟨rfl, b1⟩
      have p0 := cell_keep b1 d0
      go_wp2_with fail
      refine wp_region_line (Bel u1) [(0, true), (1, true), (2, true), (3, true), (5, true), (6, true), (7, true), (8, true), (4, false), (9, true)] (by kernel_rfl) (by kernel_rfl) (fun _ _ d _ _ h => by cases d <;> exact h) (Bel.drew u1) ?_
      have hst := Bel.drew u1
      have inst : Nonempty (Of (Bel u1)) := ⟨⟨_, hst⟩⟩
      have q0 := bel_cell p0
      iterate 8 (refine line_read rfl (by kernel_rfl) (fun K hK => ?_); go_big_quiet_op; refine hK _ ?_; clear hK K)
      refine line_alone rfl (by kernel_rfl) (fun K hK => ?_)
      refine call_wp (args := #[.string n]) rfl (by kernel_rfl) (by kernel_rfl) (N _) (fun wn hbn => ?_)
      have hst2 := hst.on hbn
      refine hK _ _ hst2 ?_
      clear hK K hst hbn
      have hst := hst2
      clear hst2
      simp only [Act.put, List.setIfInBounds_toArray, List.set_cons_zero, List.set_cons_succ]
      iterate 1 (refine line_read rfl (by kernel_rfl) (fun K hK => ?_); go_big_quiet_op; refine hK _ ?_; clear hK K)
      refine line_nil ?_
      have bb := btr b1 hst.out
      have y1 := cell_keep bb d1
      have y2 := cell_keep bb d2
      have y3 := cell_keep bb d3
      have y4 := cell_keep bb d4
      clear hst inst q0 p0 b1 F N d0 d1 d2 d3 d4
      go_wp2_with fail
      go_ret
      exact ⟨rfl, bb⟩
  · have h1 := M.normF_no h0
    rw [pinF_norm (by rw [h1]; exact h0), h1]
    clear h1
    generalize M.nameF n.data.toList = c at *
    go_enter Tryz.func88, Tryz.ntmps88
    go_wp2_with fail
    refine (F _).mono ?_
    rintro r u1 ⟨rfl, b1⟩
    go_wp2_with fail
    go_ret
    exact ⟨rfl, b1⟩
end Go.Proofs.YtcolecidbalmhaaGreatDoor
namespace Go.Proofs.YtcolecidbalmhaaGreatDoor
open Go.RowKit
set_option maxRecDepth 100000
set_option linter.unusedVariables false

def FaultRel (w : World) (ps : List PinD) (t : Int) (k : Nat) (wr : World) : Prop := pinsG (prevN ps k) (ps.drop k) = t ∧ Below w.heap.size w wr
theorem pinsG_bad {ps : List PinD} {k : Nat} {t : Int} (hk : k < ps.length) (h : pinsG (prevN ps k) (ps.drop k) = t) (h0 : (ps[k]?.getD pin0).f ≠ 0) : t = (ps[k]?.getD pin0).f := by
  rw [← h, pinsG_step hk, if_neg h0]
theorem pinsG_form {ps : List PinD} {k : Nat} {t : Int} (hk : k < ps.length) (h : pinsG (prevN ps k) (ps.drop k) = t) (h0 : (ps[k]?.getD pin0).f = 0) (h1 : okN (prevN ps k) (ps[k]?.getD pin0).nm = false) : t = 1 := by
  rw [← h, pinsG_step hk, if_pos h0, h1]
  rfl
theorem pinsG_next {ps : List PinD} {k : Nat} {t : Int} (hk : k < ps.length) (h : pinsG (prevN ps k) (ps.drop k) = t) (h0 : (ps[k]?.getD pin0).f = 0) (h1 : okN (prevN ps k) (ps[k]?.getD pin0).nm = true) : pinsG (prevN ps (k + 1)) (ps.drop (k + 1)) = t := by
  rw [← h, pinsG_step hk, if_pos h0, h1, if_pos rfl]

theorem implPinsFault_any (a : Option Addr) (len cap B : Nat) (ps : List PinD) (w : World) (hR : PRow w B a len cap ps) (hB : B ≤ w.heap.size) :
    Calls Tryz.prog 83 #[.slice a len cap] w fun e w' => e = .returned (.int .i64 (pinsF ps)) ∧ Below w.heap.size w w' := by
  have hf := hR.fits
  have hm := hR.most
  unfold maxLen at hm
  have hL := Lib.hid hR.length
  by_cases h4 : 4 < len
  · have e : pinsF ps = 2 := by unfold pinsF; rw [hL.out, if_pos h4]
    rw [e]
    have h4' : (4 : Int) < len := by omega
    go_enter Tryz.func83, Tryz.ntmps83
    go_wp2_with fail
    go_ret
    exact ⟨rfl, Below.refl _ _⟩
  have e : pinsF ps = pinsG none ps := by unfold pinsF; rw [hL.out, if_neg h4]
  rw [e]
  have T0 : FaultRel w ps (pinsG none ps) 0 w := ⟨rfl, Below.refl _ _⟩
  have h4' : ¬ (4 : Int) < len := by omega
  generalize pinsG none ps = t at *
  clear e
  go_enter Tryz.func83, Tryz.ntmps83
  go_wp2_with fail
  go_loopw [11] (fun i wr => ∃ k : Nat, k ≤ len ∧ i = .int .i64 k ∧ FaultRel w ps t k wr) (fun i _ => len - (intOf i).toNat)
  case atStart => exact ⟨0, Nat.zero_le _, rfl, T0⟩
  case round =>
    obtain ⟨k, hk, rfl, ht, hb⟩ := hrel
    clear T0
    by_cases hlt : k < len
    · rcases Nat.eq_zero_or_pos k with hk0 | hk0
      · have hkz : ¬ (0 : Int) < k := by omega
        have hkn : ¬ 0 < k := by omega
        have hkd : decide (0 < k) = false := decide_eq_false hkn
        obtain ⟨b, off, ha, hbB, c0, c1, c2, c3, c4⟩ := (hR.below (hb.mono hB)).at' hlt
        subst ha
        have hkp : k < ps.length := by rw [hL.out]; exact hlt
        have F := fun w => implPinFault_any (ps[k]?.getD pin0) w (hR.name hlt)
        have A0 : At wr.heap.size (ps[k]?.getD pin0).vals (wr.alloc (.cells #[.string (ps[k]?.getD pin0).n, .int .i64 (ps[k]?.getD pin0).a, .int .i64 (ps[k]?.getD pin0).b, .int .i64 (ps[k]?.getD pin0).e, .int .i64 (ps[k]?.getD pin0).u] 31)) := At.new wr (ps[k]?.getD pin0).vals 31
        have b0 := bal hb (.cells #[.string (ps[k]?.getD pin0).n, .int .i64 (ps[k]?.getD pin0).a, .int .i64 (ps[k]?.getD pin0).b, .int .i64 (ps[k]?.getD pin0).e, .int .i64 (ps[k]?.getD pin0).u] 31)
        by_cases h0 : (ps[k]?.getD pin0).f = 0
        · rw [h0] at F
          have hn := pinsG_next hkp ht h0 (by rw [hk0]; rfl)
          have HN := Lib.hid hn
          have HK := Lib.hid hk0
          clear hn ht h0 hk0
          generalize ps[k]?.getD pin0 = p at *
          go_wp2_with fail
          generalize wr.alloc (.cells #[.string p.n, .int .i64 p.a, .int .i64 p.b, .int .i64 p.e, .int .i64 p.u] 31) = W0 at *
          refine (F _).mono ?_
          rintro r u1 ⟨rfl, b1⟩
          have x0 := (A0.on b1).cell 0 _ rfl
          have B1 := btr b0 b1
          clear b1 A0 b0 F c0 c1 c2 c3 c4
          go_wp2_with fail
          refine wp_region_line (Bel u1) [(0, true), (1, true), (2, true), (3, true), (4, true), (5, true), (6, true), (7, true), (8, true), (9, true), (10, true), (11, true), (12, true)] (by kernel_rfl) (by kernel_rfl) (fun _ _ d _ _ h => by cases d <;> exact h) (Bel.drew u1) ?_
          have hst := Bel.drew u1
          have inst : Nonempty (Of (Bel u1)) := ⟨⟨_, hst⟩⟩
          iterate 3 (refine line_read rfl (by kernel_rfl) (fun K hK => ?_); go_big_quiet_op; refine hK _ ?_; clear hK K)
          iterate 9 (refine line_skip rfl (by kernel_rfl) ?_; simp only [Act.put, List.setIfInBounds_toArray, List.set_cons_zero, List.set_cons_succ])
          iterate 1 (refine line_read rfl (by kernel_rfl) (fun K hK => ?_); go_big_quiet_op; refine hK _ ?_; clear hK K)
          refine line_nil ?_
          have B2 := btr B1 hst.out
          go_wp2_with fail
          go_roundw
          case rel => exact ⟨k + 1, by omega, by go_num, HN.out, B2⟩
          case measure => simp [intOf]; omega
        · have ht' := pinsG_bad hkp ht h0
          have HK := Lib.hid hk0
          clear ht hk0
          generalize ps[k]?.getD pin0 = p at *
          subst ht'
          go_wp2_with fail
          generalize wr.alloc (.cells #[.string p.n, .int .i64 p.a, .int .i64 p.b, .int .i64 p.e, .int .i64 p.u] 31) = W0 at *
          refine (F _).mono ?_
          rintro r u1 ⟨rfl, b1⟩
          have x0 := (A0.on b1).cell 0 _ rfl
          have B1 := btr b0 b1
          clear b1 A0 b0 F c0 c1 c2 c3 c4
          go_wp2_with fail
          go_ret
          exact ⟨rfl, B1⟩
      · obtain ⟨j, rfl⟩ : ∃ j, k = j + 1 := ⟨k - 1, by omega⟩
        obtain ⟨b, off, ha, hbB, c0, c1, c2, c3, c4⟩ := (hR.below (hb.mono hB)).at' hlt
        subst ha
        have hkp : j + 1 < ps.length := by rw [hL.out]; exact hlt
        have F := fun w => implPinFault_any (ps[j + 1]?.getD pin0) w (hR.name hlt)
        have A0 : At wr.heap.size (ps[j + 1]?.getD pin0).vals (wr.alloc (.cells #[.string (ps[j + 1]?.getD pin0).n, .int .i64 (ps[j + 1]?.getD pin0).a, .int .i64 (ps[j + 1]?.getD pin0).b, .int .i64 (ps[j + 1]?.getD pin0).e, .int .i64 (ps[j + 1]?.getD pin0).u] 31)) := At.new wr (ps[j + 1]?.getD pin0).vals 31
        have b0 := bal hb (.cells #[.string (ps[j + 1]?.getD pin0).n, .int .i64 (ps[j + 1]?.getD pin0).a, .int .i64 (ps[j + 1]?.getD pin0).b, .int .i64 (ps[j + 1]?.getD pin0).e, .int .i64 (ps[j + 1]?.getD pin0).u] 31)
        by_cases h0 : (ps[j + 1]?.getD pin0).f = 0
        · rw [h0] at F
          have hjl : j < len := by omega
          have QR := Lib.hid (fun u1 (B1 : Below w.heap.size w u1) => (hR.below (B1.mono hB)).at' hjl)
          cases h1 : nlt (ps[j]?.getD pin0).nm (ps[j + 1]?.getD pin0).nm
          · have hn := pinsG_form hkp ht h0 h1
            have Q : Op.bytesLess (ps[j]?.getD pin0).n.toList (ps[j + 1]?.getD pin0).n.toList = false := by rw [ByteArray.toList_eq, ByteArray.toList_eq]; exact h1
            subst hn
            clear ht h0 h1
            generalize ps[j + 1]?.getD pin0 = p at *
            go_wp2_with fail
            generalize wr.alloc (.cells #[.string p.n, .int .i64 p.a, .int .i64 p.b, .int .i64 p.e, .int .i64 p.u] 31) = W0 at *
            refine (F _).mono ?_
            rintro r u1 ⟨rfl, b1⟩
            have x0 := (A0.on b1).cell 0 _ rfl
            have B1 := btr b0 b1
            clear b1 A0 b0 F c0 c1 c2 c3 c4
            obtain ⟨b', off', ha', hbB', z0, -⟩ := QR.out u1 B1
            injection ha' with ha'
            injection ha' with e1 e2
            subst e1
            subst e2
            generalize ps[j]?.getD pin0 = q at *
            go_wp2_with fail
            refine wp_region_line (Bel u1) [(0, true), (1, true), (2, true), (3, true), (4, true), (5, true), (6, true), (7, true), (8, true), (9, true), (10, true), (11, true), (12, true)] (by kernel_rfl) (by kernel_rfl) (fun _ _ d _ _ h => by cases d <;> exact h) (Bel.drew u1) ?_
            have hst := Bel.drew u1
            have inst : Nonempty (Of (Bel u1)) := ⟨⟨_, hst⟩⟩
            have q0 := bel_cell z0
            have q1 := bel_cell x0
            iterate 13 (refine line_read rfl (by kernel_rfl) (fun K hK => ?_); go_big_quiet_op; refine hK _ ?_; clear hK K)
            refine line_nil ?_
            have B2 := btr B1 hst.out
            go_wp2_with fail
            go_ret
            exact ⟨rfl, B2⟩
          · have hn := pinsG_next hkp ht h0 h1
            have Q : Op.bytesLess (ps[j]?.getD pin0).n.toList (ps[j + 1]?.getD pin0).n.toList = true := by rw [ByteArray.toList_eq, ByteArray.toList_eq]; exact h1
            have HN := Lib.hid hn
            clear ht h0 h1 hn
            generalize ps[j + 1]?.getD pin0 = p at *
            go_wp2_with fail
            generalize wr.alloc (.cells #[.string p.n, .int .i64 p.a, .int .i64 p.b, .int .i64 p.e, .int .i64 p.u] 31) = W0 at *
            refine (F _).mono ?_
            rintro r u1 ⟨rfl, b1⟩
            have x0 := (A0.on b1).cell 0 _ rfl
            have B1 := btr b0 b1
            clear b1 A0 b0 F c0 c1 c2 c3 c4
            obtain ⟨b', off', ha', hbB', z0, -⟩ := QR.out u1 B1
            injection ha' with ha'
            injection ha' with e1 e2
            subst e1
            subst e2
            generalize ps[j]?.getD pin0 = q at *
            go_wp2_with fail
            refine wp_region_line (Bel u1) [(0, true), (1, true), (2, true), (3, true), (4, true), (5, true), (6, true), (7, true), (8, true), (9, true), (10, true), (11, true), (12, true)] (by kernel_rfl) (by kernel_rfl) (fun _ _ d _ _ h => by cases d <;> exact h) (Bel.drew u1) ?_
            have hst := Bel.drew u1
            have inst : Nonempty (Of (Bel u1)) := ⟨⟨_, hst⟩⟩
            have q0 := bel_cell z0
            have q1 := bel_cell x0
            iterate 13 (refine line_read rfl (by kernel_rfl) (fun K hK => ?_); go_big_quiet_op; refine hK _ ?_; clear hK K)
            refine line_nil ?_
            have B2 := btr B1 hst.out
            go_wp2_with fail
            go_roundw
            case rel => exact ⟨j + 1 + 1, by omega, by go_num, HN.out, B2⟩
            case measure => simp [intOf]; omega
        · have ht' := pinsG_bad hkp ht h0
          clear ht
          generalize ps[j + 1]?.getD pin0 = p at *
          subst ht'
          go_wp2_with fail
          generalize wr.alloc (.cells #[.string p.n, .int .i64 p.a, .int .i64 p.b, .int .i64 p.e, .int .i64 p.u] 31) = W0 at *
          refine (F _).mono ?_
          rintro r u1 ⟨rfl, b1⟩
          have x0 := (A0.on b1).cell 0 _ rfl
          have B1 := btr b0 b1
          clear b1 A0 b0 F c0 c1 c2 c3 c4
          go_wp2_with fail
          go_ret
          exact ⟨rfl, B1⟩
    · obtain rfl : k = len := by omega
      have e : ps.drop k = [] := List.drop_of_length_le (by rw [hL.out]; omega)
      rw [e] at ht
      have ht' : t = 0 := by rw [← ht]; cases prevN ps k <;> rfl
      subst ht'
      go_wp2_with fail
      go_ret
      exact ⟨rfl, hb⟩
theorem l7Pins_any (a : Option Addr) (len cap B : Nat) (ps : List PinD) (w : World) (hR : PRow w B a len cap ps) (hB : B ≤ w.heap.size) :
    Calls Tryz.prog 148 #[.slice a len cap] w fun e w' => e = .returned (.int .i64 (pinsF ps)) ∧ Below w.heap.size w w' := by
  have hf := hR.fits
  have hm := hR.most
  unfold maxLen at hm
  have hL := Lib.hid hR.length
  by_cases h4 : 4 < len
  · have e : pinsF ps = 2 := by unfold pinsF; rw [hL.out, if_pos h4]
    rw [e]
    have h4' : (4 : Int) < len := by omega
    go_enter Tryz.func148, Tryz.ntmps148
    go_wp2_with fail
    go_ret
    exact ⟨rfl, Below.refl _ _⟩
  have e : pinsF ps = pinsG none ps := by unfold pinsF; rw [hL.out, if_neg h4]
  rw [e]
  have T0 : FaultRel w ps (pinsG none ps) 0 w := ⟨rfl, Below.refl _ _⟩
  have h4' : ¬ (4 : Int) < len := by omega
  generalize pinsG none ps = t at *
  clear e
  go_enter Tryz.func148, Tryz.ntmps148
  go_wp2_with fail
  go_loopw [3] (fun i wr => ∃ k : Nat, k ≤ len ∧ i = .int .i64 k ∧ FaultRel w ps t k wr) (fun i _ => len - (intOf i).toNat)
  case atStart => exact ⟨0, Nat.zero_le _, rfl, T0⟩
  case round =>
    obtain ⟨k, hk, rfl, ht, hb⟩ := hrel
    clear T0
    by_cases hlt : k < len
    · rcases Nat.eq_zero_or_pos k with hk0 | hk0
      · have hkz : ¬ (0 : Int) < k := by omega
        have hkn : ¬ 0 < k := by omega
        have hkd : decide (0 < k) = false := decide_eq_false hkn
        obtain ⟨b, off, ha, hbB, c0, c1, c2, c3, c4⟩ := (hR.below (hb.mono hB)).at' hlt
        subst ha
        have hkp : k < ps.length := by rw [hL.out]; exact hlt
        have F := l7Fault_at b (off + (k) * 5) (ps[k]?.getD pin0) wr (hR.name hlt) c0 c1 c2 c3 c4
        by_cases h0 : (ps[k]?.getD pin0).f = 0
        · rw [h0] at F
          have hn := pinsG_next hkp ht h0 (by rw [hk0]; rfl)
          have HN := Lib.hid hn
          have HK := Lib.hid hk0
          clear hn ht h0 hk0
          generalize ps[k]?.getD pin0 = p at *
          go_wp2_with fail
          refine F.mono ?_
          rintro r u1 ⟨rfl, b1⟩
          have B1 := btr hb b1
          have x0 := cell_keep b1 c0
          clear b1 F c0 c1 c2 c3 c4
          go_wp2_with fail
          refine wp_region_line (Bel u1) [(0, true), (1, true), (2, true), (3, true), (4, true), (5, true), (6, true), (7, true), (8, true), (9, true), (10, true), (11, true), (12, true), (13, true), (14, true), (15, true)] (by kernel_rfl) (by kernel_rfl) (fun _ _ d _ _ h => by cases d <;> exact h) (Bel.drew u1) ?_
          have hst := Bel.drew u1
          have inst : Nonempty (Of (Bel u1)) := ⟨⟨_, hst⟩⟩
          iterate 3 (refine line_read rfl (by kernel_rfl) (fun K hK => ?_); go_big_quiet_op; refine hK _ ?_; clear hK K)
          iterate 12 (refine line_skip rfl (by kernel_rfl) ?_; simp only [Act.put, List.setIfInBounds_toArray, List.set_cons_zero, List.set_cons_succ])
          iterate 1 (refine line_read rfl (by kernel_rfl) (fun K hK => ?_); go_big_quiet_op; refine hK _ ?_; clear hK K)
          refine line_nil ?_
          have B2 := btr B1 hst.out
          go_wp2_with fail
          go_roundw
          case rel => exact ⟨k + 1, by omega, by go_num, HN.out, B2⟩
          case measure => simp [intOf]; omega
        · have ht' := pinsG_bad hkp ht h0
          have HK := Lib.hid hk0
          clear ht hk0
          generalize ps[k]?.getD pin0 = p at *
          subst ht'
          go_wp2_with fail
          refine F.mono ?_
          rintro r u1 ⟨rfl, b1⟩
          have B1 := btr hb b1
          have x0 := cell_keep b1 c0
          clear b1 F c0 c1 c2 c3 c4
          go_wp2_with fail
          go_ret
          exact ⟨rfl, B1⟩
      · obtain ⟨j, rfl⟩ : ∃ j, k = j + 1 := ⟨k - 1, by omega⟩
        obtain ⟨b, off, ha, hbB, c0, c1, c2, c3, c4⟩ := (hR.below (hb.mono hB)).at' hlt
        subst ha
        have hkp : j + 1 < ps.length := by rw [hL.out]; exact hlt
        have F := l7Fault_at b (off + (j + 1) * 5) (ps[j + 1]?.getD pin0) wr (hR.name hlt) c0 c1 c2 c3 c4
        by_cases h0 : (ps[j + 1]?.getD pin0).f = 0
        · rw [h0] at F
          have hjl : j < len := by omega
          have QR := Lib.hid (fun u1 (B1 : Below w.heap.size w u1) => (hR.below (B1.mono hB)).at' hjl)
          have hQ := nle_eq (ps[j + 1]?.getD pin0).n.toList (ps[j]?.getD pin0).n.toList
          rw [show nlt (ps[j]?.getD pin0).n.toList (ps[j + 1]?.getD pin0).n.toList = nlt (ps[j]?.getD pin0).nm (ps[j + 1]?.getD pin0).nm by rw [ByteArray.toList_eq, ByteArray.toList_eq]; rfl] at hQ
          cases h1 : nlt (ps[j]?.getD pin0).nm (ps[j + 1]?.getD pin0).nm
          · have hn := pinsG_form hkp ht h0 h1
            rw [h1] at hQ
            subst hn
            clear ht h0 h1
            generalize ps[j + 1]?.getD pin0 = p at *
            go_wp2_with fail
            refine F.mono ?_
            rintro r u1 ⟨rfl, b1⟩
            have B1 := btr hb b1
            have x0 := cell_keep b1 c0
            clear b1 F c0 c1 c2 c3 c4
            obtain ⟨b', off', ha', hbB', z0, -⟩ := QR.out u1 B1
            injection ha' with ha'
            injection ha' with e1 e2
            subst e1
            subst e2
            generalize ps[j]?.getD pin0 = q at *
            go_wp2_with fail
            refine wp_region_line (Bel u1) [(0, true), (1, true), (2, true), (3, true), (4, true), (5, true), (6, true), (7, true), (8, true), (9, true), (10, true), (11, true), (12, true), (13, true), (14, true), (15, true)] (by kernel_rfl) (by kernel_rfl) (fun _ _ d _ _ h => by cases d <;> exact h) (Bel.drew u1) ?_
            have hst := Bel.drew u1
            have inst : Nonempty (Of (Bel u1)) := ⟨⟨_, hst⟩⟩
            have q0 := bel_cell z0
            have q1 := bel_cell x0
            iterate 16 (refine line_read rfl (by kernel_rfl) (fun K hK => ?_); go_big_quiet_op; refine hK _ ?_; clear hK K)
            refine line_nil ?_
            have B2 := btr B1 hst.out
            go_wp2_with fail
            go_ret
            exact ⟨rfl, B2⟩
          · have hn := pinsG_next hkp ht h0 h1
            rw [h1] at hQ
            have HN := Lib.hid hn
            clear ht h0 h1 hn
            generalize ps[j + 1]?.getD pin0 = p at *
            go_wp2_with fail
            refine F.mono ?_
            rintro r u1 ⟨rfl, b1⟩
            have B1 := btr hb b1
            have x0 := cell_keep b1 c0
            clear b1 F c0 c1 c2 c3 c4
            obtain ⟨b', off', ha', hbB', z0, -⟩ := QR.out u1 B1
            injection ha' with ha'
            injection ha' with e1 e2
            subst e1
            subst e2
            generalize ps[j]?.getD pin0 = q at *
            go_wp2_with fail
            refine wp_region_line (Bel u1) [(0, true), (1, true), (2, true), (3, true), (4, true), (5, true), (6, true), (7, true), (8, true), (9, true), (10, true), (11, true), (12, true), (13, true), (14, true), (15, true)] (by kernel_rfl) (by kernel_rfl) (fun _ _ d _ _ h => by cases d <;> exact h) (Bel.drew u1) ?_
            have hst := Bel.drew u1
            have inst : Nonempty (Of (Bel u1)) := ⟨⟨_, hst⟩⟩
            have q0 := bel_cell z0
            have q1 := bel_cell x0
            iterate 16 (refine line_read rfl (by kernel_rfl) (fun K hK => ?_); go_big_quiet_op; refine hK _ ?_; clear hK K)
            refine line_nil ?_
            have B2 := btr B1 hst.out
            go_wp2_with fail
            go_roundw
            case rel => exact ⟨j + 1 + 1, by omega, by go_num, HN.out, B2⟩
            case measure => simp [intOf]; omega
        · have ht' := pinsG_bad hkp ht h0
          clear ht
          generalize ps[j + 1]?.getD pin0 = p at *
          subst ht'
          go_wp2_with fail
          refine F.mono ?_
          rintro r u1 ⟨rfl, b1⟩
          have B1 := btr hb b1
          have x0 := cell_keep b1 c0
          clear b1 F c0 c1 c2 c3 c4
          go_wp2_with fail
          go_ret
          exact ⟨rfl, B1⟩
    · obtain rfl : k = len := by omega
      have e : ps.drop k = [] := List.drop_of_length_le (by rw [hL.out]; omega)
      rw [e] at ht
      have ht' : t = 0 := by rw [← ht]; cases prevN ps k <;> rfl
      subst ht'
      go_wp2_with fail
      go_ret
      exact ⟨rfl, hb⟩
end Go.Proofs.YtcolecidbalmhaaGreatDoor
namespace Go.Proofs.YtcolecidbalmhaaGreatDoor
open Go.RowKit
set_option maxRecDepth 100000
set_option linter.unusedVariables false

/-- The map that holds the first k pins. -/
structure ByName (w : World) (ps : List PinD) (k : Nat) (wr : World) : Prop where
  map : PMap wr w.heap.size (ps.take k)
  bel : Below w.heap.size w wr
theorem take_apart {ps : List PinD} (h : Apart ps) {k : Nat} (hk : k < ps.length) : ∀ q ∈ ps.take k, q.nm ≠ (ps[k]?.getD pin0).nm := by
  intro q hq
  have e : ps = ps.take k ++ (ps[k]?.getD pin0) :: ps.drop (k + 1) := by
    rw [List.getElem?_eq_getElem hk, Option.getD_some, ← List.drop_eq_getElem_cons hk, List.take_append_drop]
  rw [e] at h
  exact (List.pairwise_append.1 h).2.2 q hq _ (by simp)
theorem take_snoc {ps : List PinD} {k : Nat} (hk : k < ps.length) : ps.take k ++ [ps[k]?.getD pin0] = ps.take (k + 1) := by
  rw [List.take_succ_eq_append_getElem hk, List.getElem?_eq_getElem hk]
  rfl
theorem run_makeMap_hint (n : Int) (w : World) : (Instr.makeMap 134 (some (.int .i64 n))).run Tryz.prog w = .ok (.map (some w.heap.size)) (w.alloc (.map #[] 0)) := by
  simp [Instr.makeMap, run_underlying Tryz.underlying134, asInt, asIntOf]
theorem pinsByName_any (a : Option Addr) (len cap B : Nat) (ps : List PinD) (w : World) (hR : PRow w B a len cap ps) (hB : B ≤ w.heap.size) (hl : len ≤ 4) (ha : Apart ps) :
    Calls Tryz.prog 85 #[.slice a len cap] w fun e w' => e = .returned (.map (some w.heap.size)) ∧ PMap w' w.heap.size ps ∧ Below w.heap.size w w' := by
  have hmm := fun w => run_makeMap_hint len w
  have hL := Lib.hid hR.length
  have T0 : ByName w ps 0 (w.alloc (.map #[] 0)) := ⟨PMap.new w, bal (Below.refl _ _) _⟩
  go_enter Tryz.func85, Tryz.ntmps85
  go_wp2_with fail
  generalize w.alloc (.map #[] 0) = w1 at *
  go_loopw [11] (fun i wr => ∃ k : Nat, k ≤ len ∧ i = .int .i64 k ∧ ByName w ps k wr) (fun i _ => len - (intOf i).toNat)
  case atStart => exact ⟨0, Nat.zero_le _, rfl, T0⟩
  case round =>
    obtain ⟨k, hk, rfl, hT⟩ := hrel
    clear T0
    by_cases hlt : k < len
    · obtain ⟨b, off, hab, hbB, c0, c1, c2, c3, c4⟩ := (hR.below (hT.bel.mono hB)).at' hlt
      subst hab
      have hkp : k < ps.length := by rw [hL.out]; exact hlt
      obtain ⟨w2, hrun, M2, hturn⟩ := (hT.map.alloc (.cells #[.string (ps[k]?.getD pin0).n, .int .i64 (ps[k]?.getD pin0).a, .int .i64 (ps[k]?.getD pin0).b, .int .i64 (ps[k]?.getD pin0).e, .int .i64 (ps[k]?.getD pin0).u] 31)).store (p := ps[k]?.getD pin0) (by simp; omega) (hR.name hlt) (take_apart ha hkp)
      have b2 := turned_below hturn (bal hT.bel _) (Nat.le_refl _)
      rw [take_snoc hkp] at M2
      have T2 := Lib.hid (ByName.mk M2 b2)
      clear M2 b2 hturn hT hmm
      generalize ps[k]?.getD pin0 = p at *
      go_wp2_with fail
      go_roundw
      case rel => exact ⟨k + 1, by omega, by go_num, T2.out⟩
      case measure => simp [intOf]; omega
    · obtain rfl : k = len := by omega
      have e : ps.take k = ps := List.take_of_length_le (by rw [hL.out]; omega)
      have HM := Lib.hid (e ▸ hT.map)
      have HB := Lib.hid hT.bel
      clear hT hmm
      go_wp2_with fail
      go_ret
      exact ⟨rfl, HM.out, HB.out⟩

def fndC : Option PinD → Int
  | some _ => 0
  | none => 4
theorem findC_ok {ps : List PinD} {l : List UInt8} (h0 : pinsF ps = 0) (h1 : M.nameF l = 0) : findC ps l = fndC (findP ps (M.nrm l)) := by
  unfold findC
  rw [if_neg (fun h => h h0), if_neg (fun h => h h1)]
  cases findP ps (M.nrm l) <;> rfl
theorem nrm_size {s : ByteArray} (h : s.size ≤ 20) : (M.bs (M.nrm s.data.toList)).size ≤ maxLen := by
  have hL : s.data.toList.length = s.size := by simp
  have hb := M.bare_length s.data.toList
  rw [M.bs_size, M.nrm, Lib.toLowerA, List.length_map]
  simp only [maxLen]
  omega
abbrev RP6 (c : Int) (p : PinD) : Value := .agg #[.int .i64 c, .string p.n, .int .i64 p.a, .int .i64 p.b, .int .i64 p.e, .int .i64 p.u]
def RPL6 (c : Int) (p : PinD) : List Value := [.int .i64 c, .string p.n, .int .i64 p.a, .int .i64 p.b, .int .i64 p.e, .int .i64 p.u]
theorem implFindPin_any (a : Option Addr) (len cap B : Nat) (ps : List PinD) (s : ByteArray) (w : World) (hR : PRow w B a len cap ps) (hB : B ≤ w.heap.size) (hs : s.size ≤ maxLen) :
    Calls Tryz.prog 19 #[.slice a len cap, .string s] w fun e w' => e = .returned (RP6 (findC ps s.data.toList) (findR ps s.data.toList)) ∧ Below w.heap.size w w' := by
  have hL := Lib.hid hR.length
  have b0 := bal (Below.refl _ w) (.cells #[.int .i64 0, .string { data := #[] }, .int .i64 0, .int .i64 0, .int .i64 0, .int .i64 0] 48)
  have A0 := At.new w [.int .i64 0, .string { data := #[] }, .int .i64 0, .int .i64 0, .int .i64 0, .int .i64 0] 48
  have F := implPinsFault_any a len cap B ps _ (hR.below (b0.mono hB)) (Nat.le_trans hB b0.size)
  by_cases h0 : pinsF ps = 0
  case neg =>
    rw [show findC ps s.data.toList = pinsF ps by simp [findC, h0], show findR ps s.data.toList = pin0 by simp [findR, h0]]
    generalize pinsF ps = c at *
    clear hR
    go_enter Tryz.func19, Tryz.ntmps19
    go_wp2_with fail
    generalize w.alloc (.cells #[.int .i64 0, .string { data := #[] }, .int .i64 0, .int .i64 0, .int .i64 0, .int .i64 0] 48) = W0 at *
    refine F.mono ?_
    rintro r u1 ⟨rfl, b1⟩
    have q0 := (A0.on b1).cell 0 _ rfl
    have q1 := (A0.on b1).cell 1 _ rfl
    have q2 := (A0.on b1).cell 2 _ rfl
    have q3 := (A0.on b1).cell 3 _ rfl
    have q4 := (A0.on b1).cell 4 _ rfl
    have q5 := (A0.on b1).cell 5 _ rfl
    have z0 := (A0.on b1).free 0 _ rfl
    have z1 := (A0.on b1).free 1 _ rfl
    have z2 := (A0.on b1).free 2 _ rfl
    have z3 := (A0.on b1).free 3 _ rfl
    have z4 := (A0.on b1).free 4 _ rfl
    have z5 := (A0.on b1).free 5 _ rfl
    have B1 := btr b0 b1
    clear A0 b0 b1 F
    go_wp2_with fail
    refine bodyPost_ret (v := RP6 c ⟨{ data := #[] }, 0, 0, 0, 0⟩) (by simp [results, Tryz.results19, go_sem, q0, q1, q2, q3, q4, q5]) rfl ⟨rfl, ?_⟩
    exact (by (iterate 6 (refine bset ?_ (by dsimp only; omega) _)); exact B1)
  rw [h0] at F
  obtain ⟨hl4, hgood, hrise⟩ := pinsF_zero h0
  have N0 := fun w => implNameFault_any s w hs
  by_cases h1 : M.nameF s.data.toList = 0
  case neg =>
    rw [show findC ps s.data.toList = M.nameF s.data.toList by simp [findC, h0, h1], show findR ps s.data.toList = pin0 by simp [findR, h0, h1]]
    generalize M.nameF s.data.toList = c at *
    clear hR
    go_enter Tryz.func19, Tryz.ntmps19
    go_wp2_with fail
    generalize w.alloc (.cells #[.int .i64 0, .string { data := #[] }, .int .i64 0, .int .i64 0, .int .i64 0, .int .i64 0] 48) = W0 at *
    refine F.mono ?_
    rintro r u1 ⟨rfl, b1⟩
    have q0 := (A0.on b1).cell 0 _ rfl
    have q1 := (A0.on b1).cell 1 _ rfl
    have q2 := (A0.on b1).cell 2 _ rfl
    have q3 := (A0.on b1).cell 3 _ rfl
    have q4 := (A0.on b1).cell 4 _ rfl
    have q5 := (A0.on b1).cell 5 _ rfl
    have z0 := (A0.on b1).free 0 _ rfl
    have z1 := (A0.on b1).free 1 _ rfl
    have z2 := (A0.on b1).free 2 _ rfl
    have z3 := (A0.on b1).free 3 _ rfl
    have z4 := (A0.on b1).free 4 _ rfl
    have z5 := (A0.on b1).free 5 _ rfl
    have B1 := btr b0 b1
    clear A0 b0 b1 F
    go_wp2_with fail
    refine (N0 _).mono ?_
    rintro r w' ⟨rfl, rfl⟩
    go_wp2_with fail
    refine bodyPost_ret (v := RP6 c ⟨{ data := #[] }, 0, 0, 0, 0⟩) (by simp [results, Tryz.results19, go_sem, q0, q1, q2, q3, q4, q5]) rfl ⟨rfl, ?_⟩
    exact (by (iterate 6 (refine bset ?_ (by dsimp only; omega) _)); exact B1)
  rw [h1] at N0
  obtain ⟨h20, hm⟩ := M.nameF_zero h1
  have hsz : s.data.toList.length = s.size := by simp
  have NT := fun w => normalText_any s w (by omega) hm
  have hns : (M.bs (M.nrm s.data.toList)).size ≤ maxLen := nrm_size (by omega)
  have LK := Lib.hid (fun (w : World) (b : Nat) (h : PMap w b ps) => h.look (s := M.bs (M.nrm s.data.toList)) hns)
  rw [M.bs_list] at LK
  have BN := Lib.hid (fun (w1 : World) (h : Below w.heap.size w w1) => pinsByName_any a len cap B ps w1 (hR.below (h.mono hB)) (Nat.le_trans hB h.size) (by have := hL.out; omega) hrise.apart)
  have EC := findC_ok (l := s.data.toList) h0 h1
  have ER : findR ps s.data.toList = (findP ps (M.nrm s.data.toList)).getD pin0 := by simp [findR, h0, h1]
  rw [EC, ER]
  clear EC ER
  generalize M.bs (M.nrm s.data.toList) = S2 at *
  generalize findP ps (M.nrm s.data.toList) = o at *
  clear hR h0 h1 hgood hrise
  go_enter Tryz.func19, Tryz.ntmps19
  go_wp2_with fail
  generalize w.alloc (.cells #[.int .i64 0, .string { data := #[] }, .int .i64 0, .int .i64 0, .int .i64 0, .int .i64 0] 48) = W0 at *
  refine F.mono ?_
  rintro r u1 ⟨rfl, b1⟩
  have A1 := A0.on b1
  have B0 := btr b0 b1
  clear A0 b0 b1 F
  go_wp2_with fail
  refine (N0 _).mono ?_
  rintro r w' ⟨rfl, rfl⟩
  go_wp2_with fail
  refine (BN.out _ B0).mono ?_
  rintro r u2 ⟨rfl, M2, b2⟩
  go_wp2_with fail
  refine (NT _).mono ?_
  rintro r u3 ⟨rfl, b3⟩
  have M3 := M2.on b3
  have lk := LK.out _ _ M3
  have bb := btr b2 b3
  have B1 := btr B0 bb
  have q0 := (A1.on bb).cell 0 _ rfl
  have q1 := (A1.on bb).cell 1 _ rfl
  have q2 := (A1.on bb).cell 2 _ rfl
  have q3 := (A1.on bb).cell 3 _ rfl
  have q4 := (A1.on bb).cell 4 _ rfl
  have q5 := (A1.on bb).cell 5 _ rfl
  have z0 := (A1.on bb).free 0 _ rfl
  have z1 := (A1.on bb).free 1 _ rfl
  have z2 := (A1.on bb).free 2 _ rfl
  have z3 := (A1.on bb).free 3 _ rfl
  have z4 := (A1.on bb).free 4 _ rfl
  have z5 := (A1.on bb).free 5 _ rfl
  have lt3 : w.heap.size < u3.heap.size := (A1.on bb).lt (by simp)
  clear BN NT N0 LK M2 M3 A1 B0 b2 b3 bb
  cases o with
  | none =>
    go_wp2_with fail
    refine bodyPost_ret (v := RP6 4 ⟨{ data := #[] }, 0, 0, 0, 0⟩) (by simp [results, Tryz.results19, go_sem, q0, q1, q2, q3, q4, q5, lt3]) rfl ⟨rfl, ?_⟩
    exact bal (by (iterate 6 (refine bset ?_ (by dsimp only; omega) _)); exact B1) _
  | some p =>
    go_wp2_with fail
    refine bodyPost_ret (v := RP6 0 p) (by simp [results, Tryz.results19, go_sem, q0, q1, q2, q3, q4, q5, lt3]) rfl ⟨rfl, ?_⟩
    exact bal (by (iterate 6 (refine bset ?_ (by dsimp only; omega) _)); exact B1) _

/-- The place of the first pin of a name, from place i on. -/
def atI : List PinD → List UInt8 → Int → Int
  | [], _, _ => -1
  | p :: r, l, i => if p.nm = l then i else atI r l (i + 1)
theorem atI_step {ps : List PinD} {k : Nat} (hk : k < ps.length) (l : List UInt8) (i : Int) : atI (ps.drop k) l i = if (ps[k]?.getD pin0).nm = l then i else atI (ps.drop (k + 1)) l (i + 1) := by
  have e : ps.drop k = (ps[k]?.getD pin0) :: ps.drop (k + 1) := by
    rw [List.drop_eq_getElem_cons hk, List.getElem?_eq_getElem hk]
    rfl
  rw [e]
  rfl
theorem atI_spec : ∀ (ps : List PinD) (l : List UInt8) (i : Int), (findP ps l = none ∧ atI ps l i = -1) ∨ ∃ k : Nat, k < ps.length ∧ atI ps l i = i + k ∧ findP ps l = some (ps[k]?.getD pin0)
  | [], l, i => .inl ⟨rfl, rfl⟩
  | p :: r, l, i => by
    by_cases h : p.nm = l
    · refine .inr ⟨0, by simp, ?_, ?_⟩
      · rw [atI, if_pos h]; simp
      · simp [findP, h]
    · have ef : findP (p :: r) l = findP r l := by simp [findP, h]
      rw [ef, atI, if_neg h]
      rcases atI_spec r l (i + 1) with h1 | ⟨k, hk, h1, h2⟩
      · exact .inl h1
      · exact .inr ⟨k + 1, by simpa using hk, by rw [h1]; push_cast; omega, by simpa using h2⟩
def AtRel (w : World) (ps : List PinD) (l : List UInt8) (t : Int) (k : Nat) (wr : World) : Prop := atI (ps.drop k) l k = t ∧ Below w.heap.size w wr
theorem l7At_any (a : Option Addr) (len cap B : Nat) (ps : List PinD) (s : ByteArray) (w : World) (hR : PRow w B a len cap ps) (hB : B ≤ w.heap.size) :
    Calls Tryz.prog 150 #[.slice a len cap, .string s] w fun e w' => e = .returned (.int .i64 (atI ps s.data.toList 0)) ∧ Below w.heap.size w w' := by
  have hf := hR.fits
  have hm := hR.most
  unfold maxLen at hm
  have hL := Lib.hid hR.length
  have T0 : AtRel w ps s.data.toList (atI ps s.data.toList 0) 0 w := ⟨rfl, Below.refl _ _⟩
  generalize atI ps s.data.toList 0 = t at *
  go_enter Tryz.func150, Tryz.ntmps150
  go_wp2_with fail
  go_loopw [5] (fun i wr => ∃ k : Nat, k ≤ len ∧ i = .int .i64 k ∧ AtRel w ps s.data.toList t k wr) (fun i _ => len - (intOf i).toNat)
  case atStart => exact ⟨0, Nat.zero_le _, rfl, T0⟩
  case round =>
    obtain ⟨k, hk, rfl, ht, hb⟩ := hrel
    clear T0
    by_cases hlt : k < len
    · obtain ⟨b, off, hab, hbB, c0, -⟩ := (hR.below (hb.mono hB)).at' hlt
      subst hab
      rw [atI_step (by rw [hL.out]; exact hlt)] at ht
      have Q : ((ps[k]?.getD pin0).n.toList == s.toList) = decide ((ps[k]?.getD pin0).nm = s.data.toList) := text_beq (ps[k]?.getD pin0).n s
      have HB := Lib.hid hb
      by_cases h1 : (ps[k]?.getD pin0).nm = s.data.toList
      · rw [if_pos h1] at ht
        rw [decide_eq_true h1] at Q
        subst ht
        clear h1 hb
        generalize ps[k]?.getD pin0 = p at *
        go_wp2_with fail
        go_ret
        exact ⟨rfl, HB.out⟩
      · rw [if_neg h1] at ht
        rw [decide_eq_false h1] at Q
        have HT := Lib.hid ht
        clear h1 ht hb
        generalize ps[k]?.getD pin0 = p at *
        go_wp2_with fail
        go_roundw
        case rel => exact ⟨k + 1, by omega, by go_num, HT.out, HB.out⟩
        case measure => simp [intOf]; omega
    · obtain rfl : k = len := by omega
      have e : ps.drop k = [] := List.drop_of_length_le (by rw [hL.out]; omega)
      rw [e] at ht
      have ht' : -1 = t := ht
      subst ht'
      go_wp2_with fail
      go_ret
      exact ⟨rfl, hb⟩

end Go.Proofs.YtcolecidbalmhaaGreatDoor
