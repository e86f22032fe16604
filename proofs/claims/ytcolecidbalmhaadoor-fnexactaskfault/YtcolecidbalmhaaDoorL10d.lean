/- Contracts of what the laws do with askings: compare them, copy them, count them. Conditions: as each theorem states. -/
import Derived.Test.YtcolecidbalmhaaDoorOpen10a
import Derived.Test.YtcolecidbalmhaaDoorL10
import Derived.Deep.DeepCutAuto
namespace Go.Proofs.YtcolecidbalmhaaDoor
open Go.RowKit
set_option maxRecDepth 100000
set_option linter.unusedVariables false

/-- How much of a bound an asking leaves. -/
def szA (q : AskD) (l : Int) : Int := if szP q.ps l < 0 then -1 else if szTP q.ts (szP q.ps l) < 0 then -1 else if szTP q.ts (szP q.ps l) < q.n.size then -1 else szTP q.ts (szP q.ps l) - q.n.size
theorem szP_neg {ps : List PinD} {l : Int} (h0 : 0 ≤ l) (h : szP ps l < 0) : szP ps l = -1 := by
  unfold szP at h ⊢
  split
  · rfl
  · rw [if_neg ‹_›] at h
    have := (szL_le ps (l - ps.length) (by omega)).2
    omega
theorem szTP_neg {ps : List TlsaD} {l : Int} (h0 : 0 ≤ l) (h : szTP ps l < 0) : szTP ps l = -1 := by
  unfold szTP at h ⊢
  split
  · rfl
  · rw [if_neg ‹_›] at h
    have := (szTL_le ps (l - ps.length) (by omega)).2
    omega
theorem szA_ok {q : AskD} {l : Int} (h : 0 ≤ szA q l) : 0 ≤ szP q.ps l ∧ 0 ≤ szTP q.ts (szP q.ps l) ∧ (q.n.size : Int) ≤ szTP q.ts (szP q.ps l) := by
  unfold szA at h
  split at h
  · omega
  split at h
  · omega
  split at h
  · omega
  exact ⟨by omega, by omega, by omega⟩
theorem szA_neg {q : AskD} {l : Int} (h : szA q l < 0) : szA q l = -1 := by
  unfold szA at h ⊢
  repeat' split
  all_goals first | rfl | skip
  rw [if_neg ‹_›, if_neg ‹_›, if_neg ‹_›] at h
  omega
/-- It is not too great. -/
structure SmallA (q : AskD) : Prop where
  ps : q.ps.length ≤ 1048576
  ts : q.ts.length ≤ 1048576
theorem szA_small {q : AskD} {l : Int} (hl : l ≤ 1048576) (h : 0 ≤ szA q l) : SmallA q := by
  obtain ⟨h1, h2, _⟩ := szA_ok h
  obtain ⟨a, _, b⟩ := szP_ok h1
  obtain ⟨c, _, _⟩ := szTP_ok h2
  exact ⟨by omega, by omega⟩
theorem szAsk_any (a1 : Option Addr) (n1 c1 : Nat) (a2 : Option Addr) (n2 c2 B : Nat) (q : AskD) (l : Int) (w : World) (h : ARow w B a1 n1 c1 a2 n2 c2 q) (hB : B ≤ w.heap.size) (l0 : 0 ≤ l) (l1 : l ≤ 1048576) :
    Calls Tryd.prog 6 #[A6 a1 n1 c1 a2 n2 c2 q, .int .i64 l] w fun r w' => r = .returned (.int .i64 (szA q l)) ∧ Below w.heap.size w w' := by
  obtain ⟨f, ps, ts, n, p, t⟩ := q
  have b0 := bal (Below.refl _ w) (.cells #[.bool f, .slice a1 n1 c1, .slice a2 n2 c2, .string n, .int .i64 p, .int .i64 t] 25)
  have A0 : At w.heap.size [.bool f, .slice a1 n1 c1, .slice a2 n2 c2, .string n, .int .i64 p, .int .i64 t] (w.alloc (.cells #[.bool f, .slice a1 n1 c1, .slice a2 n2 c2, .string n, .int .i64 p, .int .i64 t] 25)) := At.new w [.bool f, .slice a1 n1 c1, .slice a2 n2 c2, .string n, .int .i64 p, .int .i64 t] 25
  have P := szPinS_any a1 n1 c1 B ps l _ (h.ps.below (b0.mono hB)) (Nat.le_trans hB b0.size) l0 l1
  have hn := h.nm
  dsimp only at hn
  unfold maxLen at hn
  by_cases h1 : szP ps l < 0
  · have e : szA ⟨f, ps, ts, n, p, t⟩ l = -1 := by unfold szA; rw [if_pos h1]
    rw [e]
    rw [szP_neg l0 h1] at P
    clear e h h1
    go_enter Tryd.func6, Tryd.ntmps6
    go_wp2_with fail
    generalize w.alloc (.cells #[.bool f, .slice a1 n1 c1, .slice a2 n2 c2, .string n, .int .i64 p, .int .i64 t] 25) = W0 at *
    refine P.mono ?_
    rintro r u1 ⟨rfl, b1⟩
    have B1 := btr b0 b1
    have A1 := A0.on b1
    clear b0 b1 A0
    have d0 := A1.cell 0 _ rfl
    have d1 := A1.cell 1 _ rfl
    have d2 := A1.cell 2 _ rfl
    have d3 := A1.cell 3 _ rfl
    have d4 := A1.cell 4 _ rfl
    have d5 := A1.cell 5 _ rfl
    go_wp2_with fail
    go_ret
    exact ⟨rfl, B1⟩
  have hs1 : szP ps l ≤ l := (szP_ok (by omega)).2.2
  have D := Lib.hid (fun (w' : World) (hb : Below w.heap.size w w') => szTlsaS_any a2 n2 c2 B ts (szP ps l) w' (h.ts.below (hb.mono hB)) (Nat.le_trans hB hb.size) (by omega) (by omega))
  by_cases h2 : szTP ts (szP ps l) < 0
  · have e : szA ⟨f, ps, ts, n, p, t⟩ l = -1 := by unfold szA; rw [if_neg h1, if_pos h2]
    rw [e]
    rw [szTP_neg (by omega) h2] at D
    generalize szP ps l = m at *
    clear e h h2
    go_enter Tryd.func6, Tryd.ntmps6
    go_wp2_with fail
    generalize w.alloc (.cells #[.bool f, .slice a1 n1 c1, .slice a2 n2 c2, .string n, .int .i64 p, .int .i64 t] 25) = W0 at *
    refine P.mono ?_
    rintro r u1 ⟨rfl, b1⟩
    have B1 := btr b0 b1
    have A1 := A0.on b1
    clear b0 b1 A0
    have d0 := A1.cell 0 _ rfl
    have d1 := A1.cell 1 _ rfl
    have d2 := A1.cell 2 _ rfl
    have d3 := A1.cell 3 _ rfl
    have d4 := A1.cell 4 _ rfl
    have d5 := A1.cell 5 _ rfl
    go_wp2_with fail
    refine (D.out _ B1).mono ?_
    rintro r u2 ⟨rfl, b2⟩
    have B2 := btr B1 b2
    have A2 := A1.on b2
    clear B1 A1 b2 d0 d1 d2 d3 d4 d5
    have d0 := A2.cell 0 _ rfl
    have d1 := A2.cell 1 _ rfl
    have d2 := A2.cell 2 _ rfl
    have d3 := A2.cell 3 _ rfl
    have d4 := A2.cell 4 _ rfl
    have d5 := A2.cell 5 _ rfl
    go_wp2_with fail
    go_ret
    exact ⟨rfl, B2⟩
  have hs2 : szTP ts (szP ps l) ≤ szP ps l := (szTP_ok (by omega)).2.2
  by_cases h3 : szTP ts (szP ps l) < n.size
  · have e : szA ⟨f, ps, ts, n, p, t⟩ l = -1 := by unfold szA; rw [if_neg h1, if_neg h2, if_pos h3]
    rw [e]
    generalize szTP ts (szP ps l) = m2 at *
    generalize szP ps l = m at *
    have h3' : m2 - n.size < 0 := by omega
    clear e h
    go_enter Tryd.func6, Tryd.ntmps6
    go_wp2_with fail
    generalize w.alloc (.cells #[.bool f, .slice a1 n1 c1, .slice a2 n2 c2, .string n, .int .i64 p, .int .i64 t] 25) = W0 at *
    refine P.mono ?_
    rintro r u1 ⟨rfl, b1⟩
    have B1 := btr b0 b1
    have A1 := A0.on b1
    clear b0 b1 A0
    have d0 := A1.cell 0 _ rfl
    have d1 := A1.cell 1 _ rfl
    have d2 := A1.cell 2 _ rfl
    have d3 := A1.cell 3 _ rfl
    have d4 := A1.cell 4 _ rfl
    have d5 := A1.cell 5 _ rfl
    go_wp2_with fail
    refine (D.out _ B1).mono ?_
    rintro r u2 ⟨rfl, b2⟩
    have B2 := btr B1 b2
    have A2 := A1.on b2
    clear B1 A1 b2 d0 d1 d2 d3 d4 d5
    have d0 := A2.cell 0 _ rfl
    have d1 := A2.cell 1 _ rfl
    have d2 := A2.cell 2 _ rfl
    have d3 := A2.cell 3 _ rfl
    have d4 := A2.cell 4 _ rfl
    have d5 := A2.cell 5 _ rfl
    go_wp2_with fail
    go_ret
    exact ⟨rfl, B2⟩
  · have e : szA ⟨f, ps, ts, n, p, t⟩ l = szTP ts (szP ps l) - n.size := by unfold szA; rw [if_neg h1, if_neg h2, if_neg h3]
    rw [e]
    generalize szTP ts (szP ps l) = m2 at *
    generalize szP ps l = m at *
    have h3' : ¬ m2 - n.size < 0 := by omega
    clear e h
    go_enter Tryd.func6, Tryd.ntmps6
    go_wp2_with fail
    generalize w.alloc (.cells #[.bool f, .slice a1 n1 c1, .slice a2 n2 c2, .string n, .int .i64 p, .int .i64 t] 25) = W0 at *
    refine P.mono ?_
    rintro r u1 ⟨rfl, b1⟩
    have B1 := btr b0 b1
    have A1 := A0.on b1
    clear b0 b1 A0
    have d0 := A1.cell 0 _ rfl
    have d1 := A1.cell 1 _ rfl
    have d2 := A1.cell 2 _ rfl
    have d3 := A1.cell 3 _ rfl
    have d4 := A1.cell 4 _ rfl
    have d5 := A1.cell 5 _ rfl
    go_wp2_with fail
    refine (D.out _ B1).mono ?_
    rintro r u2 ⟨rfl, b2⟩
    have B2 := btr B1 b2
    have A2 := A1.on b2
    clear B1 A1 b2 d0 d1 d2 d3 d4 d5
    have d0 := A2.cell 0 _ rfl
    have d1 := A2.cell 1 _ rfl
    have d2 := A2.cell 2 _ rfl
    have d3 := A2.cell 3 _ rfl
    have d4 := A2.cell 4 _ rfl
    have d5 := A2.cell 5 _ rfl
    go_wp2_with fail
    go_ret
    exact ⟨rfl, B2⟩
/-- An asking was copied. -/
def AskCopied (q : AskD) (w : World) (e : Ending) (w' : World) : Prop :=
  ∃ x1 x2, e = .returned (A6 x1 q.ps.length q.ps.length x2 q.ts.length q.ts.length q) ∧ ARow w' w'.heap.size x1 q.ps.length q.ps.length x2 q.ts.length q.ts.length q ∧ Below w.heap.size w w'
set_option maxHeartbeats 2000000 in
theorem toAsk_any (a1 : Option Addr) (n1 c1 : Nat) (a2 : Option Addr) (n2 c2 B : Nat) (q : AskD) (w : World) (h : ARow w B a1 n1 c1 a2 n2 c2 q) (hB : B ≤ w.heap.size) (hs : SmallA q) :
    Calls Tryd.prog 8 #[A6 a1 n1 c1 a2 n2 c2 q] w (AskCopied q w) := by
  obtain ⟨f, ps, ts, n, p, t⟩ := q
  have b0 := bal (bal (bal (Below.refl _ w) (.cells #[.bool f, .slice a1 n1 c1, .slice a2 n2 c2, .string n, .int .i64 p, .int .i64 t] 25)) (.cells #[.bool false, .slice none 0 0, .slice none 0 0, .string { data := #[] }, .int .i64 0, .int .i64 0] 31)) (.cells #[.bool f, .slice none 0 0, .slice none 0 0, .string { data := #[] }, .int .i64 0, .int .i64 0] 31)
  have A0 : At w.heap.size [.bool f, .slice a1 n1 c1, .slice a2 n2 c2, .string n, .int .i64 p, .int .i64 t] (((w.alloc (.cells #[.bool f, .slice a1 n1 c1, .slice a2 n2 c2, .string n, .int .i64 p, .int .i64 t] 25)).alloc (.cells #[.bool false, .slice none 0 0, .slice none 0 0, .string { data := #[] }, .int .i64 0, .int .i64 0] 31)).alloc (.cells #[.bool f, .slice none 0 0, .slice none 0 0, .string { data := #[] }, .int .i64 0, .int .i64 0] 31)) := ((At.new w [.bool f, .slice a1 n1 c1, .slice a2 n2 c2, .string n, .int .i64 p, .int .i64 t] 25).alloc _).alloc _
  have R0 := (At.new (w.alloc (.cells #[.bool f, .slice a1 n1 c1, .slice a2 n2 c2, .string n, .int .i64 p, .int .i64 t] 25)) [.bool false, .slice none 0 0, .slice none 0 0, .string { data := #[] }, .int .i64 0, .int .i64 0] 31).alloc (.cells #[.bool f, .slice none 0 0, .slice none 0 0, .string { data := #[] }, .int .i64 0, .int .i64 0] 31)
  have D0 := At.new ((w.alloc (.cells #[.bool f, .slice a1 n1 c1, .slice a2 n2 c2, .string n, .int .i64 p, .int .i64 t] 25)).alloc (.cells #[.bool false, .slice none 0 0, .slice none 0 0, .string { data := #[] }, .int .i64 0, .int .i64 0] 31)) [.bool f, .slice none 0 0, .slice none 0 0, .string { data := #[] }, .int .i64 0, .int .i64 0] 31
  rw [World.size_alloc] at R0
  rw [World.size_alloc, World.size_alloc] at D0
  have l1 := h.ps.length
  have l2 := h.ts.length
  have g1 := hs.ps
  have g2 := hs.ts
  dsimp only at l1 l2 g1 g2
  have HNP := Lib.hid h.ps.names
  have HNT := Lib.hid h.ts.names
  have HNN := Lib.hid h.nm
  have P := toPinS_any a1 n1 c1 B ps _ (h.ps.below (b0.mono hB)) (Nat.le_trans hB b0.size) (by omega)
  have D := Lib.hid (fun (w' : World) (hb : Below w.heap.size w w') => toTlsaS_any a2 n2 c2 B ts w' (h.ts.below (hb.mono hB)) (Nat.le_trans hB hb.size) (by omega))
  have HS := Lib.hid (show AskCopied ⟨f, ps, ts, n, p, t⟩ w = fun e w' => ∃ x1 x2, e = .returned (.agg #[.bool f, .slice x1 n1 n1, .slice x2 n2 n2, .string n, .int .i64 p, .int .i64 t]) ∧ ARow w' w'.heap.size x1 n1 n1 x2 n2 n2 ⟨f, ps, ts, n, p, t⟩ ∧ Below w.heap.size w w' by unfold AskCopied; dsimp only; rw [l1, l2])
  rw [HS.out]
  have HA0 := Lib.hid A0
  have HR0 := Lib.hid (show At (w.heap.size + 1) [.bool false, .slice none 0 0, .slice none 0 0, .string { data := #[] }, .int .i64 0, .int .i64 0] (((w.alloc (.cells #[.bool f, .slice a1 n1 c1, .slice a2 n2 c2, .string n, .int .i64 p, .int .i64 t] 25)).alloc (.cells #[.bool false, .slice none 0 0, .slice none 0 0, .string { data := #[] }, .int .i64 0, .int .i64 0] 31)).alloc (.cells #[.bool f, .slice none 0 0, .slice none 0 0, .string { data := #[] }, .int .i64 0, .int .i64 0] 31)) from R0)
  have HD0 := Lib.hid (show At (w.heap.size + 1 + 1) [.bool f, .slice none 0 0, .slice none 0 0, .string { data := #[] }, .int .i64 0, .int .i64 0] (((w.alloc (.cells #[.bool f, .slice a1 n1 c1, .slice a2 n2 c2, .string n, .int .i64 p, .int .i64 t] 25)).alloc (.cells #[.bool false, .slice none 0 0, .slice none 0 0, .string { data := #[] }, .int .i64 0, .int .i64 0] 31)).alloc (.cells #[.bool f, .slice none 0 0, .slice none 0 0, .string { data := #[] }, .int .i64 0, .int .i64 0] 31)) from D0)
  have HB0 := Lib.hid b0
  clear HS h hs R0 D0 b0 g1 g2 l1 l2
  unfold CopiedP at P
  unfold CopiedT at D
  have d0 := A0.cell 0 _ rfl
  have d1 := A0.cell 1 _ rfl
  have d2 := A0.cell 2 _ rfl
  have d3 := A0.cell 3 _ rfl
  have d4 := A0.cell 4 _ rfl
  have d5 := A0.cell 5 _ rfl
  clear A0
  go_enter Tryd.func8, Tryd.ntmps8
  go_wp2_with fail
  generalize ((w.alloc (.cells #[.bool f, .slice a1 n1 c1, .slice a2 n2 c2, .string n, .int .i64 p, .int .i64 t] 25)).alloc (.cells #[.bool false, .slice none 0 0, .slice none 0 0, .string { data := #[] }, .int .i64 0, .int .i64 0] 31)).alloc (.cells #[.bool f, .slice none 0 0, .slice none 0 0, .string { data := #[] }, .int .i64 0, .int .i64 0] 31) = W0 at *
  refine P.mono ?_
  rintro r u1 ⟨rfl, O1, b1⟩
  have hz0 : w.heap.size + 1 + 1 < W0.heap.size := HD0.out.lt (by simp)
  have lt1 : W0.heap.size ≤ u1.heap.size := b1.size
  have A1 := HA0.out.on b1
  have D1 := HD0.out.on b1
  clear d0 d1 d2 d3 d4 d5 P
  have d0 := A1.cell 0 _ rfl
  have d1 := A1.cell 1 _ rfl
  have d2 := A1.cell 2 _ rfl
  have d3 := A1.cell 3 _ rfl
  have d4 := A1.cell 4 _ rfl
  have d5 := A1.cell 5 _ rfl
  have p0 := D1.cell 0 _ rfl
  have p1 := D1.cell 1 _ rfl
  have p2 := D1.cell 2 _ rfl
  have p3 := D1.cell 3 _ rfl
  have p4 := D1.cell 4 _ rfl
  have p5 := D1.cell 5 _ rfl
  have z0 := D1.free 0 _ rfl
  have z1 := D1.free 1 _ rfl
  have z2 := D1.free 2 _ rfl
  have z3 := D1.free 3 _ rfl
  have z4 := D1.free 4 _ rfl
  have z5 := D1.free 5 _ rfl
  have A2 := A1.setB (p := ⟨w.heap.size + 1 + 1, 1, none⟩) (by show w.heap.size ≠ w.heap.size + 1 + 1; omega) (.slice (some ⟨W0.heap.size, 0, none⟩) n1 n1)
  have R2 := (HR0.out.on b1).setB (p := ⟨w.heap.size + 1 + 1, 1, none⟩) (by show w.heap.size + 1 ≠ w.heap.size + 1 + 1; omega) (.slice (some ⟨W0.heap.size, 0, none⟩) n1 n1)
  have D2 := D1.set 1 (.slice (some ⟨W0.heap.size, 0, none⟩) n1 n1)
  have O2 : OwnP (u1.setCell ⟨w.heap.size + 1 + 1, 1, none⟩ (.slice (some ⟨W0.heap.size, 0, none⟩) n1 n1)) W0.heap.size (.slice (some ⟨W0.heap.size, 0, none⟩) n1 n1) ps := Own.setCell O1 (fun k e => by have := (Own.lt O1 k e).1; show k ≠ w.heap.size + 1 + 1; omega) _
  have B2 : Below w.heap.size w (u1.setCell ⟨w.heap.size + 1 + 1, 1, none⟩ (.slice (some ⟨W0.heap.size, 0, none⟩) n1 n1)) := bset (btr HB0.out b1) (by show w.heap.size ≤ w.heap.size + 1 + 1; omega) _
  have hs2 : (u1.setCell ⟨w.heap.size + 1 + 1, 1, none⟩ (.slice (some ⟨W0.heap.size, 0, none⟩) n1 n1)).heap.size = u1.heap.size := by simp [World.setCell]
  have HA2 := Lib.hid A2
  have HR2 := Lib.hid R2
  have HD2 := Lib.hid D2
  have HO2 := Lib.hid O2
  have HB2 := Lib.hid B2
  have HS2 := Lib.hid hs2
  have ne1 : w.heap.size ≠ w.heap.size + 1 + 1 := by omega
  clear A1 D1 A2 R2 D2 O2 B2 hs2 O1 b1 HA0 HR0 HD0 HB0
  go_upto_region 4 with fail
  generalize u1.setCell ⟨w.heap.size + 1 + 1, 1, none⟩ (.slice (some ⟨W0.heap.size, 0, none⟩) n1 n1) = W2 at *
  have hlo : W0.heap.size ≤ W2.heap.size := by have := HS2.out; omega
  clear d0 d1 d2 d3 d4 d5 p0 p1 p2 p3 p4 p5 z0 z1 z2 z3 z4 z5
  have d0 := HA2.out.cell 0 _ rfl
  have d1 := HA2.out.cell 1 _ rfl
  have d2 := HA2.out.cell 2 _ rfl
  have d3 := HA2.out.cell 3 _ rfl
  have d4 := HA2.out.cell 4 _ rfl
  have d5 := HA2.out.cell 5 _ rfl
  go_wp2_with fail
  refine (D.out _ HB2.out).mono ?_
  rintro r u3 ⟨rfl, O3, b3⟩
  have A3 := HA2.out.on b3
  have R3 := HR2.out.on b3
  have D3 := HD2.out.on b3
  have HB3 := Lib.hid (btr HB2.out b3)
  have HO3 := Lib.hid O3
  have HOP := Lib.hid (OwnP.below HO2.out b3)
  clear HA2 HR2 HD2 HB2 HO2 HS2 b3 O3 d0 d1 d2 d3 d4 d5 D
  have D3' : At (w.heap.size + 1 + 1) [.bool f, .slice (some ⟨W0.heap.size, 0, none⟩) n1 n1, .slice none 0 0, .string { data := #[] }, .int .i64 0, .int .i64 0] u3 := D3
  have d0 := A3.cell 0 _ rfl
  have d1 := A3.cell 1 _ rfl
  have d2 := A3.cell 2 _ rfl
  have d3 := A3.cell 3 _ rfl
  have d4 := A3.cell 4 _ rfl
  have d5 := A3.cell 5 _ rfl
  have p0 := D3'.cell 0 _ rfl
  have p1 := D3'.cell 1 _ rfl
  have p2 := D3'.cell 2 _ rfl
  have p3 := D3'.cell 3 _ rfl
  have p4 := D3'.cell 4 _ rfl
  have p5 := D3'.cell 5 _ rfl
  have z0 := D3'.free 0 _ rfl
  have z1 := D3'.free 1 _ rfl
  have z2 := D3'.free 2 _ rfl
  have z3 := D3'.free 3 _ rfl
  have z4 := D3'.free 4 _ rfl
  have z5 := D3'.free 5 _ rfl
  have q0 := R3.cell 0 _ rfl
  have q1 := R3.cell 1 _ rfl
  have q2 := R3.cell 2 _ rfl
  have q3 := R3.cell 3 _ rfl
  have q4 := R3.cell 4 _ rfl
  have q5 := R3.cell 5 _ rfl
  have y0 := R3.free 0 _ rfl
  have y1 := R3.free 1 _ rfl
  have y2 := R3.free 2 _ rfl
  have y3 := R3.free 3 _ rfl
  have y4 := R3.free 4 _ rfl
  have y5 := R3.free 5 _ rfl
  have ne2 : w.heap.size + 1 ≠ w.heap.size + 1 + 1 := by omega
  clear A3 R3 D3 D3'
  go_wp2_with fail
  refine bodyPost_ret (v := .agg #[.bool f, .slice (some ⟨W0.heap.size, 0, none⟩) n1 n1, .slice (some ⟨W2.heap.size, 0, none⟩) n2 n2, .string n, .int .i64 p, .int .i64 t]) (by simp [results, Tryd.results8, go_sem, q0, q1, q2, q3, q4, q5]) rfl ⟨_, _, rfl, ⟨?_, ?_, HNN.out⟩, ?_⟩
  · refine OwnP.row (B := W0.heap.size) ?_ HNP.out
    iterate 10 (refine Own.setCell ?_ (fun k e => by have := (Own.lt HOP.out k e).1; dsimp only; omega) _)
    exact HOP.out
  · refine OwnT.row (B := W2.heap.size) ?_ HNT.out
    iterate 10 (refine Own.setCell ?_ (fun k e => by have := (Own.lt HO3.out k e).1; dsimp only; omega) _)
    exact HO3.out
  · iterate 10 (refine bset ?_ (by dsimp only; omega) _)
    exact HB3.out
set_option maxHeartbeats 2000000 in
theorem eqAsk_any (a1 b1 : Option Addr) (n1 c1 d1 : Nat) (a2 b2 : Option Addr) (n2 c2 d2 B : Nat) (q : AskD) (w : World) (h : ARow w B a1 n1 c1 a2 n2 c2 q) (g : ARow w B b1 n1 d1 b2 n2 d2 q) (hB : B ≤ w.heap.size) :
    Calls Tryd.prog 10 #[A6 a1 n1 c1 a2 n2 c2 q, A6 b1 n1 d1 b2 n2 d2 q] w fun e w' => e = .returned (.bool true) ∧ Below w.heap.size w w' := by
  obtain ⟨f, ps, ts, n, p, t⟩ := q
  have b0 := bal (bal (Below.refl _ w) (.cells #[.bool f, .slice a1 n1 c1, .slice a2 n2 c2, .string n, .int .i64 p, .int .i64 t] 31)) (.cells #[.bool f, .slice b1 n1 d1, .slice b2 n2 d2, .string n, .int .i64 p, .int .i64 t] 31)
  have A0 : At w.heap.size [.bool f, .slice a1 n1 c1, .slice a2 n2 c2, .string n, .int .i64 p, .int .i64 t] ((w.alloc (.cells #[.bool f, .slice a1 n1 c1, .slice a2 n2 c2, .string n, .int .i64 p, .int .i64 t] 31)).alloc (.cells #[.bool f, .slice b1 n1 d1, .slice b2 n2 d2, .string n, .int .i64 p, .int .i64 t] 31)) := (At.new w [.bool f, .slice a1 n1 c1, .slice a2 n2 c2, .string n, .int .i64 p, .int .i64 t] 31).alloc _
  have A1 := At.new (w.alloc (.cells #[.bool f, .slice a1 n1 c1, .slice a2 n2 c2, .string n, .int .i64 p, .int .i64 t] 31)) [.bool f, .slice b1 n1 d1, .slice b2 n2 d2, .string n, .int .i64 p, .int .i64 t] 31
  rw [World.size_alloc] at A1
  have EP := eqPinS_any a1 b1 n1 c1 d1 B ps _ (h.ps.below (b0.mono hB)) (g.ps.below (b0.mono hB)) (Nat.le_trans hB b0.size)
  have D := Lib.hid (fun (w' : World) (hb : Below w.heap.size w w') => eqTlsaS_any a2 b2 n2 c2 d2 B ts w' (h.ts.below (hb.mono hB)) (g.ts.below (hb.mono hB)) (Nat.le_trans hB hb.size))
  have HA0 := Lib.hid A0
  have HA1 := Lib.hid (show At (w.heap.size + 1) [.bool f, .slice b1 n1 d1, .slice b2 n2 d2, .string n, .int .i64 p, .int .i64 t] ((w.alloc (.cells #[.bool f, .slice a1 n1 c1, .slice a2 n2 c2, .string n, .int .i64 p, .int .i64 t] 31)).alloc (.cells #[.bool f, .slice b1 n1 d1, .slice b2 n2 d2, .string n, .int .i64 p, .int .i64 t] 31)) from A1)
  have HB0 := Lib.hid b0
  clear h g A0 A1 b0
  cases f
  all_goals
    go_enter Tryd.func10, Tryd.ntmps10
    have p0 := HA0.out.cell 0 _ rfl
    have p1 := HA0.out.cell 1 _ rfl
    have p2 := HA0.out.cell 2 _ rfl
    have p3 := HA0.out.cell 3 _ rfl
    have p4 := HA0.out.cell 4 _ rfl
    have p5 := HA0.out.cell 5 _ rfl
    have q0 := HA1.out.cell 0 _ rfl
    have q1 := HA1.out.cell 1 _ rfl
    have q2 := HA1.out.cell 2 _ rfl
    have q3 := HA1.out.cell 3 _ rfl
    have q4 := HA1.out.cell 4 _ rfl
    have q5 := HA1.out.cell 5 _ rfl
    go_wp2_with fail
    generalize (w.alloc (.cells #[.bool _, .slice a1 n1 c1, .slice a2 n2 c2, .string n, .int .i64 p, .int .i64 t] 31)).alloc (.cells #[.bool _, .slice b1 n1 d1, .slice b2 n2 d2, .string n, .int .i64 p, .int .i64 t] 31) = W0 at *
    refine EP.mono ?_
    rintro r u1 ⟨rfl, e1⟩
    have X0 := HA0.out.on e1
    have X1 := HA1.out.on e1
    have HB1 := Lib.hid (btr HB0.out e1)
    clear p0 p1 p2 p3 p4 p5 q0 q1 q2 q3 q4 q5 EP e1 HA0 HA1 HB0
    have p0 := X0.cell 0 _ rfl
    have p1 := X0.cell 1 _ rfl
    have p2 := X0.cell 2 _ rfl
    have p3 := X0.cell 3 _ rfl
    have p4 := X0.cell 4 _ rfl
    have p5 := X0.cell 5 _ rfl
    have q0 := X1.cell 0 _ rfl
    have q1 := X1.cell 1 _ rfl
    have q2 := X1.cell 2 _ rfl
    have q3 := X1.cell 3 _ rfl
    have q4 := X1.cell 4 _ rfl
    have q5 := X1.cell 5 _ rfl
    go_wp2_with fail
    refine (D.out _ HB1.out).mono ?_
    rintro r u2 ⟨rfl, e2⟩
    have Y0 := X0.on e2
    have Y1 := X1.on e2
    have HB2 := Lib.hid (btr HB1.out e2)
    clear p0 p1 p2 p3 p4 p5 q0 q1 q2 q3 q4 q5 D e2 X0 X1 HB1
    have p0 := Y0.cell 0 _ rfl
    have p1 := Y0.cell 1 _ rfl
    have p2 := Y0.cell 2 _ rfl
    have p3 := Y0.cell 3 _ rfl
    have p4 := Y0.cell 4 _ rfl
    have p5 := Y0.cell 5 _ rfl
    have q0 := Y1.cell 0 _ rfl
    have q1 := Y1.cell 1 _ rfl
    have q2 := Y1.cell 2 _ rfl
    have q3 := Y1.cell 3 _ rfl
    have q4 := Y1.cell 4 _ rfl
    have q5 := Y1.cell 5 _ rfl
    clear Y0 Y1
    go_wp2_with fail
    go_ret
    exact ⟨rfl, HB2.out⟩
end Go.Proofs.YtcolecidbalmhaaDoor
