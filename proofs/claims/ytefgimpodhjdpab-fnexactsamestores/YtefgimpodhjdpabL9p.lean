/- Contracts of what the laws do with stores: copy, compare, measure. Conditions: as each theorem states. -/
import Derived.Test.YtefgimpodhjdpabG9
import Derived.Test.YtefgimpodhjdpabL9
import Derived.Test.YtefgimpodhjdpabL7
import Derived.Deep.DeepCutAuto
namespace Go.Proofs.Ytefgimpodhjdpab
open Go.RowKit
set_option maxRecDepth 100000
set_option linter.unusedVariables false

/-- A store that is small enough. -/
structure SmallS (s : StoreD) : Prop where
  ps : s.ps.length ≤ 1048576
  rs : s.d.rs.length ≤ 1048576
  sum : sumLens s.d.rs ≤ 1048576
/-- What is left of L behind a store's sizes; or -1. -/
def szSt (s : StoreD) (L : Int) : Int := if szP s.ps L < 0 then -1 else szR s.d.rs (szP s.ps L)
theorem szSt_small {s : StoreD} {L : Int} (h : 0 ≤ szSt s L) (hL : L ≤ 1048576) : SmallS s ∧ szSt s L ≤ L ∧ ∀ zs ∈ s.d.rs, zs.length ≤ 1048576 := by
  unfold szSt at h ⊢
  split at h
  · omega
  · rename_i h1
    rw [if_neg h1]
    obtain ⟨p1, p2, p3⟩ := szP_ok (by omega : 0 ≤ szP s.ps L)
    unfold szR at h ⊢
    split at h
    · rename_i h2
      rw [if_pos h2]
      refine ⟨⟨by omega, by omega, by omega⟩, by omega, fun zs hz => ?_⟩
      have := sumLens_mem s.d.rs zs hz
      omega
    · omega
theorem szP_range (ps : List PinD) (L : Int) (h : 0 ≤ L) : szP ps L ≤ L ∧ -1 ≤ szP ps L := by
  unfold szP
  split
  · omega
  · have := szL_le ps (L - ps.length) (by omega)
    omega
set_option maxHeartbeats 1000000 in
theorem szStore_any (a1 : Option Addr) (n1 c1 : Nat) (a2 : Option Addr) (n2 c2 B : Nat) (x L : Int) (s : StoreD) (w : World) (h : SRow w B a1 n1 c1 a2 n2 c2 s) (hB : B ≤ w.heap.size) (h0 : 0 ≤ L) (h1 : L ≤ 1048576) :
    Calls Try.prog 4 #[S3 a1 n1 c1 a2 n2 c2 x, .int .i64 L] w fun r w' => r = .returned (.int .i64 (szSt s L)) ∧ Below w.heap.size w w' := by
  have b0 := bal (Below.refl _ w) (.cells #[.slice a1 n1 c1, .slice a2 n2 c2, .int .i64 x] 27)
  have A0 := At.new w [.slice a1 n1 c1, .slice a2 n2 c2, .int .i64 x] 27
  have hR := h.below (b0.mono hB)
  have P := szPinS_any a1 n1 c1 B s.ps L _ hR.ps (Nat.le_trans hB b0.size) h0 h1
  have hr := szP_range s.ps L h0
  have HA0 := Lib.hid A0
  have HB0 := Lib.hid b0
  have d0 := A0.cell 0 _ rfl
  have d1 := A0.cell 1 _ rfl
  have d2 := A0.cell 2 _ rfl
  clear A0 b0
  by_cases hp : szP s.ps L < 0
  · have e1 : szP s.ps L = -1 := by omega
    have e2 : szSt s L = -1 := by unfold szSt; rw [if_pos hp]
    rw [e2]
    rw [e1] at P
    clear h hR e1 e2 hp hr
    go_enter Try.func4, Try.ntmps4
    go_wp2_with fail
    generalize w.alloc (.cells #[.slice a1 n1 c1, .slice a2 n2 c2, .int .i64 x] 27) = W0 at *
    refine P.mono ?_
    rintro r u1 ⟨rfl, b1⟩
    have B1 := btr HB0.out b1
    clear P HA0 HB0 d0 d1 d2 b1
    go_wp2_with fail
    go_ret
    exact ⟨rfl, B1⟩
  have e2 : szSt s L = szR s.d.rs (szP s.ps L) := by unfold szSt; rw [if_neg hp]
  rw [e2]
  generalize szP s.ps L = t at *
  have D := Lib.hid (fun (w' : World) (hb : Below w.heap.size w w') => szDisk_any a2 n2 c2 B s.d.rs x t w' (h.rs.below (hb.mono hB)) (Nat.le_trans hB hb.size) (by omega) (by omega))
  have hc : szR s.d.rs t = -1 ∨ 0 ≤ szR s.d.rs t := by unfold szR; split <;> omega
  generalize szR s.d.rs t = q at *
  clear h hR e2
  rcases hc with rfl | hc
  · go_enter Try.func4, Try.ntmps4
    go_wp2_with fail
    generalize w.alloc (.cells #[.slice a1 n1 c1, .slice a2 n2 c2, .int .i64 x] 27) = W0 at *
    refine P.mono ?_
    rintro r u1 ⟨rfl, b1⟩
    have B1 := btr HB0.out b1
    have A1 := HA0.out.on b1
    have HB1 := Lib.hid B1
    clear P HA0 HB0 d0 d1 d2 b1 B1
    have d0 := A1.cell 0 _ rfl
    have d1 := A1.cell 1 _ rfl
    have d2 := A1.cell 2 _ rfl
    clear A1
    go_wp2_with fail
    refine (D.out _ HB1.out).mono ?_
    rintro r u2 ⟨rfl, b2⟩
    have B2 := btr HB1.out b2
    clear b2 HB1 D d0 d1 d2
    go_wp2_with fail
    go_ret
    exact ⟨rfl, B2⟩
  · have hn : ¬ q < 0 := by omega
    go_enter Try.func4, Try.ntmps4
    go_wp2_with fail
    generalize w.alloc (.cells #[.slice a1 n1 c1, .slice a2 n2 c2, .int .i64 x] 27) = W0 at *
    refine P.mono ?_
    rintro r u1 ⟨rfl, b1⟩
    have B1 := btr HB0.out b1
    have A1 := HA0.out.on b1
    have HB1 := Lib.hid B1
    clear P HA0 HB0 d0 d1 d2 b1 B1
    have d0 := A1.cell 0 _ rfl
    have d1 := A1.cell 1 _ rfl
    have d2 := A1.cell 2 _ rfl
    clear A1
    go_wp2_with fail
    refine (D.out _ HB1.out).mono ?_
    rintro r u2 ⟨rfl, b2⟩
    have B2 := btr HB1.out b2
    clear b2 HB1 D d0 d1 d2
    go_wp2_with fail
    go_ret
    exact ⟨rfl, B2⟩
/-- A store was copied. -/
def StoreCopied (s : StoreD) (w : World) (e : Ending) (w' : World) : Prop :=
  ∃ a1 a2, e = .returned (S3 a1 s.ps.length s.ps.length a2 s.d.rs.length s.d.rs.length s.d.s) ∧ SOwn w' w.heap.size w'.heap.size (.slice a1 s.ps.length s.ps.length) (.slice a2 s.d.rs.length s.d.rs.length) s ∧ Below w.heap.size w w'
set_option maxHeartbeats 1000000 in
theorem toStore_any (a1 : Option Addr) (n1 c1 : Nat) (a2 : Option Addr) (n2 c2 B : Nat) (s : StoreD) (w : World) (h : SRow w B a1 n1 c1 a2 n2 c2 s) (hB : B ≤ w.heap.size) (hs : SmallS s) (hr : ∀ zs ∈ s.d.rs, zs.length ≤ 1048576) :
    Calls Try.prog 6 #[S3 a1 n1 c1 a2 n2 c2 s.d.s] w (StoreCopied s w) := by
  have b0 := bal (bal (bal (Below.refl _ w) (.cells #[.slice a1 n1 c1, .slice a2 n2 c2, .int .i64 s.d.s] 27)) (.cells #[.slice none 0 0, .slice none 0 0, .int .i64 0] 33)) (.cells #[.slice none 0 0, .slice none 0 0, .int .i64 0] 33)
  have A0 : At w.heap.size [.slice a1 n1 c1, .slice a2 n2 c2, .int .i64 s.d.s] (((w.alloc (.cells #[.slice a1 n1 c1, .slice a2 n2 c2, .int .i64 s.d.s] 27)).alloc (.cells #[.slice none 0 0, .slice none 0 0, .int .i64 0] 33)).alloc (.cells #[.slice none 0 0, .slice none 0 0, .int .i64 0] 33)) := ((At.new w [.slice a1 n1 c1, .slice a2 n2 c2, .int .i64 s.d.s] 27).alloc _).alloc _
  have R0 := (At.new (w.alloc (.cells #[.slice a1 n1 c1, .slice a2 n2 c2, .int .i64 s.d.s] 27)) [.slice none 0 0, .slice none 0 0, .int .i64 0] 33).alloc (.cells #[.slice none 0 0, .slice none 0 0, .int .i64 0] 33)
  have D0 := At.new ((w.alloc (.cells #[.slice a1 n1 c1, .slice a2 n2 c2, .int .i64 s.d.s] 27)).alloc (.cells #[.slice none 0 0, .slice none 0 0, .int .i64 0] 33)) [.slice none 0 0, .slice none 0 0, .int .i64 0] 33
  rw [World.size_alloc] at R0
  rw [World.size_alloc, World.size_alloc] at D0
  have sz0 : (((w.alloc (.cells #[.slice a1 n1 c1, .slice a2 n2 c2, .int .i64 s.d.s] 27)).alloc (.cells #[.slice none 0 0, .slice none 0 0, .int .i64 0] 33)).alloc (.cells #[.slice none 0 0, .slice none 0 0, .int .i64 0] 33)).heap.size = w.heap.size + 1 + 1 + 1 := by simp
  have hR := h.below (b0.mono hB)
  have g1 := hs.ps
  have g2 := hs.rs
  have l1 := h.ps.length
  have l2 := h.rs.length
  have HNM := Lib.hid h.ps.names
  have HWF := Lib.hid h.wf
  have P := toPinS_any a1 n1 c1 B s.ps _ hR.ps (Nat.le_trans hB b0.size) (by omega)
  have D := Lib.hid (fun (w' : World) (hb : Below w.heap.size w w') => toDisk_any a2 n2 c2 B s.d.rs s.d.s w' (h.rs.below (hb.mono hB)) (Nat.le_trans hB hb.size) (by omega) hr)
  have HS := Lib.hid (show StoreCopied s w = fun e w' => ∃ a1 a2, e = .returned (S3 a1 n1 n1 a2 n2 n2 s.d.s) ∧ SOwn w' w.heap.size w'.heap.size (.slice a1 n1 n1) (.slice a2 n2 n2) ⟨s.ps, ⟨s.d.rs, s.d.s⟩⟩ ∧ Below w.heap.size w w' by unfold StoreCopied; rw [l1, l2])
  rw [HS.out]
  unfold CopiedP at P
  unfold DiskCopied at D
  have HA0 := Lib.hid A0
  have HR0 := Lib.hid (show At (w.heap.size + 1) [.slice none 0 0, .slice none 0 0, .int .i64 0] (((w.alloc (.cells #[.slice a1 n1 c1, .slice a2 n2 c2, .int .i64 s.d.s] 27)).alloc (.cells #[.slice none 0 0, .slice none 0 0, .int .i64 0] 33)).alloc (.cells #[.slice none 0 0, .slice none 0 0, .int .i64 0] 33)) from R0)
  have HD0 := Lib.hid (show At (w.heap.size + 1 + 1) [.slice none 0 0, .slice none 0 0, .int .i64 0] (((w.alloc (.cells #[.slice a1 n1 c1, .slice a2 n2 c2, .int .i64 s.d.s] 27)).alloc (.cells #[.slice none 0 0, .slice none 0 0, .int .i64 0] 33)).alloc (.cells #[.slice none 0 0, .slice none 0 0, .int .i64 0] 33)) from D0)
  have HB0 := Lib.hid b0
  have HZ0 := Lib.hid sz0
  clear HS h hR hs hr R0 D0 b0 sz0 g1 g2 l1 l2
  generalize s.ps = ps at *
  generalize s.d.rs = rs at *
  generalize s.d.s = x at *
  have d0 := A0.cell 0 _ rfl
  have d1 := A0.cell 1 _ rfl
  have d2 := A0.cell 2 _ rfl
  clear A0
  go_enter Try.func6, Try.ntmps6
  go_wp2_with fail
  generalize ((w.alloc (.cells #[.slice a1 n1 c1, .slice a2 n2 c2, .int .i64 x] 27)).alloc (.cells #[.slice none 0 0, .slice none 0 0, .int .i64 0] 33)).alloc (.cells #[.slice none 0 0, .slice none 0 0, .int .i64 0] 33) = W0 at *
  refine P.mono ?_
  rintro r u1 ⟨rfl, O1, b1⟩
  have hz0 : w.heap.size + 1 + 1 < W0.heap.size := by have := HZ0.out; omega
  have lt1 : W0.heap.size ≤ u1.heap.size := b1.size
  have A1 := HA0.out.on b1
  have D1 := HD0.out.on b1
  clear d0 d1 d2 P
  have d0 := A1.cell 0 _ rfl
  have d1 := A1.cell 1 _ rfl
  have d2 := A1.cell 2 _ rfl
  have p0 := D1.cell 0 _ rfl
  have p1 := D1.cell 1 _ rfl
  have p2 := D1.cell 2 _ rfl
  have z0 := D1.free 0 _ rfl
  have z1 := D1.free 1 _ rfl
  have z2 := D1.free 2 _ rfl
  have hne : w.heap.size ≠ w.heap.size + 1 + 1 := by omega
  have hne1 : w.heap.size + 1 ≠ w.heap.size + 1 + 1 := by omega
  have A2 := A1.setB (p := ⟨w.heap.size + 1 + 1, 0, none⟩) (by show w.heap.size ≠ w.heap.size + 1 + 1; omega) (.slice (some ⟨W0.heap.size, 0, none⟩) n1 n1)
  have R2 := (HR0.out.on b1).setB (p := ⟨w.heap.size + 1 + 1, 0, none⟩) (by show w.heap.size + 1 ≠ w.heap.size + 1 + 1; omega) (.slice (some ⟨W0.heap.size, 0, none⟩) n1 n1)
  have D2 := D1.set 0 (.slice (some ⟨W0.heap.size, 0, none⟩) n1 n1)
  have O2 : OwnP (u1.setCell ⟨w.heap.size + 1 + 1, 0, none⟩ (.slice (some ⟨W0.heap.size, 0, none⟩) n1 n1)) W0.heap.size (.slice (some ⟨W0.heap.size, 0, none⟩) n1 n1) ps := Own.setCell O1 (fun k e => by have := (Own.lt O1 k e).1; show k ≠ w.heap.size + 1 + 1; omega) _
  have B2 : Below w.heap.size w (u1.setCell ⟨w.heap.size + 1 + 1, 0, none⟩ (.slice (some ⟨W0.heap.size, 0, none⟩) n1 n1)) := bset (btr HB0.out b1) (by show w.heap.size ≤ w.heap.size + 1 + 1; omega) _
  have hs2 : (u1.setCell ⟨w.heap.size + 1 + 1, 0, none⟩ (.slice (some ⟨W0.heap.size, 0, none⟩) n1 n1)).heap.size = u1.heap.size := by simp [World.setCell]
  have HA2 := Lib.hid A2
  have HR2 := Lib.hid R2
  have HD2 := Lib.hid D2
  have HO2 := Lib.hid O2
  have HB2 := Lib.hid B2
  have HS2 := Lib.hid hs2
  clear A1 D1 A2 R2 D2 O2 B2 hs2 O1 b1 HA0 HR0 HD0 HB0
  go_upto_region 3 with fail
  generalize u1.setCell ⟨w.heap.size + 1 + 1, 0, none⟩ (.slice (some ⟨W0.heap.size, 0, none⟩) n1 n1) = W2 at *
  clear d0 d1 d2 p0 p1 p2 z0 z1 z2
  have d0 := HA2.out.cell 0 _ rfl
  have d1 := HA2.out.cell 1 _ rfl
  have d2 := HA2.out.cell 2 _ rfl
  go_wp2_with fail
  refine (D.out _ HB2.out).mono ?_
  rintro r u3 ⟨a3, xs, rfl, G3, b3⟩
  have D3 := HD2.out.on b3
  have R3 := HR2.out.on b3
  have B3 := btr HB2.out b3
  have SO : SOwn u3 W0.heap.size u3.heap.size (.slice (some ⟨W0.heap.size, 0, none⟩) n1 n1) (.slice a3 n2 n2) ⟨ps, ⟨rs, x⟩⟩ :=
    SOwn.mk' (W := w) (mid := W2.heap.size) (HO2.out.below b3) (by have := HS2.out; omega) (fun g hg => (Own.lt HO2.out g hg).2) G3 b3.size HNM.out HWF.out
  have S5 := ((((SO.setCell (p := ⟨w.heap.size + 1 + 1, 1, none⟩) (.inl (by show w.heap.size + 1 + 1 < W0.heap.size; omega)) (.slice a3 n2 n2)).setCell (p := ⟨w.heap.size + 1 + 1, 2, none⟩) (.inl (by show w.heap.size + 1 + 1 < W0.heap.size; omega)) (.int .i64 x)).setCell (p := ⟨w.heap.size + 1, 0, none⟩) (.inl (by show w.heap.size + 1 < W0.heap.size; omega)) (.slice (some ⟨W0.heap.size, 0, none⟩) n1 n1)).setCell (p := ⟨w.heap.size + 1, 1, none⟩) (.inl (by show w.heap.size + 1 < W0.heap.size; omega)) (.slice a3 n2 n2)).setCell (p := ⟨w.heap.size + 1, 2, none⟩) (.inl (by show w.heap.size + 1 < W0.heap.size; omega)) (.int .i64 x)
  have HSO := Lib.hid ((S5.less (show w.heap.size ≤ W0.heap.size by omega)).more S5.top.2 (Nat.le_refl _))
  have HB3 := Lib.hid B3
  clear S5 d0 d1 d2 G3 b3 SO B3 HA2 HR2 HD2 HO2 HB2 D
  have p0 := D3.cell 0 _ rfl
  have p1 := D3.cell 1 _ rfl
  have p2 := D3.cell 2 _ rfl
  have z0 := D3.free 0 _ rfl
  have z1 := D3.free 1 _ rfl
  have z2 := D3.free 2 _ rfl
  have q0 := R3.cell 0 _ rfl
  have q1 := R3.cell 1 _ rfl
  have q2 := R3.cell 2 _ rfl
  have f0 := R3.free 0 _ rfl
  have f1 := R3.free 1 _ rfl
  have f2 := R3.free 2 _ rfl
  clear D3 R3
  go_wp2_with fail
  refine bodyPost_ret (v := S3 (some ⟨W0.heap.size, 0, none⟩) n1 n1 a3 n2 n2 x) (by simp [results, Try.results6, go_sem, q0, q1, q2]) rfl ⟨_, _, rfl, HSO.out, ?_⟩
  exact (by (iterate 5 (refine bset ?_ (by dsimp only; omega) _)); exact HB3.out)
set_option maxHeartbeats 1000000 in
theorem eqStore_any (a1 b1 : Option Addr) (n1 c1 d1 : Nat) (a2 b2 : Option Addr) (n2 c2 d2 B : Nat) (s : StoreD) (w : World) (h : SRow w B a1 n1 c1 a2 n2 c2 s) (g : SRow w B b1 n1 d1 b2 n2 d2 s) (hB : B ≤ w.heap.size) :
    Calls Try.prog 8 #[S3 a1 n1 c1 a2 n2 c2 s.d.s, S3 b1 n1 d1 b2 n2 d2 s.d.s] w fun e w' => e = .returned (.bool true) ∧ Below w.heap.size w w' := by
  have b0 := bal (bal (Below.refl _ w) (.cells #[.slice a1 n1 c1, .slice a2 n2 c2, .int .i64 s.d.s] 33)) (.cells #[.slice b1 n1 d1, .slice b2 n2 d2, .int .i64 s.d.s] 33)
  have A0 : At w.heap.size [.slice a1 n1 c1, .slice a2 n2 c2, .int .i64 s.d.s] ((w.alloc (.cells #[.slice a1 n1 c1, .slice a2 n2 c2, .int .i64 s.d.s] 33)).alloc (.cells #[.slice b1 n1 d1, .slice b2 n2 d2, .int .i64 s.d.s] 33)) := (At.new w [.slice a1 n1 c1, .slice a2 n2 c2, .int .i64 s.d.s] 33).alloc _
  have A1 := At.new (w.alloc (.cells #[.slice a1 n1 c1, .slice a2 n2 c2, .int .i64 s.d.s] 33)) [.slice b1 n1 d1, .slice b2 n2 d2, .int .i64 s.d.s] 33
  rw [World.size_alloc] at A1
  have E := eqPinS_any a1 b1 n1 c1 d1 B s.ps _ (h.ps.below (b0.mono hB)) (g.ps.below (b0.mono hB)) (Nat.le_trans hB b0.size)
  have D := Lib.hid (fun (w' : World) (hb : Below w.heap.size w w') => eqDisk_any a2 b2 n2 c2 d2 B s.d.rs s.d.s w' (h.rs.below (hb.mono hB)) (g.rs.below (hb.mono hB)) (Nat.le_trans hB hb.size))
  have HA0 := Lib.hid A0
  have HA1 := Lib.hid (show At (w.heap.size + 1) [.slice b1 n1 d1, .slice b2 n2 d2, .int .i64 s.d.s] ((w.alloc (.cells #[.slice a1 n1 c1, .slice a2 n2 c2, .int .i64 s.d.s] 33)).alloc (.cells #[.slice b1 n1 d1, .slice b2 n2 d2, .int .i64 s.d.s] 33)) from A1)
  have HB0 := Lib.hid b0
  clear h g A0 A1 b0
  generalize s.d.s = x at *
  generalize s.ps = ps at *
  generalize s.d.rs = rs at *
  go_enter Try.func8, Try.ntmps8
  have p0 := HA0.out.cell 0 _ rfl
  have p1 := HA0.out.cell 1 _ rfl
  have p2 := HA0.out.cell 2 _ rfl
  have q0 := HA1.out.cell 0 _ rfl
  have q1 := HA1.out.cell 1 _ rfl
  have q2 := HA1.out.cell 2 _ rfl
  go_wp2_with fail
  generalize (w.alloc (.cells #[.slice a1 n1 c1, .slice a2 n2 c2, .int .i64 x] 33)).alloc (.cells #[.slice b1 n1 d1, .slice b2 n2 d2, .int .i64 x] 33) = W0 at *
  refine E.mono ?_
  rintro r u1 ⟨rfl, e1⟩
  have B1 := btr HB0.out e1
  have X0 := HA0.out.on e1
  have X1 := HA1.out.on e1
  have HB1 := Lib.hid B1
  clear p0 p1 p2 q0 q1 q2 E B1 e1
  have p0 := X0.cell 0 _ rfl
  have p1 := X0.cell 1 _ rfl
  have p2 := X0.cell 2 _ rfl
  have q0 := X1.cell 0 _ rfl
  have q1 := X1.cell 1 _ rfl
  have q2 := X1.cell 2 _ rfl
  clear X0 X1 HA0 HA1 HB0
  go_wp2_with fail
  refine (D.out _ HB1.out).mono ?_
  rintro r u2 ⟨rfl, e2⟩
  have B2 := btr HB1.out e2
  clear e2 HB1 D p0 p1 p2 q0 q1 q2
  go_wp2_with fail
  go_ret
  exact ⟨rfl, B2⟩
end Go.Proofs.Ytefgimpodhjdpab
