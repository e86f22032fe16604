/- Texts of this seat that several laws rest on, laid into one. Conditions: as each theorem states. -/
import Derived.Test.YtepailfhagaboaaDoorPk0
import Derived.Deep.CutRange
import Derived.Test.YtepailfhagaboaaDoorRows
import Derived.Test.YtepailfhagaboaaDoorTie
import Derived.Test.YtepailfhagaboaaDoorCards
import Derived.LaidHandle
import Derived.LaidLaws
import Derived.ProofKit
import Derived.OpenShut
import Derived.WalkSmall
import Derived.Carry
import Derived.Below
import Derived.Deep.DeepHandedRow
import Derived.Lib.LaidTab
import Derived.Lay
import Derived.MakeChecks
import Derived.LaidMore
import Derived.Stop.Joined
namespace Go.Proofs.YtepailfhagaboaaDoor
open Go.RowKit
set_option maxRecDepth 100000
set_option linter.unusedVariables false

abbrev R6 (r s p x y f : Int) : Value := .agg #[.int .i64 r, .int .i64 s, .int .i64 p, .int .i64 x, .int .i64 y, .int .i64 f]
abbrev RL6 (r s p x y f : Int) : List Value := [.int .i64 r, .int .i64 s, .int .i64 p, .int .i64 x, .int .i64 y, .int .i64 f]
abbrev R7 (c r s p x y f : Int) : Value := .agg #[.int .i64 c, .int .i64 r, .int .i64 s, .int .i64 p, .int .i64 x, .int .i64 y, .int .i64 f]
abbrev RL7 (c r s p x y f : Int) : List Value := [.int .i64 c, .int .i64 r, .int .i64 s, .int .i64 p, .int .i64 x, .int .i64 y, .int .i64 f]

theorem implReplyFault_any (r s p x y f : Int) (w : World) (hg : ErrT w) :
    Calls Tryd.prog 25 #[R6 r s p x y f] w fun e w' => e = .returned (.int .i64 (repF r s p x y f)) ∧ Below w.heap.size w w' := by
  have b0 := bal (Below.refl _ w) (.cells #[.int .i64 r, .int .i64 s, .int .i64 p, .int .i64 x, .int .i64 y, .int .i64 f] 49)
  have A0 := At.new w (RL6 r s p x y f) 49
  have E0 := hg.on b0
  clear hg
  cases hr : M.sumB r
  · rw [repF_no (by rw [hr]; rfl)]
    go_enter Tryd.func25, Tryd.ntmps25
    go_wp2_with fail
    refine (isSum_any _ _).mono ?_
    rintro r w' ⟨rfl, rfl⟩
    go_wp2_with fail
    go_ret
    exact ⟨rfl, b0⟩
  cases hs : pubB s
  · rw [repF_no (by rw [hs]; simp)]
    go_enter Tryd.func25, Tryd.ntmps25
    go_wp2_with fail
    refine (isSum_any _ _).mono ?_
    rintro r w' ⟨rfl, rfl⟩
    go_wp2_with fail
    generalize w.alloc (.cells #[.int .i64 r, .int .i64 s, .int .i64 p, .int .i64 x, .int .i64 y, .int .i64 f] 49) = W0 at *
    refine (implIsPublic_any _ _).mono ?_
    rintro e u1 ⟨rfl, b1⟩
    have B1 := btr b0 b1
    have d0 := (A0.on b1).cell 0 _ rfl
    have d1 := (A0.on b1).cell 1 _ rfl
    have d2 := (A0.on b1).cell 2 _ rfl
    have d3 := (A0.on b1).cell 3 _ rfl
    have d4 := (A0.on b1).cell 4 _ rfl
    have d5 := (A0.on b1).cell 5 _ rfl
    go_wp2_with fail
    go_ret
    exact ⟨rfl, B1⟩
  cases hp : pubB p
  · rw [repF_no (by rw [hp]; simp)]
    go_enter Tryd.func25, Tryd.ntmps25
    go_wp2_with fail
    refine (isSum_any _ _).mono ?_
    rintro r w' ⟨rfl, rfl⟩
    go_wp2_with fail
    generalize w.alloc (.cells #[.int .i64 r, .int .i64 s, .int .i64 p, .int .i64 x, .int .i64 y, .int .i64 f] 49) = W0 at *
    refine (implIsPublic_any _ _).mono ?_
    rintro e u1 ⟨rfl, b1⟩
    have B1 := btr b0 b1
    have d0 := (A0.on b1).cell 0 _ rfl
    have d1 := (A0.on b1).cell 1 _ rfl
    have d2 := (A0.on b1).cell 2 _ rfl
    have d3 := (A0.on b1).cell 3 _ rfl
    have d4 := (A0.on b1).cell 4 _ rfl
    have d5 := (A0.on b1).cell 5 _ rfl
    go_wp2_with fail
    refine (implIsPublic_any _ _).mono ?_
    rintro e u2 ⟨rfl, b2⟩
    have B2 := btr B1 b2
    have b12 := btr b1 b2
    clear d0 d1 d2 d3 d4 d5 b1 b2
    have d0 := (A0.on b12).cell 0 _ rfl
    have d1 := (A0.on b12).cell 1 _ rfl
    have d2 := (A0.on b12).cell 2 _ rfl
    have d3 := (A0.on b12).cell 3 _ rfl
    have d4 := (A0.on b12).cell 4 _ rfl
    have d5 := (A0.on b12).cell 5 _ rfl
    go_wp2_with fail
    go_ret
    exact ⟨rfl, B2⟩
  cases hf : M.sumB f
  · rw [repF_no (by rw [hf]; simp)]
    go_enter Tryd.func25, Tryd.ntmps25
    go_wp2_with fail
    refine (isSum_any _ _).mono ?_
    rintro r w' ⟨rfl, rfl⟩
    go_wp2_with fail
    generalize w.alloc (.cells #[.int .i64 r, .int .i64 s, .int .i64 p, .int .i64 x, .int .i64 y, .int .i64 f] 49) = W0 at *
    refine (implIsPublic_any _ _).mono ?_
    rintro e u1 ⟨rfl, b1⟩
    have B1 := btr b0 b1
    have d0 := (A0.on b1).cell 0 _ rfl
    have d1 := (A0.on b1).cell 1 _ rfl
    have d2 := (A0.on b1).cell 2 _ rfl
    have d3 := (A0.on b1).cell 3 _ rfl
    have d4 := (A0.on b1).cell 4 _ rfl
    have d5 := (A0.on b1).cell 5 _ rfl
    go_wp2_with fail
    refine (implIsPublic_any _ _).mono ?_
    rintro e u2 ⟨rfl, b2⟩
    have B2 := btr B1 b2
    have b12 := btr b1 b2
    clear d0 d1 d2 d3 d4 d5 b1 b2
    have d0 := (A0.on b12).cell 0 _ rfl
    have d1 := (A0.on b12).cell 1 _ rfl
    have d2 := (A0.on b12).cell 2 _ rfl
    have d3 := (A0.on b12).cell 3 _ rfl
    have d4 := (A0.on b12).cell 4 _ rfl
    have d5 := (A0.on b12).cell 5 _ rfl
    go_wp2_with fail
    refine (isSum_any _ _).mono ?_
    rintro r w' ⟨rfl, rfl⟩
    go_wp2_with fail
    go_ret
    exact ⟨rfl, B2⟩
  · rw [repF_yes (by rw [hr, hs, hp, hf]; rfl)]
    go_enter Tryd.func25, Tryd.ntmps25
    go_wp2_with fail
    refine (isSum_any _ _).mono ?_
    rintro r w' ⟨rfl, rfl⟩
    go_wp2_with fail
    generalize w.alloc (.cells #[.int .i64 r, .int .i64 s, .int .i64 p, .int .i64 x, .int .i64 y, .int .i64 f] 49) = W0 at *
    refine (implIsPublic_any _ _).mono ?_
    rintro e u1 ⟨rfl, b1⟩
    have B1 := btr b0 b1
    have d0 := (A0.on b1).cell 0 _ rfl
    have d1 := (A0.on b1).cell 1 _ rfl
    have d2 := (A0.on b1).cell 2 _ rfl
    have d3 := (A0.on b1).cell 3 _ rfl
    have d4 := (A0.on b1).cell 4 _ rfl
    have d5 := (A0.on b1).cell 5 _ rfl
    go_wp2_with fail
    refine (implIsPublic_any _ _).mono ?_
    rintro e u2 ⟨rfl, b2⟩
    have B2 := btr B1 b2
    have b12 := btr b1 b2
    clear d0 d1 d2 d3 d4 d5 b1 b2
    have d0 := (A0.on b12).cell 0 _ rfl
    have d1 := (A0.on b12).cell 1 _ rfl
    have d2 := (A0.on b12).cell 2 _ rfl
    have d3 := (A0.on b12).cell 3 _ rfl
    have d4 := (A0.on b12).cell 4 _ rfl
    have d5 := (A0.on b12).cell 5 _ rfl
    go_wp2_with fail
    refine (isSum_any _ _).mono ?_
    rintro r w' ⟨rfl, rfl⟩
    go_wp2_with fail
    refine (implSignFault_any x y _ (E0.on b12)).mono ?_
    rintro e u3 ⟨rfl, b3⟩
    have B3 := btr B2 b3
    go_wp2_with fail
    go_ret
    exact ⟨rfl, B3⟩

theorem l3Fault3_any (g : Nat) (p q : Int) (w : World) (c0 : w.cell? ⟨g, 3, none⟩ = some (.int .i64 p)) (c1 : w.cell? ⟨g, 4, none⟩ = some (.int .i64 q)) :
    Calls Tryd.prog 63 #[.pointer (some ⟨g, 3, none⟩)] w fun r w' => r = .returned (.int .i64 (M.sigF p q)) ∧ w = w' := by
  cases hp : pubB p
  · have E : M.sigF p q = 3 := by simp [M.sigF, M.sigB, hp]
    rw [E]; clear E
    go_enter Tryd.func63, Tryd.ntmps63
    go_wp2_with fail
    refine (l1Public_any _ _).mono ?_
    rintro r w' ⟨rfl, rfl⟩
    go_wp2_with fail
    go_ret
    simp
  cases hq : inB q 0 1438
  · have E : M.sigF p q = 3 := by simp [M.sigF, M.sigB, hq]
    rw [E]; clear E
    go_enter Tryd.func63, Tryd.ntmps63
    go_wp2_with fail
    refine (l1Public_any _ _).mono ?_
    rintro r w' ⟨rfl, rfl⟩
    go_wp2_with fail
    refine (l1In_any _ _ _ _).mono ?_
    rintro r w' ⟨rfl, rfl⟩
    go_wp2_with fail
    go_ret
    simp
  · have E : M.sigF p q = 0 := by simp [M.sigF, M.sigB, hp, hq]
    rw [E]; clear E
    go_enter Tryd.func63, Tryd.ntmps63
    go_wp2_with fail
    refine (l1Public_any _ _).mono ?_
    rintro r w' ⟨rfl, rfl⟩
    go_wp2_with fail
    refine (l1In_any _ _ _ _).mono ?_
    rintro r w' ⟨rfl, rfl⟩
    go_wp2_with fail
    go_ret
    simp
theorem l6Reply_any (g : Nat) (r s p x y f : Int) (w : World) (A0 : At g (RL6 r s p x y f) w) :
    Calls Tryd.prog 43 #[.pointer (some ⟨g, 0, none⟩)] w fun e w' => e = .returned (.int .i64 (repF r s p x y f)) ∧ w = w' := by
  have d0 := A0.cell 0 _ rfl
  have d1 := A0.cell 1 _ rfl
  have d2 := A0.cell 2 _ rfl
  have d3 := A0.cell 3 _ rfl
  have d4 := A0.cell 4 _ rfl
  have d5 := A0.cell 5 _ rfl
  cases hr : M.sumB r
  · rw [repF_no (by rw [hr]; rfl)]
    go_enter Tryd.func43, Tryd.ntmps43
    go_wp2_with fail
    refine (l2Is_any _ _).mono ?_
    rintro r w' ⟨rfl, rfl⟩
    go_wp2_with fail
    go_ret
    simp
  cases hs : pubB s
  · rw [repF_no (by rw [hs]; simp)]
    go_enter Tryd.func43, Tryd.ntmps43
    go_wp2_with fail
    refine (l2Is_any _ _).mono ?_
    rintro r w' ⟨rfl, rfl⟩
    go_wp2_with fail
    refine (l1Public_any _ _).mono ?_
    rintro r w' ⟨rfl, rfl⟩
    go_wp2_with fail
    go_ret
    simp
  cases hp : pubB p
  · rw [repF_no (by rw [hp]; simp)]
    go_enter Tryd.func43, Tryd.ntmps43
    go_wp2_with fail
    refine (l2Is_any _ _).mono ?_
    rintro r w' ⟨rfl, rfl⟩
    go_wp2_with fail
    refine (l1Public_any _ _).mono ?_
    rintro r w' ⟨rfl, rfl⟩
    go_wp2_with fail
    refine (l1Public_any _ _).mono ?_
    rintro r w' ⟨rfl, rfl⟩
    go_wp2_with fail
    go_ret
    simp
  cases hf : M.sumB f
  · rw [repF_no (by rw [hf]; simp)]
    go_enter Tryd.func43, Tryd.ntmps43
    go_wp2_with fail
    refine (l2Is_any _ _).mono ?_
    rintro r w' ⟨rfl, rfl⟩
    go_wp2_with fail
    refine (l1Public_any _ _).mono ?_
    rintro r w' ⟨rfl, rfl⟩
    go_wp2_with fail
    refine (l1Public_any _ _).mono ?_
    rintro r w' ⟨rfl, rfl⟩
    go_wp2_with fail
    refine (l2Is_any _ _).mono ?_
    rintro r w' ⟨rfl, rfl⟩
    go_wp2_with fail
    go_ret
    simp
  · rw [repF_yes (by rw [hr, hs, hp, hf]; rfl)]
    go_enter Tryd.func43, Tryd.ntmps43
    go_wp2_with fail
    refine (l2Is_any _ _).mono ?_
    rintro r w' ⟨rfl, rfl⟩
    go_wp2_with fail
    refine (l1Public_any _ _).mono ?_
    rintro r w' ⟨rfl, rfl⟩
    go_wp2_with fail
    refine (l1Public_any _ _).mono ?_
    rintro r w' ⟨rfl, rfl⟩
    go_wp2_with fail
    refine (l2Is_any _ _).mono ?_
    rintro r w' ⟨rfl, rfl⟩
    go_wp2_with fail
    refine (l3Fault3_any g x y _ d3 d4).mono ?_
    rintro r w' ⟨rfl, rfl⟩
    go_wp2_with fail
    go_ret
    simp
theorem specReplyFault_any (r s p x y f : Int) (w : World) :
    Calls Tryd.prog 23 #[R6 r s p x y f] w fun e w' => e = .returned (.int .i64 (repF r s p x y f)) ∧ Below w.heap.size w w' := by
  have b0 := bal (Below.refl _ w) (.cells #[.int .i64 r, .int .i64 s, .int .i64 p, .int .i64 x, .int .i64 y, .int .i64 f] 49)
  have A0 := At.new w (RL6 r s p x y f) 49
  go_enter Tryd.func23, Tryd.ntmps23
  go_wp2_with fail
  refine (l6Reply_any _ r s p x y f _ A0).mono ?_
  rintro r w' ⟨rfl, rfl⟩
  go_wp2_with fail
  go_ret
  exact ⟨rfl, b0⟩
end Go.Proofs.YtepailfhagaboaaDoor
namespace Go.Proofs.YtepailfhagaboaaDoor
open Go.RowKit
set_option maxRecDepth 100000
set_option linter.unusedVariables false

/-- The bytes ahead of a supplied key's name. -/
def headT (u m v : Int) : List Int := [u, m] ++ M.two v
theorem headT_length (u m v : Int) : (headT u m v).length = 4 := rfl
def HeadT (V : World) (zs : List Int) (v : Value) (wx : World) : Prop := OwnK .u8 wx V.heap.size v zs ∧ Below V.heap.size V wx
/-- The bytes of a supplied key. -/
def packT (n : ByteArray) (u m v : Int) : List Int := headT u m v ++ M.textL n
def packTL (n : ByteArray) (u m v : Int) : List Int := if M.tlsaF n.data.toList u m v = 0 then packT n u m v else []
theorem tlsa_bounds {n : ByteArray} {u m v : Int} (h : M.tlsaF n.data.toList u m v = 0) : n.size ≤ 20 ∧ 0 ≤ u ∧ u ≤ 3 ∧ 0 ≤ m ∧ m ≤ 1 ∧ M.sumB v = true := by
  obtain ⟨h1, h2, h3⟩ := M.tlsaF_parts h
  have h4 := (M.nameF_zero (M.normF_zero (M.tlsaF_zero h).1).1).1
  have hL : n.data.toList.length = n.size := by simp
  simp only [M.useB, M.matB, decide_eq_true_eq] at h1 h2
  exact ⟨by omega, h1.1, h1.2, h2.1, h2.2, h3⟩
theorem text_src (w : World) (s : ByteArray) (hs : s.size ≤ maxLen) :
    Go.Src Tryd.prog 1 29 (.slice (some ⟨w.heap.size, 0, none⟩) s.size (grownCap w s.size 0 5)) s.size ((M.textL s).map (Value.int .u8)) (w.alloc (textObj w s 5)).drew := by
  have R := Own.row (own_text w s 5 hs) (fun z hz => byte_wf (M.textL_byte s z hz))
  have R2 : Row .u8 (w.alloc (textObj w s 5)).drew (w.alloc (textObj w s 5)).heap.size (some ⟨w.heap.size, 0, none⟩) s.size (grownCap w s.size 0 5) (M.textL s) := R.keep (fun _ _ => rfl)
  exact R2.src Tryd.underlying29

end Go.Proofs.YtepailfhagaboaaDoor
namespace Go.Proofs.YtepailfhagaboaaDoor
open Go.RowKit

theorem eqBytes_any (c : Int) (a b : Option Addr) (len c1 c2 B : Nat) (zs : List Int) (w : World) (hR : Row .u8 w B a len c1 zs) (hQ : Row .u8 w B b len c2 zs) (hB : B ≤ w.heap.size) :
    Calls Tryd.prog 15 #[.agg #[.int .i64 c, .slice a len c1], .agg #[.int .i64 c, .slice b len c2]] w fun e w' => e = .returned (.bool true) ∧ Below w.heap.size w w' := by
  have hb0 := bal (bal (Below.refl _ w) (.cells #[.int .i64 c, .slice a len c1] 31)) (.cells #[.int .i64 c, .slice b len c2] 31)
  have R2 := hR.below (hb0.mono hB)
  have Q2 := hQ.below (hb0.mono hB)
  go_enter Tryd.func15, Tryd.ntmps15
  go_wp2_with fail
  refine (eqByteS_any _ _ _ _ _ _ _ _ R2 Q2 (by simp; omega)).mono ?_
  rintro r w1 ⟨rfl, hb1⟩
  have hb2 := btr hb0 hb1
  clear hb1 R2 Q2 hR hQ hb0
  go_wp2_with fail
  go_ret
  exact ⟨rfl, hb2⟩

def marks (k : Int) (n : Nat) : List Int := (List.range n).map fun i : Nat => (k + (i : Int)) % 256
theorem marks_length (k : Int) (n : Nat) : (marks k n).length = n := by simp [marks]
theorem marks_at (k : Int) (n j : Nat) (h : j < n) : (marks k n)[j]? = some ((k + (j : Int)) % 256) := by simp [marks, h]
theorem marks_wf (k : Int) (n : Nat) : ∀ z ∈ marks k n, (Lit.int .u8 z).wf = true := by
  intro z hz
  simp only [marks, List.mem_map] at hz
  obtain ⟨i, _, rfl⟩ := hz
  simp [Lit.wf, IntKind.min, IntKind.max, IntKind.signed, IntKind.bits]; omega

structure MarkRel (w : World) (g cap : Nat) (k : Int) (j : Nat) (wr : World) : Prop where
  grew : w.grownBy wr (some g)
  lt : g < wr.heap.size
  room : ∀ i, i < cap → (∃ u, wr.cell? ⟨g, i, none⟩ = some u) ∧ wr.frozen? ⟨g, i, none⟩ = false
  told : ∀ i, i < j → wr.cell? ⟨g, i, none⟩ = some (.int .u8 ((k + (i : Int)) % 256))
theorem MarkRel.step {w : World} {g cap : Nat} {k : Int} {j : Nat} {wr : World} (h : MarkRel w g cap k j wr) (hj : j < cap) : MarkRel w g cap k (j + 1) (wr.setCell ⟨g, j, none⟩ (.int .u8 ((k + (j : Int)) % 256))) := by
  refine ⟨⟨h.grew.os, h.grew.tape, h.grew.output, by simpa [World.setCell] using h.grew.size, fun i hi hne => (Below.heap_setCell wr _ _ i (fun e => hne (by subst e; rfl))).trans (h.grew.block i hi hne)⟩, by simpa [World.setCell] using h.lt, fun i hi => ?_, fun i hi => ?_⟩
  · obtain ⟨⟨u, hu⟩, hf⟩ := h.room i hi
    refine ⟨?_, by rw [World.frozen?_setCell]; exact hf⟩
    obtain ⟨v, hv⟩ := cell?_setCell_some (w := wr) (p := ⟨g, j, none⟩) (x := .int .u8 ((k + (j : Int)) % 256)) (q := ⟨g, i, none⟩) (v := u) hu
    exact ⟨v, hv⟩
  · rcases Nat.lt_or_ge i j with hlt | hge
    · rw [World.cell?_setCell_other _ _ _ _ (fun e => by injection e with _ e2; omega)]
      exact h.told i hlt
    · obtain rfl : i = j := by omega
      obtain ⟨⟨u, hu⟩, _⟩ := h.room i hj
      rw [World.cell?_setCell_same _ _ _ (by rw [hu])]
def Marked (B : Nat) (k : Int) (v : Value) (n : Nat) (w : World) (r : Ending) (w' : World) : Prop := r = .returned (.int .i64 (k + n)) ∧ OwnK .u8 w' B v (marks k n) ∧ w.grownBy w' v.ownBlock
theorem MarkRel.own {w : World} {g cap : Nat} {k : Int} {n B : Nat} {wr : World} (h : MarkRel w g cap k n wr) (hB : B ≤ g) (hn : n ≤ cap) (hm : cap ≤ maxLen) : OwnK .u8 wr B (.slice (some ⟨g, 0, none⟩) n cap) (marks k n) := by
  unfold OwnK
  rw [marks_length]
  refine ⟨by simp [marks_length], .inr ⟨g, cap, rfl, hB, h.lt, hn, hm, fun j u hu => ?_, fun j hj => ?_⟩⟩
  · have hj := (List.getElem?_eq_some_iff.1 hu).1
    simp [marks_length] at hj
    rw [h.told j hj, ← hu]
    simp [marks_at k n j hj]
  · obtain ⟨⟨u, hu⟩, hf⟩ := h.room j (by omega)
    exact ⟨by rw [hu]; rfl, hf⟩

theorem markByteS_any (a : Option Addr) (n cap B : Nat) (k : Int) (zs : List Int) (w : World) (ho : OwnK .u8 w B (.slice a n cap) zs) (k0 : 0 ≤ k) (k1 : k ≤ 1000000000) (hn : n ≤ 1048576) :
    Calls Tryd.prog 37 #[.slice a n cap, .int .i64 k] w (Marked B k (.slice a n cap) n w) := by
  rcases ho.2 with ⟨e, h0⟩ | ⟨g, c, e, hb, hg, h1, h2, _, hroom⟩
  · injection e with e1 e2 e3
    subst e1; subst e2; subst e3
    have F : Marked B k (.slice none 0 0) 0 w (.returned (.int .i64 k)) w := ⟨ret_int (by omega), Own.nil _ _ _, World.grownBy.refl _ _⟩
    clear ho h0
    go_enter Tryd.func37, Tryd.ntmps37
    go_wp2_with fail
    refine wp_loop_rounds 1 ?_
    rw [rounds_succ]; go_wp2_with fail
    go_ret
    exact F
  · injection e with e1 e2 e3
    subst e1; subst e3
    rw [← e2] at h1
    clear e2
    have T0 : MarkRel w g cap k 0 w := ⟨World.grownBy.refl _ _, hg, fun i hi => by
      obtain ⟨q1, q2⟩ := hroom i (by omega)
      exact ⟨Option.isSome_iff_exists.1 q1, q2⟩, fun i hi => absurd hi (by omega)⟩
    have hm := h2
    unfold maxLen at hm
    clear hroom ho
    go_enter Tryd.func37, Tryd.ntmps37
    go_wp2_with fail
    go_loopw [1, 5] (fun q i wr => ∃ j : Nat, j ≤ n ∧ i = .int .i64 j ∧ q = .int .i64 (k + j) ∧ MarkRel w g cap k j wr) (fun _ i _ => n - (intOf i).toNat)
    case atStart => exact ⟨0, Nat.zero_le _, rfl, by go_num, T0⟩
    case round =>
      obtain ⟨j, hj, rfl, rfl, hT⟩ := hrel
      by_cases hlt : j < n
      · obtain ⟨⟨u, hu⟩, hf⟩ := hT.room j (by omega)
        have T2 := hT.step (show j < cap by omega)
        clear hT
        go_wp2_with fail
        go_roundw
        case rel => exact ⟨j + 1, by omega, by go_num, by go_num, T2⟩
        case measure => simp [intOf]; omega
      · obtain rfl : j = n := by omega
        have T2 := hT.own hb h1 h2
        have T3 := hT.grew
        clear hT
        go_wp2_with fail
        go_ret
        exact ⟨rfl, T2, T3⟩

theorem markBytes_any (c : Int) (a : Option Addr) (n cap B : Nat) (k : Int) (zs : List Int) (w : World) (ho : OwnK .u8 w B (.slice a n cap) zs) (k0 : 0 ≤ k) (k1 : k ≤ 1000000000) (hn : n ≤ 1048576) :
    Calls Tryd.prog 16 #[.agg #[.int .i64 c, .slice a n cap], .int .i64 k] w (Marked B k (.slice a n cap) n w) := by
  have ho2 := ho.alloc (.cells #[.int .i64 c, .slice a n cap] 31)
  go_enter Tryd.func16, Tryd.ntmps16
  go_wp2_with fail
  refine (markByteS_any _ _ _ _ _ _ _ ho2 k0 k1 hn).mono ?_
  rintro r w1 ⟨rfl, ho3, hg⟩
  have hg2 := grown_alloc hg
  clear ho ho2 hg
  go_wp2_with fail
  go_ret
  exact ⟨rfl, ho3, hg2⟩

theorem heldByteS_any (a : Option Addr) (n cap B : Nat) (k : Int) (w : World) (hR : Row .u8 w B a n cap (marks k n)) (k0 : 0 ≤ k) (k1 : k ≤ 1000000000) (hn : n ≤ 1048576) :
    Calls Tryd.prog 38 #[.slice a n cap, .int .i64 k] w fun r w' => r = .returned (.int .i64 (k + n)) ∧ w = w' := by
  go_enter Tryd.func38, Tryd.ntmps38
  go_wp2_with fail
  go_loop [1, 5] (fun q i => ∃ j : Nat, j ≤ n ∧ i = .int .i64 j ∧ q = .int .i64 (k + j)) (fun _ i => n - (intOf i).toNat)
  case atStart => exact ⟨0, Nat.zero_le _, rfl, by go_num⟩
  case round =>
    obtain ⟨j, hj, rfl, rfl⟩ := hrel
    by_cases hlt : j < n
    · obtain ⟨b, off, ha, hb, hc⟩ := hR.cells (by omega)
      have hcell := hc j hlt
      simp only [List.getD_eq_getElem?_getD, marks_at k n j hlt, Option.getD_some] at hcell
      clear hc
      subst ha
      go_wp2_with fail
      go_round
      case rel => exact ⟨j + 1, by omega, by go_num, by go_num⟩
      case measure => simp [intOf]; omega
    · obtain rfl : j = n := by omega
      go_wp2_with fail
      go_ret
      exact ⟨rfl, rfl⟩

theorem heldBytes_any (c : Int) (a : Option Addr) (n cap B : Nat) (k : Int) (w : World) (hR : Row .u8 w B a n cap (marks k n)) (hB : B ≤ w.heap.size) (k0 : 0 ≤ k) (k1 : k ≤ 1000000000) (hn : n ≤ 1048576) :
    Calls Tryd.prog 17 #[.agg #[.int .i64 c, .slice a n cap], .int .i64 k] w fun r w' => r = .returned (.int .i64 (k + n)) ∧ Below w.heap.size w w' := by
  have R2 := hR.alloc hB (.cells #[.int .i64 c, .slice a n cap] 31)
  have hb := bal (Below.refl _ w) (.cells #[.int .i64 c, .slice a n cap] 31)
  clear hR
  go_enter Tryd.func17, Tryd.ntmps17
  go_wp2_with fail
  refine (heldByteS_any _ _ _ _ _ _ R2 k0 k1 hn).mono ?_
  rintro r w1 ⟨rfl, rfl⟩
  clear R2
  go_wp2_with fail
  go_ret
  exact ⟨rfl, hb⟩

theorem OwnK.len {k : IntKind} {w : World} {B : Nat} {a : Option Addr} {len cap : Nat} {zs : List Int} (h : OwnK k w B (.slice a len cap) zs) : len = zs.length := by
  rcases h.2 with ⟨e, h0⟩ | ⟨g, c, e, _⟩
  · injection e with e1 e2 e3
    omega
  · injection e with e1 e2 e3

/-- Two answers of bytes lie in memory, the model's at block p1, the program's at block p2; the program's bytes are ms by now. -/
structure TwoRes (w : World) (c : Int) (zs : List Int) (p1 p2 : Nat) (a1 a2 : Option Addr) (n c1 c2 : Nat) (ms : List Int) (cur : World) : Prop where
  bel : Below w.heap.size w cur
  x0 : cur.cell? ⟨p1, 0, none⟩ = some (.int .i64 c)
  x1 : cur.cell? ⟨p1, 1, none⟩ = some (.slice a1 n c1)
  row : Row .u8 cur p1 a1 n c1 zs
  y0 : cur.cell? ⟨p2, 0, none⟩ = some (.int .i64 c)
  y1 : cur.cell? ⟨p2, 1, none⟩ = some (.slice a2 n c2)
  own : OwnK .u8 cur (p1 + 1) (.slice a2 n c2) ms
  old : w.heap.size ≤ p1
  sep : ∀ k, Value.ownBlock (.slice a2 n c2) = some k → k < p2
  ahead : p1 < p2
section
variable {w : World} {c : Int} {zs : List Int} {p1 p2 : Nat} {a1 a2 : Option Addr} {n c1 c2 : Nat} {ms : List Int} {cur cur' : World}
theorem TwoRes.lt1 (h : TwoRes w c zs p1 p2 a1 a2 n c1 c2 ms cur) : p1 < cur.heap.size := cell_lt h.x0
theorem TwoRes.lt2 (h : TwoRes w c zs p1 p2 a1 a2 n c1 c2 ms cur) : p2 < cur.heap.size := cell_lt h.y0
theorem TwoRes.on (h : TwoRes w c zs p1 p2 a1 a2 n c1 c2 ms cur) (hb : Below cur.heap.size cur cur') : TwoRes w c zs p1 p2 a1 a2 n c1 c2 ms cur' :=
  ⟨btr h.bel hb, cell_keep hb h.x0, cell_keep hb h.x1, h.row.below (hb.mono (by have := h.lt1; omega)), cell_keep hb h.y0, cell_keep hb h.y1, h.own.below hb, h.old, h.sep, h.ahead⟩
theorem TwoRes.grew (h : TwoRes w c zs p1 p2 a1 a2 n c1 c2 ms cur) {ms' : List Int} (ho : OwnK .u8 cur' (p1 + 1) (.slice a2 n c2) ms') (hg : cur.grownBy cur' (Value.ownBlock (.slice a2 n c2))) : TwoRes w c zs p1 p2 a1 a2 n c1 c2 ms' cur' := by
  have hlo := fun k hk => (h.own.lt k hk).1
  have hp1 : some p1 ≠ Value.ownBlock (.slice a2 n c2) := fun e => by have := hlo p1 e.symm; omega
  have hp2 : some p2 ≠ Value.ownBlock (.slice a2 n c2) := fun e => by have := h.sep p2 e.symm; omega
  have l1 := h.lt1
  have hold := h.old
  refine ⟨h.bel.grown hg h.bel.size (fun k hk => by have := hlo k hk; omega), hg.cell h.x0 hp1, hg.cell h.x1 hp1, h.row.keep (fun i hi => hg.block i (by omega) (fun e => by have := hlo i e.symm; omega)), hg.cell h.y0 hp2, hg.cell h.y1 hp2, ho, h.old, h.sep, h.ahead⟩
/-- The model's answer, and then the program's, are stored. -/
theorem TwoRes.new {u1 u2 : World} {t : TypeId} (b1 : Below w.heap.size w u1) (O1 : OwnK .u8 u1 w.heap.size (.slice a1 n c1) zs) (hw : ∀ z ∈ zs, (Lit.int .u8 z).wf = true)
    (b2 : Below (u1.alloc (.cells #[.int .i64 c, .slice a1 n c1] t)).heap.size (u1.alloc (.cells #[.int .i64 c, .slice a1 n c1] t)) u2) (O2 : OwnK .u8 u2 (u1.alloc (.cells #[.int .i64 c, .slice a1 n c1] t)).heap.size (.slice a2 n c2) zs) :
    TwoRes w c zs u1.heap.size u2.heap.size a1 a2 n c1 c2 zs (u2.alloc (.cells #[.int .i64 c, .slice a2 n c2] t)) := by
  have hs := b2.size
  simp at hs
  have x0 : (u1.alloc (.cells #[.int .i64 c, .slice a1 n c1] t)).cell? ⟨u1.heap.size, 0, none⟩ = some (.int .i64 c) := by simp
  have x1 : (u1.alloc (.cells #[.int .i64 c, .slice a1 n c1] t)).cell? ⟨u1.heap.size, 1, none⟩ = some (.slice a1 n c1) := by simp
  have b3 := bal b2 (.cells #[.int .i64 c, .slice a2 n c2] t)
  have R1 := Own.row O1 hw
  refine ⟨btr (bal b1 _) b3, cell_keep b3 x0, cell_keep b3 x1, ?_, by simp, by simp, ?_, b1.size, fun k hk => (O2.lt k hk).2, by omega⟩
  · exact (R1.alloc (Nat.le_refl _) _).below (b3.mono (by simp))
  · have := O2.alloc (.cells #[.int .i64 c, .slice a2 n c2] t)
    simpa [OwnK] using this
end

end Go.Proofs.YtepailfhagaboaaDoor
namespace Go.Proofs.YtepailfhagaboaaDoor
open Go.RowKit
set_option maxRecDepth 100000
set_option linter.unusedVariables false

/-- A mark, and numbers in two bytes each. -/
def headL (m : Int) (zs : List Int) : List Int := m :: zs.flatMap M.two
def HeadRel (w : World) (m : Int) (zs : List Int) (k : Nat) (v : Value) (wr : World) : Prop := OwnK .u8 wr w.heap.size v (headL m (zs.take k)) ∧ Below w.heap.size w wr
theorem headL_take (m : Int) (zs : List Int) (k : Nat) (hk : k < zs.length) : headL m (zs.take k) ++ M.two (zs[k]?.getD 0) = headL m (zs.take (k + 1)) := by
  have e : zs.take (k + 1) = zs.take k ++ [zs[k]] := List.take_succ_eq_append_getElem hk
  rw [e, List.getElem?_eq_getElem hk]
  simp only [headL, List.flatMap_append, List.flatMap_cons, List.flatMap_nil, List.append_nil, List.cons_append, Option.getD_some]
theorem headL_length (m : Int) : ∀ zs : List Int, (headL m zs).length = 1 + 2 * zs.length
  | [] => rfl
  | z :: r => by
    have := headL_length m r
    simp only [headL, List.length_cons, List.flatMap_cons, List.length_append, M.two, List.length_nil] at *
    omega
theorem HeadRel.step {w w1 w2 : World} {m : Int} {zs : List Int} {k : Nat} {v v' : Value} (h : HeadRel w m zs k v w1) (hk : k < zs.length) (ho : OwnK .u8 w2 w.heap.size v' (headL m (zs.take k) ++ M.two (zs[k]?.getD 0))) (hg : w1.grownBy w2 v.ownBlock) : HeadRel w m zs (k + 1) v' w2 :=
  ⟨by rw [← headL_take m zs k hk]; exact ho, h.1.grown h.2 h.2.size hg⟩
theorem wordHead_any (m : Int) (a : Option Addr) (len cap B : Nat) (zs : List Int) (w : World) (hR : Row .i64 w B a len cap zs) (hB : B ≤ w.heap.size) (hz : zs.all M.sumB = true) (hl : len ≤ 10) :
    Calls Tryd.prog 79 #[.int .u8 m, .slice a len cap] w (Made (headL m zs) w) := by
  have hL := Lib.hid hR.length
  have HZ := Lib.hid hz
  have O0 : OwnK .u8 (w.alloc (.cells #[.int .u8 m] 5)) w.heap.size (.slice (some ⟨w.heap.size, 0, none⟩) 1 1) [m] := own_lit (k := .u8) w [m] 1 5 (Nat.le_refl _) rfl (by simp only [maxLen]; omega)
  have T1 : HeadRel w m zs 0 (.slice (some ⟨w.heap.size, 0, none⟩) 1 1) (w.alloc (.cells #[.int .u8 m] 5)) := ⟨by simpa [headL] using O0, bal (Below.refl _ _) _⟩
  clear hz O0
  go_enter Tryd.func79, Tryd.ntmps79
  go_wp2_with fail
  generalize w.alloc (.cells #[.int .u8 m] 5) = W0 at *
  go_loopw [5, 12] (fun v i wr => ∃ k : Nat, k ≤ len ∧ i = .int .i64 k ∧ HeadRel w m zs k v wr) (fun _ i _ => len - (intOf i).toNat)
  case atStart => exact ⟨0, Nat.zero_le _, rfl, T1⟩
  case round =>
    obtain ⟨k, hk, rfl, hT⟩ := hrel
    by_cases hlt : k < len
    · obtain ⟨b, off, ha, hb, hc⟩ := hR.cells (by omega)
      have hcell := (hT.2.cell (p := ⟨b, off + k, none⟩) (by show b < _; omega)).trans (hc k hlt)
      simp only [List.getD_eq_getElem?_getD] at hcell
      clear hc
      have hzk : M.sumB (zs[k]?.getD 0) = true := List.all_eq_true.1 HZ.out _ (by simp [show k < zs.length by rw [hL.out]; exact hlt])
      have HK := Lib.hid hzk
      have hlen : (headL m (zs.take k)).length ≤ 1000000 := by rw [headL_length]; simp; omega
      subst ha
      clear hzk
      go_wp2_with fail
      refine (appendTwo_any _ _ _ _ _ hT.1 hT.2.size HK.out hlen).mono ?_
      rintro r w2 ⟨v2, rfl, ho2, hg2⟩
      have T2 := hT.step (by rw [hL.out]; exact hlt) ho2 hg2
      clear ho2 hg2 hT hcell HK hlen
      go_wp2_with fail
      go_roundw
      case rel => exact ⟨k + 1, by omega, by go_num, T2⟩
      case measure => simp [intOf]; omega
    · obtain rfl : k = len := by omega
      have hT' := hT
      rw [← hL.out] at hT'
      obtain ⟨ho, hb⟩ := hT'
      rw [List.take_length] at ho
      obtain ⟨a', c', hv, -⟩ := ho.form
      have HB := Lib.hid (And.intro ho hb)
      clear hT ho hb
      subst hv
      go_wp2_with fail
      go_ret
      exact ⟨_, _, _, rfl, HB.out.1, HB.out.2⟩

theorem bytes_cells (n : ByteArray) : (M.textL n).map (Value.int .u8) = byteCells n := by simp [M.textL, byteCells, List.map_map, Function.comp_def]
theorem wordBytes_hello (r s : Int) (n : ByteArray) (w : World) (h : helF n.data.toList r s = 0) :
    Calls Tryd.prog 58 #[.iface 26 (H3 r s n)] w (Made (packH n r s) w) := by
  obtain ⟨hr, hs, -⟩ := helF_zero h
  have hn := hel_size h
  have hss := pub_sum6 hs
  obtain ⟨i0, hi0, hz0, hz1, hz2⟩ := info_parts u8_info
  have ta : ∀ W : World, (Instr.typeAssert (.iface 26 (H3 r s n)) 67 26 true).run Tryd.prog W = .ok (.tuple #[H3 r s n, .bool true]) W := fun _ => by kernel_rfl
  have A0 := At.new w (HL3 r s n) 26
  have b0 := bal (Below.refl _ w) (.cells #[.int .i64 r, .int .i64 s, .string n] 26)
  have hall : [r, s].all M.sumB = true := by simp [hr, hss]
  clear h
  go_enter Tryd.func58, Tryd.ntmps58
  go_wp2_with fail
  generalize w.alloc (.cells #[.int .i64 r, .int .i64 s, .string n] 26) = W0 at *
  have d0 := A0.cell 0 _ rfl
  have d1 := A0.cell 1 _ rfl
  have d2 := A0.cell 2 _ rfl
  refine wp_region_line (Bel W0) [(0, true), (1, true), (2, true), (3, true), (6, true), (7, true), (4, false), (5, false), (8, false), (9, true)] (by kernel_rfl) (by kernel_rfl) (fun _ _ d _ _ h => by cases d <;> exact h) (Bel.drew W0) ?_
  have hst := Bel.drew W0
  have inst : Nonempty (Of (Bel W0)) := ⟨⟨_, hst⟩⟩
  have u0 := bel_cell d0
  have u1 := bel_cell d1
  have u2 := bel_cell d2
  generalize W0.drew = V1 at *
  iterate 6 (refine line_read rfl (by kernel_rfl) (fun K hK => ?_); go_big_quiet_op; refine hK _ ?_; clear hK K)
  refine line_alone rfl (by kernel_rfl) (fun K hK => ?_)
  go_big_op
  refine hK _ _ (hst.on (bal (Below.refl _ V1) _)) ?_
  clear hK K
  have st2 := hst.on (bal (Below.refl _ V1) (.cells #[.int .i64 r, .int .i64 s] 2))
  have R2 := row_two (w := V1) r s 2 hr hss
  have lt2 : V1.heap.size + 1 ≤ (V1.alloc (.cells #[.int .i64 r, .int .i64 s] 2)).heap.size := by simp
  generalize V1.alloc (.cells #[.int .i64 r, .int .i64 s] 2) = V2 at *
  refine line_alone rfl (by kernel_rfl) (fun K hK => ?_)
  refine call_any (args := #[.int .u8 1, .slice (some ⟨V1.heap.size, 0, none⟩) 2 2]) rfl (by kernel_rfl) (by kernel_rfl) (wordHead_any 1 _ 2 2 _ [r, s] V2 R2 lt2 hall (by omega)) ?_
  rintro e V3 ⟨a3, n3, c3, rfl, O3, b3⟩
  have l3 : n3 = 5 := O3.len
  subst l3
  have st3 := st2.on b3
  refine ⟨_, rfl, hK _ _ st3 ?_⟩
  clear hK K
  simp only [Act.put, List.setIfInBounds_toArray, List.set_cons_zero, List.set_cons_succ]
  have hz3 := b3.size
  refine line_alone rfl (by kernel_rfl) (fun K hK => ?_)
  refine wp_append_src _ (.tmp 15) (.tmp 17) 29 9 rfl V2.heap.size 5 i0 (.int .u8 0) 1 1 Tryd.underlying29 hi0 hz0 hz1 hz2 rfl _ _ _ rfl O3 _ n.size _ rfl (Src.ofString (P := Tryd.prog) V3 (tx := 9) Tryd.underlying9 n) (by rw [headL_length]; simp only [maxLen, List.length_cons, List.length_nil]; omega) (by rw [headL_length]; simp only [List.length_cons, List.length_nil]; omega) hz3 (fun v4 w4 hown hgrow hat => ?_)
  have b4 : Below V2.heap.size V2 w4 := Own.grown O3 b3 hz3 hgrow
  have O4 : OwnK .u8 w4 V2.heap.size v4 (packH n r s) := by
    have e : packH n r s = headL 1 [r, s] ++ M.textL n := by simp [packH, helHead, headL]
    unfold OwnK
    rw [e, List.length_append, M.textL_length, List.map_append, bytes_cells]
    exact hown
  have st4 := st2.on b4
  refine hK _ _ st4 ?_
  have B4 := btr b0 st4.out
  obtain ⟨a4, c4, hv4, -⟩ := O4.form
  have hle : w.heap.size ≤ V2.heap.size := (btr b0 st2.out).size
  have HT := Lib.hid (And.intro (O4.less hle) B4)
  clear hK K hown hgrow hat O3 O4 b3 b4 B4 st3 st4 st2
  subst hv4
  simp only [Act.put, List.setIfInBounds_toArray, List.set_cons_zero, List.set_cons_succ]
  iterate 1 (refine line_read rfl (by kernel_rfl) (fun K hK => ?_); go_big_quiet_op; refine hK _ ?_; clear hK K)
  refine line_nil ?_
  go_wp2_with fail
  go_ret
  exact ⟨_, _, _, rfl, HT.out.1, HT.out.2⟩
theorem helloFault_method (r s : Int) (n : ByteArray) (w : World) (hn : n.size ≤ maxLen) :
    Calls Tryd.prog 137 #[H3 r s n] w fun e w' => e = .returned (.int .i64 (helF n.data.toList r s)) ∧ Below w.heap.size w w' := by
  have b0 := bal (Below.refl _ w) (.cells #[.int .i64 r, .int .i64 s, .string n] 26)
  have F := fun w => implHelloFault_any r s n w hn
  go_enter Tryd.func137, Tryd.ntmps137
  go_wp2_with fail
  refine (F _).mono ?_
  rintro e u1 ⟨rfl, b1⟩
  have hb := btr b0 b1
  go_wp2_with fail
  go_ret
  exact ⟨rfl, hb⟩
theorem packWord_hello (r s : Int) (n : ByteArray) (w : World) (hn : n.size ≤ maxLen) :
    Calls Tryd.prog 36 #[.iface 26 (H3 r s n)] w (BytesRes (helF n.data.toList r s) (packHL n r s) w) := by
  have hm : ∀ w : World, (method 316 26 (H3 r s n) "loop.example/g00618/impl.fault").run Tryd.prog w = .ok (137, H3 r s n) w := fun _ => by kernel_rfl
  have F := fun w => helloFault_method r s n w hn
  have A0 := At.new w [.int .i64 0, .slice none 0 0] 31
  have b0 := bal (Below.refl _ w) (.cells #[.int .i64 0, .slice none 0 0] 31)
  by_cases h : helF n.data.toList r s = 0
  · have e : packHL n r s = packH n r s := by simp [packHL, h]
    rw [e]
    have P1 := fun w => wordBytes_hello r s n w h
    simp only [h] at F ⊢
    clear e h
    go_enter Tryd.func36, Tryd.ntmps36
    go_wp2_with fail
    generalize w.alloc (.cells #[.int .i64 0, .slice none 0 0] 31) = W0 at *
    refine (F _).mono ?_
    rintro e u1 ⟨rfl, b1⟩
    go_wp2_with fail
    refine (P1 _).mono ?_
    rintro e u2 ⟨a2, n2, c2, rfl, O2, b2⟩
    have lt1 : w.heap.size < u1.heap.size := (A0.on b1).lt (by simp)
    have p0 := ((A0.on b1).on b2).cell 0 _ rfl
    have p1 := ((A0.on b1).on b2).cell 1 _ rfl
    have z0 := ((A0.on b1).on b2).free 0 _ rfl
    have z1 := ((A0.on b1).on b2).free 1 _ rfl
    have HT := Lib.hid (And.intro O2 (btr b0 (btr b1 b2)))
    have hzs := (btr b0 b1).size
    clear A0 O2 b2 b1 b0
    go_wp2_with fail
    refine bodyPost_ret (v := .agg #[.int .i64 0, .slice a2 n2 c2]) (by simp [results, Tryd.results36, go_sem, p0, p1]) rfl ?_
    exact ⟨_, _, _, rfl, (by (iterate 2 (refine Own.setCell ?_ (fun g hg => by have := (HT.out.1.lt g hg).1; dsimp only; omega) _)); exact HT.out.1.less (by omega)), (by (iterate 2 (refine bset ?_ (by dsimp only; omega) _)); exact HT.out.2)⟩
  · have e : packHL n r s = [] := by simp [packHL, h]
    rw [e]
    generalize helF n.data.toList r s = cd at *
    clear e
    go_enter Tryd.func36, Tryd.ntmps36
    go_wp2_with fail
    generalize w.alloc (.cells #[.int .i64 0, .slice none 0 0] 31) = W0 at *
    refine (F _).mono ?_
    rintro e u1 ⟨rfl, b1⟩
    have q0 := (A0.on b1).cell 0 _ rfl
    have q1 := (A0.on b1).cell 1 _ rfl
    have z0 := (A0.on b1).free 0 _ rfl
    have z1 := (A0.on b1).free 1 _ rfl
    have hb := btr b0 b1
    clear A0 b0 b1 F
    go_wp2_with fail
    refine bodyPost_ret (v := .agg #[.int .i64 cd, .slice none 0 0]) (by simp [results, Tryd.results36, go_sem, q0, q1]) rfl ?_
    exact ⟨_, _, _, rfl, Own.nil _ _ _, (by (iterate 2 (refine bset ?_ (by dsimp only; omega) _)); exact hb)⟩
theorem implPackHello_any (r s : Int) (n : ByteArray) (w : World) (hn : n.size ≤ maxLen) :
    Calls Tryd.prog 14 #[H3 r s n] w (BytesRes (helF n.data.toList r s) (packHL n r s) w) := by
  have F := fun w => packWord_hello r s n w hn
  have b0 := bal (bal (Below.refl _ w) (.cells #[.int .i64 r, .int .i64 s, .string n] 26)) (.cells #[.int .i64 0, .slice none 0 0] 31)
  have A2 := At.new (w.alloc (.cells #[.int .i64 r, .int .i64 s, .string n] 26)) [.int .i64 0, .slice none 0 0] 31
  simp only [World.size_alloc] at A2
  generalize helF n.data.toList r s = cd at *
  generalize packHL n r s = zs at *
  go_enter Tryd.func14, Tryd.ntmps14
  go_wp2_with fail
  generalize (w.alloc (.cells #[.int .i64 r, .int .i64 s, .string n] 26)).alloc (.cells #[.int .i64 0, .slice none 0 0] 31) = W0 at *
  refine (F _).mono ?_
  rintro e u1 ⟨a2, n2, c2, rfl, O2, b2⟩
  have lt1 : w.heap.size + 1 < W0.heap.size := A2.lt (by simp)
  have p0 := (A2.on b2).cell 0 _ rfl
  have p1 := (A2.on b2).cell 1 _ rfl
  have z0 := (A2.on b2).free 0 _ rfl
  have z1 := (A2.on b2).free 1 _ rfl
  have HT := Lib.hid (And.intro O2 (btr b0 b2))
  clear A2 O2 b2 b0
  go_wp2_with fail
  refine bodyPost_ret (v := .agg #[.int .i64 cd, .slice a2 n2 c2]) (by simp [results, Tryd.results14, go_sem, p0, p1]) rfl ?_
  exact ⟨_, _, _, rfl, (by (iterate 2 (refine Own.setCell ?_ (fun g hg => by have := (HT.out.1.lt g hg).1; dsimp only; omega) _)); exact HT.out.1.less (by omega)), (by (iterate 2 (refine bset ?_ (by dsimp only; omega) _)); exact HT.out.2)⟩
end Go.Proofs.YtepailfhagaboaaDoor
namespace Go.Proofs.YtepailfhagaboaaDoor
open Go.RowKit
set_option maxRecDepth 100000

theorem signer_split {s t : Int} (h : (inB s 1 1438 && M.sumB t) = true) : inB s 1 1438 = true ∧ M.sumB t = true := by simpa using h

end Go.Proofs.YtepailfhagaboaaDoor
namespace Go.Proofs.YtepailfhagaboaaDoor
open Go.RowKit
set_option maxRecDepth 100000

theorem checkB_yes {u t p q : Int} (hu : pubB u = true) (ht : M.sumB t = true) (hg : M.sigB p q = true) : M.checkB u t p q = (M.pw 4 q.toNat 2879 == p * M.pw u (M.chalN u p t).toNat 2879 % 2879) := by
  simp only [M.checkB, hu, ht, hg, Bool.and_self, Bool.true_and]

theorem eqSigned_any (a b : Int) (w : World) :
    Calls Tryd.prog 69 #[I2 a b, I2 a b] w fun r w' => r = .returned (.bool true) ∧ Below w.heap.size w w' := by
  go_enter Tryd.func69, Tryd.ntmps69
  go_wp2_with fail
  go_ret
  exact ⟨rfl, bal (bal (Below.refl _ _) _) _⟩
end Go.Proofs.YtepailfhagaboaaDoor
namespace Go.Proofs.YtepailfhagaboaaDoor
open Go.RowKit
set_option maxRecDepth 100000
set_option linter.unusedVariables false

/-- What four bytes are, cell by cell. -/
theorem row_four {w : World} {B : Nat} {a : Option Addr} {cap : Nat} {zs : List Int} (hR : Row .u8 w B a 4 cap zs) :
    ∃ b off, ∃ x y u v : Int, a = some ⟨b, off, none⟩ ∧ zs = [x, y, u, v] ∧ w.cell? ⟨b, off, none⟩ = some (.int .u8 x) ∧ w.cell? ⟨b, off + 1, none⟩ = some (.int .u8 y) ∧ w.cell? ⟨b, off + 2, none⟩ = some (.int .u8 u) ∧ w.cell? ⟨b, off + 3, none⟩ = some (.int .u8 v) ∧
      0 ≤ x ∧ x ≤ 255 ∧ 0 ≤ y ∧ y ≤ 255 ∧ 0 ≤ u ∧ u ≤ 255 ∧ 0 ≤ v ∧ v ≤ 255 := by
  obtain ⟨b, off, ha, _, hc⟩ := hR.cells (by omega)
  have b0 := hR.byte 0
  have b1 := hR.byte 1
  have b2 := hR.byte 2
  have b3 := hR.byte 3
  have h0 := hc 0 (by omega)
  have h1 := hc 1 (by omega)
  have h2 := hc 2 (by omega)
  have h3 := hc 3 (by omega)
  have hl := hR.length
  match zs, hl with
  | [x, y, u, v], _ =>
    refine ⟨b, off, x, y, u, v, ha, rfl, h0, h1, h2, h3, b0.1, b0.2, b1.1, b1.2, b2.1, b2.2, b3.1, b3.2⟩

theorem readR_no {zs : List Int} (h : M.readB zs = false) : M.readR zs = (5, 0, 0) := by simp [M.readR, h]
theorem readR_yes {zs : List Int} (h : M.readB zs = true) : M.readR zs = (0, M.readP zs, M.readQ zs) := by simp [M.readR, h]

theorem implReadSign_any (a : Option Addr) (len cap B : Nat) (zs : List Int) (w : World) (hR : Row .u8 w B a len cap zs) (hB : B ≤ w.heap.size) :
    Calls Tryd.prog 83 #[.slice a len cap] w fun r w' => r = .returned (I3 (M.readR zs).1 (M.readR zs).2.1 (M.readR zs).2.2) ∧ Below w.heap.size w w' := by
  have hlen := hR.fits
  have hmost := hR.most
  by_cases h4 : len = 4
  · subst h4
    obtain ⟨b, off, x, y, u, v, rfl, rfl, d0', d1', d2', d3', x0, x1, y0, y1, u0, u1, v0, v1⟩ := row_four hR
    have eP : M.readP [x, y, u, v] = 256 * x + y := by simp [M.readP]
    have eQ : M.readQ [x, y, u, v] = 256 * u + v := by simp [M.readQ]
    have T1 := fun (w' : World) d0 d1 => readTwo_any b off 4 cap x y w' (by omega) hlen hmost d0 d1 x0 x1 y0 y1
    have T2 := fun (w' : World) d2 d3 => readTwo_any b (off + 2) 2 (cap - 2) u v w' (by omega) (by omega) (by omega) d2 d3 u0 u1 v0 v1
    have hb0 := bal (Below.refl _ w) (.cells #[.int .i64 0, .int .i64 0, .int .i64 0] 112)
    have hR0 := Res3.new w 112
    have d0 := cell_keep hb0 d0'
    have d1 := cell_keep hb0 d1'
    have d2 := cell_keep hb0 d2'
    have d3 := cell_keep hb0 d3'
    have hm2 := hmost
    unfold maxLen at hm2
    clear hR d0' d1' d2' d3'
    cases hS : M.sigB (256 * x + y) (256 * u + v)
    · have E : M.readR [x, y, u, v] = (5, 0, 0) := readR_no (by simp only [M.readB, eP, eQ, hS, Bool.and_false])
      rw [E]; clear E eP eQ
      go_enter Tryd.func83, Tryd.ntmps83
      go_wp2_with fail
      generalize w.alloc (.cells #[.int .i64 0, .int .i64 0, .int .i64 0] 112) = W0 at *
      refine wp_region_line (Bel W0) [(0, true), (2, true), (3, true), (1, false), (4, false), (5, false), (6, false), (7, true), (8, true), (9, true), (10, true), (11, true)] (by kernel_rfl) (by kernel_rfl) (fun _ _ d _ _ h => by cases d <;> exact h) (Bel.drew W0) ?_
      have hst := Bel.drew W0
      have inst : Nonempty (Of (Bel W0)) := ⟨⟨_, hst⟩⟩
      iterate 3 (refine line_read rfl (by kernel_rfl) (fun K hK => ?_); go_big_quiet_op; refine hK _ ?_; clear hK K)
      refine line_alone rfl (by kernel_rfl) (fun K hK => ?_)
      refine call_wp (args := #[.slice (some ⟨b, off, none⟩) 4 cap]) rfl (by kernel_rfl) (by kernel_rfl) (T1 _ (cell_keep hst.out d0) (cell_keep hst.out d1)) (fun wn hbn => ?_)
      have hst2 := hst.on hbn
      refine hK _ _ hst2 ?_
      clear hK K hst hbn
      have hst := hst2
      clear hst2
      simp only [Act.put, List.setIfInBounds_toArray, List.set_cons_zero, List.set_cons_succ]
      refine line_alone rfl (by kernel_rfl) (fun K hK => ?_)
      refine call_wp (args := #[.slice (some ⟨b, off + 2, none⟩) 2 (cap - 2)]) rfl (by kernel_rfl) (by kernel_rfl) (T2 _ (cell_keep hst.out d2) (cell_keep hst.out d3)) (fun wn hbn => ?_)
      have hst2 := hst.on hbn
      refine hK _ _ hst2 ?_
      clear hK K hst hbn
      have hst := hst2
      clear hst2
      simp only [Act.put, List.setIfInBounds_toArray, List.set_cons_zero, List.set_cons_succ]
      refine line_value (v := I2 (256 * x + y) (256 * u + v)) rfl (by kernel_rfl) (by kernel_rfl) hst ?_
      simp only [Act.put, List.setIfInBounds_toArray, List.set_cons_zero, List.set_cons_succ]
      refine line_alone rfl (by kernel_rfl) (fun K hK => ?_)
      refine call_any (args := #[I2 (256 * x + y) (256 * u + v)]) rfl (by kernel_rfl) (by kernel_rfl) (pairOf_no _ _ _ hS) ?_
      rintro e wn ⟨m, pv, rfl, hbn⟩
      have hst2 := hst.on hbn
      refine ⟨_, rfl, hK _ _ hst2 ?_⟩
      clear hK K hst hbn
      simp only [Act.put, List.setIfInBounds_toArray, List.set_cons_zero, List.set_cons_succ]
      iterate 5 (refine line_read rfl (by kernel_rfl) (fun K hK => ?_); go_big_quiet_op; refine hK _ ?_; clear hK K)
      refine line_nil ?_
      have hbel := hst2.out
      obtain ⟨q0, q1, q2, z0, z1, z2⟩ := hR0.on hbel
      go_wp2_with fail
      exact bodyPost_ret (v := I3 5 0 0) (by simp [results, Tryd.results83, go_sem, q0, q1, q2]) rfl ⟨rfl, bset (bset (bset (btr hb0 hbel) (Nat.le_refl _) _) (Nat.le_refl _) _) (Nat.le_refl _) _⟩
    · have E : M.readR [x, y, u, v] = (0, 256 * x + y, 256 * u + v) := by rw [readR_yes (by simp only [M.readB, eP, eQ, hS]; rfl), eP, eQ]
      rw [E]; clear E eP eQ
      obtain ⟨p0, p1, q0', q1'⟩ := M.sigB_bd hS
      have Y1 := fun w => pairOf_yes (256 * x + y) (256 * u + v) w hS
      have P1 := fun w => point_any (256 * x + y) (256 * u + v) w (by omega) (by omega)
      have P2 := fun w => proof_any (256 * x + y) (256 * u + v) w (by omega) (by omega)
      generalize pairV (256 * x + y) (256 * u + v) = V at *
      go_enter Tryd.func83, Tryd.ntmps83
      go_wp2_with fail
      generalize w.alloc (.cells #[.int .i64 0, .int .i64 0, .int .i64 0] 112) = W0 at *
      refine wp_region_line (Bel W0) [(0, true), (2, true), (3, true), (1, false), (4, false), (5, false), (6, false), (7, true), (8, true), (9, true), (10, true), (11, true)] (by kernel_rfl) (by kernel_rfl) (fun _ _ d _ _ h => by cases d <;> exact h) (Bel.drew W0) ?_
      have hst := Bel.drew W0
      have inst : Nonempty (Of (Bel W0)) := ⟨⟨_, hst⟩⟩
      iterate 3 (refine line_read rfl (by kernel_rfl) (fun K hK => ?_); go_big_quiet_op; refine hK _ ?_; clear hK K)
      refine line_alone rfl (by kernel_rfl) (fun K hK => ?_)
      refine call_wp (args := #[.slice (some ⟨b, off, none⟩) 4 cap]) rfl (by kernel_rfl) (by kernel_rfl) (T1 _ (cell_keep hst.out d0) (cell_keep hst.out d1)) (fun wn hbn => ?_)
      have hst2 := hst.on hbn
      refine hK _ _ hst2 ?_
      clear hK K hst hbn
      have hst := hst2
      clear hst2
      simp only [Act.put, List.setIfInBounds_toArray, List.set_cons_zero, List.set_cons_succ]
      refine line_alone rfl (by kernel_rfl) (fun K hK => ?_)
      refine call_wp (args := #[.slice (some ⟨b, off + 2, none⟩) 2 (cap - 2)]) rfl (by kernel_rfl) (by kernel_rfl) (T2 _ (cell_keep hst.out d2) (cell_keep hst.out d3)) (fun wn hbn => ?_)
      have hst2 := hst.on hbn
      refine hK _ _ hst2 ?_
      clear hK K hst hbn
      have hst := hst2
      clear hst2
      simp only [Act.put, List.setIfInBounds_toArray, List.set_cons_zero, List.set_cons_succ]
      refine line_value (v := I2 (256 * x + y) (256 * u + v)) rfl (by kernel_rfl) (by kernel_rfl) hst ?_
      simp only [Act.put, List.setIfInBounds_toArray, List.set_cons_zero, List.set_cons_succ]
      refine line_alone rfl (by kernel_rfl) (fun K hK => ?_)
      refine call_wp (args := #[I2 (256 * x + y) (256 * u + v)]) rfl (by kernel_rfl) (by kernel_rfl) (Y1 _) (fun wn hbn => ?_)
      have hst2 := hst.on hbn
      refine hK _ _ hst2 ?_
      clear hK K hst hbn
      have hst := hst2
      clear hst2
      simp only [Act.put, List.setIfInBounds_toArray, List.set_cons_zero, List.set_cons_succ]
      iterate 5 (refine line_read rfl (by kernel_rfl) (fun K hK => ?_); go_big_quiet_op; refine hK _ ?_; clear hK K)
      refine line_nil ?_
      have hbel := hst.out
      go_wp2_with fail
      refine (P1 _).mono ?_
      rintro r w' ⟨rfl, rfl⟩
      go_wp2_with fail
      refine (P2 _).mono ?_
      rintro r w' ⟨rfl, rfl⟩
      obtain ⟨q0, q1, q2, z0, z1, z2⟩ := hR0.on hbel
      go_wp2_with fail
      exact bodyPost_ret (v := I3 0 (256 * x + y) (256 * u + v)) (by simp [results, Tryd.results83, go_sem, q0, q1, q2]) rfl ⟨rfl, bset (bset (bset (btr hb0 hbel) (Nat.le_refl _) _) (Nat.le_refl _) _) (Nat.le_refl _) _⟩
  · have E : M.readR zs = (5, 0, 0) := readR_no (by simp only [M.readB, hR.length, h4, decide_false, Bool.false_and])
    rw [E]; clear E
    have e4 : ((len : Int) == 4) = false := by rw [beq_eq_false_iff_ne]; omega
    unfold maxLen at hmost
    clear h4
    go_enter Tryd.func83, Tryd.ntmps83
    go_wp2_with fail
    exact bodyPost_ret (v := I3 5 0 0) (by simp [results, Tryd.results83, go_sem]) rfl ⟨rfl, bal (Below.refl _ _) _⟩
end Go.Proofs.YtepailfhagaboaaDoor
namespace Go.Proofs.YtepailfhagaboaaDoor
open Go.RowKit
set_option maxRecDepth 100000
set_option linter.unusedVariables false

/-- The name that stands in bytes. -/
def keyNm (zs : List Int) : List UInt8 := (zs.drop 4).map fun z => UInt8.ofNat z.toNat
theorem keyNm_str (zs : List Int) : strOf (zs.drop 4) = M.bs (keyNm zs) := by
  rw [← M.bs_data (strOf _), strOf, strOf_data]
  simp [keyNm]
def keyF (zs : List Int) : Int := M.tlsaF (keyNm zs) (zs.getD 0 0) (zs.getD 1 0) (256 * zs.getD 2 0 + zs.getD 3 0)
def keyOk (zs : List Int) : Bool := decide (4 ≤ zs.length) && decide (keyF zs = 0)
abbrev keyT (zs : List Int) : Value := T5 (if keyOk zs then 0 else 5) (M.bs (if keyOk zs then keyNm zs else [])) (if keyOk zs then zs.getD 0 0 else 0) (if keyOk zs then zs.getD 1 0 else 0) (if keyOk zs then 256 * zs.getD 2 0 + zs.getD 3 0 else 0)
theorem keyT_no {zs : List Int} (h : keyOk zs = false) : keyT zs = T5 5 { data := #[] } 0 0 0 := by simp [keyT, h, M.bs]
theorem keyT_yes {zs : List Int} (h : keyOk zs = true) : keyT zs = T5 0 (M.bs (keyNm zs)) (zs.getD 0 0) (zs.getD 1 0) (256 * zs.getD 2 0 + zs.getD 3 0) := by simp [keyT, h]
theorem keyOk_short {zs : List Int} (h : zs.length < 5) : keyOk zs = false := by
  unfold keyOk
  by_cases h4 : 4 ≤ zs.length
  · have e : keyNm zs = [] := by
      unfold keyNm
      rw [List.drop_of_length_le (by omega)]
      rfl
    have : keyF zs = 5 := by
      unfold keyF
      rw [e]
      have h5 : M.nameF [] = 5 := by decide
      have h6 : M.normF [] = 5 := by rw [M.normF_no (by rw [h5]; omega), h5]
      rw [M.tlsaF_norm (by rw [h6]; omega), h6]
    rw [this]
    simp
  · simp [h4]
/-- A supplied key lies in a block of its own. -/
def KeyAt (V : World) (n : ByteArray) (u m x : Int) (v : Value) (wx : World) : Prop := ∃ g, v = .pointer (some ⟨g, 0, none⟩) ∧ At g (TL4 n u m x) wx ∧ Below V.heap.size V wx ∧ V.heap.size ≤ g

/-- No byte makes no text, wherever it is taken from. -/
theorem conv_none (a a' : Option Addr) (c c' : Nat) (w : World) (hc : c ≤ maxLen) (hc' : c' ≤ maxLen) : (convert 29 9 (.slice a 0 c)).run Tryd.prog w = (convert 29 9 (.slice a' 0 c')).run Tryd.prog w := by
  have hR : ∀ (a : Option Addr) (c : Nat), c ≤ maxLen → Row .u8 w 0 a 0 c [] := fun a c hc => ⟨rfl, (fun _ h => by cases h), Nat.zero_le _, hc, fun h => absurd h (by omega)⟩
  rw [conv_row (hR a c hc), conv_row (hR a' c' hc')]

end Go.Proofs.YtepailfhagaboaaDoor
namespace Go.Proofs.YtepailfhagaboaaDoor
open Go.RowKit
set_option maxRecDepth 100000
set_option linter.unusedVariables false

theorem helNm_str (zs : List Int) : strOf (zs.drop 5) = M.bs (helNm zs) := by
  rw [← M.bs_data (strOf _), strOf, strOf_data]
  simp [helNm]
theorem helNm_size {zs : List Int} (n : Nat) (h : zs.length ≤ n) : (M.bs (helNm zs)).size ≤ n := by
  rw [M.bs_size]
  simp only [helNm, List.length_map, List.length_drop]
  omega

theorem helloIn_no {u : TypeId} {v : Value} (a : Option Addr) (len cap : Nat) (w : World) (hv : ErrV u v w) (h5 : len < 5) :
    Calls Tryd.prog 61 #[.slice a len cap] w fun e w' => e = unread u v ∧ Below w.heap.size w w' := by
  have b0 := bal (Below.refl _ w) (.cells #[.int .i64 0, .int .i64 0, .string { data := #[] }] 26)
  have V0 := hv.on b0
  have h5' : ¬ (5 : Int) ≤ (len : Int) := by omega
  clear hv
  go_enter Tryd.func61, Tryd.ntmps61
  go_wp2_with fail
  generalize w.alloc (.cells #[.int .i64 0, .int .i64 0, .string { data := #[] }] 26) = W0 at *
  refine (needs_no _ V0).mono ?_
  rintro e w' ⟨rfl, rfl⟩
  exact ⟨rfl, rfl, b0⟩
theorem helloIn_yes (a : Option Addr) (len cap B : Nat) (zs : List Int) (w : World) (hR : Row .u8 w B a len cap zs) (hB : B ≤ w.heap.size) (h5 : 5 ≤ len) :
    Calls Tryd.prog 61 #[.slice a len cap] w fun e w' => e = .returned (H3 (tw zs 1) (tw zs 3) (M.bs (helNm zs))) ∧ Below w.heap.size w w' := by
  have hlen := hR.fits
  have hmost := hR.most
  have hzl := hR.length
  have b0 := bal (Below.refl _ w) (.cells #[.int .i64 0, .int .i64 0, .string { data := #[] }] 26)
  have A0 := At.new w (HL3 0 0 { data := #[] }) 26
  obtain ⟨b, off, rfl, hb, hc⟩ := hR.cells (by omega)
  have z1 := hR.byte 1
  have z2 := hR.byte 2
  have z3 := hR.byte 3
  have z4 := hR.byte 4
  have d1 := hc 1 (by omega)
  have d2 := hc 2 (by omega)
  have d3 := hc 3 (by omega)
  have d4 := hc 4 (by omega)
  have hsub := fun (w' : World) (R : Row .u8 w' B (some ⟨b, off, none⟩) len cap zs) => conv_row (R.sub 5 (len - 5) (cap - 5) (by omega) (by omega) (by omega))
  have edrop : (zs.drop 5).take (len - 5) = zs.drop 5 := List.take_of_length_le (by simp; omega)
  simp only [edrop, helNm_str] at hsub
  have T1 := fun (w' : World) d1 d2 => readTwo_any b (off + 1) (len - 1) (cap - 1) (zs.getD 1 0) (zs.getD 2 0) w' (by omega) (by omega) (by omega) d1 d2 z1.1 z1.2 z2.1 z2.2
  have T2 := fun (w' : World) d3 d4 => readTwo_any b (off + 3) (len - 3) (cap - 3) (zs.getD 3 0) (zs.getD 4 0) w' (by omega) (by omega) (by omega) d3 d4 z3.1 z3.2 z4.1 z4.2
  have hm2 := hmost
  unfold maxLen at hm2
  have h5' : (5 : Int) ≤ (len : Int) := by omega
  unfold tw
  generalize M.bs (helNm zs) = N at *
  generalize zs.getD 1 0 = y1 at *
  generalize zs.getD 2 0 = y2 at *
  generalize zs.getD 3 0 = y3 at *
  generalize zs.getD 4 0 = y4 at *
  clear hc edrop hmost
  go_enter Tryd.func61, Tryd.ntmps61
  go_wp2_with fail
  generalize w.alloc (.cells #[.int .i64 0, .int .i64 0, .string { data := #[] }] 26) = W0 at *
  refine (needs_yes _).mono ?_
  rintro e w' ⟨rfl, rfl⟩
  go_wp2_with fail
  have S0 : Bel w W0.drew := ⟨b0.drew⟩
  have AA := A0.on (bdrew W0)
  refine wp_region_line (Bel w) [(0, true), (1, true), (3, true), (4, true), (6, true), (7, true), (8, true), (2, false), (5, false), (9, true), (10, false)] (by kernel_rfl) (by kernel_rfl) (fun _ _ d _ _ h => by cases d <;> exact h) S0 ?_
  have hst := S0
  have inst : Nonempty (Of (Bel w)) := ⟨⟨_, hst⟩⟩
  have cv : ∀ z : Of (Bel w), (convert 29 9 (.slice (if cap = 5 then some ⟨b, off, none⟩ else some ⟨b, off + 5, none⟩) (len - 5) (cap - 5))).run Tryd.prog z.val = .ok (.string N) z.val := fun z => by
    have h := hsub _ (hR.below (z.prop.out.mono hB))
    split
    · rename_i hcap
      have e := conv_none (some ⟨b, off, none⟩) (some ⟨b, off + 5, none⟩) (cap - 5) (cap - 5) z.val (by simp only [maxLen]; omega) (by simp only [maxLen]; omega)
      rw [show len - 5 = 0 by omega] at h ⊢
      rw [e]
      exact h
    · exact h
  clear S0 A0 b0
  generalize W0.drew = V1 at *
  iterate 7 (refine line_read rfl (by kernel_rfl) (fun K hK => ?_); go_big_quiet_op; refine hK _ ?_; clear hK K)
  clear cv
  generalize (if cap = 5 then some (⟨b, off, none⟩ : Addr) else some ⟨b, off + 5, none⟩) = ad
  refine line_alone rfl (by kernel_rfl) (fun K hK => ?_)
  refine call_any (args := #[.slice (some ⟨b, off + 1, none⟩) (len - 1) (cap - 1)]) rfl (by kernel_rfl) (by kernel_rfl) (T1 _ (cell_keep hst.out d1) (cell_keep hst.out d2)) ?_
  rintro e x1 ⟨rfl, hbn⟩
  have hst2 := hst.on hbn
  have AA2 := AA.on hbn
  refine ⟨_, rfl, hK _ _ hst2 ?_⟩
  clear hK K hst hbn AA
  have hst := hst2
  have AA := AA2
  clear hst2 AA2
  simp only [Act.put, List.setIfInBounds_toArray, List.set_cons_zero, List.set_cons_succ]
  refine line_alone rfl (by kernel_rfl) (fun K hK => ?_)
  refine call_any (args := #[.slice (some ⟨b, off + 3, none⟩) (len - 3) (cap - 3)]) rfl (by kernel_rfl) (by kernel_rfl) (T2 _ (cell_keep hst.out d3) (cell_keep hst.out d4)) ?_
  rintro e x2 ⟨rfl, hbn⟩
  have hst2 := hst.on hbn
  have AA2 := AA.on hbn
  refine ⟨_, rfl, hK _ _ hst2 ?_⟩
  clear hK K hst hbn AA
  have hst := hst2
  have AA := AA2
  clear hst2 AA2
  simp only [Act.put, List.setIfInBounds_toArray, List.set_cons_zero, List.set_cons_succ]
  refine line_readv (v := H3 (256 * y1 + y2) (256 * y3 + y4) N) rfl (by kernel_rfl) (fun _ => by kernel_rfl) ?_
  simp only [Act.put, List.setIfInBounds_toArray, List.set_cons_zero, List.set_cons_succ]
  have p0 := AA.cell 0 _ rfl
  have p1 := AA.cell 1 _ rfl
  have p2 := AA.cell 2 _ rfl
  have z0 := AA.free 0 _ rfl
  have z1 := AA.free 1 _ rfl
  have z2 := AA.free 2 _ rfl
  refine line_alone rfl (by kernel_rfl) (fun K hK => ?_)
  go_big_op
  refine hK _ _ (⟨(by (iterate 3 (refine bset ?_ (by dsimp only; omega) _)); exact hst.out)⟩) ?_
  clear hK K
  refine line_nil ?_
  have HB := Lib.hid hst.out
  clear hst inst AA
  go_wp2_with fail
  refine bodyPost_ret (v := H3 (256 * y1 + y2) (256 * y3 + y4) N) (by simp [results, Tryd.results61, go_sem, p0, p1, p2]) rfl ⟨rfl, ?_⟩
  exact (by (iterate 3 (refine bset ?_ (by dsimp only; omega) _)); exact HB.out)

theorem replyIn_short {u : TypeId} {v : Value} (a : Option Addr) (len cap : Nat) (w : World) (hv : ErrV u v w) (h5 : len ≠ 13) (hm : len ≤ maxLen) :
    Calls Tryd.prog 62 #[.slice a len cap] w fun e w' => e = unread u v ∧ Below w.heap.size w w' := by
  have b0 := bal (Below.refl _ w) (.cells #[.int .i64 0, .int .i64 0, .int .i64 0, .int .i64 0, .int .i64 0, .int .i64 0] 49)
  have V0 := hv.on b0
  have h5' : ((len : Int) == 13) = false := by rw [beq_eq_false_iff_ne]; omega
  unfold maxLen at hm
  clear hv
  go_enter Tryd.func62, Tryd.ntmps62
  go_wp2_with fail
  generalize w.alloc (.cells #[.int .i64 0, .int .i64 0, .int .i64 0, .int .i64 0, .int .i64 0, .int .i64 0] 49) = W0 at *
  refine (needs_no _ V0).mono ?_
  rintro e w' ⟨rfl, rfl⟩
  exact ⟨rfl, rfl, b0⟩
/-- The four bytes of a signature. -/
abbrev sigZ (zs : List Int) : List Int := (zs.drop 7).take 4
theorem sigZ_P {zs : List Int} (h : zs.length = 13) : M.readP (sigZ zs) = tw zs 7 ∧ M.readQ (sigZ zs) = tw zs 9 ∧ (sigZ zs).length = 4 := by
  match zs, h with
  | [z0, z1, z2, z3, z4, z5, z6, z7, z8, z9, z10, z11, z12], _ => exact ⟨rfl, rfl, rfl⟩
theorem sigZ_B {zs : List Int} (h : zs.length = 13) : M.readB (sigZ zs) = M.sigB (tw zs 7) (tw zs 9) := by
  obtain ⟨h1, h2, h3⟩ := sigZ_P h
  unfold M.readB
  rw [h1, h2, h3]
  simp
theorem replyIn_bad {u : TypeId} {v : Value} (a : Option Addr) (cap B : Nat) (zs : List Int) (w : World) (hR : Row .u8 w B a 13 cap zs) (hB : B ≤ w.heap.size) (hv : ErrV u v w) (hs : M.sigB (tw zs 7) (tw zs 9) = false) :
    Calls Tryd.prog 62 #[.slice a 13 cap] w fun e w' => e = unread u v ∧ Below w.heap.size w w' := by
  have hlen := hR.fits
  have hmost := hR.most
  have hzl := hR.length
  have b0 := bal (Below.refl _ w) (.cells #[.int .i64 0, .int .i64 0, .int .i64 0, .int .i64 0, .int .i64 0, .int .i64 0] 49)
  have V0 := hv.on b0
  obtain ⟨b, off, rfl, hb, hc⟩ := hR.cells (by omega)
  have R1 := (hR.below (b0.mono hB)).sub 7 4 (cap - 7) (by omega) (by omega) (by omega)
  have F := fun w' R => implReadSign_any (some ⟨b, off + 7, none⟩) 4 (cap - 7) B (sigZ zs) w' R
  rw [readR_no (by rw [sigZ_B hzl]; exact hs)] at F
  have hm2 := hmost
  unfold maxLen at hm2
  have hWB : B ≤ (w.alloc (.cells #[.int .i64 0, .int .i64 0, .int .i64 0, .int .i64 0, .int .i64 0, .int .i64 0] 49)).heap.size := by simp; omega
  clear hR hc hmost hv
  go_enter Tryd.func62, Tryd.ntmps62
  go_wp2_with fail
  generalize w.alloc (.cells #[.int .i64 0, .int .i64 0, .int .i64 0, .int .i64 0, .int .i64 0, .int .i64 0] 49) = W0 at *
  refine (needs_yes _).mono ?_
  rintro e w' ⟨rfl, rfl⟩
  go_wp2_with fail
  refine (F _ R1 hWB).mono ?_
  rintro e u1 ⟨rfl, b1⟩
  have V1 := (V0.on b1).on (bal (Below.refl _ u1) (.cells #[.int .i64 5, .int .i64 0, .int .i64 0] 112))
  have B1 := bal (btr b0 b1) (.cells #[.int .i64 5, .int .i64 0, .int .i64 0] 112)
  clear R1 F b1 V0 b0
  go_wp2_with fail
  refine (needs_no _ V1).mono ?_
  rintro e w' ⟨rfl, rfl⟩
  exact ⟨rfl, rfl, B1⟩
theorem replyIn_yes (a : Option Addr) (cap B : Nat) (zs : List Int) (w : World) (hR : Row .u8 w B a 13 cap zs) (hB : B ≤ w.heap.size) (hs : M.sigB (tw zs 7) (tw zs 9) = true) :
    Calls Tryd.prog 62 #[.slice a 13 cap] w fun e w' => e = .returned (R6 (tw zs 1) (tw zs 3) (tw zs 5) (tw zs 7) (tw zs 9) (tw zs 11)) ∧ Below w.heap.size w w' := by
  have hlen := hR.fits
  have hmost := hR.most
  have hzl := hR.length
  have b0 := bal (Below.refl _ w) (.cells #[.int .i64 0, .int .i64 0, .int .i64 0, .int .i64 0, .int .i64 0, .int .i64 0] 49)
  have A0 := At.new w (RL6 0 0 0 0 0 0) 49
  obtain ⟨b, off, rfl, hb, hc⟩ := hR.cells (by omega)
  have R1 := (hR.below (b0.mono hB)).sub 7 4 (cap - 7) (by omega) (by omega) (by omega)
  have F := fun w' R => implReadSign_any (some ⟨b, off + 7, none⟩) 4 (cap - 7) B (sigZ zs) w' R
  rw [readR_yes (by rw [sigZ_B hzl]; exact hs), (sigZ_P hzl).1, (sigZ_P hzl).2.1] at F
  have T1 := fun (w' : World) d c => readTwo_any b (off + 1) 12 (cap - 1) (zs.getD 1 0) (zs.getD 2 0) w' (by omega) (by omega) (by omega) d c (hR.byte 1).1 (hR.byte 1).2 (hR.byte 2).1 (hR.byte 2).2
  have T2 := fun (w' : World) d c => readTwo_any b (off + 3) 10 (cap - 3) (zs.getD 3 0) (zs.getD 4 0) w' (by omega) (by omega) (by omega) d c (hR.byte 3).1 (hR.byte 3).2 (hR.byte 4).1 (hR.byte 4).2
  have T3 := fun (w' : World) d c => readTwo_any b (off + 5) 8 (cap - 5) (zs.getD 5 0) (zs.getD 6 0) w' (by omega) (by omega) (by omega) d c (hR.byte 5).1 (hR.byte 5).2 (hR.byte 6).1 (hR.byte 6).2
  have T4 := fun (w' : World) d c => readTwo_any b (off + 11) 2 (cap - 11) (zs.getD 11 0) (zs.getD 12 0) w' (by omega) (by omega) (by omega) d c (hR.byte 11).1 (hR.byte 11).2 (hR.byte 12).1 (hR.byte 12).2
  have d1 := hc 1 (by omega)
  have d2 := hc 2 (by omega)
  have d3 := hc 3 (by omega)
  have d4 := hc 4 (by omega)
  have d5 := hc 5 (by omega)
  have d6 := hc 6 (by omega)
  have d11 := hc 11 (by omega)
  have d12 := hc 12 (by omega)
  have hm2 := hmost
  unfold maxLen at hm2
  have hWB : B ≤ (w.alloc (.cells #[.int .i64 0, .int .i64 0, .int .i64 0, .int .i64 0, .int .i64 0, .int .i64 0] 49)).heap.size := by simp; omega
  have e1 : tw zs 1 = 256 * zs.getD 1 0 + zs.getD 2 0 := rfl
  have e3 : tw zs 3 = 256 * zs.getD 3 0 + zs.getD 4 0 := rfl
  have e5 : tw zs 5 = 256 * zs.getD 5 0 + zs.getD 6 0 := rfl
  have e11 : tw zs 11 = 256 * zs.getD 11 0 + zs.getD 12 0 := rfl
  rw [← e1] at T1
  rw [← e3] at T2
  rw [← e5] at T3
  rw [← e11] at T4
  clear e1 e3 e5 e11
  generalize tw zs 1 = y1 at *
  generalize tw zs 3 = y3 at *
  generalize tw zs 5 = y5 at *
  generalize tw zs 7 = y7 at *
  generalize tw zs 9 = y9 at *
  generalize tw zs 11 = y11 at *
  clear hR hc hmost
  go_enter Tryd.func62, Tryd.ntmps62
  go_wp2_with fail
  generalize w.alloc (.cells #[.int .i64 0, .int .i64 0, .int .i64 0, .int .i64 0, .int .i64 0, .int .i64 0] 49) = W0 at *
  refine (needs_yes _).mono ?_
  rintro e w' ⟨rfl, rfl⟩
  go_wp2_with fail
  refine (F _ R1 hWB).mono ?_
  rintro e u1 ⟨rfl, b1⟩
  have G1 := At.new u1 [.int .i64 0, .int .i64 y7, .int .i64 y9] 112
  have b2 := bal b1 (.cells #[.int .i64 0, .int .i64 y7, .int .i64 y9] 112)
  have B1 := btr b0 b2
  have A1 := A0.on b2
  have lt1 : w.heap.size < u1.heap.size := (A0.on b1).lt (by simp)
  clear R1 F b1 b0 A0 b2
  go_wp2_with fail
  generalize u1.alloc (.cells #[.int .i64 0, .int .i64 y7, .int .i64 y9] 112) = v1 at *
  refine (needs_yes _).mono ?_
  rintro e w' ⟨rfl, rfl⟩
  go_wp2_with fail
  have S0 : Hold w u1.heap.size [.int .i64 0, .int .i64 y7, .int .i64 y9] v1.drew := ⟨B1.drew, G1.on (bdrew v1)⟩
  have AA := A1.on (bdrew v1)
  refine wp_region_line (Hold w u1.heap.size [.int .i64 0, .int .i64 y7, .int .i64 y9]) [(0, true), (1, true), (3, true), (4, true), (6, true), (7, true), (9, true), (10, true), (11, true), (12, true), (2, false), (5, false), (8, false), (13, false), (14, true), (15, false)] (by kernel_rfl) (by kernel_rfl) (fun _ _ d _ _ h => by cases d <;> exact h) S0 ?_
  have hst := S0
  have inst : Nonempty (Of (Hold w u1.heap.size [.int .i64 0, .int .i64 y7, .int .i64 y9])) := ⟨⟨_, hst⟩⟩
  have q1 := hold_cell (W := w) (g := u1.heap.size) (cs := [.int .i64 0, .int .i64 y7, .int .i64 y9]) 1 _ rfl
  have q2 := hold_cell (W := w) (g := u1.heap.size) (cs := [.int .i64 0, .int .i64 y7, .int .i64 y9]) 2 _ rfl
  clear S0 A1 B1 G1
  generalize v1.drew = V1 at *
  iterate 10 (refine line_read rfl (by kernel_rfl) (fun K hK => ?_); go_big_quiet_op; refine hK _ ?_; clear hK K)
  clear q1 q2
  refine line_alone rfl (by kernel_rfl) (fun K hK => ?_)
  refine call_any (args := #[.slice (some ⟨b, off + 1, none⟩) 12 (cap - 1)]) rfl (by kernel_rfl) (by kernel_rfl) (T1 _ (cell_keep hst.bel d1) (cell_keep hst.bel d2)) ?_
  rintro e x1 ⟨rfl, hbn⟩
  have hst2 := hst.on hbn
  have AA2 := AA.on hbn
  refine ⟨_, rfl, hK _ _ hst2 ?_⟩
  clear hK K hst hbn AA
  have hst := hst2
  have AA := AA2
  clear hst2 AA2
  simp only [Act.put, List.setIfInBounds_toArray, List.set_cons_zero, List.set_cons_succ]
  refine line_alone rfl (by kernel_rfl) (fun K hK => ?_)
  refine call_any (args := #[.slice (some ⟨b, off + 3, none⟩) 10 (cap - 3)]) rfl (by kernel_rfl) (by kernel_rfl) (T2 _ (cell_keep hst.bel d3) (cell_keep hst.bel d4)) ?_
  rintro e x2 ⟨rfl, hbn⟩
  have hst2 := hst.on hbn
  have AA2 := AA.on hbn
  refine ⟨_, rfl, hK _ _ hst2 ?_⟩
  clear hK K hst hbn AA
  have hst := hst2
  have AA := AA2
  clear hst2 AA2
  simp only [Act.put, List.setIfInBounds_toArray, List.set_cons_zero, List.set_cons_succ]
  refine line_alone rfl (by kernel_rfl) (fun K hK => ?_)
  refine call_any (args := #[.slice (some ⟨b, off + 5, none⟩) 8 (cap - 5)]) rfl (by kernel_rfl) (by kernel_rfl) (T3 _ (cell_keep hst.bel d5) (cell_keep hst.bel d6)) ?_
  rintro e x3 ⟨rfl, hbn⟩
  have hst2 := hst.on hbn
  have AA2 := AA.on hbn
  refine ⟨_, rfl, hK _ _ hst2 ?_⟩
  clear hK K hst hbn AA
  have hst := hst2
  have AA := AA2
  clear hst2 AA2
  simp only [Act.put, List.setIfInBounds_toArray, List.set_cons_zero, List.set_cons_succ]
  refine line_alone rfl (by kernel_rfl) (fun K hK => ?_)
  refine call_any (args := #[.slice (some ⟨b, off + 11, none⟩) 2 (cap - 11)]) rfl (by kernel_rfl) (by kernel_rfl) (T4 _ (cell_keep hst.bel d11) (cell_keep hst.bel d12)) ?_
  rintro e x4 ⟨rfl, hbn⟩
  have hst2 := hst.on hbn
  have AA2 := AA.on hbn
  refine ⟨_, rfl, hK _ _ hst2 ?_⟩
  clear hK K hst hbn AA
  have hst := hst2
  have AA := AA2
  clear hst2 AA2
  simp only [Act.put, List.setIfInBounds_toArray, List.set_cons_zero, List.set_cons_succ]
  refine line_readv (v := R6 y1 y3 y5 y7 y9 y11) rfl (by kernel_rfl) (fun _ => by kernel_rfl) ?_
  simp only [Act.put, List.setIfInBounds_toArray, List.set_cons_zero, List.set_cons_succ]
  have p0 := AA.cell 0 _ rfl
  have p1 := AA.cell 1 _ rfl
  have p2 := AA.cell 2 _ rfl
  have p3 := AA.cell 3 _ rfl
  have p4 := AA.cell 4 _ rfl
  have p5 := AA.cell 5 _ rfl
  have z0 := AA.free 0 _ rfl
  have z1 := AA.free 1 _ rfl
  have z2 := AA.free 2 _ rfl
  have z3 := AA.free 3 _ rfl
  have z4 := AA.free 4 _ rfl
  have z5 := AA.free 5 _ rfl
  refine line_alone rfl (by kernel_rfl) (fun K hK => ?_)
  go_big_op
  refine hK _ _ ((by (iterate 6 (refine Hold.setB ?_ (by dsimp only; omega) (by dsimp only; omega) _)); exact hst)) ?_
  clear hK K
  refine line_nil ?_
  have HB := Lib.hid hst.bel
  clear hst inst AA
  go_wp2_with fail
  refine bodyPost_ret (v := R6 y1 y3 y5 y7 y9 y11) (by simp [results, Tryd.results62, go_sem, p0, p1, p2, p3, p4, p5]) rfl ⟨rfl, ?_⟩
  exact (by (iterate 6 (refine bset ?_ (by dsimp only; omega) _)); exact HB.out)
end Go.Proofs.YtepailfhagaboaaDoor
namespace Go.Proofs.YtepailfhagaboaaDoor
open Go.RowKit
set_option maxRecDepth 100000
set_option linter.unusedVariables false

/-- What is appended are the numbers of a slice that the call made. -/
theorem OwnK.src6 {w : World} {B : Nat} {a : Option Addr} {len cap : Nat} {zs : List Int} (h : OwnK .u8 w B (.slice a len cap) zs) (hz : ∀ z ∈ zs, M.byteB z) : Go.Src Tryd.prog 1 29 (.slice a len cap) len (zs.map (Value.int .u8)) w :=
  (Own.row h (fun z hm => byte_wf (hz z hm))).src Tryd.underlying29
theorem OwnK.kept6 {w w' : World} {B : Nat} {v : Value} {zs : List Int} {row : Option Nat} (h : OwnK .u8 w B v zs) (hg : w.grownBy w' row) (hne : ∀ k, row = some k → k < B) : OwnK .u8 w' B v zs :=
  Own.kept h hg (by
    cases hv : v.ownBlock with
    | none => exact .inl rfl
    | some k =>
      refine .inr fun e => ?_
      have h1 := (Own.lt h k hv).1
      have h2 := hne k e.symm
      omega)
theorem two_own (w : World) (s : Int) : OwnK .u8 (w.alloc (.cells #[.int .u8 (s / 256), .int .u8 (s % 256)] 5)) w.heap.size (.slice (some ⟨w.heap.size, 0, none⟩) 2 2) (M.two s) := own_lit (k := .u8) w (M.two s) 2 5 (Nat.le_refl _) rfl (by simp only [maxLen]; omega)
theorem text_own (w : World) (n : ByteArray) (hn : n.size ≤ maxLen) : OwnK .u8 (w.alloc (textObj w n 5)).drew w.heap.size (.slice (some ⟨w.heap.size, 0, none⟩) n.size (grownCap w n.size 0 5)) (M.textL n) := by
  have := (own_text w n 5 hn).drew
  unfold OwnK
  rw [M.textL_length]
  exact this

set_option maxHeartbeats 1000000 in
theorem l6PackHello_any (g : Nat) (r s : Int) (n : ByteArray) (w : World) (hA : At g (HL3 r s n) w) (h : helF n.data.toList r s = 0) :
    Calls Tryd.prog 35 #[.pointer (some ⟨g, 0, none⟩)] w (Made (packH n r s) w) := by
  obtain ⟨hr, hs, -⟩ := helF_zero h
  have hn := hel_size h
  have hnm : n.size ≤ maxLen := size_max hn
  have hss := pub_sum6 hs
  obtain ⟨i0, hi0, hz0, hz1, hz2⟩ := info_parts u8_info
  have hcv := fun (W : World) => run_bytes_of_string (P := Tryd.prog) W 9 29 5 n Tryd.underlying9 Tryd.underlying29 Tryd.underlying5
  have ltg := hA.lt (by simp)
  have d0 := hA.cell 0 _ rfl
  have d1 := hA.cell 1 _ rfl
  have d2 := hA.cell 2 _ rfl
  have b1 := bal (Below.refl _ w) (.cells #[.int .u8 1] 5)
  have O1 : OwnK .u8 (w.alloc (.cells #[.int .u8 1] 5)) w.heap.size (.slice (some ⟨w.heap.size, 0, none⟩) 1 1) [1] := own_lit (k := .u8) w [1] 1 5 (Nat.le_refl _) rfl (by simp only [maxLen]; omega)
  clear h
  go_enter Tryd.func35, Tryd.ntmps35
  go_wp2_with fail
  generalize w.alloc (.cells #[.int .u8 1] 5) = W1 at *
  refine (l1Two_any r _ hr).mono ?_
  rintro e w2 ⟨rfl, rfl⟩
  have O2 := Own.alloc O1 (.cells #[.int .u8 (r / 256), .int .u8 (r % 256)] 5)
  have b2 := bal b1 (.cells #[.int .u8 (r / 256), .int .u8 (r % 256)] 5)
  have hle := b2.size
  have hsrc := src_new (P := Tryd.prog) W1 [.int .u8 (r / 256), .int .u8 (r % 256)] 2 2 5 29 5 Tryd.underlying29 rfl (ints_oneCell .u8 [r / 256, r % 256])
  go_wp2_with (at_builtin; refine wpList_append_src _ rfl (.tmp 4) (.tmp 9) 29 29 rfl w.heap.size 5 i0 (.int .u8 0) 1 1 Tryd.underlying29 hi0 hz0 hz1 hz2 rfl _ 1 [.int .u8 1] rfl O2 _ 2 _ rfl hsrc (by simp only [maxLen]; omega) (by omega) hle ?_; intro v3 w3 hown hgrow hat)
  have b3 : Below w.heap.size w w3 := Own.grown O2 b2 hle hgrow
  have O3 : OwnK .u8 w3.drew w.heap.size v3 ([1] ++ M.two r) := by unfold OwnK; simpa [M.two] using hown.drew
  clear O1 O2 b1 b2 hle hsrc hown hgrow hat
  refine wp_region_fork (Bel w) (by kernel_rfl) (Bel.mk b3.drew) ?_
  have hst : (Bel w) _ := (Bel.mk b3.drew)
  have inst : Nonempty (Of (Bel w)) := ⟨⟨_, hst⟩⟩
  have u1 := bel_cell d1
  have u2 := bel_cell d2
  clear b3 d0 d1 d2
  generalize w3.drew = V1 at *
  refine any_seg 5 [(0, true), (1, true), (2, true), (3, true), (4, true), (7, true), (8, true), (9, true), (10, true)] (by kernel_rfl) (fun _ _ d _ _ h => by cases d <;> exact h) ?_
  iterate 9 (refine line_read rfl (by kernel_rfl) (fun K hK => ?_); go_big_quiet_op; refine hK _ ?_; clear hK K)
  refine line_nil ?_
  clear u1 u2
  refine any_fork 5 11 (by kernel_rfl) rfl rfl (by kernel_rfl) (by kernel_rfl) (fun K hK => ?_) (fun K hK => ?_)
  · refine call_any (args := #[.int .i64 s]) rfl (by kernel_rfl) (by kernel_rfl) (l1Two_any s _ hss) ?_
    rintro e w4 ⟨rfl, rfl⟩
    have st4 := hst.on (bal (Below.refl _ V1) (.cells #[.int .u8 (s / 256), .int .u8 (s % 256)] 5))
    have O4 : OwnK .u8 _ w.heap.size v3 ([1] ++ M.two r) := Own.alloc O3 (.cells #[.int .u8 (s / 256), .int .u8 (s % 256)] 5)
    have T4 := two_own V1 s
    refine ⟨_, rfl, hK _ _ st4 ?_⟩
    clear hK K
    simp only [Act.put, List.setIfInBounds_toArray, List.set_cons_zero, List.set_cons_succ]
    generalize V1.alloc (.cells #[.int .u8 (s / 256), .int .u8 (s % 256)] 5) = V4 at *
    refine any_fork 6 11 (by kernel_rfl) rfl rfl (by kernel_rfl) (by kernel_rfl) (fun K hK => ?_) (fun K hK => ?_)
    · refine wp_append_src _ (.tmp 11) (.tmp 16) 29 29 rfl w.heap.size 5 i0 (.int .u8 0) 1 1 Tryd.underlying29 hi0 hz0 hz1 hz2 rfl _ _ _ rfl O4 _ 2 _ rfl (T4.src6 (two_byte hss)) (by simp only [maxLen, M.two, List.length_append, List.length_cons, List.length_nil]; omega) (by simp only [M.two, List.length_append, List.length_cons, List.length_nil]; omega) st4.out.size (fun v5 w5 hown hgrow hat => ?_)
      have b5 : Below w.heap.size w w5 := Own.grown O4 st4.out st4.out.size hgrow
      have O5 : OwnK .u8 w5 w.heap.size v5 (helHead r s) := by unfold OwnK helHead; simpa [M.two] using hown
      refine hK _ _ ⟨b5⟩ ?_
      clear hK K hown hgrow hat O3 O4 T4 st4 hst
      simp only [Act.put, List.setIfInBounds_toArray, List.set_cons_zero, List.set_cons_succ]
      refine any_rest [(11, false), (12, false), (13, true)] (by kernel_rfl) (fun _ _ d _ _ h => by cases d <;> exact h) ?_
      refine line_alone rfl (by kernel_rfl) (fun K hK => ?_)
      have st5 : Bel w w5 := ⟨b5⟩
      go_big_op
      have st6 := st5.on (bal (Below.refl _ w5) (textObj w5 n 5)).drew
      have X6 := text_own w5 n hnm
      refine hK _ _ st6 ?_
      clear hK K
      have O6 : OwnK .u8 (w5.alloc (textObj w5 n 5)).drew w.heap.size v5 (helHead r s) := (Own.alloc O5 _).drew
      have hsrc := X6.src6 (M.textL_byte n)
      clear b5 O5 X6 st5
      refine line_alone rfl (by kernel_rfl) (fun K hK => ?_)
      refine wp_append_src _ (.tmp 17) (.tmp 22) 29 29 rfl w.heap.size 5 i0 (.int .u8 0) 1 1 Tryd.underlying29 hi0 hz0 hz1 hz2 rfl _ _ _ rfl O6 _ n.size _ rfl hsrc (by rw [helHead_length]; simp only [maxLen]; omega) (by rw [helHead_length]; omega) st6.out.size (fun v7 w7 hown hgrow hat => ?_)
      have b7 : Below w.heap.size w w7 := Own.grown O6 st6.out st6.out.size hgrow
      have O7 : OwnK .u8 w7 w.heap.size v7 (packH n r s) := by
        unfold OwnK packH
        rw [List.length_append, M.textL_length, List.map_append]
        exact hown
      refine hK _ _ ⟨b7⟩ ?_
      obtain ⟨a7, c7, hv7, -⟩ := O7.form
      have HT := Lib.hid (And.intro O7 b7)
      clear hK K hown hgrow hat O7 b7 O6 st6 hsrc
      subst hv7
      simp only [Act.put, List.setIfInBounds_toArray, List.set_cons_zero, List.set_cons_succ]
      iterate 1 (refine line_read rfl (by kernel_rfl) (fun K hK => ?_); go_big_quiet_op; refine hK _ ?_; clear hK K)
      refine line_nil ?_
      go_wp2_with fail
      go_ret
      exact ⟨_, _, _, rfl, HT.out.1, HT.out.2⟩
    · go_big_op
      have st5 := st4.on (bal (Below.refl _ V4) (textObj V4 n 5)).drew
      have X5 := text_own V4 n hnm
      refine hK _ _ st5 ?_
      clear hK K
      have O5' : OwnK .u8 (V4.alloc (textObj V4 n 5)).drew w.heap.size v3 ([1] ++ M.two r) := (Own.alloc O4 _).drew
      have T5 : OwnK .u8 (V4.alloc (textObj V4 n 5)).drew V1.heap.size (.slice (some ⟨V1.heap.size, 0, none⟩) 2 2) (M.two s) := (Own.alloc T4 _).drew
      have hk3 : ∀ k, v3.ownBlock = some k → k < V4.heap.size := fun k hk => (Own.lt O4 k hk).2
      refine any_rest [(6, false), (12, false), (13, true)] (by kernel_rfl) (fun _ _ d _ _ h => by cases d <;> exact h) ?_
      refine line_alone rfl (by kernel_rfl) (fun K hK => ?_)
      refine wp_append_src _ (.tmp 11) (.tmp 16) 29 29 rfl w.heap.size 5 i0 (.int .u8 0) 1 1 Tryd.underlying29 hi0 hz0 hz1 hz2 rfl _ _ _ rfl O5' _ 2 _ rfl (T5.src6 (two_byte hss)) (by simp only [maxLen, M.two, List.length_append, List.length_cons, List.length_nil]; omega) (by simp only [M.two, List.length_append, List.length_cons, List.length_nil]; omega) st5.out.size (fun v5 w5 hown hgrow hat => ?_)
      have b5 : Below w.heap.size w w5 := Own.grown O5' st5.out st5.out.size hgrow
      have O5 : OwnK .u8 w5 w.heap.size v5 (helHead r s) := by unfold OwnK helHead; simpa [M.two] using hown
      have X6 := X5.kept6 hgrow hk3
      refine hK _ _ ⟨b5⟩ ?_
      clear hK K hown hgrow hat O3 O4 T4 st4 hst O5' T5 st5 X5
      simp only [Act.put, List.setIfInBounds_toArray, List.set_cons_zero, List.set_cons_succ]
      have st6 : Bel w w5 := ⟨b5⟩
      have O6 := O5
      have hsrc := X6.src6 (M.textL_byte n)
      clear b5 O5 X6
      refine line_alone rfl (by kernel_rfl) (fun K hK => ?_)
      refine wp_append_src _ (.tmp 17) (.tmp 22) 29 29 rfl w.heap.size 5 i0 (.int .u8 0) 1 1 Tryd.underlying29 hi0 hz0 hz1 hz2 rfl _ _ _ rfl O6 _ n.size _ rfl hsrc (by rw [helHead_length]; simp only [maxLen]; omega) (by rw [helHead_length]; omega) st6.out.size (fun v7 w7 hown hgrow hat => ?_)
      have b7 : Below w.heap.size w w7 := Own.grown O6 st6.out st6.out.size hgrow
      have O7 : OwnK .u8 w7 w.heap.size v7 (packH n r s) := by
        unfold OwnK packH
        rw [List.length_append, M.textL_length, List.map_append]
        exact hown
      refine hK _ _ ⟨b7⟩ ?_
      obtain ⟨a7, c7, hv7, -⟩ := O7.form
      have HT := Lib.hid (And.intro O7 b7)
      clear hK K hown hgrow hat O7 b7 O6 st6 hsrc
      subst hv7
      simp only [Act.put, List.setIfInBounds_toArray, List.set_cons_zero, List.set_cons_succ]
      iterate 1 (refine line_read rfl (by kernel_rfl) (fun K hK => ?_); go_big_quiet_op; refine hK _ ?_; clear hK K)
      refine line_nil ?_
      go_wp2_with fail
      go_ret
      exact ⟨_, _, _, rfl, HT.out.1, HT.out.2⟩
  · go_big_op
    have st4 := hst.on (bal (Below.refl _ V1) (textObj V1 n 5)).drew
    have X4 := text_own V1 n hnm
    refine hK _ _ st4 ?_
    clear hK K
    have O4' : OwnK .u8 (V1.alloc (textObj V1 n 5)).drew w.heap.size v3 ([1] ++ M.two r) := (Own.alloc O3 _).drew
    have hk3 : ∀ k, v3.ownBlock = some k → k < V1.heap.size := fun k hk => (Own.lt O3 k hk).2
    have lt4 : V1.heap.size < (V1.alloc (textObj V1 n 5)).drew.heap.size := by simp
    generalize (V1.alloc (textObj V1 n 5)).drew = V4 at *
    refine any_rest [(5, false), (6, false), (12, false), (13, true)] (by kernel_rfl) (fun _ _ d _ _ h => by cases d <;> exact h) ?_
    refine line_alone rfl (by kernel_rfl) (fun K hK => ?_)
    have st4' := st4
    clear st4
    refine call_any (args := #[.int .i64 s]) rfl (by kernel_rfl) (by kernel_rfl) (l1Two_any s _ hss) ?_
    rintro e w4 ⟨rfl, rfl⟩
    have st4 := st4'.on (bal (Below.refl _ V4) (.cells #[.int .u8 (s / 256), .int .u8 (s % 256)] 5))
    have O4 : OwnK .u8 _ w.heap.size v3 ([1] ++ M.two r) := Own.alloc O4' (.cells #[.int .u8 (s / 256), .int .u8 (s % 256)] 5)
    have T4 := two_own V4 s
    refine ⟨_, rfl, hK _ _ st4 ?_⟩
    clear hK K
    simp only [Act.put, List.setIfInBounds_toArray, List.set_cons_zero, List.set_cons_succ]
    have X5 : OwnK .u8 (V4.alloc (.cells #[.int .u8 (s / 256), .int .u8 (s % 256)] 5)) V1.heap.size (.slice (some ⟨V1.heap.size, 0, none⟩) n.size (grownCap V1 n.size 0 5)) (M.textL n) := Own.alloc X4 _
    refine line_alone rfl (by kernel_rfl) (fun K hK => ?_)
    refine wp_append_src _ (.tmp 11) (.tmp 16) 29 29 rfl w.heap.size 5 i0 (.int .u8 0) 1 1 Tryd.underlying29 hi0 hz0 hz1 hz2 rfl _ _ _ rfl O4 _ 2 _ rfl (T4.src6 (two_byte hss)) (by simp only [maxLen, M.two, List.length_append, List.length_cons, List.length_nil]; omega) (by simp only [M.two, List.length_append, List.length_cons, List.length_nil]; omega) st4.out.size (fun v5 w5 hown hgrow hat => ?_)
    have b5 : Below w.heap.size w w5 := Own.grown O4 st4.out st4.out.size hgrow
    have O5 : OwnK .u8 w5 w.heap.size v5 (helHead r s) := by unfold OwnK helHead; simpa [M.two] using hown
    have X6 := X5.kept6 hgrow hk3
    refine hK _ _ ⟨b5⟩ ?_
    clear hK K hown hgrow hat O3 O4 T4 st4 hst O4' st4' X4 X5
    simp only [Act.put, List.setIfInBounds_toArray, List.set_cons_zero, List.set_cons_succ]
    have st6 : Bel w w5 := ⟨b5⟩
    have O6 := O5
    have hsrc := X6.src6 (M.textL_byte n)
    clear b5 O5 X6
    refine line_alone rfl (by kernel_rfl) (fun K hK => ?_)
    refine wp_append_src _ (.tmp 17) (.tmp 22) 29 29 rfl w.heap.size 5 i0 (.int .u8 0) 1 1 Tryd.underlying29 hi0 hz0 hz1 hz2 rfl _ _ _ rfl O6 _ n.size _ rfl hsrc (by rw [helHead_length]; simp only [maxLen]; omega) (by rw [helHead_length]; omega) st6.out.size (fun v7 w7 hown hgrow hat => ?_)
    have b7 : Below w.heap.size w w7 := Own.grown O6 st6.out st6.out.size hgrow
    have O7 : OwnK .u8 w7 w.heap.size v7 (packH n r s) := by
      unfold OwnK packH
      rw [List.length_append, M.textL_length, List.map_append]
      exact hown
    refine hK _ _ ⟨b7⟩ ?_
    obtain ⟨a7, c7, hv7, -⟩ := O7.form
    have HT := Lib.hid (And.intro O7 b7)
    clear hK K hown hgrow hat O7 b7 O6 st6 hsrc
    subst hv7
    simp only [Act.put, List.setIfInBounds_toArray, List.set_cons_zero, List.set_cons_succ]
    iterate 1 (refine line_read rfl (by kernel_rfl) (fun K hK => ?_); go_big_quiet_op; refine hK _ ?_; clear hK K)
    refine line_nil ?_
    go_wp2_with fail
    go_ret
    exact ⟨_, _, _, rfl, HT.out.1, HT.out.2⟩

theorem specPackHello_any (r s : Int) (n : ByteArray) (w : World) (hn : n.size ≤ maxLen) :
    Calls Tryd.prog 13 #[H3 r s n] w (BytesRes (helF n.data.toList r s) (packHL n r s) w) := by
  have b0 := bal (bal (Below.refl _ w) (.cells #[.int .i64 r, .int .i64 s, .string n] 26)) (.cells #[.int .i64 0, .slice none 0 0] 31)
  have A1 := (At.new w (HL3 r s n) 26).alloc (.cells #[.int .i64 0, .slice none 0 0] 31)
  have A2 := At.new (w.alloc (.cells #[.int .i64 r, .int .i64 s, .string n] 26)) [.int .i64 0, .slice none 0 0] 31
  simp only [World.size_alloc] at A1 A2
  have F := fun (g : Nat) (w : World) (A : At g (HL3 r s n) w) => l6Hello_any g r s n w A hn
  by_cases h : helF n.data.toList r s = 0
  · have e : packHL n r s = packH n r s := by simp [packHL, h]
    rw [e]
    have P1 := fun g w A => l6PackHello_any g r s n w A h
    simp only [h] at F ⊢
    clear e h
    go_enter Tryd.func13, Tryd.ntmps13
    go_wp2_with fail
    generalize (w.alloc (.cells #[.int .i64 r, .int .i64 s, .string n] 26)).alloc (.cells #[.int .i64 0, .slice none 0 0] 31) = W0 at *
    refine (F _ _ A1).mono ?_
    rintro e w1 ⟨rfl, b1⟩
    clear F
    go_wp2_with fail
    refine (P1 _ _ (A1.on b1)).mono ?_
    rintro e w2 ⟨a2, n2, c2, rfl, O2, b2⟩
    have lt2 : w.heap.size + 1 < w1.heap.size := (A2.on b1).lt (by simp)
    have p0 := ((A2.on b1).on b2).cell 0 _ rfl
    have p1 := ((A2.on b1).on b2).cell 1 _ rfl
    have z0 := ((A2.on b1).on b2).free 0 _ rfl
    have z1 := ((A2.on b1).on b2).free 1 _ rfl
    have HT := Lib.hid (And.intro O2 (btr b0 (btr b1 b2)))
    have hzs := (btr b0 b1).size
    clear A1 A2 O2 b2 b1 b0
    go_wp2_with fail
    refine bodyPost_ret (v := .agg #[.int .i64 0, .slice a2 n2 c2]) (by simp [results, Tryd.results13, go_sem, p0, p1]) rfl ?_
    exact ⟨_, _, _, rfl, (by (iterate 2 (refine Own.setCell ?_ (fun g hg => by have := (HT.out.1.lt g hg).1; dsimp only; omega) _)); exact HT.out.1.less (by omega)), (by (iterate 2 (refine bset ?_ (by dsimp only; omega) _)); exact HT.out.2)⟩
  · have e : packHL n r s = [] := by simp [packHL, h]
    rw [e]
    generalize helF n.data.toList r s = cd at *
    clear e
    go_enter Tryd.func13, Tryd.ntmps13
    go_wp2_with fail
    generalize (w.alloc (.cells #[.int .i64 r, .int .i64 s, .string n] 26)).alloc (.cells #[.int .i64 0, .slice none 0 0] 31) = W0 at *
    refine (F _ _ A1).mono ?_
    rintro e w1 ⟨rfl, b1⟩
    have q0 := (A2.on b1).cell 0 _ rfl
    have q1 := (A2.on b1).cell 1 _ rfl
    have z0 := (A2.on b1).free 0 _ rfl
    have z1 := (A2.on b1).free 1 _ rfl
    have hb := btr b0 b1
    clear A1 A2 b0 b1 F
    go_wp2_with fail
    refine bodyPost_ret (v := .agg #[.int .i64 cd, .slice none 0 0]) (by simp [results, Tryd.results13, go_sem, q0, q1]) rfl ?_
    exact ⟨_, _, _, rfl, Own.nil _ _ _, (by (iterate 2 (refine bset ?_ (by dsimp only; omega) _)); exact hb)⟩
end Go.Proofs.YtepailfhagaboaaDoor
namespace Go.Proofs.YtepailfhagaboaaDoor
open Go.RowKit
set_option maxRecDepth 100000
set_option linter.unusedVariables false

theorem implPackSign_no (p q : Int) (w : World) (hg : ErrT w) (h : M.sigB p q = false) :
    Calls Tryd.prog 80 #[I2 p q] w (BytesRes 3 [] w) := by
  have hR0 := ResB.new2 w (.cells #[.int .i64 p, .int .i64 q] 47) 31
  have hb0 := bal (bal (Below.refl _ w) (.cells #[.int .i64 p, .int .i64 q] 47)) (.cells #[.int .i64 0, .slice none 0 0] 31)
  go_enter Tryd.func80, Tryd.ntmps80
  go_wp2_with fail
  generalize (w.alloc (.cells #[.int .i64 p, .int .i64 q] 47)).alloc (.cells #[.int .i64 0, .slice none 0 0] 31) = W0 at *
  refine (pairOf_no p q _ h).mono ?_
  rintro r w1 ⟨s, v, rfl, h1⟩
  have b1 := btr hb0 h1
  have hR1 := hR0.on h1
  have hg1 := hg.on b1
  clear h1 hb0 hR0 hg h
  go_wp2_with fail
  refine (codeOf_mis _ _ _ hg1).mono ?_
  rintro r w2 ⟨rfl, h2⟩
  have b2 := btr b1 h2
  obtain ⟨q0, q1, z0, z1⟩ := hR1.on h2
  have F : BytesRes 3 [] w (.returned (.agg #[.int .i64 3, .slice none 0 0])) ((w2.setCell ⟨w.heap.size + 1, 0, none⟩ (.int .i64 3)).setCell ⟨w.heap.size + 1, 1, none⟩ (.slice none 0 0)) :=
    ⟨none, 0, 0, rfl, Own.nil _ _ _, bset (bset b2 (by show w.heap.size ≤ w.heap.size + 1; omega) _) (by show w.heap.size ≤ w.heap.size + 1; omega) _⟩
  clear b1 b2 hR1 hg1 h2
  go_wp2_with fail
  exact bodyPost_ret (v := .agg #[.int .i64 3, .slice none 0 0]) (by simp [results, Tryd.results80, go_sem, q0, q1]) rfl F

theorem implPackSign_yes (p q : Int) (w : World) (h : M.sigB p q = true) :
    Calls Tryd.prog 80 #[I2 p q] w (BytesRes 0 (M.two p ++ M.two q) w) := by
  obtain ⟨p0, p1, q0', q1'⟩ := M.sigB_bd h
  obtain ⟨i0, hi0, hz0, hz1, hz2⟩ := info_parts u8_info
  have hmk : ∀ W : World, (Instr.makeSlice 29 (.int .i64 0) (.int .i64 4)).run Tryd.prog W = .ok (.slice (some ⟨W.heap.size, 0, none⟩) 0 4) (W.alloc (.cells (madeCells #[.int .u8 0] 4) 5)) := by
    intro W
    have := run_make (P := Tryd.prog) W 29 5 i0 (.int .u8 0) Tryd.underlying29 hi0 hz0 .i64 .i64 0 4 (by omega) (by omega) (by rw [hz2]; omega) (by omega)
    simpa [hz1, Value.cells] using this
  have Y1 := fun w => pairOf_yes p q w h
  have P1 := fun w => point_any p q w (by omega) (by omega)
  have P2 := fun w => proof_any p q w (by omega) (by omega)
  have sp : M.sumB p = true := by simp only [M.sumB, decide_eq_true_eq]; omega
  have sq : M.sumB q = true := by simp only [M.sumB, decide_eq_true_eq]; omega
  generalize pairV p q = V at *
  have hR0 := ResB.new2 w (.cells #[.int .i64 p, .int .i64 q] 47) 31
  have hb0 := bal (bal (Below.refl _ w) (.cells #[.int .i64 p, .int .i64 q] 47)) (.cells #[.int .i64 0, .slice none 0 0] 31)
  clear hi0 hz0 hz1 hz2
  go_enter Tryd.func80, Tryd.ntmps80
  go_wp2_with fail
  generalize (w.alloc (.cells #[.int .i64 p, .int .i64 q] 47)).alloc (.cells #[.int .i64 0, .slice none 0 0] 31) = W0 at *
  refine (Y1 _).mono ?_
  rintro r w1 ⟨rfl, h1⟩
  have b1 := btr hb0 h1
  have hR1 := hR0.on h1
  clear h1 hb0 hR0
  have O1 : OwnK .u8 (w1.alloc (.cells (madeCells #[.int .u8 0] 4) 5)) w1.heap.size (.slice (some ⟨w1.heap.size, 0, none⟩) 0 4) [] := by
    have := Own.made (size := 1) (B := w1.heap.size) w1 (madeCells #[.int .u8 0] 4) 5 4 (Nat.le_refl _) (by simp only [maxLen]; omega) (by rw [size_madeCells])
    simpa [OwnK] using this
  have c1 : Below w1.heap.size w1 (w1.alloc (.cells (madeCells #[.int .u8 0] 4) 5)) := bal (Below.refl _ _) _
  go_wp2_with fail
  generalize w1.alloc (.cells (madeCells #[.int .u8 0] 4) 5) = v1 at *
  refine (P1 _).mono ?_
  rintro r w2 ⟨rfl, rfl⟩
  go_wp2_with fail
  refine (appendTwo_any _ p w1.heap.size [] _ O1 c1.size sp (by simp)).mono ?_
  rintro r w3 ⟨v3, rfl, O3, g3⟩
  have c3 := O1.grown c1 c1.size g3
  rw [List.nil_append] at O3
  clear O1 c1 g3
  go_wp2_with fail
  refine (P2 _).mono ?_
  rintro r w4 ⟨rfl, rfl⟩
  go_wp2_with fail
  refine (appendTwo_any _ q w1.heap.size (M.two p) _ O3 c3.size sq (by simp [M.two])).mono ?_
  rintro r w5 ⟨v5, rfl, O5, g5⟩
  have c5 := O3.grown c3 c3.size g5
  clear O3 c3 g5
  obtain ⟨q0, q1, z0, z1⟩ := hR1.on c5
  have lt1 : w.heap.size + 1 < w1.heap.size := cell_lt hR1.c0
  obtain ⟨a, cap, hv, -⟩ := O5.form
  have hne := fun g hg => (O5.lt g hg).1
  have b5 := btr b1 c5
  have HT := Lib.hid (And.intro O5 b5)
  clear O5 b5 c5 b1 hR1
  subst hv
  go_wp2_with fail
  refine bodyPost_ret (v := .agg #[.int .i64 0, .slice a (M.two p ++ M.two q).length cap]) (by simp [results, Tryd.results80, go_sem, q0, q1]) rfl ?_
  refine ⟨a, _, cap, rfl, ?_, ?_⟩
  · exact ((HT.out.1.less (by omega)).setCell (fun g hg => by have := hne g hg; show g ≠ w.heap.size + 1; omega) _).setCell (fun g hg => by have := hne g hg; show g ≠ w.heap.size + 1; omega) _
  · exact bset (bset HT.out.2 (by show w.heap.size ≤ w.heap.size + 1; omega) _) (by show w.heap.size ≤ w.heap.size + 1; omega) _

theorem implPackSign_any (p q : Int) (w : World) (hg : ErrT w) :
    Calls Tryd.prog 80 #[I2 p q] w (BytesRes (M.sigF p q) (M.packL p q) w) := by
  cases h : M.sigB p q
  · have := implPackSign_no p q w hg h
    simpa [M.sigF, M.packL, h] using this
  · have := implPackSign_yes p q w h
    simpa [M.sigF, M.packL, h] using this

theorem l3Pack_any (g : Nat) (p q : Int) (w : World) (d0 : w.cell? ⟨g, 0, none⟩ = some (.int .i64 p)) (d1 : w.cell? ⟨g, 1, none⟩ = some (.int .i64 q)) (hp : M.sumB p = true) (hq : M.sumB q = true) :
    Calls Tryd.prog 67 #[.pointer (some ⟨g, 0, none⟩)] w (Made (M.two p ++ M.two q) w) := by
  obtain ⟨i0, hi0, hz0, hz1, hz2⟩ := info_parts u8_info
  have T0 : SigAt w g p q w.drew := ⟨(Below.refl _ _).drew, d0, d1⟩
  go_enter Tryd.func67, Tryd.ntmps67
  go_wp2_with fail
  refine wp_region_line (SigAt w g p q) [(0, true), (1, true), (2, true), (3, true), (5, true), (6, true), (7, true), (8, true), (4, false), (9, false), (10, false), (11, true)] (by kernel_rfl) (by kernel_rfl) (fun _ _ d _ _ h => by cases d <;> exact h) T0 ?_
  have hst := T0
  have hgl : g < w.heap.size := cell_lt d0
  clear T0 d0 d1
  have hVs : w.drew.heap.size = w.heap.size := rfl
  have inst : Nonempty (Of (SigAt w g p q)) := ⟨⟨_, hst⟩⟩
  have q8 : ∀ z : Of (SigAt w g p q), z.val.cell? ⟨g, 0, none⟩ = some (.int .i64 p) := fun z => z.prop.c0
  have q9 : ∀ z : Of (SigAt w g p q), z.val.cell? ⟨g, 1, none⟩ = some (.int .i64 q) := fun z => z.prop.c1
  generalize w.drew = V at *
  iterate 8 (refine line_read rfl (by kernel_rfl) (fun K hK => ?_); go_big_quiet_op; refine hK _ ?_; clear hK K)
  refine line_alone rfl (by kernel_rfl) (fun K hK => ?_)
  refine call_wp (args := #[.int .i64 p]) rfl (by kernel_rfl) (by kernel_rfl) (l1Two_any p _ hp) (fun wn hwn => ?_)
  subst hwn
  have O1 := own_lit (k := .u8) V (M.two p) 2 5 (B := w.heap.size) (by omega) rfl (by simp only [maxLen]; omega)
  have hst1 := hst.on (bal (Below.refl _ V) (.cells #[.int .u8 (p / 256), .int .u8 (p % 256)] 5))
  refine hK _ _ hst1 ?_
  clear hK K hst
  simp only [Act.put, List.setIfInBounds_toArray, List.set_cons_zero, List.set_cons_succ]
  refine line_alone rfl (by kernel_rfl) (fun K hK => ?_)
  refine call_wp (args := #[.int .i64 q]) rfl (by kernel_rfl) (by kernel_rfl) (l1Two_any q _ hq) (fun wn hwn => ?_)
  subst hwn
  have O2 := O1.alloc (.cells #[.int .u8 (q / 256), .int .u8 (q % 256)] 5)
  have hst2 := hst1.on (bal (Below.refl _ _) (.cells #[.int .u8 (q / 256), .int .u8 (q % 256)] 5))
  have hsrc := src_new (P := Tryd.prog) (V.alloc (.cells #[.int .u8 (p / 256), .int .u8 (p % 256)] 5)) [.int .u8 (q / 256), .int .u8 (q % 256)] 2 2 5 29 5 Tryd.underlying29 rfl (ints_oneCell .u8 [q / 256, q % 256])
  refine hK _ _ hst2 ?_
  clear hK K hst1 O1
  simp only [Act.put, List.setIfInBounds_toArray, List.set_cons_zero, List.set_cons_succ]
  refine line_alone rfl (by kernel_rfl) (fun K hK => ?_)
  refine wp_append_src _ (.tmp 7) (.tmp 12) 29 29 rfl w.heap.size 5 i0 (.int .u8 0) 1 1 Tryd.underlying29 hi0 hz0 hz1 hz2 rfl _ 2 ((M.two p).map (Value.int .u8)) rfl O2 _ 2 [.int .u8 (q / 256), .int .u8 (q % 256)] rfl hsrc (by simp only [maxLen]; omega) (by omega) (by simp; omega) (fun v w3 hown hgrow hat => ?_)
  have b3 := O2.grown hst2.bel (by simp; omega) hgrow
  have ne : ∀ i, some (Addr.block ⟨g, i, none⟩) ≠ Value.ownBlock (.slice (some ⟨V.heap.size, 0, none⟩) 2 2) := fun i e => by
    simp [Value.ownBlock] at e
    omega
  have hst3 : SigAt w g p q w3 := ⟨b3, hgrow.cell hst2.c0 (ne 0), hgrow.cell hst2.c1 (ne 1)⟩
  have O3 : OwnK .u8 w3 w.heap.size v (M.two p ++ M.two q) := by unfold OwnK; simpa [M.two] using hown
  refine hK _ _ hst3 ?_
  clear hK K hst2 O2 hown hgrow hat hsrc ne hst3
  obtain ⟨a, cap, hv, -⟩ := O3.form
  have HT := Lib.hid (And.intro O3 b3)
  clear O3 b3
  subst hv
  simp only [Act.put, List.setIfInBounds_toArray, List.set_cons_zero, List.set_cons_succ]
  iterate 1 (refine line_read rfl (by kernel_rfl) (fun K hK => ?_); go_big_quiet_op; refine hK _ ?_; clear hK K)
  refine line_nil ?_
  go_wp2_with fail
  go_ret
  exact ⟨a, _, cap, rfl, HT.out.1, HT.out.2⟩

end Go.Proofs.YtepailfhagaboaaDoor
namespace Go.Proofs.YtepailfhagaboaaDoor
open Go.RowKit
set_option maxRecDepth 100000
set_option linter.unusedVariables false

theorem by6 (c : Int) (a : Option Addr) (n k : Nat) (w : World) : Sem.run Tryd.prog (Instr.field 31 (.agg #[.int .i64 c, .slice a n k]) 1) w = .ok (.slice a n k) w := by kernel_rfl
theorem wordBytes_reply (r s p x y f : Int) (w : World) (h : repF r s p x y f = 0) :
    Calls Tryd.prog 58 #[.iface 49 (R6 r s p x y f)] w (Made (packR r s p x y f) w) := by
  obtain ⟨hr, hs, hp, hf, hg⟩ := repF_zero h
  have hss := pub_sum6 hs
  have hps := pub_sum6 hp
  obtain ⟨hxs, hys⟩ := sig_sums hg
  obtain ⟨i0, hi0, hz0, hz1, hz2⟩ := info_parts u8_info
  have g1 := by6
  have ta : ∀ W : World, (Instr.typeAssert (.iface 49 (R6 r s p x y f)) 67 26 true).run Tryd.prog W = .ok (.tuple #[.agg #[.int .i64 0, .int .i64 0, .string { data := #[] }], .bool false]) W := fun _ => by kernel_rfl
  have tb : ∀ W : World, (Instr.typeAssert (.iface 49 (R6 r s p x y f)) 67 49 true).run Tryd.prog W = .ok (.tuple #[R6 r s p x y f, .bool true]) W := fun _ => by kernel_rfl
  have A0 := At.new w (RL6 r s p x y f) 49
  have b0 := bal (Below.refl _ w) (.cells #[.int .i64 r, .int .i64 s, .int .i64 p, .int .i64 x, .int .i64 y, .int .i64 f] 49)
  have hall : [r, s, p].all M.sumB = true := by simp [hr, hss, hps]
  have hby : ∀ z ∈ M.two x ++ M.two y, M.byteB z := fun z hz => by
    rcases List.mem_append.1 hz with h | h
    · exact two_byte hxs z h
    · exact two_byte hys z h
  clear h
  go_enter Tryd.func58, Tryd.ntmps58
  go_wp2_with fail
  generalize w.alloc (.cells #[.int .i64 r, .int .i64 s, .int .i64 p, .int .i64 x, .int .i64 y, .int .i64 f] 49) = W0 at *
  have d0 := A0.cell 0 _ rfl
  have d1 := A0.cell 1 _ rfl
  have d2 := A0.cell 2 _ rfl
  have d3 := A0.cell 3 _ rfl
  have d4 := A0.cell 4 _ rfl
  have d5 := A0.cell 5 _ rfl
  refine wp_region_line (Bel W0) [(0, true), (1, true), (2, true), (3, true), (4, true), (5, true), (8, true), (9, true), (6, false), (7, false), (10, false), (11, true), (12, false), (13, true)] (by kernel_rfl) (by kernel_rfl) (fun _ _ d _ _ h => by cases d <;> exact h) (Bel.drew W0) ?_
  have hst := Bel.drew W0
  have inst : Nonempty (Of (Bel W0)) := ⟨⟨_, hst⟩⟩
  have u0 := bel_cell d0
  have u1 := bel_cell d1
  have u2 := bel_cell d2
  have u3 := bel_cell d3
  have u4 := bel_cell d4
  generalize W0.drew = V1 at *
  iterate 8 (refine line_read rfl (by kernel_rfl) (fun K hK => ?_); go_big_quiet_op; refine hK _ ?_; clear hK K)
  clear u0 u1 u2 u3 u4 d0 d1 d2 d3 d4 d5
  refine line_alone rfl (by kernel_rfl) (fun K hK => ?_)
  go_big_op
  refine hK _ _ (hst.on (bal (Below.refl _ V1) _)) ?_
  clear hK K
  have st2 := hst.on (bal (Below.refl _ V1) (.cells #[.int .i64 r, .int .i64 s, .int .i64 p] 2))
  have R2 := row_three (w := V1) r s p 2 hr hss hps
  have lt2 : V1.heap.size + 1 ≤ (V1.alloc (.cells #[.int .i64 r, .int .i64 s, .int .i64 p] 2)).heap.size := by simp
  generalize V1.alloc (.cells #[.int .i64 r, .int .i64 s, .int .i64 p] 2) = V2 at *
  refine line_alone rfl (by kernel_rfl) (fun K hK => ?_)
  refine call_any (args := #[.int .u8 2, .slice (some ⟨V1.heap.size, 0, none⟩) 3 3]) rfl (by kernel_rfl) (by kernel_rfl) (wordHead_any 2 _ 3 3 _ [r, s, p] V2 R2 lt2 hall (by omega)) ?_
  rintro e V3 ⟨a3, n3, c3, rfl, O3', b3⟩
  have O3 : OwnK .u8 V3 V2.heap.size (.slice a3 n3 c3) (frontR r s p) := O3'
  have l3 : n3 = 7 := O3.len
  subst l3
  have st3 := st2.on b3
  refine ⟨_, rfl, hK _ _ st3 ?_⟩
  clear hK K O3'
  simp only [Act.put, List.setIfInBounds_toArray, List.set_cons_zero, List.set_cons_succ]
  refine line_alone rfl (by kernel_rfl) (fun K hK => ?_)
  refine call_any (args := #[I2 x y]) rfl (by kernel_rfl) (by kernel_rfl) (implPackSign_yes x y V3 hg) ?_
  rintro e V4 ⟨a4, n4, c4, rfl, O4, b4⟩
  have l4 : n4 = 4 := O4.len
  subst l4
  have st4 := st3.on b4
  have b34 := btr b3 b4
  have O5 : OwnK .u8 V4 V2.heap.size (.slice a3 7 c3) (frontR r s p) := Own.below O3 b4
  refine ⟨_, rfl, hK _ _ st4 ?_⟩
  clear hK K O3 b3
  simp only [Act.put, List.setIfInBounds_toArray, List.set_cons_zero, List.set_cons_succ]
  iterate 1 (refine line_read rfl (by kernel_rfl) (fun K hK => ?_); go_big_quiet_op; refine hK _ ?_; clear hK K)
  refine line_alone rfl (by kernel_rfl) (fun K hK => ?_)
  refine wp_append_src _ (.tmp 29) (.tmp 33) 29 29 rfl V2.heap.size 5 i0 (.int .u8 0) 1 1 Tryd.underlying29 hi0 hz0 hz1 hz2 rfl _ _ _ rfl O5 _ 4 _ rfl (O4.src6 hby) (by rw [frontR_length]; simp only [maxLen]; omega) (by rw [frontR_length]; omega) b34.size (fun v6 w6 hown hgrow hat => ?_)
  have b6 : Below V2.heap.size V2 w6 := Own.grown O5 b34 b34.size hgrow
  have O6 : OwnK .u8 w6 V2.heap.size v6 (frontR r s p ++ (M.two x ++ M.two y)) := by
    unfold OwnK
    rw [List.length_append, List.map_append]
    exact hown
  have st6 := st2.on b6
  refine hK _ _ st6 ?_
  have A6 := A0.on st6.out
  have b7 := btr b0 st6.out
  have hle : w.heap.size ≤ V2.heap.size := (btr b0 st2.out).size
  have O7 : OwnK .u8 w6 w.heap.size v6 (frontR r s p ++ (M.two x ++ M.two y)) := O6.less hle
  clear hK K hown hgrow hat O4 O5 O6 b4 b34 b6 st2 st3 st4 st6 A0 b0
  simp only [Act.put, List.setIfInBounds_toArray, List.set_cons_zero, List.set_cons_succ]
  iterate 1 (refine line_read rfl (by kernel_rfl) (fun K hK => ?_); go_big_quiet_op; refine hK _ ?_; clear hK K)
  refine line_nil ?_
  have d5 := A6.cell 5 _ rfl
  have HF := Lib.hid hf
  go_wp2_with fail
  refine (appendTwo_any _ f w.heap.size _ _ O7 b7.size HF.out (by simp only [frontR, M.two, List.length_append, List.length_cons, List.length_nil]; omega)).mono ?_
  rintro e w8 ⟨v8, rfl, O8, g8⟩
  have b8 := O7.grown b7 b7.size g8
  obtain ⟨a8, c8, hv8, -⟩ := O8.form
  have HT := Lib.hid (And.intro (show OwnK .u8 w8 w.heap.size v8 (packR r s p x y f) from O8) b8)
  clear O8 b8 g8 O7 b7 A6
  subst hv8
  go_wp2_with fail
  go_ret
  exact ⟨_, _, _, rfl, HT.out.1, HT.out.2⟩
theorem replyFault_method (r s p x y f : Int) (w : World) (hg : ErrT w) :
    Calls Tryd.prog 138 #[R6 r s p x y f] w fun e w' => e = .returned (.int .i64 (repF r s p x y f)) ∧ Below w.heap.size w w' := by
  have b0 := bal (Below.refl _ w) (.cells #[.int .i64 r, .int .i64 s, .int .i64 p, .int .i64 x, .int .i64 y, .int .i64 f] 49)
  have F := fun w hg => implReplyFault_any r s p x y f w hg
  have E0 := hg.on b0
  go_enter Tryd.func138, Tryd.ntmps138
  go_wp2_with fail
  refine (F _ E0).mono ?_
  rintro e u1 ⟨rfl, b1⟩
  have hb := btr b0 b1
  go_wp2_with fail
  go_ret
  exact ⟨rfl, hb⟩
theorem packWord_reply (r s p x y f : Int) (w : World) (hg : ErrT w) :
    Calls Tryd.prog 36 #[.iface 49 (R6 r s p x y f)] w (BytesRes (repF r s p x y f) (packRL r s p x y f) w) := by
  have hm : ∀ w : World, (method 316 49 (R6 r s p x y f) "loop.example/g00618/impl.fault").run Tryd.prog w = .ok (138, R6 r s p x y f) w := fun _ => by kernel_rfl
  have F := fun w hg => replyFault_method r s p x y f w hg
  have A0 := At.new w [.int .i64 0, .slice none 0 0] 31
  have b0 := bal (Below.refl _ w) (.cells #[.int .i64 0, .slice none 0 0] 31)
  have E0 := hg.on b0
  by_cases h : repF r s p x y f = 0
  · have e : packRL r s p x y f = packR r s p x y f := by simp [packRL, h]
    rw [e]
    have P1 := fun w => wordBytes_reply r s p x y f w h
    simp only [h] at F ⊢
    clear e h
    go_enter Tryd.func36, Tryd.ntmps36
    go_wp2_with fail
    generalize w.alloc (.cells #[.int .i64 0, .slice none 0 0] 31) = W0 at *
    refine (F _ E0).mono ?_
    rintro e u1 ⟨rfl, b1⟩
    go_wp2_with fail
    refine (P1 _).mono ?_
    rintro e u2 ⟨a2, n2, c2, rfl, O2, b2⟩
    have lt1 : w.heap.size < u1.heap.size := (A0.on b1).lt (by simp)
    have q0 := ((A0.on b1).on b2).cell 0 _ rfl
    have q1 := ((A0.on b1).on b2).cell 1 _ rfl
    have z0 := ((A0.on b1).on b2).free 0 _ rfl
    have z1 := ((A0.on b1).on b2).free 1 _ rfl
    have HT := Lib.hid (And.intro O2 (btr b0 (btr b1 b2)))
    have hzs := (btr b0 b1).size
    clear A0 O2 b2 b1 b0
    go_wp2_with fail
    refine bodyPost_ret (v := .agg #[.int .i64 0, .slice a2 n2 c2]) (by simp [results, Tryd.results36, go_sem, q0, q1]) rfl ?_
    exact ⟨_, _, _, rfl, (by (iterate 2 (refine Own.setCell ?_ (fun g hg => by have := (HT.out.1.lt g hg).1; dsimp only; omega) _)); exact HT.out.1.less (by omega)), (by (iterate 2 (refine bset ?_ (by dsimp only; omega) _)); exact HT.out.2)⟩
  · have e : packRL r s p x y f = [] := by simp [packRL, h]
    rw [e]
    generalize repF r s p x y f = cd at *
    clear e
    go_enter Tryd.func36, Tryd.ntmps36
    go_wp2_with fail
    generalize w.alloc (.cells #[.int .i64 0, .slice none 0 0] 31) = W0 at *
    refine (F _ E0).mono ?_
    rintro e u1 ⟨rfl, b1⟩
    have q0 := (A0.on b1).cell 0 _ rfl
    have q1 := (A0.on b1).cell 1 _ rfl
    have z0 := (A0.on b1).free 0 _ rfl
    have z1 := (A0.on b1).free 1 _ rfl
    have hb := btr b0 b1
    clear A0 b0 b1 F
    go_wp2_with fail
    refine bodyPost_ret (v := .agg #[.int .i64 cd, .slice none 0 0]) (by simp [results, Tryd.results36, go_sem, q0, q1]) rfl ?_
    exact ⟨_, _, _, rfl, Own.nil _ _ _, (by (iterate 2 (refine bset ?_ (by dsimp only; omega) _)); exact hb)⟩
theorem implPackReply_any (r s p x y f : Int) (w : World) (hg : ErrT w) :
    Calls Tryd.prog 27 #[R6 r s p x y f] w (BytesRes (repF r s p x y f) (packRL r s p x y f) w) := by
  have F := fun w hg => packWord_reply r s p x y f w hg
  have b0 := bal (bal (Below.refl _ w) (.cells #[.int .i64 r, .int .i64 s, .int .i64 p, .int .i64 x, .int .i64 y, .int .i64 f] 49)) (.cells #[.int .i64 0, .slice none 0 0] 31)
  have A2 := At.new (w.alloc (.cells #[.int .i64 r, .int .i64 s, .int .i64 p, .int .i64 x, .int .i64 y, .int .i64 f] 49)) [.int .i64 0, .slice none 0 0] 31
  simp only [World.size_alloc] at A2
  have E0 := hg.on b0
  generalize repF r s p x y f = cd at *
  generalize packRL r s p x y f = zs at *
  go_enter Tryd.func27, Tryd.ntmps27
  go_wp2_with fail
  generalize (w.alloc (.cells #[.int .i64 r, .int .i64 s, .int .i64 p, .int .i64 x, .int .i64 y, .int .i64 f] 49)).alloc (.cells #[.int .i64 0, .slice none 0 0] 31) = W0 at *
  refine (F _ E0).mono ?_
  rintro e u1 ⟨a2, n2, c2, rfl, O2, b2⟩
  have lt1 : w.heap.size + 1 < W0.heap.size := A2.lt (by simp)
  have q0 := (A2.on b2).cell 0 _ rfl
  have q1 := (A2.on b2).cell 1 _ rfl
  have z0 := (A2.on b2).free 0 _ rfl
  have z1 := (A2.on b2).free 1 _ rfl
  have HT := Lib.hid (And.intro O2 (btr b0 b2))
  clear A2 O2 b2 b0
  go_wp2_with fail
  refine bodyPost_ret (v := .agg #[.int .i64 cd, .slice a2 n2 c2]) (by simp [results, Tryd.results27, go_sem, q0, q1]) rfl ?_
  exact ⟨_, _, _, rfl, (by (iterate 2 (refine Own.setCell ?_ (fun g hg => by have := (HT.out.1.lt g hg).1; dsimp only; omega) _)); exact HT.out.1.less (by omega)), (by (iterate 2 (refine bset ?_ (by dsimp only; omega) _)); exact HT.out.2)⟩

theorem l3Pack3_any (g : Nat) (p q : Int) (w : World) (d0 : w.cell? ⟨g, 3, none⟩ = some (.int .i64 p)) (d1 : w.cell? ⟨g, 4, none⟩ = some (.int .i64 q)) (hp : M.sumB p = true) (hq : M.sumB q = true) :
    Calls Tryd.prog 67 #[.pointer (some ⟨g, 3, none⟩)] w (Made (M.two p ++ M.two q) w) := by
  obtain ⟨i0, hi0, hz0, hz1, hz2⟩ := info_parts u8_info
  go_enter Tryd.func67, Tryd.ntmps67
  go_wp2_with fail
  refine wp_region_line (Bel w) [(0, true), (1, true), (2, true), (3, true), (5, true), (6, true), (7, true), (8, true), (4, false), (9, false), (10, false), (11, true)] (by kernel_rfl) (by kernel_rfl) (fun _ _ d _ _ h => by cases d <;> exact h) (Bel.drew w) ?_
  have hst := Bel.drew w
  have inst : Nonempty (Of (Bel w)) := ⟨⟨_, hst⟩⟩
  have u0 := bel_cell d0
  have u1 := bel_cell d1
  have eV := Lib.hid (show w.drew.heap.size = w.heap.size from rfl)
  generalize w.drew = V at *
  iterate 8 (refine line_read rfl (by kernel_rfl) (fun K hK => ?_); go_big_quiet_op; refine hK _ ?_; clear hK K)
  clear u0 u1 d0 d1
  refine line_alone rfl (by kernel_rfl) (fun K hK => ?_)
  refine call_any (args := #[.int .i64 p]) rfl (by kernel_rfl) (by kernel_rfl) (l1Two_any p _ hp) ?_
  rintro e w1 ⟨rfl, rfl⟩
  have O1 := (two_own V p).less (Nat.le_of_eq eV.out.symm)
  have st1 := hst.on (bal (Below.refl _ V) (.cells #[.int .u8 (p / 256), .int .u8 (p % 256)] 5))
  refine ⟨_, rfl, hK _ _ st1 ?_⟩
  clear hK K hst
  simp only [Act.put, List.setIfInBounds_toArray, List.set_cons_zero, List.set_cons_succ]
  generalize V.alloc (.cells #[.int .u8 (p / 256), .int .u8 (p % 256)] 5) = V1 at *
  refine line_alone rfl (by kernel_rfl) (fun K hK => ?_)
  refine call_any (args := #[.int .i64 q]) rfl (by kernel_rfl) (by kernel_rfl) (l1Two_any q _ hq) ?_
  rintro e w2 ⟨rfl, rfl⟩
  have O2 : OwnK .u8 (V1.alloc (.cells #[.int .u8 (q / 256), .int .u8 (q % 256)] 5)) w.heap.size (.slice (some ⟨V.heap.size, 0, none⟩) 2 2) (M.two p) := Own.alloc O1 _
  have T2 := two_own V1 q
  have st2 := st1.on (bal (Below.refl _ V1) (.cells #[.int .u8 (q / 256), .int .u8 (q % 256)] 5))
  refine ⟨_, rfl, hK _ _ st2 ?_⟩
  clear hK K st1 O1
  simp only [Act.put, List.setIfInBounds_toArray, List.set_cons_zero, List.set_cons_succ]
  refine line_alone rfl (by kernel_rfl) (fun K hK => ?_)
  refine wp_append_src _ (.tmp 7) (.tmp 12) 29 29 rfl w.heap.size 5 i0 (.int .u8 0) 1 1 Tryd.underlying29 hi0 hz0 hz1 hz2 rfl _ _ _ rfl O2 _ 2 _ rfl (T2.src6 (two_byte hq)) (by simp only [maxLen, M.two, List.length_cons, List.length_nil]; omega) (by simp only [M.two, List.length_cons, List.length_nil]; omega) st2.out.size (fun v3 w3 hown hgrow hat => ?_)
  have b3 : Below w.heap.size w w3 := Own.grown O2 st2.out st2.out.size hgrow
  have O3 : OwnK .u8 w3 w.heap.size v3 (M.two p ++ M.two q) := by
    unfold OwnK
    rw [List.length_append, List.map_append]
    exact hown
  refine hK _ _ ⟨b3⟩ ?_
  obtain ⟨a3, c3, hv3, -⟩ := O3.form
  have HT := Lib.hid (And.intro O3 b3)
  clear hK K hown hgrow hat O2 T2 st2 O3 b3
  subst hv3
  simp only [Act.put, List.setIfInBounds_toArray, List.set_cons_zero, List.set_cons_succ]
  iterate 1 (refine line_read rfl (by kernel_rfl) (fun K hK => ?_); go_big_quiet_op; refine hK _ ?_; clear hK K)
  refine line_nil ?_
  go_wp2_with fail
  go_ret
  exact ⟨_, _, _, rfl, HT.out.1, HT.out.2⟩

theorem l6Front_any (g : Nat) (r s p x y f : Int) (w : World) (hA : At g (RL6 r s p x y f) w) (hr : M.sumB r = true) (hs : M.sumB s = true) (hp : M.sumB p = true) :
    Calls Tryd.prog 66 #[.pointer (some ⟨g, 0, none⟩)] w (Made (frontR r s p) w) := by
  obtain ⟨i0, hi0, hz0, hz1, hz2⟩ := info_parts u8_info
  have d0 := hA.cell 0 _ rfl
  have d1 := hA.cell 1 _ rfl
  have d2 := hA.cell 2 _ rfl
  have d3 := hA.cell 3 _ rfl
  have d4 := hA.cell 4 _ rfl
  have d5 := hA.cell 5 _ rfl
  have b1 := bal (Below.refl _ w) (.cells #[.int .u8 2] 5)
  have ltg := hA.lt (by simp)
  have O1 : OwnK .u8 (w.alloc (.cells #[.int .u8 2] 5)) w.heap.size (.slice (some ⟨w.heap.size, 0, none⟩) 1 1) [2] := own_lit (k := .u8) w [2] 1 5 (Nat.le_refl _) rfl (by simp only [maxLen]; omega)
  go_enter Tryd.func66, Tryd.ntmps66
  go_wp2_with fail
  generalize w.alloc (.cells #[.int .u8 2] 5) = W1 at *
  refine (l1Two_any r _ hr).mono ?_
  rintro e w2 ⟨rfl, rfl⟩
  have O2 := Own.alloc O1 (.cells #[.int .u8 (r / 256), .int .u8 (r % 256)] 5)
  have b2 := bal b1 (.cells #[.int .u8 (r / 256), .int .u8 (r % 256)] 5)
  have hle := b2.size
  have hsrc := src_new (P := Tryd.prog) W1 [.int .u8 (r / 256), .int .u8 (r % 256)] 2 2 5 29 5 Tryd.underlying29 rfl (ints_oneCell .u8 [r / 256, r % 256])
  go_wp2_with (at_builtin; refine wpList_append_src _ rfl (.tmp 4) (.tmp 9) 29 29 rfl w.heap.size 5 i0 (.int .u8 0) 1 1 Tryd.underlying29 hi0 hz0 hz1 hz2 rfl _ 1 [.int .u8 2] rfl O2 _ 2 _ rfl hsrc (by simp only [maxLen]; omega) (by omega) hle ?_; intro v3 w3 hown hgrow hat)
  have b3 : Below w.heap.size w w3 := Own.grown O2 b2 hle hgrow
  have O3 : OwnK .u8 w3.drew w.heap.size v3 ([2] ++ M.two r) := by unfold OwnK; simpa [M.two] using hown.drew
  clear O1 O2 b1 b2 hle hsrc hown hgrow hat
  have S0 : Bel w w3.drew := ⟨b3.drew⟩
  refine wp_region_line (Bel w) [(0, true), (1, true), (2, true), (3, true), (4, true), (7, true), (8, true), (9, true), (10, true), (5, false), (6, false), (11, false), (12, false), (13, true)] (by kernel_rfl) (by kernel_rfl) (fun _ _ d _ _ h => by cases d <;> exact h) S0 ?_
  have inst : Nonempty (Of (Bel w)) := ⟨⟨_, S0⟩⟩
  have u1 := bel_cell d1
  have u2 := bel_cell d2
  clear b3 d0 d1 d2 d3 d4 d5
  generalize w3.drew = V1 at *
  iterate 9 (refine line_read rfl (by kernel_rfl) (fun K hK => ?_); go_big_quiet_op; refine hK _ ?_; clear hK K)
  clear u1 u2
  refine line_alone rfl (by kernel_rfl) (fun K hK => ?_)
  refine call_any (args := #[.int .i64 s]) rfl (by kernel_rfl) (by kernel_rfl) (l1Two_any s _ hs) ?_
  rintro e _ ⟨rfl, rfl⟩
  have st5 := S0.on (bal (Below.refl _ V1) (.cells #[.int .u8 (s / 256), .int .u8 (s % 256)] 5))
  have O5 : OwnK .u8 (V1.alloc (.cells #[.int .u8 (s / 256), .int .u8 (s % 256)] 5)) w.heap.size v3 ([2] ++ M.two r) := Own.alloc O3 _
  have T5 := two_own V1 s
  refine ⟨_, rfl, hK _ _ st5 ?_⟩
  clear hK K
  simp only [Act.put, List.setIfInBounds_toArray, List.set_cons_zero, List.set_cons_succ]
  refine line_alone rfl (by kernel_rfl) (fun K hK => ?_)
  refine wp_append_src _ (.tmp 11) (.tmp 16) 29 29 rfl w.heap.size 5 i0 (.int .u8 0) 1 1 Tryd.underlying29 hi0 hz0 hz1 hz2 rfl _ _ _ rfl O5 _ 2 _ rfl (T5.src6 (two_byte hs)) (by simp only [maxLen, M.two, List.length_append, List.length_cons, List.length_nil]; omega) (by simp only [M.two, List.length_append, List.length_cons, List.length_nil]; omega) st5.out.size (fun v5 w5 hown hgrow hat => ?_)
  have b5 : Below w.heap.size w w5 := Own.grown O5 st5.out st5.out.size hgrow
  have P5 : OwnK .u8 w5 w.heap.size v5 ([2] ++ M.two r ++ M.two s) := by
    unfold OwnK
    rw [List.length_append, List.map_append]
    exact hown
  have S5 : Bel w w5 := ⟨b5⟩
  refine hK _ _ S5 ?_
  clear hK K hown hgrow hat O5 T5 st5 O3 S0 b5
  simp only [Act.put, List.setIfInBounds_toArray, List.set_cons_zero, List.set_cons_succ]
  refine line_alone rfl (by kernel_rfl) (fun K hK => ?_)
  refine call_any (args := #[.int .i64 p]) rfl (by kernel_rfl) (by kernel_rfl) (l1Two_any p _ hp) ?_
  rintro e _ ⟨rfl, rfl⟩
  have st6 := S5.on (bal (Below.refl _ w5) (.cells #[.int .u8 (p / 256), .int .u8 (p % 256)] 5))
  have O6 : OwnK .u8 (w5.alloc (.cells #[.int .u8 (p / 256), .int .u8 (p % 256)] 5)) w.heap.size v5 ([2] ++ M.two r ++ M.two s) := Own.alloc P5 _
  have T6 := two_own w5 p
  refine ⟨_, rfl, hK _ _ st6 ?_⟩
  clear hK K
  simp only [Act.put, List.setIfInBounds_toArray, List.set_cons_zero, List.set_cons_succ]
  refine line_alone rfl (by kernel_rfl) (fun K hK => ?_)
  refine wp_append_src _ (.tmp 17) (.tmp 22) 29 29 rfl w.heap.size 5 i0 (.int .u8 0) 1 1 Tryd.underlying29 hi0 hz0 hz1 hz2 rfl _ _ _ rfl O6 _ 2 _ rfl (T6.src6 (two_byte hp)) (by simp only [maxLen, M.two, List.length_append, List.length_cons, List.length_nil]; omega) (by simp only [M.two, List.length_append, List.length_cons, List.length_nil]; omega) st6.out.size (fun v6 w6 hown hgrow hat => ?_)
  have b6 : Below w.heap.size w w6 := Own.grown O6 st6.out st6.out.size hgrow
  have P6 : OwnK .u8 w6 w.heap.size v6 ([2] ++ M.two r ++ M.two s ++ M.two p) := by
    unfold OwnK
    rw [List.length_append, List.map_append]
    exact hown
  have S6 : Bel w w6 := ⟨b6⟩
  refine hK _ _ S6 ?_
  clear hK K hown hgrow hat O6 T6 st6 P5 S5 b6
  simp only [Act.put, List.setIfInBounds_toArray, List.set_cons_zero, List.set_cons_succ]
  obtain ⟨a7, c7, hv7, -⟩ := P6.form
  have HT := Lib.hid (And.intro (show OwnK .u8 w6 w.heap.size v6 (frontR r s p) from P6) S6.out)
  clear P6 S6
  subst hv7
  iterate 1 (refine line_read rfl (by kernel_rfl) (fun K hK => ?_); go_big_quiet_op; refine hK _ ?_; clear hK K)
  refine line_nil ?_
  go_wp2_with fail
  go_ret
  exact ⟨_, _, _, rfl, HT.out.1, HT.out.2⟩

theorem l6PackReply_any (g : Nat) (r s p x y f : Int) (w : World) (hA : At g (RL6 r s p x y f) w) (h : repF r s p x y f = 0) :
    Calls Tryd.prog 46 #[.pointer (some ⟨g, 0, none⟩)] w (Made (packR r s p x y f) w) := by
  obtain ⟨hr, hs, hp, hf, hg⟩ := repF_zero h
  obtain ⟨hxs, hys⟩ := sig_sums hg
  obtain ⟨i0, hi0, hz0, hz1, hz2⟩ := info_parts u8_info
  have P1 := fun w hA => l6Front_any g r s p x y f w hA hr (pub_sum6 hs) (pub_sum6 hp)
  have P2 := fun w d3 d4 => l3Pack3_any g x y w d3 d4 hxs hys
  have hby : ∀ z ∈ M.two x ++ M.two y, M.byteB z := fun z hz => by
    rcases List.mem_append.1 hz with h | h
    · exact two_byte hxs z h
    · exact two_byte hys z h
  clear h
  go_enter Tryd.func46, Tryd.ntmps46
  go_wp2_with fail
  refine wp_region_line (Bel w) [(0, true), (2, true), (3, true), (4, true), (1, false), (5, false), (6, false), (7, true)] (by kernel_rfl) (by kernel_rfl) (fun _ _ d _ _ h => by cases d <;> exact h) (Bel.drew w) ?_
  have hst := Bel.drew w
  have inst : Nonempty (Of (Bel w)) := ⟨⟨_, hst⟩⟩
  have eV := Lib.hid (show w.drew.heap.size = w.heap.size from rfl)
  generalize w.drew = V at *
  iterate 4 (refine line_read rfl (by kernel_rfl) (fun K hK => ?_); go_big_quiet_op; refine hK _ ?_; clear hK K)
  refine line_alone rfl (by kernel_rfl) (fun K hK => ?_)
  refine call_any (args := #[.pointer (some ⟨g, 0, none⟩)]) rfl (by kernel_rfl) (by kernel_rfl) (P1 _ (hA.on hst.out)) ?_
  rintro e w1 ⟨a1, n1, c1, rfl, O1, b1⟩
  have l1 : n1 = 7 := O1.len
  subst l1
  have st1 := hst.on b1
  refine ⟨_, rfl, hK _ _ st1 ?_⟩
  clear hK K
  simp only [Act.put, List.setIfInBounds_toArray, List.set_cons_zero, List.set_cons_succ]
  have A1 := hA.on st1.out
  refine line_alone rfl (by kernel_rfl) (fun K hK => ?_)
  refine call_any (args := #[.pointer (some ⟨g, 3, none⟩)]) rfl (by kernel_rfl) (by kernel_rfl) (P2 _ (A1.cell 3 _ rfl) (A1.cell 4 _ rfl)) ?_
  rintro e w2 ⟨a2, n2, c2, rfl, O2, b2⟩
  have l2 : n2 = 4 := O2.len
  subst l2
  have st2 := st1.on b2
  have O1' : OwnK .u8 w2 w.heap.size (.slice a1 7 c1) (frontR r s p) := (Own.below O1 b2).less (Nat.le_of_eq eV.out.symm)
  refine ⟨_, rfl, hK _ _ st2 ?_⟩
  clear hK K
  simp only [Act.put, List.setIfInBounds_toArray, List.set_cons_zero, List.set_cons_succ]
  refine line_alone rfl (by kernel_rfl) (fun K hK => ?_)
  refine wp_append_src _ (.tmp 5) (.tmp 9) 29 29 rfl w.heap.size 5 i0 (.int .u8 0) 1 1 Tryd.underlying29 hi0 hz0 hz1 hz2 rfl _ _ _ rfl O1' _ 4 _ rfl (O2.src6 hby) (by rw [frontR_length]; simp only [maxLen]; omega) (by rw [frontR_length]; omega) st2.out.size (fun v3 w3 hown hgrow hat => ?_)
  have b3 : Below w.heap.size w w3 := Own.grown O1' st2.out st2.out.size hgrow
  have O3 : OwnK .u8 w3 w.heap.size v3 (frontR r s p ++ (M.two x ++ M.two y)) := by
    unfold OwnK
    rw [List.length_append, List.map_append]
    exact hown
  refine hK _ _ ⟨b3⟩ ?_
  clear hK K hown hgrow hat O1' O1 O2 st1 st2 hst b1 b2 P1 P2 A1
  simp only [Act.put, List.setIfInBounds_toArray, List.set_cons_zero, List.set_cons_succ]
  iterate 1 (refine line_read rfl (by kernel_rfl) (fun K hK => ?_); go_big_quiet_op; refine hK _ ?_; clear hK K)
  refine line_nil ?_
  have d5 := (hA.on b3).cell 5 _ rfl
  clear inst
  go_wp2_with fail
  refine (l1Two_any f _ hf).mono ?_
  rintro e w4 ⟨rfl, rfl⟩
  have O4 : OwnK .u8 (w3.alloc (.cells #[.int .u8 (f / 256), .int .u8 (f % 256)] 5)) w.heap.size v3 (frontR r s p ++ (M.two x ++ M.two y)) := Own.alloc O3 _
  have T4 := (two_own w3 f).src6 (two_byte hf)
  have b4 := bal b3 (.cells #[.int .u8 (f / 256), .int .u8 (f % 256)] 5)
  have hle := b4.size
  have hlen : (frontR r s p ++ (M.two x ++ M.two y)).length = 11 := rfl
  go_wp2_with (at_builtin; refine wpList_append_src _ rfl (.tmp 11) (.tmp 16) 29 29 rfl w.heap.size 5 i0 (.int .u8 0) 1 1 Tryd.underlying29 hi0 hz0 hz1 hz2 rfl _ _ _ rfl O4 _ 2 _ rfl T4 (by rw [hlen]; simp only [maxLen]; omega) (by rw [hlen]; omega) hle ?_; intro v5 w5 hown hgrow hat)
  have b5 : Below w.heap.size w w5 := Own.grown O4 b4 hle hgrow
  have O5 : OwnK .u8 w5 w.heap.size v5 (packR r s p x y f) := by
    unfold OwnK packR
    generalize frontR r s p ++ (M.two x ++ M.two y) = L at hown ⊢
    rw [List.length_append, List.map_append]
    exact hown
  obtain ⟨a5, c5, hv5, -⟩ := O5.form
  have HT := Lib.hid (And.intro O5 b5)
  clear hown hgrow hat O4 T4 b4 O5 b5 O3 b3
  subst hv5
  go_wp2_with fail
  go_ret
  exact ⟨_, _, _, rfl, HT.out.1, HT.out.2⟩
theorem specPackReply_any (r s p x y f : Int) (w : World) :
    Calls Tryd.prog 26 #[R6 r s p x y f] w (BytesRes (repF r s p x y f) (packRL r s p x y f) w) := by
  have b0 := bal (bal (Below.refl _ w) (.cells #[.int .i64 r, .int .i64 s, .int .i64 p, .int .i64 x, .int .i64 y, .int .i64 f] 49)) (.cells #[.int .i64 0, .slice none 0 0] 31)
  have A1 := (At.new w (RL6 r s p x y f) 49).alloc (.cells #[.int .i64 0, .slice none 0 0] 31)
  have A2 := At.new (w.alloc (.cells #[.int .i64 r, .int .i64 s, .int .i64 p, .int .i64 x, .int .i64 y, .int .i64 f] 49)) [.int .i64 0, .slice none 0 0] 31
  simp only [World.size_alloc] at A1 A2
  have F := fun (g : Nat) (w : World) (A : At g (RL6 r s p x y f) w) => l6Reply_any g r s p x y f w A
  by_cases h : repF r s p x y f = 0
  · have e : packRL r s p x y f = packR r s p x y f := by simp [packRL, h]
    rw [e]
    have P1 := fun g w A => l6PackReply_any g r s p x y f w A h
    simp only [h] at F ⊢
    clear e h
    go_enter Tryd.func26, Tryd.ntmps26
    go_wp2_with fail
    generalize (w.alloc (.cells #[.int .i64 r, .int .i64 s, .int .i64 p, .int .i64 x, .int .i64 y, .int .i64 f] 49)).alloc (.cells #[.int .i64 0, .slice none 0 0] 31) = W0 at *
    refine (F _ _ A1).mono ?_
    rintro e w1 ⟨rfl, rfl⟩
    clear F
    go_wp2_with fail
    refine (P1 _ _ A1).mono ?_
    rintro e w2 ⟨a2, n2, c2, rfl, O2, b2⟩
    have lt2 : w.heap.size + 1 < W0.heap.size := A2.lt (by simp)
    have q0 := (A2.on b2).cell 0 _ rfl
    have q1 := (A2.on b2).cell 1 _ rfl
    have z0 := (A2.on b2).free 0 _ rfl
    have z1 := (A2.on b2).free 1 _ rfl
    have HT := Lib.hid (And.intro O2 (btr b0 b2))
    have hzs := b0.size
    clear A1 A2 O2 b2 b0
    go_wp2_with fail
    refine bodyPost_ret (v := .agg #[.int .i64 0, .slice a2 n2 c2]) (by simp [results, Tryd.results26, go_sem, q0, q1]) rfl ?_
    exact ⟨_, _, _, rfl, (by (iterate 2 (refine Own.setCell ?_ (fun g hg => by have := (HT.out.1.lt g hg).1; dsimp only; omega) _)); exact HT.out.1.less (by omega)), (by (iterate 2 (refine bset ?_ (by dsimp only; omega) _)); exact HT.out.2)⟩
  · have e : packRL r s p x y f = [] := by simp [packRL, h]
    rw [e]
    generalize repF r s p x y f = cd at *
    clear e
    go_enter Tryd.func26, Tryd.ntmps26
    go_wp2_with fail
    generalize (w.alloc (.cells #[.int .i64 r, .int .i64 s, .int .i64 p, .int .i64 x, .int .i64 y, .int .i64 f] 49)).alloc (.cells #[.int .i64 0, .slice none 0 0] 31) = W0 at *
    refine (F _ _ A1).mono ?_
    rintro e w1 ⟨rfl, rfl⟩
    have q0 := A2.cell 0 _ rfl
    have q1 := A2.cell 1 _ rfl
    have z0 := A2.free 0 _ rfl
    have z1 := A2.free 1 _ rfl
    clear A1 A2 F
    go_wp2_with fail
    refine bodyPost_ret (v := .agg #[.int .i64 cd, .slice none 0 0]) (by simp [results, Tryd.results26, go_sem, q0, q1]) rfl ?_
    exact ⟨_, _, _, rfl, Own.nil _ _ _, (by (iterate 2 (refine bset ?_ (by dsimp only; omega) _)); exact b0)⟩
end Go.Proofs.YtepailfhagaboaaDoor
namespace Go.Proofs.YtepailfhagaboaaDoor
open Go.RowKit
set_option maxRecDepth 100000
set_option linter.unusedVariables false

theorem implSignFault_yes (p q : Int) (w : World) (hB : M.sigB p q = true) :
    Calls Tryd.prog 45 #[I2 p q] w fun r w' => r = .returned (.int .i64 0) ∧ Below w.heap.size w w' := by
  go_enter Tryd.func45, Tryd.ntmps45
  go_wp2_with fail
  refine (pairOf_yes p q _ hB).mono ?_
  rintro r w1 ⟨rfl, hb0⟩
  have hb1 := btr (bal (Below.refl _ w) _) hb0
  clear hb0
  go_wp2_with fail
  refine (codeOf_nil _).mono ?_
  rintro r w2 ⟨rfl, hb_w2⟩
  obtain ⟨hc_w2, hf_w2⟩ := bcell hb_w2
  have hz_w2 := hb_w2.size
  (try simp at hz_w2)
  go_wp2_with fail
  go_ret
  exact ⟨rfl, btr hb1 hb_w2⟩
/-- Where the signature has no fault, no error's type is asked for. -/
theorem implReplyFault_sig (r s p x y f : Int) (w : World) (hB : M.sigB x y = true) :
    Calls Tryd.prog 25 #[R6 r s p x y f] w fun e w' => e = .returned (.int .i64 (repF r s p x y f)) ∧ Below w.heap.size w w' := by
  have b0 := bal (Below.refl _ w) (.cells #[.int .i64 r, .int .i64 s, .int .i64 p, .int .i64 x, .int .i64 y, .int .i64 f] 49)
  have A0 := At.new w (RL6 r s p x y f) 49
  cases hr : M.sumB r
  · rw [repF_no (by rw [hr]; rfl)]
    go_enter Tryd.func25, Tryd.ntmps25
    go_wp2_with fail
    refine (isSum_any _ _).mono ?_
    rintro r w' ⟨rfl, rfl⟩
    go_wp2_with fail
    go_ret
    exact ⟨rfl, b0⟩
  cases hs : pubB s
  · rw [repF_no (by rw [hs]; simp)]
    go_enter Tryd.func25, Tryd.ntmps25
    go_wp2_with fail
    refine (isSum_any _ _).mono ?_
    rintro r w' ⟨rfl, rfl⟩
    go_wp2_with fail
    generalize w.alloc (.cells #[.int .i64 r, .int .i64 s, .int .i64 p, .int .i64 x, .int .i64 y, .int .i64 f] 49) = W0 at *
    refine (implIsPublic_any _ _).mono ?_
    rintro e u1 ⟨rfl, b1⟩
    have B1 := btr b0 b1
    have d0 := (A0.on b1).cell 0 _ rfl
    have d1 := (A0.on b1).cell 1 _ rfl
    have d2 := (A0.on b1).cell 2 _ rfl
    have d3 := (A0.on b1).cell 3 _ rfl
    have d4 := (A0.on b1).cell 4 _ rfl
    have d5 := (A0.on b1).cell 5 _ rfl
    go_wp2_with fail
    go_ret
    exact ⟨rfl, B1⟩
  cases hp : pubB p
  · rw [repF_no (by rw [hp]; simp)]
    go_enter Tryd.func25, Tryd.ntmps25
    go_wp2_with fail
    refine (isSum_any _ _).mono ?_
    rintro r w' ⟨rfl, rfl⟩
    go_wp2_with fail
    generalize w.alloc (.cells #[.int .i64 r, .int .i64 s, .int .i64 p, .int .i64 x, .int .i64 y, .int .i64 f] 49) = W0 at *
    refine (implIsPublic_any _ _).mono ?_
    rintro e u1 ⟨rfl, b1⟩
    have B1 := btr b0 b1
    have d0 := (A0.on b1).cell 0 _ rfl
    have d1 := (A0.on b1).cell 1 _ rfl
    have d2 := (A0.on b1).cell 2 _ rfl
    have d3 := (A0.on b1).cell 3 _ rfl
    have d4 := (A0.on b1).cell 4 _ rfl
    have d5 := (A0.on b1).cell 5 _ rfl
    go_wp2_with fail
    refine (implIsPublic_any _ _).mono ?_
    rintro e u2 ⟨rfl, b2⟩
    have B2 := btr B1 b2
    have b12 := btr b1 b2
    clear d0 d1 d2 d3 d4 d5 b1 b2
    have d0 := (A0.on b12).cell 0 _ rfl
    have d1 := (A0.on b12).cell 1 _ rfl
    have d2 := (A0.on b12).cell 2 _ rfl
    have d3 := (A0.on b12).cell 3 _ rfl
    have d4 := (A0.on b12).cell 4 _ rfl
    have d5 := (A0.on b12).cell 5 _ rfl
    go_wp2_with fail
    go_ret
    exact ⟨rfl, B2⟩
  cases hf : M.sumB f
  · rw [repF_no (by rw [hf]; simp)]
    go_enter Tryd.func25, Tryd.ntmps25
    go_wp2_with fail
    refine (isSum_any _ _).mono ?_
    rintro r w' ⟨rfl, rfl⟩
    go_wp2_with fail
    generalize w.alloc (.cells #[.int .i64 r, .int .i64 s, .int .i64 p, .int .i64 x, .int .i64 y, .int .i64 f] 49) = W0 at *
    refine (implIsPublic_any _ _).mono ?_
    rintro e u1 ⟨rfl, b1⟩
    have B1 := btr b0 b1
    have d0 := (A0.on b1).cell 0 _ rfl
    have d1 := (A0.on b1).cell 1 _ rfl
    have d2 := (A0.on b1).cell 2 _ rfl
    have d3 := (A0.on b1).cell 3 _ rfl
    have d4 := (A0.on b1).cell 4 _ rfl
    have d5 := (A0.on b1).cell 5 _ rfl
    go_wp2_with fail
    refine (implIsPublic_any _ _).mono ?_
    rintro e u2 ⟨rfl, b2⟩
    have B2 := btr B1 b2
    have b12 := btr b1 b2
    clear d0 d1 d2 d3 d4 d5 b1 b2
    have d0 := (A0.on b12).cell 0 _ rfl
    have d1 := (A0.on b12).cell 1 _ rfl
    have d2 := (A0.on b12).cell 2 _ rfl
    have d3 := (A0.on b12).cell 3 _ rfl
    have d4 := (A0.on b12).cell 4 _ rfl
    have d5 := (A0.on b12).cell 5 _ rfl
    go_wp2_with fail
    refine (isSum_any _ _).mono ?_
    rintro r w' ⟨rfl, rfl⟩
    go_wp2_with fail
    go_ret
    exact ⟨rfl, B2⟩
  · rw [repF_yes (by rw [hr, hs, hp, hf]; rfl), show M.sigF x y = 0 by simp [M.sigF, hB]]
    go_enter Tryd.func25, Tryd.ntmps25
    go_wp2_with fail
    refine (isSum_any _ _).mono ?_
    rintro r w' ⟨rfl, rfl⟩
    go_wp2_with fail
    generalize w.alloc (.cells #[.int .i64 r, .int .i64 s, .int .i64 p, .int .i64 x, .int .i64 y, .int .i64 f] 49) = W0 at *
    refine (implIsPublic_any _ _).mono ?_
    rintro e u1 ⟨rfl, b1⟩
    have B1 := btr b0 b1
    have d0 := (A0.on b1).cell 0 _ rfl
    have d1 := (A0.on b1).cell 1 _ rfl
    have d2 := (A0.on b1).cell 2 _ rfl
    have d3 := (A0.on b1).cell 3 _ rfl
    have d4 := (A0.on b1).cell 4 _ rfl
    have d5 := (A0.on b1).cell 5 _ rfl
    go_wp2_with fail
    refine (implIsPublic_any _ _).mono ?_
    rintro e u2 ⟨rfl, b2⟩
    have B2 := btr B1 b2
    have b12 := btr b1 b2
    clear d0 d1 d2 d3 d4 d5 b1 b2
    have d0 := (A0.on b12).cell 0 _ rfl
    have d1 := (A0.on b12).cell 1 _ rfl
    have d2 := (A0.on b12).cell 2 _ rfl
    have d3 := (A0.on b12).cell 3 _ rfl
    have d4 := (A0.on b12).cell 4 _ rfl
    have d5 := (A0.on b12).cell 5 _ rfl
    go_wp2_with fail
    refine (isSum_any _ _).mono ?_
    rintro r w' ⟨rfl, rfl⟩
    go_wp2_with fail
    refine (implSignFault_yes x y _ hB).mono ?_
    rintro e u3 ⟨rfl, b3⟩
    have B3 := btr B2 b3
    go_wp2_with fail
    go_ret
    exact ⟨rfl, B3⟩
theorem replyFault_sig (r s p x y f : Int) (w : World) (hB : M.sigB x y = true) :
    Calls Tryd.prog 138 #[R6 r s p x y f] w fun e w' => e = .returned (.int .i64 (repF r s p x y f)) ∧ Below w.heap.size w w' := by
  have b0 := bal (Below.refl _ w) (.cells #[.int .i64 r, .int .i64 s, .int .i64 p, .int .i64 x, .int .i64 y, .int .i64 f] 49)
  have F := fun w => implReplyFault_sig r s p x y f w hB
  go_enter Tryd.func138, Tryd.ntmps138
  go_wp2_with fail
  refine (F _).mono ?_
  rintro e u1 ⟨rfl, b1⟩
  have hb := btr b0 b1
  go_wp2_with fail
  go_ret
  exact ⟨rfl, hb⟩

abbrev helV (zs : List Int) : Value := H3 (tw zs 1) (tw zs 3) (M.bs (helNm zs))
abbrev repV (zs : List Int) : Value := R6 (tw zs 1) (tw zs 3) (tw zs 5) (tw zs 7) (tw zs 9) (tw zs 11)
theorem hel_method (zs : List Int) (w : World) (hz : zs.length ≤ maxLen) :
    Calls Tryd.prog 137 #[helV zs] w fun e w' => e = .returned (.int .i64 (helF (helNm zs) (tw zs 1) (tw zs 3))) ∧ Below w.heap.size w w' := by
  have h := helloFault_method (tw zs 1) (tw zs 3) (M.bs (helNm zs)) w (helNm_size maxLen hz)
  rw [M.bs_list] at h
  exact h
theorem readWord_hello (a : Option Addr) (len cap B : Nat) (zs : List Int) (w : World) (hR : Row .u8 w B a len cap zs) (hB : B ≤ w.heap.size) (h : helOk zs = true) :
    Calls Tryd.prog 41 #[.slice a len cap] w fun e w' => e = .returned (.iface 26 (helV zs)) ∧ Below w.heap.size w w' := by
  have hlen := hR.fits
  have hmost := hR.most
  have hzl := hR.length
  have hm2 := hmost
  unfold maxLen at hm2
  simp only [helOk, Bool.and_eq_true, decide_eq_true_eq] at h
  obtain ⟨⟨h5, h1⟩, hf⟩ := h
  rw [hzl] at h5
  have h0 : 0 < len := by omega
  have I := fun w' R => helloIn_yes a len cap B zs w' R
  have M1 := fun w => hel_method zs w (by omega)
  rw [show helF (helNm zs) (tw zs 1) (tw zs 3) = 0 from of_decide_eq_true hf] at M1
  have hmt : ∀ w : World, (method 316 26 (helV zs) "loop.example/g00618/impl.fault").run Tryd.prog w = .ok (137, helV zs) w := fun _ => by kernel_rfl
  have hne : ∀ w : World, (binOp BinOp.neq 67 (.iface 26 (helV zs)) .nilIface).run Tryd.prog w = .ok (.bool true) w := fun _ => by kernel_rfl
  obtain ⟨b, off, rfl, hb, hc⟩ := hR.cells (by omega)
  have d0 := hc 0 (by omega)
  rw [Nat.add_zero] at d0
  clear hc
  rw [h1] at d0
  unfold helV at *
  generalize M.bs (helNm zs) = N at *
  generalize tw zs 1 = y1 at *
  generalize tw zs 3 = y3 at *
  go_enter Tryd.func41, Tryd.ntmps41
  go_wp2_with fail
  refine (needs_yes _).mono ?_
  rintro e w' ⟨rfl, rfl⟩
  go_wp2_with fail
  refine (I _ hR hB h5).mono ?_
  rintro e u1 ⟨rfl, b1⟩
  go_wp2_with fail
  refine (M1 _).mono ?_
  rintro e u2 ⟨rfl, b2⟩
  have b3 := btr b1 b2
  go_wp2_with fail
  refine (needs_yes _).mono ?_
  rintro e w' ⟨rfl, rfl⟩
  go_wp2_with fail
  go_ret
  exact ⟨rfl, b3⟩
theorem readWord_reply (a : Option Addr) (len cap B : Nat) (zs : List Int) (w : World) (hR : Row .u8 w B a len cap zs) (hB : B ≤ w.heap.size) (h : repOk zs = true) :
    Calls Tryd.prog 41 #[.slice a len cap] w fun e w' => e = .returned (.iface 49 (repV zs)) ∧ Below w.heap.size w w' := by
  have hlen := hR.fits
  have hmost := hR.most
  have hzl := hR.length
  have hm2 := hmost
  unfold maxLen at hm2
  simp only [repOk, Bool.and_eq_true, decide_eq_true_eq] at h
  obtain ⟨⟨h5, h1⟩, hf⟩ := h
  rw [hzl] at h5
  subst h5
  have hf0 : repF (tw zs 1) (tw zs 3) (tw zs 5) (tw zs 7) (tw zs 9) (tw zs 11) = 0 := of_decide_eq_true hf
  have hsg := (repF_zero hf0).2.2.2.2
  have I := fun w' R hB => replyIn_yes a cap B zs w' R hB hsg
  have M1 := fun w => replyFault_sig (tw zs 1) (tw zs 3) (tw zs 5) (tw zs 7) (tw zs 9) (tw zs 11) w hsg
  rw [hf0] at M1
  have hmt : ∀ w : World, (method 316 49 (repV zs) "loop.example/g00618/impl.fault").run Tryd.prog w = .ok (138, repV zs) w := fun _ => by kernel_rfl
  have hne : ∀ w : World, (binOp BinOp.neq 67 (.iface 49 (repV zs)) .nilIface).run Tryd.prog w = .ok (.bool true) w := fun _ => by kernel_rfl
  obtain ⟨b, off, rfl, hb, hc⟩ := hR.cells (by omega)
  have d0 := hc 0 (by omega)
  rw [Nat.add_zero] at d0
  clear hc
  rw [h1] at d0
  unfold repV at *
  clear hf hf0 hsg
  generalize tw zs 1 = y1 at *
  generalize tw zs 3 = y3 at *
  generalize tw zs 5 = y5 at *
  generalize tw zs 7 = y7 at *
  generalize tw zs 9 = y9 at *
  generalize tw zs 11 = y11 at *
  go_enter Tryd.func41, Tryd.ntmps41
  go_wp2_with fail
  refine (needs_yes _).mono ?_
  rintro e w' ⟨rfl, rfl⟩
  go_wp2_with fail
  refine (I _ hR hB).mono ?_
  rintro e u1 ⟨rfl, b1⟩
  go_wp2_with fail
  refine (M1 _).mono ?_
  rintro e u2 ⟨rfl, b2⟩
  have b3 := btr b1 b2
  go_wp2_with fail
  refine (needs_yes _).mono ?_
  rintro e w' ⟨rfl, rfl⟩
  go_wp2_with fail
  go_ret
  exact ⟨rfl, b3⟩
theorem readWord_no {u : TypeId} {v : Value} (a : Option Addr) (len cap B : Nat) (zs : List Int) (w : World) (hv : ErrV u v w) (hR : Row .u8 w B a len cap zs) (hB : B ≤ w.heap.size) (hh : helOk zs = false) (hr : repOk zs = false) :
    Calls Tryd.prog 41 #[.slice a len cap] w fun e w' => e = unread u v ∧ Below w.heap.size w w' := by
  have hlen := hR.fits
  have hmost := hR.most
  have hzl := hR.length
  have hm2 := hmost
  unfold maxLen at hm2
  by_cases hl0 : len = 0
  · subst hl0
    go_enter Tryd.func41, Tryd.ntmps41
    go_wp2_with fail
    refine (needs_no _ hv).mono ?_
    rintro e w' ⟨rfl, rfl⟩
    exact ⟨rfl, rfl, Below.refl _ _⟩
  have h0 : 0 < len := by omega
  by_cases h1 : zs.getD 0 0 = 1
  · by_cases h5 : len < 5
    · have I := fun w' V => helloIn_no (u := u) (v := v) a len cap w' V h5
      obtain ⟨b, off, rfl, hb, hc⟩ := hR.cells (by omega)
      have d0 := hc 0 (by omega)
      rw [Nat.add_zero] at d0
      clear hc
      rw [h1] at d0
      go_enter Tryd.func41, Tryd.ntmps41
      go_wp2_with fail
      refine (needs_yes _).mono ?_
      rintro e w' ⟨rfl, rfl⟩
      go_wp2_with fail
      refine (I _ hv).mono ?_
      rintro e u1 ⟨rfl, b1⟩
      exact ⟨rfl, rfl, b1⟩
    · have I := fun w' R => helloIn_yes a len cap B zs w' R
      have M1 := fun w => hel_method zs w (by omega)
      have hc0 : (helF (helNm zs) (tw zs 1) (tw zs 3) == 0) = false := by
        have : helB zs = false := by
          cases hb : helB zs
          · rfl
          · exfalso
            unfold helOk at hh
            rw [h1, hb, decide_eq_true (by omega)] at hh
            simp at hh
        rw [beq_eq_false_iff_ne]
        exact of_decide_eq_false this
      have hmt : ∀ w : World, (method 316 26 (helV zs) "loop.example/g00618/impl.fault").run Tryd.prog w = .ok (137, helV zs) w := fun _ => by kernel_rfl
      have hne : ∀ w : World, (binOp BinOp.neq 67 (.iface 26 (helV zs)) .nilIface).run Tryd.prog w = .ok (.bool true) w := fun _ => by kernel_rfl
      obtain ⟨b, off, rfl, hb, hc⟩ := hR.cells (by omega)
      have d0 := hc 0 (by omega)
      rw [Nat.add_zero] at d0
      clear hc
      rw [h1] at d0
      unfold helV at *
      generalize helF (helNm zs) (tw zs 1) (tw zs 3) = cd at *
      generalize M.bs (helNm zs) = N at *
      generalize tw zs 1 = y1 at *
      generalize tw zs 3 = y3 at *
      clear hh hr
      go_enter Tryd.func41, Tryd.ntmps41
      go_wp2_with fail
      refine (needs_yes _).mono ?_
      rintro e w' ⟨rfl, rfl⟩
      go_wp2_with fail
      refine (I _ hR hB (by omega)).mono ?_
      rintro e u1 ⟨rfl, b1⟩
      go_wp2_with fail
      refine (M1 _).mono ?_
      rintro e u2 ⟨rfl, b2⟩
      have b3 := btr b1 b2
      have V3 := hv.on b3
      go_wp2_with fail
      refine (needs_no _ V3).mono ?_
      rintro e w' ⟨rfl, rfl⟩
      exact ⟨rfl, rfl, b3⟩
  have q1 : (zs.getD 0 0 == 1) = false := by rw [beq_eq_false_iff_ne]; exact h1
  by_cases h2 : zs.getD 0 0 = 2
  · by_cases h13 : len = 13
    · subst h13
      cases hsg : M.sigB (tw zs 7) (tw zs 9)
      · have I := fun w' R hB V => replyIn_bad (u := u) (v := v) a cap B zs w' R hB V hsg
        obtain ⟨b, off, rfl, hb, hc⟩ := hR.cells (by omega)
        have d0 := hc 0 (by omega)
        rw [Nat.add_zero] at d0
        clear hc
        rw [h2] at d0
        go_enter Tryd.func41, Tryd.ntmps41
        go_wp2_with fail
        refine (needs_yes _).mono ?_
        rintro e w' ⟨rfl, rfl⟩
        go_wp2_with fail
        refine (I _ hR hB hv).mono ?_
        rintro e u1 ⟨rfl, b1⟩
        exact ⟨rfl, rfl, b1⟩
      · have I := fun w' R hB => replyIn_yes a cap B zs w' R hB hsg
        have M1 := fun w => replyFault_sig (tw zs 1) (tw zs 3) (tw zs 5) (tw zs 7) (tw zs 9) (tw zs 11) w hsg
        have hc0 : (repF (tw zs 1) (tw zs 3) (tw zs 5) (tw zs 7) (tw zs 9) (tw zs 11) == 0) = false := by
          have : repB zs = false := by
            cases hb : repB zs
            · rfl
            · exfalso
              unfold repOk at hr
              rw [h2, hb, decide_eq_true hzl] at hr
              simp at hr
          rw [beq_eq_false_iff_ne]
          exact of_decide_eq_false this
        have hmt : ∀ w : World, (method 316 49 (repV zs) "loop.example/g00618/impl.fault").run Tryd.prog w = .ok (138, repV zs) w := fun _ => by kernel_rfl
        have hne : ∀ w : World, (binOp BinOp.neq 67 (.iface 49 (repV zs)) .nilIface).run Tryd.prog w = .ok (.bool true) w := fun _ => by kernel_rfl
        obtain ⟨b, off, rfl, hb, hc⟩ := hR.cells (by omega)
        have d0 := hc 0 (by omega)
        rw [Nat.add_zero] at d0
        clear hc
        rw [h2] at d0
        unfold repV at *
        clear hh hr hsg
        generalize repF (tw zs 1) (tw zs 3) (tw zs 5) (tw zs 7) (tw zs 9) (tw zs 11) = cd at *
        generalize tw zs 1 = y1 at *
        generalize tw zs 3 = y3 at *
        generalize tw zs 5 = y5 at *
        generalize tw zs 7 = y7 at *
        generalize tw zs 9 = y9 at *
        generalize tw zs 11 = y11 at *
        go_enter Tryd.func41, Tryd.ntmps41
        go_wp2_with fail
        refine (needs_yes _).mono ?_
        rintro e w' ⟨rfl, rfl⟩
        go_wp2_with fail
        refine (I _ hR hB).mono ?_
        rintro e u1 ⟨rfl, b1⟩
        go_wp2_with fail
        refine (M1 _).mono ?_
        rintro e u2 ⟨rfl, b2⟩
        have b3 := btr b1 b2
        have V3 := hv.on b3
        go_wp2_with fail
        refine (needs_no _ V3).mono ?_
        rintro e w' ⟨rfl, rfl⟩
        exact ⟨rfl, rfl, b3⟩
    · have I := fun w' V => replyIn_short (u := u) (v := v) a len cap w' V h13 (by omega)
      obtain ⟨b, off, rfl, hb, hc⟩ := hR.cells (by omega)
      have d0 := hc 0 (by omega)
      rw [Nat.add_zero] at d0
      clear hc
      rw [h2] at d0
      go_enter Tryd.func41, Tryd.ntmps41
      go_wp2_with fail
      refine (needs_yes _).mono ?_
      rintro e w' ⟨rfl, rfl⟩
      go_wp2_with fail
      refine (I _ hv).mono ?_
      rintro e u1 ⟨rfl, b1⟩
      exact ⟨rfl, rfl, b1⟩
  · have q2 : (zs.getD 0 0 == 2) = false := by rw [beq_eq_false_iff_ne]; exact h2
    obtain ⟨b, off, rfl, hb, hc⟩ := hR.cells (by omega)
    have d0 := hc 0 (by omega)
    rw [Nat.add_zero] at d0
    clear hc
    generalize zs.getD 0 0 = z at *
    clear hh hr
    go_enter Tryd.func41, Tryd.ntmps41
    go_wp2_with fail
    refine (needs_yes _).mono ?_
    rintro e w' ⟨rfl, rfl⟩
    go_wp2_with fail
    refine (needs_no _ hv).mono ?_
    rintro e w' ⟨rfl, rfl⟩
    exact ⟨rfl, rfl, Below.refl _ _⟩
end Go.Proofs.YtepailfhagaboaaDoor
namespace Go.Proofs.YtepailfhagaboaaDoor
open Go.RowKit
set_option maxRecDepth 100000
set_option linter.unusedVariables false

theorem ifaceNe (u : TypeId) (v : Value) (w : World) : (binOp BinOp.neq 20 (.iface u v) .nilIface).run Tryd.prog w = .ok (.bool true) w := by kernel_rfl
abbrev helT (zs : List Int) : Value := H4 (if helOk zs then 0 else 5) (if helOk zs then tw zs 1 else 0) (if helOk zs then tw zs 3 else 0) (M.bs (if helOk zs then helNm zs else []))
theorem helT_no {zs : List Int} (h : helOk zs = false) : helT zs = H4 5 0 0 { data := #[] } := by simp [helT, h, M.bs]
theorem helT_yes {zs : List Int} (h : helOk zs = true) : helT zs = H4 0 (tw zs 1) (tw zs 3) (M.bs (helNm zs)) := by simp [helT, h]
abbrev repT (zs : List Int) : Value := R7 (if repOk zs then 0 else 5) (if repOk zs then tw zs 1 else 0) (if repOk zs then tw zs 3 else 0) (if repOk zs then tw zs 5 else 0) (if repOk zs then tw zs 7 else 0) (if repOk zs then tw zs 9 else 0) (if repOk zs then tw zs 11 else 0)
theorem repT_no {zs : List Int} (h : repOk zs = false) : repT zs = R7 5 0 0 0 0 0 0 := by simp [repT, h]
theorem repT_yes {zs : List Int} (h : repOk zs = true) : repT zs = R7 0 (tw zs 1) (tw zs 3) (tw zs 5) (tw zs 7) (tw zs 9) (tw zs 11) := by simp [repT, h]

theorem catchHello_panic (g : Nat) (u : TypeId) (v : Value) (w : World) (A : At g (HL4 0 0 0 { data := #[] }) w) :
    CallsD Tryd.prog 40 #[.pointer (some ⟨g, 0, none⟩)] (.panicking [{ v := .iface u v, recovered := false }]) w fun e u' w' =>
      e = .returned (.tuple #[]) ∧ u' = .panicking [{ v := .iface u v, recovered := true }] ∧ At g (HL4 5 0 0 { data := #[] }) w' ∧ ∀ W : World, W.heap.size ≤ g → Below W.heap.size W w → Below W.heap.size W w' := by
  have hne := ifaceNe u v
  have c0 := A.cell 0 _ rfl
  have c1 := A.cell 1 _ rfl
  have c2 := A.cell 2 _ rfl
  have c3 := A.cell 3 _ rfl
  have z0 := A.free 0 _ rfl
  have z1 := A.free 1 _ rfl
  have z2 := A.free 2 _ rfl
  have z3 := A.free 3 _ rfl
  refine callsD_of_wpS Tryd.func40 rfl fun c₀ cs hu => ?_
  apply wpS_seq
  apply wpS_region
  simp [wpOpsS, go_sem, recoverD, hu, Tryd.ntmps40, Exit.thenS]
  refine wpS_cond (t := true) (by simp [Act.eval, Array.replicate]) ?_
  simp only [if_true]
  have HA := Lib.hid ((((A.set 0 (.int .i64 5)).set 1 (.int .i64 0)).set 2 (.int .i64 0)).set 3 (.string { data := #[] }))
  clear A
  apply wpS_region
  simp [wpOpsS, go_sem, c0, z0, c1, z1, c2, z2, c3, z3, bodyPostS, results, Tryd.results40, Array.replicate]
  exact ⟨HA.out, fun W hB hb => (by (iterate 4 (refine bset ?_ (by first | omega | (dsimp only; omega)) _)); exact hb)⟩
theorem catchHello_idle (p : Addr) (w : World) :
    CallsD Tryd.prog 40 #[.pointer (some p)] .returning w fun e u' w' => e = .returned (.tuple #[]) ∧ u' = .returning ∧ w' = w := by
  refine callsD_of_wpS Tryd.func40 rfl fun c₀ cs hu => ?_
  apply wpS_seq
  apply wpS_region
  simp [wpOpsS, go_sem, recoverD, hu, Tryd.ntmps40, Exit.thenS]
  refine wpS_cond (t := false) (by simp [Act.eval, Array.replicate]) ?_
  simp only [Bool.false_eq_true, if_false]
  refine wpS_of_wp (wp_skip ?_)
  cases c₀
  simp_all [bodyPostS, results, Tryd.results40]
theorem implReadHello_any (a : Option Addr) (len cap B : Nat) (zs : List Int) (w : World) (hu : ErrU w) (hR : Row .u8 w B a len cap zs) (hB : B ≤ w.heap.size) :
    Calls Tryd.prog 20 #[.slice a len cap] w fun e w' => e = .returned (helT zs) ∧ Below w.heap.size w w' := by
  obtain ⟨u, v, hv⟩ := hu
  have hmf : ∀ (fn : Fn) (first cap : Array Value) (w : World), (Instr.makeFunc fn first cap).run Tryd.prog w = .ok (.func fn first cap) w := fun _ _ _ _ => rfl
  have b0 := bal (Below.refl _ w) (.cells #[.int .i64 0, .int .i64 0, .int .i64 0, .string { data := #[] }] 36)
  have A0 := At.new w (HL4 0 0 0 { data := #[] }) 36
  have V0 := hv.on b0
  have R0 := hR.below (b0.mono hB)
  have hB0 : B ≤ (w.alloc (.cells #[.int .i64 0, .int .i64 0, .int .i64 0, .string { data := #[] }] 36)).heap.size := by simp; omega
  clear hR hv
  cases hh : helOk zs
  · rw [helT_no hh]
    cases hr : repOk zs
    · have N := fun w V R hB => readWord_no (u := u) (v := v) a len cap B zs w V R hB hh hr
      clear hh hr
      go_enter_defers Tryd.func20, Tryd.ntmps20
      go_wp2_with fail
      generalize w.alloc (.cells #[.int .i64 0, .int .i64 0, .int .i64 0, .string { data := #[] }] 36) = W0 at *
      refine (N _ V0 R0 hB0).mono ?_
      rintro e u1 ⟨rfl, b1⟩
      refine leaves_cons (f := 40) (args := #[.pointer (some ⟨w.heap.size, 0, none⟩)]) (by simp) (by simp [go_sem]) ?_
      refine (catchHello_panic w.heap.size u v _ (A0.on b1)).mono ?_
      rintro e u' w2 ⟨rfl, rfl, A2, hk⟩
      have HB := Lib.hid (hk w (Nat.le_refl _) (btr b0 b1))
      have q0 := A2.cell 0 _ rfl
      have q1 := A2.cell 1 _ rfl
      have q2 := A2.cell 2 _ rfl
      have q3 := A2.cell 3 _ rfl
      simp [Leaves, settle, results, Tryd.results20, go_sem, q0, q1, q2, q3]
      exact HB.out
    · have N := fun w R hB => readWord_reply a len cap B zs w R hB hr
      have ta : ∀ W : World, (Instr.typeAssert (.iface 49 (repV zs)) 67 26 true).run Tryd.prog W = .ok (.tuple #[.agg #[.int .i64 0, .int .i64 0, .string { data := #[] }], .bool false]) W := fun _ => by kernel_rfl
      generalize repV zs = VV at *
      clear hh hr
      go_enter_defers Tryd.func20, Tryd.ntmps20
      go_wp2_with fail
      generalize w.alloc (.cells #[.int .i64 0, .int .i64 0, .int .i64 0, .string { data := #[] }] 36) = W0 at *
      refine (N _ R0 hB0).mono ?_
      rintro e u1 ⟨rfl, b1⟩
      have hc := (V0.on b1).cell
      go_wp2_with fail
      refine leaves_cons (f := 40) (args := #[.pointer (some ⟨w.heap.size, 0, none⟩)]) (by simp) (by simp [go_sem]) ?_
      refine (catchHello_panic w.heap.size u v _ (A0.on b1)).mono ?_
      rintro e u' w2 ⟨rfl, rfl, A2, hk⟩
      have HB := Lib.hid (hk w (Nat.le_refl _) (btr b0 b1))
      have q0 := A2.cell 0 _ rfl
      have q1 := A2.cell 1 _ rfl
      have q2 := A2.cell 2 _ rfl
      have q3 := A2.cell 3 _ rfl
      simp [Leaves, settle, results, Tryd.results20, go_sem, q0, q1, q2, q3]
      exact HB.out
  · rw [helT_yes hh]
    have N := fun w R hB => readWord_hello a len cap B zs w R hB hh
    have ta : ∀ W : World, (Instr.typeAssert (.iface 26 (helV zs)) 67 26 true).run Tryd.prog W = .ok (.tuple #[helV zs, .bool true]) W := fun _ => by kernel_rfl
    unfold helV at *
    generalize M.bs (helNm zs) = n at *
    generalize tw zs 1 = y1 at *
    generalize tw zs 3 = y3 at *
    clear hh
    go_enter_defers Tryd.func20, Tryd.ntmps20
    go_wp2_with fail
    generalize w.alloc (.cells #[.int .i64 0, .int .i64 0, .int .i64 0, .string { data := #[] }] 36) = W0 at *
    refine (N _ R0 hB0).mono ?_
    rintro e u1 ⟨rfl, b1⟩
    have lt1 : w.heap.size < u1.heap.size := (A0.on b1).lt (by simp)
    have p0 := (A0.on b1).cell 0 _ rfl
    have p1 := (A0.on b1).cell 1 _ rfl
    have p2 := (A0.on b1).cell 2 _ rfl
    have p3 := (A0.on b1).cell 3 _ rfl
    have z0 := (A0.on b1).free 0 _ rfl
    have z1 := (A0.on b1).free 1 _ rfl
    have z2 := (A0.on b1).free 2 _ rfl
    have z3 := (A0.on b1).free 3 _ rfl
    have A9 := (((((A0.on b1).set 0 (.int .i64 0)).set 1 (.int .i64 y1)).set 2 (.int .i64 y3)).set 3 (.string n)).alloc (.cells #[.int .i64 y1, .int .i64 y3, .string n] 26)
    have q0 := A9.cell 0 _ rfl
    have q1 := A9.cell 1 _ rfl
    have q2 := A9.cell 2 _ rfl
    have q3 := A9.cell 3 _ rfl
    have HB := Lib.hid (bal (bset (bset (bset (bset (btr b0 b1) (p := ⟨w.heap.size, 0, none⟩) (Nat.le_refl _) (.int .i64 0)) (p := ⟨w.heap.size, 1, none⟩) (Nat.le_refl _) (.int .i64 y1)) (p := ⟨w.heap.size, 2, none⟩) (Nat.le_refl _) (.int .i64 y3)) (p := ⟨w.heap.size, 3, none⟩) (Nat.le_refl _) (.string n)) (.cells #[.int .i64 y1, .int .i64 y3, .string n] 26))
    clear A0 A9 b0 b1 V0 R0 N
    go_wp2_with fail
    refine leaves_cons (f := 40) (args := #[.pointer (some ⟨w.heap.size, 0, none⟩)]) (by simp) (by simp [go_sem]) ?_
    refine (catchHello_idle _ _).mono ?_
    rintro e u' w2 ⟨rfl, rfl, rfl⟩
    simp [Leaves, settle, results, Tryd.results20, go_sem, q0, q1, q2, q3]
    exact HB.out

theorem catchReply_panic (g : Nat) (u : TypeId) (v : Value) (w : World) (A : At g (RL7 0 0 0 0 0 0 0) w) :
    CallsD Tryd.prog 48 #[.pointer (some ⟨g, 0, none⟩)] (.panicking [{ v := .iface u v, recovered := false }]) w fun e u' w' =>
      e = .returned (.tuple #[]) ∧ u' = .panicking [{ v := .iface u v, recovered := true }] ∧ At g (RL7 5 0 0 0 0 0 0) w' ∧ ∀ W : World, W.heap.size ≤ g → Below W.heap.size W w → Below W.heap.size W w' := by
  have hne := ifaceNe u v
  have c0 := A.cell 0 _ rfl
  have c1 := A.cell 1 _ rfl
  have c2 := A.cell 2 _ rfl
  have c3 := A.cell 3 _ rfl
  have c4 := A.cell 4 _ rfl
  have c5 := A.cell 5 _ rfl
  have c6 := A.cell 6 _ rfl
  have z0 := A.free 0 _ rfl
  have z1 := A.free 1 _ rfl
  have z2 := A.free 2 _ rfl
  have z3 := A.free 3 _ rfl
  have z4 := A.free 4 _ rfl
  have z5 := A.free 5 _ rfl
  have z6 := A.free 6 _ rfl
  refine callsD_of_wpS Tryd.func48 rfl fun c₀ cs hu => ?_
  apply wpS_seq
  apply wpS_region
  simp [wpOpsS, go_sem, recoverD, hu, Tryd.ntmps48, Exit.thenS]
  refine wpS_cond (t := true) (by simp [Act.eval, Array.replicate]) ?_
  simp only [if_true]
  have HA := Lib.hid ((((((((A.set 0 (.int .i64 5)).set 1 (.int .i64 0)).set 2 (.int .i64 0)).set 3 (.int .i64 0)).set 4 (.int .i64 0)).set 5 (.int .i64 0)).set 6 (.int .i64 0)))
  clear A
  apply wpS_region
  simp [wpOpsS, go_sem, c0, z0, c1, z1, c2, z2, c3, z3, c4, z4, c5, z5, c6, z6, bodyPostS, results, Tryd.results48, Array.replicate]
  exact ⟨HA.out, fun W hB hb => (by (iterate 7 (refine bset ?_ (by first | omega | (dsimp only; omega)) _)); exact hb)⟩
theorem catchReply_idle (p : Addr) (w : World) :
    CallsD Tryd.prog 48 #[.pointer (some p)] .returning w fun e u' w' => e = .returned (.tuple #[]) ∧ u' = .returning ∧ w' = w := by
  refine callsD_of_wpS Tryd.func48 rfl fun c₀ cs hu => ?_
  apply wpS_seq
  apply wpS_region
  simp [wpOpsS, go_sem, recoverD, hu, Tryd.ntmps48, Exit.thenS]
  refine wpS_cond (t := false) (by simp [Act.eval, Array.replicate]) ?_
  simp only [Bool.false_eq_true, if_false]
  refine wpS_of_wp (wp_skip ?_)
  cases c₀
  simp_all [bodyPostS, results, Tryd.results48]
theorem implReadReply_any (a : Option Addr) (len cap B : Nat) (zs : List Int) (w : World) (hu : ErrU w) (hR : Row .u8 w B a len cap zs) (hB : B ≤ w.heap.size) :
    Calls Tryd.prog 29 #[.slice a len cap] w fun e w' => e = .returned (repT zs) ∧ Below w.heap.size w w' := by
  obtain ⟨u, v, hv⟩ := hu
  have hmf : ∀ (fn : Fn) (first cap : Array Value) (w : World), (Instr.makeFunc fn first cap).run Tryd.prog w = .ok (.func fn first cap) w := fun _ _ _ _ => rfl
  have b0 := bal (Below.refl _ w) (.cells #[.int .i64 0, .int .i64 0, .int .i64 0, .int .i64 0, .int .i64 0, .int .i64 0, .int .i64 0] 54)
  have A0 := At.new w (RL7 0 0 0 0 0 0 0) 54
  have V0 := hv.on b0
  have R0 := hR.below (b0.mono hB)
  have hB0 : B ≤ (w.alloc (.cells #[.int .i64 0, .int .i64 0, .int .i64 0, .int .i64 0, .int .i64 0, .int .i64 0, .int .i64 0] 54)).heap.size := by simp; omega
  clear hR hv
  cases hh : repOk zs
  · rw [repT_no hh]
    cases hr : helOk zs
    · have N := fun w V R hB => readWord_no (u := u) (v := v) a len cap B zs w V R hB hr hh
      clear hh hr
      go_enter_defers Tryd.func29, Tryd.ntmps29
      go_wp2_with fail
      generalize w.alloc (.cells #[.int .i64 0, .int .i64 0, .int .i64 0, .int .i64 0, .int .i64 0, .int .i64 0, .int .i64 0] 54) = W0 at *
      refine (N _ V0 R0 hB0).mono ?_
      rintro e u1 ⟨rfl, b1⟩
      refine leaves_cons (f := 48) (args := #[.pointer (some ⟨w.heap.size, 0, none⟩)]) (by simp) (by simp [go_sem]) ?_
      refine (catchReply_panic w.heap.size u v _ (A0.on b1)).mono ?_
      rintro e u' w2 ⟨rfl, rfl, A2, hk⟩
      have HB := Lib.hid (hk w (Nat.le_refl _) (btr b0 b1))
      have q0 := A2.cell 0 _ rfl
      have q1 := A2.cell 1 _ rfl
      have q2 := A2.cell 2 _ rfl
      have q3 := A2.cell 3 _ rfl
      have q4 := A2.cell 4 _ rfl
      have q5 := A2.cell 5 _ rfl
      have q6 := A2.cell 6 _ rfl
      simp [Leaves, settle, results, Tryd.results29, go_sem, q0, q1, q2, q3, q4, q5, q6]
      exact HB.out
    · have N := fun w R hB => readWord_hello a len cap B zs w R hB hr
      have ta : ∀ W : World, (Instr.typeAssert (.iface 26 (helV zs)) 67 49 true).run Tryd.prog W = .ok (.tuple #[.agg #[.int .i64 0, .int .i64 0, .int .i64 0, .int .i64 0, .int .i64 0, .int .i64 0], .bool false]) W := fun _ => by kernel_rfl
      generalize helV zs = VV at *
      clear hh hr
      go_enter_defers Tryd.func29, Tryd.ntmps29
      go_wp2_with fail
      generalize w.alloc (.cells #[.int .i64 0, .int .i64 0, .int .i64 0, .int .i64 0, .int .i64 0, .int .i64 0, .int .i64 0] 54) = W0 at *
      refine (N _ R0 hB0).mono ?_
      rintro e u1 ⟨rfl, b1⟩
      have hc := (V0.on b1).cell
      go_wp2_with fail
      refine leaves_cons (f := 48) (args := #[.pointer (some ⟨w.heap.size, 0, none⟩)]) (by simp) (by simp [go_sem]) ?_
      refine (catchReply_panic w.heap.size u v _ (A0.on b1)).mono ?_
      rintro e u' w2 ⟨rfl, rfl, A2, hk⟩
      have HB := Lib.hid (hk w (Nat.le_refl _) (btr b0 b1))
      have q0 := A2.cell 0 _ rfl
      have q1 := A2.cell 1 _ rfl
      have q2 := A2.cell 2 _ rfl
      have q3 := A2.cell 3 _ rfl
      have q4 := A2.cell 4 _ rfl
      have q5 := A2.cell 5 _ rfl
      have q6 := A2.cell 6 _ rfl
      simp [Leaves, settle, results, Tryd.results29, go_sem, q0, q1, q2, q3, q4, q5, q6]
      exact HB.out
  · rw [repT_yes hh]
    have N := fun w R hB => readWord_reply a len cap B zs w R hB hh
    have ta : ∀ W : World, (Instr.typeAssert (.iface 49 (repV zs)) 67 49 true).run Tryd.prog W = .ok (.tuple #[repV zs, .bool true]) W := fun _ => by kernel_rfl
    unfold repV at *
    generalize tw zs 1 = y1 at *
    generalize tw zs 3 = y3 at *
    generalize tw zs 5 = y5 at *
    generalize tw zs 7 = y7 at *
    generalize tw zs 9 = y9 at *
    generalize tw zs 11 = y11 at *
    clear hh
    go_enter_defers Tryd.func29, Tryd.ntmps29
    go_wp2_with fail
    generalize w.alloc (.cells #[.int .i64 0, .int .i64 0, .int .i64 0, .int .i64 0, .int .i64 0, .int .i64 0, .int .i64 0] 54) = W0 at *
    refine (N _ R0 hB0).mono ?_
    rintro e u1 ⟨rfl, b1⟩
    have lt1 : w.heap.size < u1.heap.size := (A0.on b1).lt (by simp)
    have p0 := (A0.on b1).cell 0 _ rfl
    have p1 := (A0.on b1).cell 1 _ rfl
    have p2 := (A0.on b1).cell 2 _ rfl
    have p3 := (A0.on b1).cell 3 _ rfl
    have p4 := (A0.on b1).cell 4 _ rfl
    have p5 := (A0.on b1).cell 5 _ rfl
    have p6 := (A0.on b1).cell 6 _ rfl
    have z0 := (A0.on b1).free 0 _ rfl
    have z1 := (A0.on b1).free 1 _ rfl
    have z2 := (A0.on b1).free 2 _ rfl
    have z3 := (A0.on b1).free 3 _ rfl
    have z4 := (A0.on b1).free 4 _ rfl
    have z5 := (A0.on b1).free 5 _ rfl
    have z6 := (A0.on b1).free 6 _ rfl
    have A9 := ((((((((A0.on b1).set 0 (.int .i64 0)).set 1 (.int .i64 y1)).set 2 (.int .i64 y3)).set 3 (.int .i64 y5)).set 4 (.int .i64 y7)).set 5 (.int .i64 y9)).set 6 (.int .i64 y11)).alloc (.cells #[.int .i64 y1, .int .i64 y3, .int .i64 y5, .int .i64 y7, .int .i64 y9, .int .i64 y11] 49)
    have q0 := A9.cell 0 _ rfl
    have q1 := A9.cell 1 _ rfl
    have q2 := A9.cell 2 _ rfl
    have q3 := A9.cell 3 _ rfl
    have q4 := A9.cell 4 _ rfl
    have q5 := A9.cell 5 _ rfl
    have q6 := A9.cell 6 _ rfl
    have HB := Lib.hid (bal (bset (bset (bset (bset (bset (bset (bset (btr b0 b1) (p := ⟨w.heap.size, 0, none⟩) (Nat.le_refl _) (.int .i64 0)) (p := ⟨w.heap.size, 1, none⟩) (Nat.le_refl _) (.int .i64 y1)) (p := ⟨w.heap.size, 2, none⟩) (Nat.le_refl _) (.int .i64 y3)) (p := ⟨w.heap.size, 3, none⟩) (Nat.le_refl _) (.int .i64 y5)) (p := ⟨w.heap.size, 4, none⟩) (Nat.le_refl _) (.int .i64 y7)) (p := ⟨w.heap.size, 5, none⟩) (Nat.le_refl _) (.int .i64 y9)) (p := ⟨w.heap.size, 6, none⟩) (Nat.le_refl _) (.int .i64 y11)) (.cells #[.int .i64 y1, .int .i64 y3, .int .i64 y5, .int .i64 y7, .int .i64 y9, .int .i64 y11] 49))
    clear A0 A9 b0 b1 V0 R0 N
    go_wp2_with fail
    refine leaves_cons (f := 48) (args := #[.pointer (some ⟨w.heap.size, 0, none⟩)]) (by simp) (by simp [go_sem]) ?_
    refine (catchReply_idle _ _).mono ?_
    rintro e u' w2 ⟨rfl, rfl, rfl⟩
    simp [Leaves, settle, results, Tryd.results29, go_sem, q0, q1, q2, q3, q4, q5, q6]
    exact HB.out
end Go.Proofs.YtepailfhagaboaaDoor
namespace Go.Proofs.YtepailfhagaboaaDoor
open Go.RowKit
set_option maxRecDepth 100000
set_option linter.unusedVariables false

theorem sigF_eq (p q : Int) : (M.sigF p q == 0) = M.sigB p q := by
  unfold M.sigF
  cases M.sigB p q <;> rfl
theorem l3Read_any (a : Option Addr) (len cap B : Nat) (zs : List Int) (w : World) (hR : Row .u8 w B a len cap zs) (hB : B ≤ w.heap.size) :
    Calls Tryd.prog 68 #[.slice a len cap] w fun r w' => r = .returned (.tuple #[(if zs.length = 4 then I2 (M.readP zs) (M.readQ zs) else I2 0 0), .bool (M.readB zs)]) ∧ Below w.heap.size w w' := by
  have hlen := hR.fits
  have hmost := hR.most
  have hm2 := hmost
  unfold maxLen at hm2
  by_cases h4 : len = 4
  · subst h4
    obtain ⟨b, off, x, y, u, v, rfl, rfl, d0, d1, d2, d3, x0, x1, y0, y1, u0, u1, v0, v1⟩ := row_four hR
    have eP : M.readP [x, y, u, v] = 256 * x + y := by simp [M.readP]
    have eQ : M.readQ [x, y, u, v] = 256 * u + v := by simp [M.readQ]
    have eB : M.readB [x, y, u, v] = M.sigB (256 * x + y) (256 * u + v) := by simp only [M.readB, eP, eQ]; rfl
    rw [eP, eQ, eB, ← sigF_eq, if_pos (show [x, y, u, v].length = 4 from rfl)]
    clear eP eQ eB hR
    have T1 := fun (w' : World) d0 d1 => l1At_any b off 4 cap 0 x y w' (by omega) (by omega) hlen hmost d0 d1 x0 x1 y0 y1
    have T2 := fun (w' : World) d2 d3 => l1At_any b off 4 cap 2 u v w' (by omega) (by omega) hlen hmost d2 d3 u0 u1 v0 v1
    have hb0 := bal (Below.refl _ w) (.cells #[.int .i64 0, .int .i64 0] 47)
    have hR0 := Res2.new w 47
    go_enter Tryd.func68, Tryd.ntmps68
    go_wp2_with fail
    refine (T1 _ (cell_keep hb0 d0) (cell_keep hb0 d1)).mono ?_
    rintro r w1 ⟨rfl, h1⟩
    have b1 := btr hb0 h1
    have hR1 := hR0.on h1
    clear h1 hb0 hR0 T1
    go_wp2_with fail
    refine (T2 _ (cell_keep b1 d2) (cell_keep b1 d3)).mono ?_
    rintro r w2 ⟨rfl, h2⟩
    have b2 := btr b1 h2
    have hR2 := hR1.on h2
    clear h2 b1 hR1 T2 d0 d1 d2 d3
    have k0 : (w2.alloc (.cells #[.int .i64 (256 * x + y), .int .i64 (256 * u + v)] 47)).cell? ⟨w2.heap.size, 0, none⟩ = some (.int .i64 (256 * x + y)) := by go_simp
    have k1 : (w2.alloc (.cells #[.int .i64 (256 * x + y), .int .i64 (256 * u + v)] 47)).cell? ⟨w2.heap.size, 1, none⟩ = some (.int .i64 (256 * u + v)) := by go_simp
    have hR3 := hR2.on (bal (Below.refl _ _) (.cells #[.int .i64 (256 * x + y), .int .i64 (256 * u + v)] 47))
    have b3 := bal b2 (.cells #[.int .i64 (256 * x + y), .int .i64 (256 * u + v)] 47)
    have hne : w.heap.size < w2.heap.size := cell_lt hR2.c0
    clear b2 hR2
    go_wp2_with fail
    generalize w2.alloc (.cells #[.int .i64 (256 * x + y), .int .i64 (256 * u + v)] 47) = v2 at *
    have T0 : SigAt w w2.heap.size (256 * x + y) (256 * u + v) v2.drew := ⟨b3.drew, k0, k1⟩
    refine wp_region_line (SigAt w w2.heap.size (256 * x + y) (256 * u + v)) [(0, true), (1, false), (2, true), (3, false), (4, true)] (by kernel_rfl) (by kernel_rfl) (fun _ _ d _ _ h => by cases d <;> exact h) T0 ?_
    have hst := T0
    have hRV : Res2 w.heap.size v2.drew := hR3.on (bdrew _)
    clear T0 hR3 k0 k1 b3
    generalize v2.drew = V at *
    have inst : Nonempty (Of (SigAt w w2.heap.size (256 * x + y) (256 * u + v))) := ⟨⟨_, hst⟩⟩
    have q8 : ∀ z : Of (SigAt w w2.heap.size (256 * x + y) (256 * u + v)), z.val.cell? ⟨w2.heap.size, 0, none⟩ = some (.int .i64 (256 * x + y)) := fun z => z.prop.c0
    have q9 : ∀ z : Of (SigAt w w2.heap.size (256 * x + y) (256 * u + v)), z.val.cell? ⟨w2.heap.size, 1, none⟩ = some (.int .i64 (256 * u + v)) := fun z => z.prop.c1
    iterate 1 (refine line_read rfl (by kernel_rfl) (fun K hK => ?_); go_big_quiet_op; refine hK _ ?_; clear hK K)
    refine line_alone rfl (by kernel_rfl) (fun K hK => ?_)
    refine call_wp (args := #[.pointer (some ⟨w2.heap.size, 0, none⟩)]) rfl (by kernel_rfl) (by kernel_rfl) (l3Fault_any _ _ _ _ hst.c0 hst.c1) (fun wn hbn => ?_)
    subst hbn
    refine hK _ _ hst ?_
    clear hK K
    simp only [Act.put, List.setIfInBounds_toArray, List.set_cons_zero, List.set_cons_succ]
    iterate 1 (refine line_read rfl (by kernel_rfl) (fun K hK => ?_); go_big_quiet_op; refine hK _ ?_; clear hK K)
    obtain ⟨q0, q1, z0, z1⟩ := hRV
    refine line_alone rfl (by kernel_rfl) (fun K hK => ?_)
    go_big_op
    refine hK _ _ (hst.set hne) ?_
    clear hK K
    iterate 1 (refine line_read rfl (by kernel_rfl) (fun K hK => ?_); go_big_quiet_op; refine hK _ ?_; clear hK K)
    refine line_nil ?_
    go_wp2_with fail
    exact bodyPost_ret (v := .tuple #[I2 (256 * x + y) (256 * u + v), .bool (M.sigF (256 * x + y) (256 * u + v) == 0)]) (by simp [results, Tryd.results68, go_sem, q0, q1]) rfl ⟨rfl, bset (bset hst.bel (Nat.le_refl _) _) (Nat.le_refl _) _⟩
  · have e4 : ((len : Int) == 4) = false := by rw [beq_eq_false_iff_ne]; omega
    have hl : ¬ zs.length = 4 := by rw [hR.length]; exact h4
    have eB : M.readB zs = false := by simp [M.readB, hl]
    rw [eB, if_neg hl]
    clear h4 eB hl
    go_enter Tryd.func68, Tryd.ntmps68
    go_wp2_with fail
    exact bodyPost_ret (v := .tuple #[I2 0 0, .bool false]) (by simp [results, Tryd.results68, go_sem]) rfl ⟨rfl, bal (Below.refl _ _) _⟩
end Go.Proofs.YtepailfhagaboaaDoor
namespace Go.Proofs.YtepailfhagaboaaDoor
open Go.RowKit
set_option maxRecDepth 100000
set_option linter.unusedVariables false

/-- A value lies in a block of its own. -/
def CellsAt (V : World) (cs : List Value) (v : Value) (wx : World) : Prop := ∃ g, v = .pointer (some ⟨g, 0, none⟩) ∧ At g cs wx ∧ Below V.heap.size V wx ∧ V.heap.size ≤ g
def HelRead (zs : List Int) (w : World) (e : Ending) (w' : World) : Prop := ∃ r s n, e = .returned (.tuple #[H3 r s n, .bool (helOk zs)]) ∧ (helOk zs = true → r = tw zs 1 ∧ s = tw zs 3 ∧ n = M.bs (helNm zs)) ∧ Below w.heap.size w w'
def RepRead (zs : List Int) (w : World) (e : Ending) (w' : World) : Prop := ∃ r s p x y f, e = .returned (.tuple #[R6 r s p x y f, .bool (repOk zs)]) ∧ (repOk zs = true → r = tw zs 1 ∧ s = tw zs 3 ∧ p = tw zs 5 ∧ x = tw zs 7 ∧ y = tw zs 9 ∧ f = tw zs 11) ∧ Below w.heap.size w w'

theorem l6ReadHello_any (a : Option Addr) (len cap B : Nat) (zs : List Int) (w : World) (hR : Row .u8 w B a len cap zs) (hB : B ≤ w.heap.size) :
    Calls Tryd.prog 39 #[.slice a len cap] w (HelRead zs w) := by
  have hlen := hR.fits
  have hmost := hR.most
  have hzl := hR.length
  have hm2 := hmost
  unfold maxLen at hm2
  have b0 := bal (Below.refl _ w) (.cells #[.int .i64 0, .int .i64 0, .string { data := #[] }] 26)
  have A0 := At.new w (HL3 0 0 { data := #[] }) 26
  by_cases h6 : len < 6
  · have hno := helOk_short (zs := zs) (by omega)
    have F : HelRead zs w (.returned (.tuple #[H3 0 0 { data := #[] }, .bool false])) (w.alloc (.cells #[.int .i64 0, .int .i64 0, .string { data := #[] }] 26)) := ⟨_, _, _, by rw [hno], (fun h => by rw [hno] at h; cases h), b0⟩
    have h6' : (len : Int) < 6 := by omega
    clear hR hno
    go_enter Tryd.func39, Tryd.ntmps39
    go_wp2_with fail
    exact bodyPost_ret (v := .tuple #[H3 0 0 { data := #[] }, .bool false]) (by simp [results, Tryd.results39, go_sem]) rfl F
  obtain ⟨b, off, rfl, hb, hc⟩ := hR.cells (by omega)
  have d0 := cell_keep b0 (hc 0 (by omega))
  rw [Nat.add_zero] at d0
  have h6' : ¬ (len : Int) < 6 := by omega
  by_cases hz1 : zs.getD 0 0 = 1
  · have d1 := cell_keep b0 (hc 1 (by omega))
    have d2 := cell_keep b0 (hc 2 (by omega))
    have d3 := cell_keep b0 (hc 3 (by omega))
    have d4 := cell_keep b0 (hc 4 (by omega))
    have R1 := hR.below (b0.mono hB)
    have hWB : B ≤ (w.alloc (.cells #[.int .i64 0, .int .i64 0, .string { data := #[] }] 26)).heap.size := by simp; omega
    have hsub := fun (w' : World) (R : Row .u8 w' B (some ⟨b, off, none⟩) len cap zs) => conv_row (R.sub 5 (len - 5) (cap - 5) (by omega) (by omega) (by omega))
    have edrop : (zs.drop 5).take (len - 5) = zs.drop 5 := List.take_of_length_le (by simp; omega)
    simp only [edrop, helNm_str] at hsub
    have T1 := fun (w' : World) d c => l1At_any b off len cap 1 (zs.getD 1 0) (zs.getD 2 0) w' (by omega) (by omega) hlen hmost d c (hR.byte 1).1 (hR.byte 1).2 (hR.byte 2).1 (hR.byte 2).2
    have T2 := fun (w' : World) d c => l1At_any b off len cap 3 (zs.getD 3 0) (zs.getD 4 0) w' (by omega) (by omega) hlen hmost d c (hR.byte 3).1 (hR.byte 3).2 (hR.byte 4).1 (hR.byte 4).2
    have hF := fun g w A => l6Hello_any g (tw zs 1) (tw zs 3) (M.bs (helNm zs)) w A (helNm_size maxLen (by omega))
    rw [M.bs_list] at hF
    have hOk : helOk zs = (helF (helNm zs) (tw zs 1) (tw zs 3) == 0) := by
      unfold helOk helB
      rw [hz1, decide_eq_true (show 5 ≤ zs.length by omega)]
      simp
      rw [Bool.eq_iff_iff]
      simp
    have HP : ∀ w' : World, Below w.heap.size w w' → HelRead zs w (.returned (.tuple #[H3 (tw zs 1) (tw zs 3) (M.bs (helNm zs)), .bool (helF (helNm zs) (tw zs 1) (tw zs 3) == 0)])) w' := fun w' hb => ⟨_, _, _, by rw [hOk], fun _ => ⟨rfl, rfl, rfl⟩, hb⟩
    have e1 : tw zs 1 = 256 * zs.getD 1 0 + zs.getD 2 0 := rfl
    have e3 : tw zs 3 = 256 * zs.getD 3 0 + zs.getD 4 0 := rfl
    rw [← e1] at T1
    rw [← e3] at T2
    rw [hz1] at d0
    clear e1 e3 hOk
    generalize HQ : HelRead zs w = Q at *
    clear HQ
    generalize helF (helNm zs) (tw zs 1) (tw zs 3) = cd at *
    generalize M.bs (helNm zs) = N at *
    generalize tw zs 1 = y1 at *
    generalize tw zs 3 = y3 at *
    clear hR hc edrop hmost
    go_enter Tryd.func39, Tryd.ntmps39
    go_upto_region 3 with fail
    generalize w.alloc (.cells #[.int .i64 0, .int .i64 0, .string { data := #[] }] 26) = W0 at *
    go_cut [4] from 15 to 23 (fun v' wx => CellsAt W0 [.int .i64 y1, .int .i64 y3, .string N] v' wx)
    case first =>
      refine wp_region_fork (Bel W0) (by kernel_rfl) (Bel.drew W0) ?_
      have hst : (Bel W0) _ := (Bel.drew W0)
      have inst : Nonempty (Of (Bel W0)) := ⟨⟨_, hst⟩⟩
      have cv : ∀ z : Of (Bel W0), (convert 29 9 (.slice (some ⟨b, off + 5, none⟩) (len - 5) (cap - 5))).run Tryd.prog z.val = .ok (.string N) z.val := fun z => hsub _ (R1.below (z.prop.out.mono hWB))
      generalize W0.drew = V1 at *
      refine any_seg 5 [(0, true), (2, true), (4, true), (5, true), (6, true)] (by kernel_rfl) (fun _ _ d _ _ h => by cases d <;> exact h) ?_
      iterate 5 (refine line_read rfl (by kernel_rfl) (fun K hK => ?_); go_big_quiet_op; refine hK _ ?_; clear hK K)
      refine line_nil ?_
      clear cv
      refine any_fork 1 8 (by kernel_rfl) rfl rfl (by kernel_rfl) (by kernel_rfl) (fun K hK => ?_) (fun K hK => ?_)
      · refine call_any (args := #[.slice (some ⟨b, off, none⟩) len cap, .int .i64 1]) rfl (by kernel_rfl) (by kernel_rfl) (T1 _ (cell_keep hst.out d1) (cell_keep hst.out d2)) ?_
        rintro e x0 ⟨rfl, hbn⟩
        have hst2 := hst.on hbn
        refine ⟨_, rfl, hK _ _ hst2 ?_⟩
        clear hK K hst hbn
        have hst := hst2
        clear hst2
        simp only [Act.put, List.setIfInBounds_toArray, List.set_cons_zero, List.set_cons_succ]
        refine any_fork 3 8 (by kernel_rfl) rfl rfl (by kernel_rfl) (by kernel_rfl) (fun K hK => ?_) (fun K hK => ?_)
        · refine call_any (args := #[.slice (some ⟨b, off, none⟩) len cap, .int .i64 3]) rfl (by kernel_rfl) (by kernel_rfl) (T2 _ (cell_keep hst.out d3) (cell_keep hst.out d4)) ?_
          rintro e x1 ⟨rfl, hbn⟩
          have hst2 := hst.on hbn
          refine ⟨_, rfl, hK _ _ hst2 ?_⟩
          clear hK K hst hbn
          have hst := hst2
          clear hst2
          simp only [Act.put, List.setIfInBounds_toArray, List.set_cons_zero, List.set_cons_succ]
          refine any_rest [(7, true), (8, false), (9, false)] (by kernel_rfl) (fun _ _ d _ _ h => by cases d <;> exact h) ?_
          refine line_readv (v := H3 y1 y3 N) rfl (by kernel_rfl) (fun _ => by kernel_rfl) ?_
          simp only [Act.put, List.setIfInBounds_toArray, List.set_cons_zero, List.set_cons_succ]
          refine line_alone rfl (by kernel_rfl) (fun K hK => ?_)
          go_big_op
          have hst2 := hst.on (bal (Below.refl _ x1) (.cells #[.int .i64 0, .int .i64 0, .string { data := #[] }] 26))
          have A := At.new x1 [.int .i64 0, .int .i64 0, .string { data := #[] }] 26
          have leA : W0.heap.size ≤ x1.heap.size := hst.out.size
          refine hK _ _ hst2 ?_
          clear hK K hst
          have hst := hst2
          clear hst2
          generalize x1.alloc (.cells #[.int .i64 0, .int .i64 0, .string { data := #[] }] 26) = xa at *
          have p0 := A.cell 0 _ rfl
          have p1 := A.cell 1 _ rfl
          have p2 := A.cell 2 _ rfl
          have f0 := A.free 0 _ rfl
          have f1 := A.free 1 _ rfl
          have f2 := A.free 2 _ rfl
          refine line_alone rfl (by kernel_rfl) (fun K hK => ?_)
          go_big_op
          refine hK _ _ (⟨(by (iterate 3 (refine bset ?_ (by dsimp only; omega) _)); exact hst.out)⟩) ?_
          clear hK K
          have A9 := (((A.set 0 (.int .i64 y1)).set 1 (.int .i64 y3)).set 2 (.string N))
          refine line_nil ?_
          go_wp2_with fail
          go_meet
          case rel => exact ⟨_, rfl, A9, (by (iterate 3 (refine bset ?_ (by dsimp only; omega) _)); exact hst.out), leA⟩
        · go_big_op
          have hst2 := hst.on (bal (Below.refl _ x0) (.cells #[.int .i64 0, .int .i64 0, .string { data := #[] }] 26))
          have A := At.new x0 [.int .i64 0, .int .i64 0, .string { data := #[] }] 26
          have leA : W0.heap.size ≤ x0.heap.size := hst.out.size
          refine hK _ _ hst2 ?_
          clear hK K hst
          have hst := hst2
          clear hst2
          generalize x0.alloc (.cells #[.int .i64 0, .int .i64 0, .string { data := #[] }] 26) = xa at *
          refine any_rest [(3, false), (7, true), (9, false)] (by kernel_rfl) (fun _ _ d _ _ h => by cases d <;> exact h) ?_
          refine line_alone rfl (by kernel_rfl) (fun K hK => ?_)
          refine call_any (args := #[.slice (some ⟨b, off, none⟩) len cap, .int .i64 3]) rfl (by kernel_rfl) (by kernel_rfl) (T2 _ (cell_keep hst.out d3) (cell_keep hst.out d4)) ?_
          rintro e kw1 ⟨rfl, hbn⟩
          have hst2 := hst.on hbn
          have A2 := A.on hbn
          clear A
          have A := A2
          clear A2
          refine ⟨_, rfl, hK _ _ hst2 ?_⟩
          clear hK K hst hbn
          have hst := hst2
          clear hst2
          simp only [Act.put, List.setIfInBounds_toArray, List.set_cons_zero, List.set_cons_succ]
          refine line_readv (v := H3 y1 y3 N) rfl (by kernel_rfl) (fun _ => by kernel_rfl) ?_
          simp only [Act.put, List.setIfInBounds_toArray, List.set_cons_zero, List.set_cons_succ]
          have p0 := A.cell 0 _ rfl
          have p1 := A.cell 1 _ rfl
          have p2 := A.cell 2 _ rfl
          have f0 := A.free 0 _ rfl
          have f1 := A.free 1 _ rfl
          have f2 := A.free 2 _ rfl
          refine line_alone rfl (by kernel_rfl) (fun K hK => ?_)
          go_big_op
          refine hK _ _ (⟨(by (iterate 3 (refine bset ?_ (by dsimp only; omega) _)); exact hst.out)⟩) ?_
          clear hK K
          have A9 := (((A.set 0 (.int .i64 y1)).set 1 (.int .i64 y3)).set 2 (.string N))
          refine line_nil ?_
          go_wp2_with fail
          go_meet
          case rel => exact ⟨_, rfl, A9, (by (iterate 3 (refine bset ?_ (by dsimp only; omega) _)); exact hst.out), leA⟩
      · go_big_op
        have hst2 := hst.on (bal (Below.refl _ V1) (.cells #[.int .i64 0, .int .i64 0, .string { data := #[] }] 26))
        have A := At.new V1 [.int .i64 0, .int .i64 0, .string { data := #[] }] 26
        have leA : W0.heap.size ≤ V1.heap.size := hst.out.size
        refine hK _ _ hst2 ?_
        clear hK K hst
        have hst := hst2
        clear hst2
        generalize V1.alloc (.cells #[.int .i64 0, .int .i64 0, .string { data := #[] }] 26) = xa at *
        refine any_rest [(1, false), (3, false), (7, true), (9, false)] (by kernel_rfl) (fun _ _ d _ _ h => by cases d <;> exact h) ?_
        refine line_alone rfl (by kernel_rfl) (fun K hK => ?_)
        refine call_any (args := #[.slice (some ⟨b, off, none⟩) len cap, .int .i64 1]) rfl (by kernel_rfl) (by kernel_rfl) (T1 _ (cell_keep hst.out d1) (cell_keep hst.out d2)) ?_
        rintro e kw0 ⟨rfl, hbn⟩
        have hst2 := hst.on hbn
        have A2 := A.on hbn
        clear A
        have A := A2
        clear A2
        refine ⟨_, rfl, hK _ _ hst2 ?_⟩
        clear hK K hst hbn
        have hst := hst2
        clear hst2
        simp only [Act.put, List.setIfInBounds_toArray, List.set_cons_zero, List.set_cons_succ]
        refine line_alone rfl (by kernel_rfl) (fun K hK => ?_)
        refine call_any (args := #[.slice (some ⟨b, off, none⟩) len cap, .int .i64 3]) rfl (by kernel_rfl) (by kernel_rfl) (T2 _ (cell_keep hst.out d3) (cell_keep hst.out d4)) ?_
        rintro e kw1 ⟨rfl, hbn⟩
        have hst2 := hst.on hbn
        have A2 := A.on hbn
        clear A
        have A := A2
        clear A2
        refine ⟨_, rfl, hK _ _ hst2 ?_⟩
        clear hK K hst hbn
        have hst := hst2
        clear hst2
        simp only [Act.put, List.setIfInBounds_toArray, List.set_cons_zero, List.set_cons_succ]
        refine line_readv (v := H3 y1 y3 N) rfl (by kernel_rfl) (fun _ => by kernel_rfl) ?_
        simp only [Act.put, List.setIfInBounds_toArray, List.set_cons_zero, List.set_cons_succ]
        have p0 := A.cell 0 _ rfl
        have p1 := A.cell 1 _ rfl
        have p2 := A.cell 2 _ rfl
        have f0 := A.free 0 _ rfl
        have f1 := A.free 1 _ rfl
        have f2 := A.free 2 _ rfl
        refine line_alone rfl (by kernel_rfl) (fun K hK => ?_)
        go_big_op
        refine hK _ _ (⟨(by (iterate 3 (refine bset ?_ (by dsimp only; omega) _)); exact hst.out)⟩) ?_
        clear hK K
        have A9 := (((A.set 0 (.int .i64 y1)).set 1 (.int .i64 y3)).set 2 (.string N))
        refine line_nil ?_
        go_wp2_with fail
        go_meet
        case rel => exact ⟨_, rfl, A9, (by (iterate 3 (refine bset ?_ (by dsimp only; omega) _)); exact hst.out), leA⟩
    case rest =>
      obtain ⟨g, rfl, A1, b1, hg⟩ := hcut
      have ltA := A1.lt (by simp)
      have lt0 : w.heap.size < W0.heap.size := A0.lt (by simp)
      go_wp2_with fail
      have S0 : Hold w g [.int .i64 y1, .int .i64 y3, .string N] wc.drew := ⟨(btr b0 b1).drew, A1.on (bdrew wc)⟩
      have AA := (A0.on b1).on (bdrew wc)
      refine wp_region_line (Hold w g [.int .i64 y1, .int .i64 y3, .string N]) [(0, true), (1, false), (2, true), (3, false), (4, true)] (by kernel_rfl) (by kernel_rfl) (fun _ _ d _ _ h => by cases d <;> exact h) S0 ?_
      have hst := S0
      have inst : Nonempty (Of (Hold w g [.int .i64 y1, .int .i64 y3, .string N])) := ⟨⟨_, hst⟩⟩
      have q0 := hold_cell (W := w) (g := g) (cs := [.int .i64 y1, .int .i64 y3, .string N]) 0 _ rfl
      have q1 := hold_cell (W := w) (g := g) (cs := [.int .i64 y1, .int .i64 y3, .string N]) 1 _ rfl
      have q2 := hold_cell (W := w) (g := g) (cs := [.int .i64 y1, .int .i64 y3, .string N]) 2 _ rfl
      clear S0 A1 A0 b1 b0
      generalize wc.drew = V2 at *
      iterate 1 (refine line_read rfl (by kernel_rfl) (fun K hK => ?_); go_big_quiet_op; refine hK _ ?_; clear hK K)
      clear q0 q1 q2
      refine line_alone rfl (by kernel_rfl) (fun K hK => ?_)
      refine call_any (args := #[.pointer (some ⟨g, 0, none⟩)]) rfl (by kernel_rfl) (by kernel_rfl) (hF _ _ hst.at') ?_
      rintro e x9 ⟨rfl, hbn⟩
      have hst2 := hst.on hbn
      have AA2 := AA.on hbn
      refine ⟨_, rfl, hK _ _ hst2 ?_⟩
      clear hK K hst hbn AA
      have hst := hst2
      clear hst2
      simp only [Act.put, List.setIfInBounds_toArray, List.set_cons_zero, List.set_cons_succ]
      iterate 1 (refine line_read rfl (by kernel_rfl) (fun K hK => ?_); go_big_quiet_op; refine hK _ ?_; clear hK K)
      have p0 := AA2.cell 0 _ rfl
      have p1 := AA2.cell 1 _ rfl
      have p2 := AA2.cell 2 _ rfl
      have z0 := AA2.free 0 _ rfl
      have z1 := AA2.free 1 _ rfl
      have z2 := AA2.free 2 _ rfl
      refine line_alone rfl (by kernel_rfl) (fun K hK => ?_)
      go_big_op
      refine hK _ _ ((by (iterate 3 (refine Hold.setB ?_ (by dsimp only; omega) (by dsimp only; omega) _)); exact hst)) ?_
      clear hK K
      iterate 1 (refine line_read rfl (by kernel_rfl) (fun K hK => ?_); go_big_quiet_op; refine hK _ ?_; clear hK K)
      refine line_nil ?_
      have HB := Lib.hid hst.bel
      clear hst inst AA2
      go_wp2_with fail
      refine bodyPost_ret (v := .tuple #[H3 y1 y3 N, .bool (cd == 0)]) (by simp [results, Tryd.results39, go_sem, p0, p1, p2]) rfl (HP _ ?_)
      exact (by (iterate 3 (refine bset ?_ (by dsimp only; omega) _)); exact HB.out)
  · have hno : helOk zs = false := by simp only [helOk, decide_eq_false hz1, Bool.and_false, Bool.false_and]
    have F : HelRead zs w (.returned (.tuple #[H3 0 0 { data := #[] }, .bool false])) (w.alloc (.cells #[.int .i64 0, .int .i64 0, .string { data := #[] }] 26)) := ⟨_, _, _, by rw [hno], (fun h => by rw [hno] at h; cases h), b0⟩
    have q1 : (zs.getD 0 0 != 1) = true := by simpa using hz1
    generalize zs.getD 0 0 = z at *
    clear hR hc hno
    go_enter Tryd.func39, Tryd.ntmps39
    go_wp2_with fail
    exact bodyPost_ret (v := .tuple #[H3 0 0 { data := #[] }, .bool false]) (by simp [results, Tryd.results39, go_sem]) rfl F
theorem specReadHello_any (a : Option Addr) (len cap B : Nat) (zs : List Int) (w : World) (hR : Row .u8 w B a len cap zs) (hB : B ≤ w.heap.size) :
    Calls Tryd.prog 18 #[.slice a len cap] w fun e w' => e = .returned (helT zs) ∧ Below w.heap.size w w' := by
  have b0 := bal (Below.refl _ w) (.cells #[.int .i64 0, .int .i64 0, .int .i64 0, .string { data := #[] }] 36)
  have A0 := At.new w (HL4 0 0 0 { data := #[] }) 36
  have F := fun w R hB => l6ReadHello_any a len cap B zs w R hB
  have R0 := hR.below (b0.mono hB)
  have hB0 : B ≤ (w.alloc (.cells #[.int .i64 0, .int .i64 0, .int .i64 0, .string { data := #[] }] 36)).heap.size := by simp; omega
  clear hR
  cases hh : helOk zs
  · rw [helT_no hh]
    go_enter Tryd.func18, Tryd.ntmps18
    go_wp2_with fail
    generalize w.alloc (.cells #[.int .i64 0, .int .i64 0, .int .i64 0, .string { data := #[] }] 36) = W0 at *
    refine (F _ R0 hB0).mono ?_
    rintro e u1 ⟨r, s, n, rfl, hv, b1⟩
    rw [hh] at hv ⊢
    have lt1 : w.heap.size < u1.heap.size := (A0.on b1).lt (by simp)
    have b2 := bal b1 (.cells #[.int .i64 r, .int .i64 s, .string n] 26)
    have p0 := (A0.on b1).cell 0 _ rfl
    have p1 := (A0.on b1).cell 1 _ rfl
    have p2 := (A0.on b1).cell 2 _ rfl
    have p3 := (A0.on b1).cell 3 _ rfl
    have z0 := (A0.on b1).free 0 _ rfl
    have z1 := (A0.on b1).free 1 _ rfl
    have z2 := (A0.on b1).free 2 _ rfl
    have z3 := (A0.on b1).free 3 _ rfl
    have A9 := (((((A0.on b1).set 0 (.int .i64 5)).set 1 (.int .i64 0)).set 2 (.int .i64 0)).set 3 (.string { data := #[] })).alloc (.cells #[.int .i64 r, .int .i64 s, .string n] 26)
    have q0 := A9.cell 0 _ rfl
    have q1 := A9.cell 1 _ rfl
    have q2 := A9.cell 2 _ rfl
    have q3 := A9.cell 3 _ rfl
    have HB := Lib.hid (bal (bset (bset (bset (bset (btr b0 b1) (p := ⟨w.heap.size, 0, none⟩) (Nat.le_refl _) (.int .i64 5)) (p := ⟨w.heap.size, 1, none⟩) (Nat.le_refl _) (.int .i64 0)) (p := ⟨w.heap.size, 2, none⟩) (Nat.le_refl _) (.int .i64 0)) (p := ⟨w.heap.size, 3, none⟩) (Nat.le_refl _) (.string { data := #[] })) (.cells #[.int .i64 r, .int .i64 s, .string n] 26))
    clear A0 A9 b0 b1 b2 hv F R0
    go_wp2_with fail
    refine bodyPost_ret (v := H4 5 0 0 { data := #[] }) (by simp [results, Tryd.results18, go_sem, q0, q1, q2, q3]) rfl ⟨rfl, HB.out⟩
  · rw [helT_yes hh]
    go_enter Tryd.func18, Tryd.ntmps18
    go_wp2_with fail
    generalize w.alloc (.cells #[.int .i64 0, .int .i64 0, .int .i64 0, .string { data := #[] }] 36) = W0 at *
    refine (F _ R0 hB0).mono ?_
    rintro e u1 ⟨r, s, n, rfl, hv, b1⟩
    rw [hh] at hv ⊢
    have lt1 : w.heap.size < u1.heap.size := (A0.on b1).lt (by simp)
    have b2 := bal b1 (.cells #[.int .i64 r, .int .i64 s, .string n] 26)
    have p0 := (A0.on b1).cell 0 _ rfl
    have p1 := (A0.on b1).cell 1 _ rfl
    have p2 := (A0.on b1).cell 2 _ rfl
    have p3 := (A0.on b1).cell 3 _ rfl
    have z0 := (A0.on b1).free 0 _ rfl
    have z1 := (A0.on b1).free 1 _ rfl
    have z2 := (A0.on b1).free 2 _ rfl
    have z3 := (A0.on b1).free 3 _ rfl
    obtain ⟨rfl, rfl, rfl⟩ := hv rfl
    generalize eN : M.bs (helNm zs) = N at *
    generalize e1 : tw zs 1 = y1 at *
    generalize e3 : tw zs 3 = y3 at *
    have A9 := (((((A0.on b1).set 0 (.int .i64 0)).set 1 (.int .i64 y1)).set 2 (.int .i64 y3)).set 3 (.string N)).alloc (.cells #[.int .i64 y1, .int .i64 y3, .string N] 26)
    have q0 := A9.cell 0 _ rfl
    have q1 := A9.cell 1 _ rfl
    have q2 := A9.cell 2 _ rfl
    have q3 := A9.cell 3 _ rfl
    have HB := Lib.hid (bal (bset (bset (bset (bset (btr b0 b1) (p := ⟨w.heap.size, 0, none⟩) (Nat.le_refl _) (.int .i64 0)) (p := ⟨w.heap.size, 1, none⟩) (Nat.le_refl _) (.int .i64 y1)) (p := ⟨w.heap.size, 2, none⟩) (Nat.le_refl _) (.int .i64 y3)) (p := ⟨w.heap.size, 3, none⟩) (Nat.le_refl _) (.string N)) (.cells #[.int .i64 y1, .int .i64 y3, .string N] 26))
    clear A0 A9 b0 b1 b2 hv F R0
    go_wp2_with fail
    refine bodyPost_ret (v := H4 0 y1 y3 N) (by simp [results, Tryd.results18, go_sem, q0, q1, q2, q3]) rfl ⟨by rw [eN, e1, e3], HB.out⟩
end Go.Proofs.YtepailfhagaboaaDoor
namespace Go.Proofs.YtepailfhagaboaaDoor
open Go.ChangeShapes Go.WideShapes Go.ChangeAt Go.RowKit

theorem own : ownKnob Tryd.prog.godebug = none := by kernel_rfl
theorem laidOut : laidOutB Tryd.prog = true := by kernel_rfl

/-- Each named variable is there, and its type can be read. -/
def varsOk (P : Program) (names : List String) : Bool :=
  names.all fun n => match P.globalNamed n with
    | some g => match (P.globals[g]?).map (·.type) with
      | some t => P.readableRec t && decide (t < P.types.size)
      | Option.none => false
    | Option.none => false
theorem vars_keep {H : Type} {enc : TypeId × Value → H} {P : Program} (hl : laidOutB P = true) {W W' : World} (bel : Below W.heap.size W W') : ∀ (names : List String) (gs : List (DataW H)) (q : List MemPlace),
    varsOk P names = true → DataW.TrodVars enc P W (fun _ => true) names gs q → (∀ x ∈ q, x.block < W.heap.size) → DataW.TrodVars enc P W' (fun b => decide (b < W.heap.size)) names gs q
  | [], gs, q, _, h, _ => by
    obtain ⟨rfl, rfl⟩ := trodVars_none h
    exact rfl
  | n :: r, [], q, _, h, _ => by simp [DataW.TrodVars] at h
  | n :: r, d :: ds, q, hok, h, hlt => by
    obtain ⟨g, t, cs, fuel, p, q2, h1, h2, h3, h4, h5, rfl⟩ := h
    simp only [varsOk, List.all_cons, Bool.and_eq_true] at hok
    obtain ⟨ho, hor⟩ := hok
    simp only [h1, h2, Bool.and_eq_true, decide_eq_true_eq] at ho
    have hg : g < W.heap.size := by
      rcases Nat.lt_or_ge g W.heap.size with hlt | hge
      · exact hlt
      · simp [World.var?, h1, Array.getElem?_eq_none hge] at h3
    have hT : DataW.Trod enc P W 0 (fun _ => true) true t (.agg cs) d p := ⟨fuel, h4⟩
    obtain ⟨fuel', h4'⟩ := Below.trod hl ho.1 ho.2 hT bel (fun x hx => hlt x (by simp [hx]))
    exact ⟨g, t, cs, fuel', p, q2, h1, h2, var?_below bel h1 hg h3, h4', vars_keep hl bel r ds q2 hor h5 (fun x hx => hlt x (by simp [hx])), rfl⟩

/-- An array of words that reads as it is listed holds these words, cell for cell. -/
theorem cells_of_words {H : Type} {enc : TypeId × Value → H} {P : Program} {w : World} {base : Nat} {sp : Nat → Bool} {held : Bool} {fuel : Nat} {t e : TypeId} {n : Nat} {cs : List Value} {ss : List (List UInt8)} {p : List MemPlace}
    (ht : P.underlying t = some (.array n e)) (he : P.underlying e = some .string) (hce : P.cellsOf e = 1) (hct : P.cellsOf t = n)
    (h : DataW.trod enc P w base sp held fuel t cs = some (.agg (ss.map fun s => .lit (.string s)), p)) : cs = ss.map fun s => Value.string ⟨s.toArray⟩ := by
  cases fuel with
  | zero => simp [DataW.trod] at h
  | succ fuel =>
    simp only [DataW.trod, ht, hce, hct, Nat.mul_one] at h
    split at h
    · rename_i hl
      obtain ⟨xs, hm, hx⟩ := Option.map_eq_some_iff.1 h
      have hxs : xs.map (·.1) = ss.map fun s => (DataW.lit (.string s) : DataW H) := by
        have := congrArg Prod.fst hx
        simpa using this
      have hxl : xs.length = n := by simpa using Lib.mapM_length hm
      have hzl : ss.length = n := by
        have := congrArg List.length hxs
        simp at this
        omega
      apply List.ext_getElem?
      intro i
      by_cases hi : i < n
      · obtain ⟨b, hb, hf⟩ := Lib.mapM_at hm i i (by simp [hi])
        obtain ⟨s, hc, rfl, _⟩ := DataW.trod_string he hf
        have h1 : cs[i]? = some (.string s) := by
          have := congrArg (·[0]?) hc
          simpa [List.getElem?_take, List.getElem?_drop] using this
        have h2 : (xs.map (·.1))[i]? = some (DataW.lit (.string s.data.toList) : DataW H) := by simp [hb]
        rw [hxs] at h2
        simp only [List.getElem?_map, Option.map_eq_some_iff, DataW.lit.injEq, Lit.string.injEq] at h2
        obtain ⟨z', hz', e'⟩ := h2
        rw [h1]
        simp [hz', e']
      · rw [List.getElem?_eq_none (by omega), List.getElem?_eq_none (by simp; omega)]
    · cases h

theorem cWord : Tryd.prog.cellsOf 9 = 1 := by kernel_rfl
theorem gErrT : Tryd.prog.globalNamed "errors.errorType" = some 1 := by kernel_rfl
theorem rtErrT : (Tryd.prog.cutTypes.find? (·.1 == "internal/reflectlite.rtype")).map (·.2) = some 155 := by kernel_rfl
theorem rowErrT : ((List.range 216).filter fun t => Tryd.prog.rowNamed t [101, 114, 114, 111, 114]) = [70] := by kernel_rfl
theorem sizeErrT : Tryd.prog.types.size = 216 := by kernel_rfl
/-- What the listed handle gives a walk: the variable's one cell. -/
theorem ErrT_of {W : World} (h : handlesMet Tryd.prog [("errors.errorType", Rows.laid_errors_errorType)] W) : ErrT W := by
  obtain ⟨name, u, ty, e1, e2, e3, e4, e5⟩ := h _ (List.mem_singleton.2 rfl)
  have en : name = [101, 114, 114, 111, 114] := (Option.some.inj e1).symm
  subst en
  obtain rfl := Option.some.inj (rtErrT.symm.trans e2)
  have hm : ty ∈ (List.range 216).filter fun t => Tryd.prog.rowNamed t [101, 114, 114, 111, 114] := List.mem_filter.2 ⟨List.mem_range.2 (by rw [← sizeErrT]; exact e3), e4⟩
  rw [rowErrT] at hm
  obtain rfl := List.mem_singleton.1 hm
  have hh : typeHandle Tryd.prog 70 = .pointer (some ⟨6, 70, none⟩) := by kernel_rfl
  rw [hh] at e5
  exact ⟨by simpa using World.var?_cell gErrT e5 0⟩
theorem ErrT_laid {W : World} (h : laidMetH Tryd.prog [("errors.errorType", Rows.laid_errors_errorType)] W) : ErrT W := ErrT_of (show laidMet Tryd.prog [] W ∧ handlesMet Tryd.prog [("errors.errorType", Rows.laid_errors_errorType)] W from h).2
/-- A world for the witness: the settled one, its tables holding what their initialisers lay. -/
noncomputable def laidWorld (os : Os) : World :=
  { World.holding Tryd.prog os ⟨#[], #[], []⟩ with heap := ((World.holding Tryd.prog os ⟨#[], #[], []⟩).heap
       |>.modify 1 (fun | .cells _ t frozen => .cells #[.iface 155 (.agg #[.pointer (some ⟨6, 70, none⟩)])] t frozen | o => o)
    ) }
end Go.Proofs.YtepailfhagaboaaDoor
namespace Go.Proofs.YtepailfhagaboaaDoor
open Go.ChangeShapes Go.WideShapes Go.ChangeAt Go.RowKit

/-- Without them. -/
def listN : List (String × DataW Unit) := [("unicode/utf8.acceptRanges", Rows.laid_unicode_utf8_acceptRanges), ("unicode.CaseRanges", Rows.laid_unicode_CaseRanges), ("unicode/utf8.first", Rows.laid_unicode_utf8_first)]

theorem laid_mem {P : Program} {w : World} : ∀ (l : List (String × DataW Unit)) (ps : List MemPlace), DataW.LaidVars P w l ps → ∀ n d, (n, d) ∈ l →
    ∃ g t cs fuel p, P.globalNamed n = some g ∧ (P.globals[g]?).map (·.type) = some t ∧ w.var? P n = some cs ∧ DataW.trod (fun _ => ()) P w 0 (fun _ => true) false fuel t cs.toList = some (d, p)
  | [], _, _, n, d, h => by cases h
  | (n', d') :: r, ps, ⟨g, t, cs, fuel, p, q, h1, h2, h3, h4, h5, _⟩, n, d, h => by
    rcases List.mem_cons.1 h with e | h
    · injection e with e1 e2
      subst e1
      subst e2
      exact ⟨g, t, cs, fuel, p, h1, h2, h3, h4⟩
    · exact laid_mem r q h5 n d h
theorem witness_tabs {H : Type} {enc : TypeId × Value → H} {C : Checked} {os : Os} {f : FuncId} {fn : Func} {s : OpenSpec} {conds : List PathCond} {apart : Bool} {laid : List (String × DataW Unit)} (modest : Bool) (w0 : World) (args : Array Value) (hos : w0.os = os)
    (hsh : (w0.forCall (fun _ _ => 0) ⟨#[], args, []⟩).Shaped C.prog)
    (hok : Input.okWideB C.prog (w0.forCall (fun _ _ => 0) ⟨#[], args, []⟩) f ⟨#[], args, []⟩ = true)
    (hrow : s.preRow enc C.prog fn conds apart laid (w0.forCall (fun _ _ => 0) ⟨#[], args, []⟩).memory args) :
    ∃ (w : World) (tape : Tape) (i : Input), w.os = os ∧ (w.forCall tape i).Shaped C.prog ∧ i.vars = [] ∧ Input.okWide C.prog (w.forCall tape i) .any w.heap.size f i ∧
      s.preRow enc C.prog fn conds apart laid (w.forCall tape i).memory i.args ∧ ({ modest := modest } : Assume).holds C.prog (lone (Frame.enter C.prog f i.args .normal) [] (w.forCall tape i)) :=
  ⟨w0, fun _ _ => 0, ⟨#[], args, []⟩, hos, hsh, (Input.okWide_of_okWideB (base := 0) hok).1, (Input.okWide_of_okWideB hok).2, hrow, by
    simp only [Assume.holds]
    exact ⟨by simp, by simp, fun _ => Modest.zero, by simp, by simp⟩⟩

theorem shapedN (os : Os) (args : Array Value) : ((World.laidAll Tryd.prog os listN).forCall (fun _ _ => 0) ⟨#[], args, []⟩).Shaped Tryd.prog := World.shaped_of_ZipB (by kernel_rfl) (by kernel_rfl)
theorem metN (os : Os) (args : Array Value) : laidMetH Tryd.prog listN ((World.laidAll Tryd.prog os listN).forCall (fun _ _ => 0) ⟨#[], args, []⟩).memory := by
  rw [MakeChecks.laidMetH_plain _ _ _ (by kernel_rfl)]
  exact laidMet_laidAll _ (by kernel_rfl) (by kernel_rfl)

end Go.Proofs.YtepailfhagaboaaDoor
namespace Go.Proofs.YtepailfhagaboaaDoor
open Go.ChangeShapes Go.WideShapes Go.ChangeAt Go.RowKit

theorem gErrU : Tryd.prog.globalNamed "loop.example/g00618/impl.errUnread" = some 0 := by kernel_rfl
theorem gErrUType : (Tryd.prog.globals[0]?).map (·.type) = some 70 := by kernel_rfl
theorem ErrU_of {W : World} {l : List (String × DataW Unit)} {ps : List MemPlace} (hv : DataW.LaidVars Tryd.prog W l ps) (hm : ("loop.example/g00618/impl.errUnread", Rows.laid_loop_example_g00618_impl_errUnread) ∈ l) : ErrU W := by
  obtain ⟨g, t, cs, fuel, p, hg, ht, hvar, hd⟩ := laid_mem _ _ hv _ _ hm
  obtain rfl := Option.some.inj (gErrU.symm.trans hg)
  obtain rfl := Option.some.inj (gErrUType.symm.trans ht)
  obtain ⟨fuel', u, v, hcs, -, -⟩ := iface_of_trod Tryd.underlying70 hd
  have c0 := World.var?_cell hg hvar 0
  have a0 : cs[0]? = some (.iface u v) := by rw [← Array.getElem?_toList, hcs]; rfl
  exact ⟨u, v, ⟨c0.trans a0⟩⟩
/-- What the rows list: that error alone. -/
def listU : List (String × DataW Unit) := [("loop.example/g00618/impl.errUnread", Rows.laid_loop_example_g00618_impl_errUnread)]
theorem ErrU_laid {W : World} (h : laidMetH Tryd.prog listU W) : ErrU W := by
  rw [MakeChecks.laidMetH_plain _ _ _ (by kernel_rfl)] at h
  obtain ⟨ps, hv, _⟩ := h
  exact ErrU_of hv (List.mem_cons_self ..)
theorem shapedU (os : Os) (args : Array Value) : ((World.laidAll Tryd.prog os listU).forCall (fun _ _ => 0) ⟨#[], args, []⟩).Shaped Tryd.prog := World.shaped_of_ZipB (by kernel_rfl) (by kernel_rfl)
theorem metU (os : Os) (args : Array Value) : laidMetH Tryd.prog listU ((World.laidAll Tryd.prog os listU).forCall (fun _ _ => 0) ⟨#[], args, []⟩).memory := by
  rw [MakeChecks.laidMetH_plain _ _ _ (by kernel_rfl)]
  exact laidMet_laidAll _ (by kernel_rfl) (by kernel_rfl)
end Go.Proofs.YtepailfhagaboaaDoor
namespace Go.Proofs.YtepailfhagaboaaDoor
open Go.RowKit
set_option maxRecDepth 100000
set_option linter.unusedVariables false

theorem eqSigned6_any (x y : Int) (w : World) :
    Calls Tryd.prog 69 #[I2 x y, I2 x y] w fun e w' => e = .returned (.bool true) ∧ Below w.heap.size w w' := by
  have b0 := bal (bal (Below.refl _ w) (.cells #[.int .i64 x, .int .i64 y] 47)) (.cells #[.int .i64 x, .int .i64 y] 47)
  go_enter Tryd.func69, Tryd.ntmps69
  go_wp2_with fail
  go_ret
  exact ⟨rfl, b0⟩
theorem eqReply_any (r s p x y f : Int) (w : World) :
    Calls Tryd.prog 49 #[R6 r s p x y f, R6 r s p x y f] w fun e w' => e = .returned (.bool true) ∧ Below w.heap.size w w' := by
  have b0 := bal (bal (Below.refl _ w) (.cells #[.int .i64 r, .int .i64 s, .int .i64 p, .int .i64 x, .int .i64 y, .int .i64 f] 49)) (.cells #[.int .i64 r, .int .i64 s, .int .i64 p, .int .i64 x, .int .i64 y, .int .i64 f] 49)
  have A0 := (At.new w (RL6 r s p x y f) 49).alloc (.cells #[.int .i64 r, .int .i64 s, .int .i64 p, .int .i64 x, .int .i64 y, .int .i64 f] 49)
  have A1 := At.new (w.alloc (.cells #[.int .i64 r, .int .i64 s, .int .i64 p, .int .i64 x, .int .i64 y, .int .i64 f] 49)) (RL6 r s p x y f) 49
  simp only [World.size_alloc] at A0 A1
  go_enter Tryd.func49, Tryd.ntmps49
  go_wp2_with fail
  generalize (w.alloc (.cells #[.int .i64 r, .int .i64 s, .int .i64 p, .int .i64 x, .int .i64 y, .int .i64 f] 49)).alloc (.cells #[.int .i64 r, .int .i64 s, .int .i64 p, .int .i64 x, .int .i64 y, .int .i64 f] 49) = W0 at *
  refine (eqSigned6_any x y _).mono ?_
  rintro e u1 ⟨rfl, b1⟩
  have hb := btr b0 b1
  have c0 := (A0.on b1).cell 0 _ rfl
  have c1 := (A0.on b1).cell 1 _ rfl
  have c2 := (A0.on b1).cell 2 _ rfl
  have c3 := (A0.on b1).cell 3 _ rfl
  have c4 := (A0.on b1).cell 4 _ rfl
  have c5 := (A0.on b1).cell 5 _ rfl
  have d0 := (A1.on b1).cell 0 _ rfl
  have d1 := (A1.on b1).cell 1 _ rfl
  have d2 := (A1.on b1).cell 2 _ rfl
  have d3 := (A1.on b1).cell 3 _ rfl
  have d4 := (A1.on b1).cell 4 _ rfl
  have d5 := (A1.on b1).cell 5 _ rfl
  clear A0 A1
  go_wp2_with fail
  go_ret
  exact ⟨rfl, hb⟩
theorem eqReplyResult_any (c r s p x y f : Int) (w : World) :
    Calls Tryd.prog 30 #[R7 c r s p x y f, R7 c r s p x y f] w fun e w' => e = .returned (.bool true) ∧ Below w.heap.size w w' := by
  have b0 := bal (bal (Below.refl _ w) (.cells #[.int .i64 c, .int .i64 r, .int .i64 s, .int .i64 p, .int .i64 x, .int .i64 y, .int .i64 f] 54)) (.cells #[.int .i64 c, .int .i64 r, .int .i64 s, .int .i64 p, .int .i64 x, .int .i64 y, .int .i64 f] 54)
  go_enter Tryd.func30, Tryd.ntmps30
  go_wp2_with fail
  refine (eqReply_any r s p x y f _).mono ?_
  rintro e u1 ⟨rfl, b1⟩
  have hb := btr b0 b1
  go_wp2_with fail
  go_ret
  exact ⟨rfl, hb⟩
theorem toReply_any (r s p x y f : Int) (w : World) :
    Calls Tryd.prog 24 #[R6 r s p x y f] w fun e w' => e = .returned (R6 r s p x y f) ∧ Below w.heap.size w w' := by
  have b0 := bal (bal (bal (Below.refl _ w) (.cells #[.int .i64 r, .int .i64 s, .int .i64 p, .int .i64 x, .int .i64 y, .int .i64 f] 45)) (.cells #[.int .i64 0, .int .i64 0, .int .i64 0, .int .i64 0, .int .i64 0, .int .i64 0] 49)) (.cells #[.int .i64 r, .int .i64 s, .int .i64 p, .int .i64 0, .int .i64 0, .int .i64 0] 49)
  have A0 := ((At.new w (RL6 r s p x y f) 45).alloc (.cells #[.int .i64 0, .int .i64 0, .int .i64 0, .int .i64 0, .int .i64 0, .int .i64 0] 49)).alloc (.cells #[.int .i64 r, .int .i64 s, .int .i64 p, .int .i64 0, .int .i64 0, .int .i64 0] 49)
  have A1 := (At.new (w.alloc (.cells #[.int .i64 r, .int .i64 s, .int .i64 p, .int .i64 x, .int .i64 y, .int .i64 f] 45)) (RL6 0 0 0 0 0 0) 49).alloc (.cells #[.int .i64 r, .int .i64 s, .int .i64 p, .int .i64 0, .int .i64 0, .int .i64 0] 49)
  have A2 := At.new ((w.alloc (.cells #[.int .i64 r, .int .i64 s, .int .i64 p, .int .i64 x, .int .i64 y, .int .i64 f] 45)).alloc (.cells #[.int .i64 0, .int .i64 0, .int .i64 0, .int .i64 0, .int .i64 0, .int .i64 0] 49)) (RL6 r s p 0 0 0) 49
  simp only [World.size_alloc] at A0 A1 A2
  go_enter Tryd.func24, Tryd.ntmps24
  go_wp2_with fail
  generalize ((w.alloc (.cells #[.int .i64 r, .int .i64 s, .int .i64 p, .int .i64 x, .int .i64 y, .int .i64 f] 45)).alloc (.cells #[.int .i64 0, .int .i64 0, .int .i64 0, .int .i64 0, .int .i64 0, .int .i64 0] 49)).alloc (.cells #[.int .i64 r, .int .i64 s, .int .i64 p, .int .i64 0, .int .i64 0, .int .i64 0] 49) = W0 at *
  refine (toSigned_any x y _).mono ?_
  rintro e u1 ⟨rfl, b1⟩
  have hb := btr b0 b1
  have c0 := (A0.on b1).cell 0 _ rfl
  have c1 := (A0.on b1).cell 1 _ rfl
  have c2 := (A0.on b1).cell 2 _ rfl
  have c3 := (A0.on b1).cell 3 _ rfl
  have c4 := (A0.on b1).cell 4 _ rfl
  have c5 := (A0.on b1).cell 5 _ rfl
  have d0 := (A1.on b1).cell 0 _ rfl
  have d1 := (A1.on b1).cell 1 _ rfl
  have d2 := (A1.on b1).cell 2 _ rfl
  have d3 := (A1.on b1).cell 3 _ rfl
  have d4 := (A1.on b1).cell 4 _ rfl
  have d5 := (A1.on b1).cell 5 _ rfl
  have z0 := (A1.on b1).free 0 _ rfl
  have z1 := (A1.on b1).free 1 _ rfl
  have z2 := (A1.on b1).free 2 _ rfl
  have z3 := (A1.on b1).free 3 _ rfl
  have z4 := (A1.on b1).free 4 _ rfl
  have z5 := (A1.on b1).free 5 _ rfl
  have k0 := (A2.on b1).cell 0 _ rfl
  have k1 := (A2.on b1).cell 1 _ rfl
  have k2 := (A2.on b1).cell 2 _ rfl
  have k3 := (A2.on b1).cell 3 _ rfl
  have k4 := (A2.on b1).cell 4 _ rfl
  have k5 := (A2.on b1).cell 5 _ rfl
  have v0 := (A2.on b1).free 0 _ rfl
  have v1 := (A2.on b1).free 1 _ rfl
  have v2 := (A2.on b1).free 2 _ rfl
  have v3 := (A2.on b1).free 3 _ rfl
  have v4 := (A2.on b1).free 4 _ rfl
  have v5 := (A2.on b1).free 5 _ rfl
  clear A0 A1 A2 b0 b1
  go_wp2_with fail
  refine bodyPost_ret (v := R6 r s p x y f) (by simp [results, Tryd.results24, go_sem, d0, d1, d2, d3, d4, d5]) rfl ⟨rfl, ?_⟩
  exact (by (iterate 9 (refine bset ?_ (by dsimp only; omega) _)); exact hb)
end Go.Proofs.YtepailfhagaboaaDoor
