/- Contracts of how records are tagged and data is turned, by the program. Conditions: as each theorem states. -/
import Derived.Test.YtjlhldndomaknaaDoorC4e
import Derived.RangeFuncNested
import Derived.RangeFuncBound
import Derived.RangeFuncCalls
import Derived.RangeFuncLeaves
import Derived.RangeFuncWrites
import Derived.Shelf.Abstract
import Derived.Shelf.RegionOpen
import Derived.OwnWalkIn
import Derived.TacticsInMore
import Derived.LoopNIn
import Derived.LoopIn
namespace Go.Proofs.YtjlhldndomaknaaDoor
open Go.RowKit
set_option maxRecDepth 100000
set_option linter.unusedVariables false

set_option maxHeartbeats 1000000 in
theorem sealTag_any (key s k : Int) (a : Option Addr) (n c : Nat) (t : Int) (B : Nat) (zs : List Int) (w : World) (lab : Labels w) (hR : Row .u8 w B a n c zs) (hB : B ≤ w.heap.size) (hk : M.sumB key = true) (hs : M.sumB s = true) (hd : M.sumB k = true) :
    Calls Tryd.prog 116 #[.int .i64 key, R4 s k a n c t] w fun r w' => r = .returned (.int .i64 (M.recT key s k zs)) ∧ Below w.heap.size w w' := by
  have b0 := bal (Below.refl _ w) (.cells #[.int .i64 s, .int .i64 k, .slice a n c, .int .i64 t] 66)
  have A0 := At.new w (L4 s k a n c t) 66
  have lab0 := lab.on b0
  have hmac := lab0.macW
  have hltg := lab.lt
  have hm := M.tag_sum M.macS [key]
  have hq := M.sumL_sum zs
  have R1 := row_one (w := w) (.cells #[.int .i64 s, .int .i64 k, .slice a n c, .int .i64 t] 66) key 2 hk
  obtain ⟨m0, m1⟩ := M.tagL_bd M.macS [key]
  obtain ⟨q0, q1⟩ := M.sumL_bd zs
  obtain ⟨s0, s1⟩ := M.tagL_bd M.sealS [M.tagL M.macS [key], s, k, M.sumL zs]
  unfold M.recT
  go_enter Tryd.func116, Tryd.ntmps116
  go_wp2_with fail
  refine (sumTagged_any M.macS _ _ _ _ [key] _ (by decide) R1 (by simp) (by simp [hk]) (by omega)).mono ?_
  rintro r w1 ⟨rfl, b1'⟩
  have b1 := btr (bal (Below.refl _ (w.alloc (.cells #[.int .i64 s, .int .i64 k, .slice a n c, .int .i64 t] 66))) (.cells #[.int .i64 key] 2)) b1'
  have A1 := A0.on b1
  have lab1 := lab0.on b1
  have hseal := lab1.sealW
  have B1 := btr b0 b1
  have d0 := A1.cell 0 _ rfl
  have d1 := A1.cell 1 _ rfl
  have d2 := A1.cell 2 _ rfl
  have d3 := A1.cell 3 _ rfl
  clear b1 b1' A0 lab0 hmac b0
  go_wp2_with fail
  refine wp_region_line (Bel w1) [(0, true), (1, true), (2, true), (3, true), (4, true), (5, true), (6, true), (7, true), (8, true), (9, false), (10, true), (11, false), (12, false), (13, true), (14, true)] (by kernel_rfl) (by kernel_rfl) (fun _ _ d _ _ h => by cases d <;> exact h) (Bel.drew w1) ?_
  have hst := Bel.drew w1
  have inst : Nonempty (Of (Bel w1)) := ⟨⟨_, hst⟩⟩
  have u0 := bel_cell d0
  have u1 := bel_cell d1
  have u2 := bel_cell d2
  have u3 := bel_cell hseal
  generalize w1.drew = V at *
  iterate 9 (refine line_read rfl (by kernel_rfl) (fun K hK => ?_); go_big_quiet_op; refine hK _ ?_; clear hK K)
  refine line_alone rfl (by kernel_rfl) (fun K hK => ?_)
  refine call_wp (args := #[.slice a n c]) rfl (by kernel_rfl) (by kernel_rfl) (sumBytes_any _ _ _ _ zs _ ((hR.below (B1.mono hB)).below (hst.out.mono (by have := B1.size; omega)))) (fun wn hbn => ?_)
  subst hbn
  refine hK _ _ hst ?_
  clear hK K
  simp only [Act.put, List.setIfInBounds_toArray, List.set_cons_zero, List.set_cons_succ]
  iterate 1 (refine line_read rfl (by kernel_rfl) (fun K hK => ?_); go_big_quiet_op; refine hK _ ?_; clear hK K)
  refine line_alone rfl (by kernel_rfl) (fun K hK => ?_)
  go_big_op
  refine hK _ _ (hst.on (bal (Below.refl _ V) _)) ?_
  clear hK K
  have st3 := hst.on (bal (Below.refl _ V) (.cells #[.int .i64 (M.tagL M.macS [key]), .int .i64 s, .int .i64 k, .int .i64 (M.sumL zs)] 2))
  have R3 := row_quad (w := V) (M.tagL M.macS [key]) s k (M.sumL zs) 2 hm hs hd hq
  refine line_alone rfl (by kernel_rfl) (fun K hK => ?_)
  refine call_wp (args := #[.string M.sealS, .slice (some ⟨V.heap.size, 0, none⟩) 4 4]) rfl (by kernel_rfl) (by kernel_rfl) (sumTagged_any M.sealS _ _ _ _ [M.tagL M.macS [key], s, k, M.sumL zs] _ (by decide) R3 (by simp) (by simp [hm, hs, hd, hq]) (by omega)) (fun w4 b4 => ?_)
  have st4 := st3.on b4
  refine hK _ _ st4 ?_
  clear hK K st3 b4 R3
  simp only [Act.put, List.setIfInBounds_toArray, List.set_cons_zero, List.set_cons_succ]
  iterate 2 (refine line_read rfl (by kernel_rfl) (fun K hK => ?_); go_big_quiet_op; refine hK _ ?_; clear hK K)
  refine line_nil ?_
  have hb := btr B1 st4.out
  go_wp2_with fail
  go_ret
  exact ⟨rfl, hb⟩

/-- A function that tells the bytes of a stream: what it has captured. -/
def SeqRes (key seq : Int) (n : Nat) (w : World) (r : Ending) (w' : World) : Prop :=
  r = .returned (.func (.func 149) #[] #[.pointer (some ⟨w.heap.size + 1 + 1, 0, none⟩), .pointer (some ⟨w.heap.size, 0, none⟩), .pointer (some ⟨w.heap.size + 1, 0, none⟩)]) ∧
  w' = ((w.alloc (.cells #[.int .i64 key] 2)).alloc (.cells #[.int .i64 seq] 2)).alloc (.cells #[.int .i64 n] 3)
theorem streamBytes_any (key seq : Int) (n : Nat) (w : World) : Calls Tryd.prog 139 #[.int .i64 key, .int .i64 seq, .int .i64 n] w (SeqRes key seq n w) := by
  go_enter Tryd.func139, Tryd.ntmps139
  go_wp2_with fail
  go_ret
  exact ⟨rfl, rfl⟩
end Go.Proofs.YtjlhldndomaknaaDoor
