/- Contracts of how records are sealed and opened, by the model. Conditions: as each theorem states. -/
import Derived.Test.YtjlhldndomaknaaDoorC4d
import Derived.Test.YtjlhldndomaknaaDoorC4e
namespace Go.Proofs.YtjlhldndomaknaaDoor
open Go.RowKit
set_option maxRecDepth 100000
set_option linter.unusedVariables false

/-- What sealing answers. -/
def SealRes (key s k : Int) (zs : List Int) (w : World) (r : Ending) (w' : World) : Prop :=
  if M.sealC key s k zs.length = 0 then RecRes 0 s k (M.turnL key s zs) (M.recT key s k (M.turnL key s zs)) w r w' else RecRes (M.sealC key s k zs.length) 0 0 [] 0 w r w'
theorem SealRes.yes {key s k : Int} {zs : List Int} {w : World} {r : Ending} {w' : World} (h : M.sealC key s k zs.length = 0) (x : RecRes 0 s k (M.turnL key s zs) (M.recT key s k (M.turnL key s zs)) w r w') : SealRes key s k zs w r w' := by
  unfold SealRes; rw [if_pos h]; exact x
theorem SealRes.no {key s k : Int} {zs : List Int} {w : World} {r : Ending} {w' : World} {e : Int} (h : M.sealC key s k zs.length = e) (he : e ≠ 0) (x : RecRes e 0 0 [] 0 w r w') : SealRes key s k zs w r w' := by
  unfold SealRes; rw [h, if_neg he]; exact x
def seS (key s k : Int) (zs : List Int) : Int := if M.sealC key s k zs.length = 0 then s else 0
def seK (key s k : Int) (zs : List Int) : Int := if M.sealC key s k zs.length = 0 then k else 0
def seX (key s k : Int) (zs : List Int) : List Int := if M.sealC key s k zs.length = 0 then M.turnL key s zs else []
def seT (key s k : Int) (zs : List Int) : Int := if M.sealC key s k zs.length = 0 then M.recT key s k (M.turnL key s zs) else 0
theorem SealRes.all {key s k : Int} {zs : List Int} {w : World} {r : Ending} {w' : World} (h : SealRes key s k zs w r w') : RecRes (M.sealC key s k zs.length) (seS key s k zs) (seK key s k zs) (seX key s k zs) (seT key s k zs) w r w' := by
  unfold SealRes at h
  unfold seS seK seX seT
  by_cases hc : M.sealC key s k zs.length = 0
  · rw [if_pos hc] at h
    simp only [if_pos hc]
    rw [hc]
    exact h
  · rw [if_neg hc] at h
    simp only [if_neg hc]
    exact h
theorem sealC_zero {key s k : Int} {n : Nat} (h : M.sealC key s k n = 0) : M.sumB key = true ∧ M.sumB s = true ∧ M.kindB k = true ∧ n ≤ 60 := by
  unfold M.sealC at h
  split at h
  · rename_i hb
    simp only [Bool.and_eq_true] at hb
    split at h
    · omega
    · exact ⟨hb.1.1, hb.1.2, hb.2, by omega⟩
  · omega
theorem sealC_key {key s k : Int} {n : Nat} (h : M.sumB key = false) : M.sealC key s k n = 3 := by simp [M.sealC, h]
theorem sealC_seq {key s k : Int} {n : Nat} (h : M.sumB s = false) : M.sealC key s k n = 3 := by simp [M.sealC, h]
theorem sealC_kind {key s k : Int} {n : Nat} (h : M.kindB k = false) : M.sealC key s k n = 3 := by simp [M.sealC, h]
theorem sealC_long {key s k : Int} {n : Nat} (h0 : M.sumB key = true) (h1 : M.sumB s = true) (h2 : M.kindB k = true) (h : 60 < n) : M.sealC key s k n = 2 := by simp [M.sealC, h0, h1, h2, h]
theorem sealC_ok {key s k : Int} {n : Nat} (h0 : M.sumB key = true) (h1 : M.sumB s = true) (h2 : M.kindB k = true) (h : ¬ 60 < n) : M.sealC key s k n = 0 := by simp [M.sealC, h0, h1, h2, h]
theorem seX_len (key s k : Int) (zs : List Int) : (seX key s k zs).length ≤ 60 := by
  unfold seX
  split
  · rename_i h; rw [M.turnL_length]; exact (sealC_zero h).2.2.2
  · simp
theorem seX_wf {key s k : Int} {zs : List Int} (h : ∀ z ∈ zs, M.byteB z) : ∀ z ∈ seX key s k zs, (Lit.int .u8 z).wf = true := by
  unfold seX
  split
  · exact fun z hz => byte_wf (M.turnL_byte h z hz)
  · intro z hz; cases hz

theorem specSealData_any (key s k : Int) (a : Option Addr) (n c B : Nat) (zs : List Int) (w : World) (hR : Row .u8 w B a n c zs) (hB : B ≤ w.heap.size) :
    Calls Tryd.prog 59 #[.int .i64 key, .int .i64 s, .int .i64 k, .slice a n c] w (SealRes key s k zs w) := by
  have hlen := hR.fits
  have hmost := hR.most
  unfold maxLen at hmost
  have hz := hR.length
  have NO := fun (e : Int) (h : M.sealC key s k n = e) (he : e ≠ 0) => show SealRes key s k zs w (.returned (R5 e 0 0 none 0 0 0)) (w.alloc (.cells #[.int .i64 e, .int .i64 0, .int .i64 0, .slice none 0 0, .int .i64 0] 68)) from
    SealRes.no (by rw [hz]; exact h) he ⟨_, _, _, rfl, Own.nil _ _ _, bal (Below.refl _ w) _⟩
  cases h0 : M.sumB key
  · have F := NO 3 (sealC_key h0) (by omega)
    clear NO hz hR
    go_enter Tryd.func59, Tryd.ntmps59
    go_wp2_with fail
    refine (l2Is_any _ _).mono ?_
    rintro r w' ⟨rfl, rfl⟩
    go_wp2_with fail
    exact bodyPost_ret (v := R5 3 0 0 none 0 0 0) (by simp [results, Tryd.results59, go_sem]) rfl F
  cases h1 : M.sumB s
  · have F := NO 3 (sealC_seq h1) (by omega)
    clear NO hz hR
    go_enter Tryd.func59, Tryd.ntmps59
    go_wp2_with fail
    refine (l2Is_any _ _).mono ?_
    rintro r w' ⟨rfl, rfl⟩
    go_wp2_with fail
    refine (l2Is_any _ _).mono ?_
    rintro r w' ⟨rfl, rfl⟩
    go_wp2_with fail
    exact bodyPost_ret (v := R5 3 0 0 none 0 0 0) (by simp [results, Tryd.results59, go_sem]) rfl F
  cases h2 : M.kindB k
  · have F := NO 3 (sealC_kind h2) (by omega)
    clear NO hz hR
    go_enter Tryd.func59, Tryd.ntmps59
    go_wp2_with fail
    refine (l2Is_any _ _).mono ?_
    rintro r w' ⟨rfl, rfl⟩
    go_wp2_with fail
    refine (l2Is_any _ _).mono ?_
    rintro r w' ⟨rfl, rfl⟩
    go_wp2_with fail
    refine (l1In_kind _ _).mono ?_
    rintro r w' ⟨rfl, rfl⟩
    go_wp2_with fail
    exact bodyPost_ret (v := R5 3 0 0 none 0 0 0) (by simp [results, Tryd.results59, go_sem]) rfl F
  by_cases h3 : 60 < n
  · have F := NO 2 (sealC_long h0 h1 h2 h3) (by omega)
    clear NO hz hR
    go_enter Tryd.func59, Tryd.ntmps59
    go_wp2_with fail
    refine (l2Is_any _ _).mono ?_
    rintro r w' ⟨rfl, rfl⟩
    go_wp2_with fail
    refine (l2Is_any _ _).mono ?_
    rintro r w' ⟨rfl, rfl⟩
    go_wp2_with fail
    refine (l1In_kind _ _).mono ?_
    rintro r w' ⟨rfl, rfl⟩
    go_wp2_with fail
    exact bodyPost_ret (v := R5 2 0 0 none 0 0 0) (by simp [results, Tryd.results59, go_sem]) rfl F
  have HY := Lib.hid (show M.sealC key s k zs.length = 0 by rw [hz]; exact sealC_ok h0 h1 h2 h3)
  have b0 := bal (Below.refl _ w) (.cells #[.int .i64 0, .int .i64 0, .int .i64 0, .slice none 0 0, .int .i64 0] 68)
  have A0 := At.new w (L5 0 0 0 none 0 0 0) 68
  have T1 := l4Seal_any key s k a n c B zs _ (hR.below (b0.mono hB)) (by have := b0.size; omega) h0 h1 (M.kind_sum h2) (by omega)
  clear NO hz hR
  go_enter Tryd.func59, Tryd.ntmps59
  go_wp2_with fail
  refine (l2Is_any _ _).mono ?_
  rintro r w' ⟨rfl, rfl⟩
  go_wp2_with fail
  refine (l2Is_any _ _).mono ?_
  rintro r w' ⟨rfl, rfl⟩
  go_wp2_with fail
  refine (l1In_kind _ _).mono ?_
  rintro r w' ⟨rfl, rfl⟩
  go_wp2_with fail
  generalize w.alloc (.cells #[.int .i64 0, .int .i64 0, .int .i64 0, .slice none 0 0, .int .i64 0] 68) = W0 at *
  refine T1.mono ?_
  rintro r w1 ⟨a1, c1, rfl, O1, b1⟩
  have lt0 : w.heap.size < W0.heap.size := A0.lt (by simp)
  have q0 := (A0.on b1).cell 0 _ rfl
  have q1 := (A0.on b1).cell 1 _ rfl
  have q2 := (A0.on b1).cell 2 _ rfl
  have q3 := (A0.on b1).cell 3 _ rfl
  have q4 := (A0.on b1).cell 4 _ rfl
  have z0 := (A0.on b1).free 0 _ rfl
  have z1 := (A0.on b1).free 1 _ rfl
  have z2 := (A0.on b1).free 2 _ rfl
  have z3 := (A0.on b1).free 3 _ rfl
  have z4 := (A0.on b1).free 4 _ rfl
  have HT := Lib.hid (And.intro O1 (btr b0 b1))
  clear O1 b1 b0 A0 T1
  go_wp2_with fail
  refine bodyPost_ret (v := R5 0 s k a1 n c1 (M.recT key s k (M.turnL key s zs))) (by simp [results, Tryd.results59, go_sem, q0, q1, q2, q3, q4]) rfl ?_
  exact SealRes.yes HY.out ⟨_, _, _, rfl, (by (iterate 5 (refine Own.setCell ?_ (fun g hg => by have := (HT.out.1.lt g hg).1; dsimp only; omega) _)); exact HT.out.1.less (by omega)), (by (iterate 5 (refine bset ?_ (by dsimp only; omega) _)); exact HT.out.2)⟩

/-- What opening answers beside a code. -/
def OpenTup (e : Int) (xs : List Int) (w : World) (r : Ending) (w' : World) : Prop := ∃ a n c, r = .returned (.tuple #[.slice a n c, .int .i64 e]) ∧ OwnK .u8 w' w.heap.size (.slice a n c) xs ∧ Below w.heap.size w w'
theorem l4Open_any (g : Nat) (key q s k : Int) (a : Option Addr) (n c : Nat) (t : Int) (B : Nat) (zs : List Int) (w : World) (hA : At g (L4 s k a n c t) w) (hR : Row .u8 w B a n c zs) (hB : B ≤ w.heap.size) (hk : M.sumB key = true) (hq : M.sumB q = true) :
    Calls Tryd.prog 124 #[.int .i64 key, .int .i64 q, .pointer (some ⟨g, 0, none⟩)] w (OpenTup (M.openC key q s k zs t) (M.openL key q s k zs t) w) := by
  have hmx := Nat.le_trans hR.fits hR.most
  have F := l4Fault_any g s k a n c t w hA hmx
  have hz := hR.length
  have d0 := hA.cell 0 _ rfl
  have d1 := hA.cell 1 _ rfl
  have d2 := hA.cell 2 _ rfl
  have d3 := hA.cell 3 _ rfl
  have NO := fun (e : Int) (h : M.openC key q s k zs t = e) (he : e ≠ 0) (w' : World) (hb : Below w.heap.size w w') => show OpenTup (M.openC key q s k zs t) (M.openL key q s k zs t) w (.returned (.tuple #[.slice none 0 0, .int .i64 e])) w' from by
    have e2 : M.openL key q s k zs t = [] := by unfold M.openL; rw [h, if_neg he]
    rw [h, e2]
    exact ⟨_, _, _, rfl, Own.nil _ _ _, hb⟩
  by_cases h0 : M.recF s k t n = 0
  · obtain ⟨hs, hd, ht, hn⟩ := M.recF_zero h0
    rw [h0] at F
    by_cases h1 : s = q
    · by_cases h2 : t = M.recT key s k zs
      · have eC : M.openC key q s k zs t = 0 := by unfold M.openC; rw [hz, h0, hk, hq]; simp [h1, h2]
        have eL : M.openL key q s k zs t = M.turnL key q zs := by unfold M.openL; rw [eC]; simp
        rw [eC, eL]
        clear eC eL NO
        have T1 := fun w' hA hR hB => l4Tag_any g key s k a n c t B zs w' hA hR hB hk hs (M.kind_sum hd)
        have T2 := fun w' hR hB => l4Turn_any key q a n c B zs w' hR hB hk hq (by omega)
        have e1 : (s != q) = false := by rw [h1]; exact bne_self_eq_false _
        rw [← h2] at T1
        clear h0 h1 h2 hz
        go_enter Tryd.func124, Tryd.ntmps124
        go_wp2_with fail
        refine F.mono ?_
        rintro r w1 ⟨rfl, rfl⟩
        go_wp2_with fail
        refine wp_region_line (Bel w) [(0, true), (1, true), (2, true), (3, true), (4, true), (5, true), (6, false), (7, true)] (by kernel_rfl) (by kernel_rfl) (fun _ _ d _ _ h => by cases d <;> exact h) (Bel.drew w) ?_
        have hst := Bel.drew w
        have inst : Nonempty (Of (Bel w)) := ⟨⟨_, hst⟩⟩
        have u3 := bel_cell d3
        iterate 6 (refine line_read rfl (by kernel_rfl) (fun K hK => ?_); go_big_quiet_op; refine hK _ ?_; clear hK K)
        refine line_alone rfl (by kernel_rfl) (fun K hK => ?_)
        refine call_wp (args := #[.int .i64 key, .pointer (some ⟨g, 0, none⟩)]) rfl (by kernel_rfl) (by kernel_rfl) (T1 _ (hA.on hst.out) (hR.below (hst.out.mono hB)) (by have := hst.out.size; omega)) (fun wn hbn => ?_)
        have hst2 := hst.on hbn
        refine hK _ _ hst2 ?_
        clear hK K hst hbn
        have hst := hst2
        clear hst2
        simp only [Act.put, List.setIfInBounds_toArray, List.set_cons_zero, List.set_cons_succ]
        iterate 1 (refine line_read rfl (by kernel_rfl) (fun K hK => ?_); go_big_quiet_op; refine hK _ ?_; clear hK K)
        refine line_nil ?_
        have b2 := hst.out
        have R2 := hR.below (b2.mono hB)
        have x2 := (hA.on b2).cell 2 _ rfl
        go_wp2_with fail
        refine (T2 _ R2 (by have := b2.size; omega)).mono ?_
        rintro r w3 ⟨a3, n3, c3, rfl, O3, b3⟩
        have HT := Lib.hid (And.intro (O3.less b2.size) (btr b2 b3))
        clear O3 b3 R2 hst inst
        go_wp2_with fail
        go_ret2
        exact ⟨_, _, _, rfl, HT.out.1, HT.out.2⟩
      · have e1 : (s != q) = false := by rw [h1]; exact bne_self_eq_false _
        have e2 : (t != M.recT key s k zs) = true := by simpa [bne] using h2
        have FN := Lib.hid (NO 9 (by unfold M.openC; rw [hz, h0, hk, hq]; simp [h1]; rw [← h1]; simp [h2]) (by omega))
        have T1 := fun w' hA hR hB => l4Tag_any g key s k a n c t B zs w' hA hR hB hk hs (M.kind_sum hd)
        generalize M.recT key s k zs = tg at *
        clear h0 h1 h2 hz NO
        go_enter Tryd.func124, Tryd.ntmps124
        go_wp2_with fail
        refine F.mono ?_
        rintro r w1 ⟨rfl, rfl⟩
        go_wp2_with fail
        refine wp_region_line (Bel w) [(0, true), (1, true), (2, true), (3, true), (4, true), (5, true), (6, false), (7, true)] (by kernel_rfl) (by kernel_rfl) (fun _ _ d _ _ h => by cases d <;> exact h) (Bel.drew w) ?_
        have hst := Bel.drew w
        have inst : Nonempty (Of (Bel w)) := ⟨⟨_, hst⟩⟩
        have u3 := bel_cell d3
        iterate 6 (refine line_read rfl (by kernel_rfl) (fun K hK => ?_); go_big_quiet_op; refine hK _ ?_; clear hK K)
        refine line_alone rfl (by kernel_rfl) (fun K hK => ?_)
        refine call_wp (args := #[.int .i64 key, .pointer (some ⟨g, 0, none⟩)]) rfl (by kernel_rfl) (by kernel_rfl) (T1 _ (hA.on hst.out) (hR.below (hst.out.mono hB)) (by have := hst.out.size; omega)) (fun wn hbn => ?_)
        have hst2 := hst.on hbn
        refine hK _ _ hst2 ?_
        clear hK K hst hbn
        have hst := hst2
        clear hst2
        simp only [Act.put, List.setIfInBounds_toArray, List.set_cons_zero, List.set_cons_succ]
        iterate 1 (refine line_read rfl (by kernel_rfl) (fun K hK => ?_); go_big_quiet_op; refine hK _ ?_; clear hK K)
        refine line_nil ?_
        have b2 := hst.out
        go_wp2_with fail
        go_ret2
        exact FN.out _ b2
    · have e1 : (s != q) = true := by simpa [bne] using h1
      have FN := Lib.hid (NO 8 (by unfold M.openC; rw [hz, h0, hk, hq]; simp [h1]) (by omega))
      clear h0 h1 hz NO
      go_enter Tryd.func124, Tryd.ntmps124
      go_wp2_with fail
      refine F.mono ?_
      rintro r w1 ⟨rfl, rfl⟩
      go_wp2_with fail
      go_ret2
      exact FN.out _ (Below.refl _ _)
  · have FN := Lib.hid (NO (M.recF s k t n) (by unfold M.openC; rw [hz, hk, hq]; simp [h0]) h0)
    have e0 : (M.recF s k t n != 0) = true := by simpa [bne] using h0
    generalize M.recF s k t n = cd at *
    clear h0 hz NO
    go_enter Tryd.func124, Tryd.ntmps124
    go_wp2_with fail
    refine F.mono ?_
    rintro r w1 ⟨rfl, rfl⟩
    go_wp2_with fail
    go_ret2
    exact FN.out _ (Below.refl _ _)

theorem specOpenRecord_any (key q s k : Int) (a : Option Addr) (n c : Nat) (t : Int) (B : Nat) (zs : List Int) (w : World) (hR : Row .u8 w B a n c zs) (hB : B ≤ w.heap.size) :
    Calls Tryd.prog 54 #[.int .i64 key, .int .i64 q, R4 s k a n c t] w (BytesRes (M.openC key q s k zs t) (M.openL key q s k zs t) w) := by
  have b0 := bal (bal (Below.refl _ w) (.cells #[.int .i64 s, .int .i64 k, .slice a n c, .int .i64 t] 66)) (.cells #[.int .i64 0, .slice none 0 0] 44)
  have b3 := bal (bal (Below.refl _ w) (.cells #[.int .i64 s, .int .i64 k, .slice a n c, .int .i64 t] 66)) (.cells #[.int .i64 3, .slice none 0 0] 44)
  have A1 := (At.new w (L4 s k a n c t) 66).alloc (.cells #[.int .i64 0, .slice none 0 0] 44)
  have A2 := At.new (w.alloc (.cells #[.int .i64 s, .int .i64 k, .slice a n c, .int .i64 t] 66)) [.int .i64 0, .slice none 0 0] 44
  simp only [World.size_alloc] at A1 A2
  cases h0 : M.sumB key
  · have eC : M.openC key q s k zs t = 3 := by simp [M.openC, h0]
    have eL : M.openL key q s k zs t = [] := by unfold M.openL; rw [eC]; simp
    rw [eC, eL]
    clear hR eC eL A1 A2
    go_enter Tryd.func54, Tryd.ntmps54
    go_wp2_with fail
    refine (l2Is_any _ _).mono ?_
    rintro r w' ⟨rfl, rfl⟩
    go_wp2_with fail
    exact bodyPost_ret (v := .agg #[.int .i64 3, .slice none 0 0]) (by simp [results, Tryd.results54, go_sem]) rfl ⟨_, _, _, rfl, Own.nil _ _ _, b3⟩
  cases h1 : M.sumB q
  · have eC : M.openC key q s k zs t = 3 := by simp [M.openC, h1]
    have eL : M.openL key q s k zs t = [] := by unfold M.openL; rw [eC]; simp
    rw [eC, eL]
    clear hR eC eL A1 A2
    go_enter Tryd.func54, Tryd.ntmps54
    go_wp2_with fail
    refine (l2Is_any _ _).mono ?_
    rintro r w' ⟨rfl, rfl⟩
    go_wp2_with fail
    refine (l2Is_any _ _).mono ?_
    rintro r w' ⟨rfl, rfl⟩
    go_wp2_with fail
    exact bodyPost_ret (v := .agg #[.int .i64 3, .slice none 0 0]) (by simp [results, Tryd.results54, go_sem]) rfl ⟨_, _, _, rfl, Own.nil _ _ _, b3⟩
  have T1 := l4Open_any w.heap.size key q s k a n c t B zs _ A1 (hR.below (b0.mono hB)) (by simp; omega) h0 h1
  generalize M.openC key q s k zs t = cd at *
  generalize M.openL key q s k zs t = ys at *
  clear hR b3
  go_enter Tryd.func54, Tryd.ntmps54
  go_wp2_with fail
  refine (l2Is_any _ _).mono ?_
  rintro r w' ⟨rfl, rfl⟩
  go_wp2_with fail
  refine (l2Is_any _ _).mono ?_
  rintro r w' ⟨rfl, rfl⟩
  go_wp2_with fail
  generalize (w.alloc (.cells #[.int .i64 s, .int .i64 k, .slice a n c, .int .i64 t] 66)).alloc (.cells #[.int .i64 0, .slice none 0 0] 44) = W0 at *
  refine T1.mono ?_
  rintro r w1 ⟨a1, n1, c1, rfl, O1, b1⟩
  have lt0 : w.heap.size + 1 < W0.heap.size := A2.lt (by simp)
  have p0 := (A2.on b1).cell 0 _ rfl
  have p1 := (A2.on b1).cell 1 _ rfl
  have z0 := (A2.on b1).free 0 _ rfl
  have z1 := (A2.on b1).free 1 _ rfl
  have HT := Lib.hid (And.intro O1 (btr b0 b1))
  clear O1 b1 b0 A1 A2 T1
  go_wp2_with fail
  refine bodyPost_ret (v := .agg #[.int .i64 cd, .slice a1 n1 c1]) (by simp [results, Tryd.results54, go_sem, p0, p1]) rfl ?_
  exact ⟨_, _, _, rfl, (by (iterate 2 (refine Own.setCell ?_ (fun g hg => by have := (HT.out.1.lt g hg).1; dsimp only; omega) _)); exact HT.out.1.less (by omega)), (by (iterate 2 (refine bset ?_ (by dsimp only; omega) _)); exact HT.out.2)⟩
end Go.Proofs.YtjlhldndomaknaaDoor
