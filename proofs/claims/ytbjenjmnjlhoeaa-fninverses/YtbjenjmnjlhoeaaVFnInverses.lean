/- Each number has one that undoes it, at every input that is drawn out of whatever bytes. The walk: the law's Go text answers true and turns nothing that was there. Conditions: as the theorem states. -/
import Derived.Test.YtbjenjmnjlhoeaaD1b
import Derived.WalkKit
import Derived.Below
namespace Go.Proofs.Ytbjenjmnjlhoeaa.fnInverses
open Go.RowKit
set_option linter.unusedVariables false

set_option maxHeartbeats 1000000 in
set_option maxRecDepth 100000 in
theorem walk (a0 : Option Addr) (len0 cap0 : Nat) (z0 : List Int) (w : World) (w0 : Row .u8 w w.heap.size a0 len0 cap0 z0) :
    Calls Try.prog 4 #[.slice a0 len0 cap0] w fun e w' => e = .returned (.bool true) ∧ Below w.heap.size w w' := by
  have hl := w0.fits
  have hm := w0.most
  unfold maxLen at hm
  by_cases hbig : 1048576 < len0
  · have hB : decide (1048576 < len0) = true := by simp [hbig]
    go_enter Try.func4, Try.ntmps4
    go_wp2_with fail
    refine (lwBig_any _ _ _ _ (by omega)).mono ?_
    rintro r w' ⟨rfl, rfl⟩
    go_wp2_with fail
    go_ret
    exact ⟨rfl, Below.refl _ _⟩
  have hB : decide (1048576 < len0) = false := by simp [hbig]
  have g0 := fld0
  have g1 := fld1
  go_enter Try.func4, Try.ntmps4
  go_wp2_with fail
  refine (lwBig_any _ _ _ _ (by omega)).mono ?_
  rintro r w' ⟨rfl, rfl⟩
  go_wp2_with fail
  refine (DrawInverseOf_any w0).mono ?_
  rintro r w1 ⟨v, rfl, hb_w1⟩
  have R1 := (w0.below hb_w1).more hb_w1.size
  rcases invR_form v with hP | ⟨v0, v1, V, hP, V0, V1, hQ, hI⟩
  · go_wp2_with fail
    refine (implInverseOf_any _ _).mono ?_
    rintro r w2 ⟨rfl, hb_w2⟩
    obtain ⟨hc_w2, hf_w2⟩ := bcell hb_w2
    have hz_w2 := hb_w2.size
    (try simp at hz_w2)
    have R2 := ((R1.below (hb_w2.mono (Nat.le_refl _))).more hb_w2.size).below (bal (Below.refl _ _) (.cells #[.int .i64 3, .int .i64 0] 27))
    have R3 := R2.more (B' := (w2.alloc (.cells #[.int .i64 3, .int .i64 0] 27)).heap.size) (by simp)
    have p0_w2 : (w2.alloc (.cells #[.int .i64 3, .int .i64 0] 27)).cell? ⟨w2.heap.size, 0, none⟩ = some (.int .i64 3) := by go_simp
    have p1_w2 : (w2.alloc (.cells #[.int .i64 3, .int .i64 0] 27)).cell? ⟨w2.heap.size, 1, none⟩ = some (.int .i64 0) := by go_simp
    have hb2 := bal (btr hb_w1 hb_w2) (.cells #[.int .i64 3, .int .i64 0] 27)
    clear R1 R2 hc_w2 hf_w2
    go_wp2_with fail
    refine (DrawIsPublic_any R3).mono ?_
    rintro r w3 ⟨u, rfl, hb_w3⟩
    have p0_w3 := cell_keep hb_w3 p0_w2
    have p0 : w3.drew.cell? ⟨w2.heap.size, 0, none⟩ = some (.int .i64 3) := p0_w3
    have hbel : Below w.heap.size w w3.drew := (btr hb2 hb_w3).drew
    clear p0_w2 p1_w2 p0_w3 hb_w1 hb_w2 hb_w3 hb2 R3 hz_w2
    cases hu : pubB u
    all_goals
      go_wp2_with fail
      go_region_held3 (fun w' => w'.cell? ⟨w2.heap.size, 0, none⟩ = some (.int .i64 3)) (first | exact p0) (first | (go_at_call 24; refine (implIsPublic_any _ _).mono ?_; rintro r wn ⟨rfl, hbn⟩; have pk := cell_keep hbn p0; clear p0; have p0 := pk; clear pk; have bk := btr hbel hbn; clear hbel; have hbel := bk; clear bk hbn) | (go_at_call 25; refine (specIsPublic_any _ _).mono ?_; rintro r wn ⟨rfl, rfl⟩) | (go_at_call 26; refine (specInverseOf_any _ _).mono ?_; rintro r wn ⟨rfl, hbn⟩; have pk := cell_keep hbn p0; clear p0; have p0 := pk; clear pk; have bk := btr hbel hbn; clear hbel; have hbel := bk; clear bk hbn))
      all_goals
        go_wp2_with fail
        go_quiet (fail)
        go_wp2_with fail
        go_ret
        exact ⟨rfl, bdrewN hbel _⟩
  · go_wp2_with fail
    refine (implInverseOf_any _ _).mono ?_
    rintro r w2 ⟨rfl, hb_w2⟩
    obtain ⟨hc_w2, hf_w2⟩ := bcell hb_w2
    have hz_w2 := hb_w2.size
    (try simp at hz_w2)
    have R2 := ((R1.below (hb_w2.mono (Nat.le_refl _))).more hb_w2.size).below (bal (Below.refl _ _) (.cells #[.int .i64 0, .int .i64 V] 27))
    have R3 := R2.more (B' := (w2.alloc (.cells #[.int .i64 0, .int .i64 V] 27)).heap.size) (by simp)
    have p0_w2 : (w2.alloc (.cells #[.int .i64 0, .int .i64 V] 27)).cell? ⟨w2.heap.size, 0, none⟩ = some (.int .i64 0) := by go_simp
    have p1_w2 : (w2.alloc (.cells #[.int .i64 0, .int .i64 V] 27)).cell? ⟨w2.heap.size, 1, none⟩ = some (.int .i64 V) := by go_simp
    have hb2 := bal (btr hb_w1 hb_w2) (.cells #[.int .i64 0, .int .i64 V] 27)
    clear R1 R2 hc_w2 hf_w2
    go_wp2_with fail
    refine (DrawIsPublic_any R3).mono ?_
    rintro r w3 ⟨u, rfl, hb_w3⟩
    have p0_w3 := cell_keep hb_w3 p0_w2
    have p1_w3 := cell_keep hb_w3 p1_w2
    have p0 : w3.drew.cell? ⟨w2.heap.size, 0, none⟩ = some (.int .i64 0) := p0_w3
    have p1 : w3.drew.cell? ⟨w2.heap.size, 1, none⟩ = some (.int .i64 V) := p1_w3
    have hbel : Below w.heap.size w w3.drew := (btr hb2 hb_w3).drew
    clear p0_w2 p1_w2 p0_w3 p1_w3 hb_w1 hb_w2 hb_w3 hb2 R3 hz_w2
    cases hu : pubB u
    all_goals
      go_wp2_with fail
      go_region_held3 (fun w' => w'.cell? ⟨w2.heap.size, 0, none⟩ = some (.int .i64 0)) (first | exact p0) (first | (go_at_call 24; refine (implIsPublic_any _ _).mono ?_; rintro r wn ⟨rfl, hbn⟩; have pk := cell_keep hbn p0; clear p0; have p0 := pk; clear pk; have pk := cell_keep hbn p1; clear p1; have p1 := pk; clear pk; have bk := btr hbel hbn; clear hbel; have hbel := bk; clear bk hbn) | (go_at_call 25; refine (specIsPublic_any _ _).mono ?_; rintro r wn ⟨rfl, rfl⟩) | (go_at_call 26; refine (specInverseOf_any _ _).mono ?_; rintro r wn ⟨rfl, hbn⟩; have pk := cell_keep hbn p0; clear p0; have p0 := pk; clear pk; have pk := cell_keep hbn p1; clear p1; have p1 := pk; clear pk; have bk := btr hbel hbn; clear hbel; have hbel := bk; clear bk hbn))
      all_goals
        go_wp2_with fail
        have p0d : wn.drew.cell? ⟨w2.heap.size, 0, none⟩ = some (.int .i64 0) := p0
        have p1d : wn.drew.cell? ⟨w2.heap.size, 1, none⟩ = some (.int .i64 V) := p1
        have hbd := hbel.drew
        clear p0 p1 hbel
        have p0 := p0d
        have p1 := p1d
        have hbel := hbd
        clear p0d p1d hbd
        go_region_held3 (fun w' => w'.cell? ⟨w2.heap.size, 0, none⟩ = some (.int .i64 0) ∧ w'.cell? ⟨w2.heap.size, 1, none⟩ = some (.int .i64 V)) (first | exact ⟨p0, p1⟩) (first | (go_at_call 17; refine (implMulMod_any _ _ _ _).mono ?_; rintro r wn ⟨rfl, hbn⟩; have pk := cell_keep hbn p0; clear p0; have p0 := pk; clear pk; have pk := cell_keep hbn p1; clear p1; have p1 := pk; clear pk; have bk := btr hbel hbn; clear hbel; have hbel := bk; clear bk hbn) | (go_at_call 22; refine (implInverseOf_any _ _).mono ?_; rintro r wn ⟨rfl, hbn⟩; have pk := cell_keep hbn p0; clear p0; have p0 := pk; clear pk; have pk := cell_keep hbn p1; clear p1; have p1 := pk; clear pk; have bk := btr hbel hbn; clear hbel; have hbel := bk; clear bk hbn) | (go_at_call 26; refine (specInverseOf_any _ _).mono ?_; rintro r wn ⟨rfl, hbn⟩; have pk := cell_keep hbn p0; clear p0; have p0 := pk; clear pk; have pk := cell_keep hbn p1; clear p1; have p1 := pk; clear pk; have bk := btr hbel hbn; clear hbel; have hbel := bk; clear bk hbn))
        all_goals
          go_wp2_with fail
          go_ret
          exact ⟨rfl, hbel⟩

end Go.Proofs.Ytbjenjmnjlhoeaa.fnInverses
