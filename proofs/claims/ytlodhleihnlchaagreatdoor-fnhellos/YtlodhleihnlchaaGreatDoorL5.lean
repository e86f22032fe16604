/- Texts of this seat that several laws rest on, laid into one. Conditions: as each theorem states. -/
import Derived.Test.YtlodhleihnlchaaGreatDoorL2
import Derived.Test.YtlodhleihnlchaaGreatDoorL3
import Derived.Test.YtlodhleihnlchaaGreatDoorL4
import Derived.Test.YtlodhleihnlchaaGreatDoorProg
import Derived.WalkKit
import Derived.WalkSpells
import Derived.WalkLawsBesides
import Derived.Lib.Hide
import Derived.ChangeOld
import Derived.Below
import Derived.OpenShut
import Derived.Deep.QuietTactic
import Derived.BigQuiet
import Derived.Deep.Draws
import Derived.Deep.RegionHeld3
import Derived.Deep.AppendSrc
import Derived.Deep.MidRow
import Derived.Deep.Upon
import Derived.OwnWalk
import Derived.RegionTactic
import Derived.Laws.IdiomStrings
import Derived.Lib.SlBytesConst
import Derived.Lib.Case
import Derived.Lib.Strings
import Derived.Scope
namespace Go.Proofs.YtlodhleihnlchaaGreatDoor
open Go.RowKit
set_option maxRecDepth 100000

/-! Whole numbers below 2879 as floats, and back. -/
def floatBackB (n : Nat) : Bool := floatToIntVal .f64 (floatOfInt .f64 (n : Int)) .i64 == some (n : Int)
theorem float_all : M.allB floatBackB 2879 = true := by decide +kernel
theorem float_back {n : Int} (h0 : 0 ≤ n) (h1 : n ≤ 2878) : floatToIntVal .f64 (floatOfInt .f64 n) .i64 = some n := by
  obtain ⟨n, rfl⟩ := Int.eq_ofNat_of_zero_le h0
  have h := M.allB_out float_all (k := n) (by omega)
  simp only [floatBackB, beq_iff_eq] at h
  exact h
def pairV (p q : Int) : Value := .complex .f64 (floatOfInt .f64 p) (floatOfInt .f64 q)

theorem point_any (p q : Int) (w : World) (h0 : 0 ≤ p) (h1 : p ≤ 2878) :
    Calls Tryz.prog 181 #[pairV p q] w fun r w' => r = .returned (.int .i64 p) ∧ w = w' := by
  have hf := float_back h0 h1
  have hc := fun (w : World) => run_convert_float_int (P := Tryz.prog) w 316 2 .f64 .i64 (floatOfInt .f64 p) p (by kernel_rfl) Tryz.underlying2 hf
  unfold pairV
  go_enter Tryz.func181, Tryz.ntmps181
  go_wp2_with fail
  go_ret
  simp
theorem proof_any (p q : Int) (w : World) (h0 : 0 ≤ q) (h1 : q ≤ 2878) :
    Calls Tryz.prog 182 #[pairV p q] w fun r w' => r = .returned (.int .i64 q) ∧ w = w' := by
  have hf := float_back h0 h1
  have hc := fun (w : World) => run_convert_float_int (P := Tryz.prog) w 316 2 .f64 .i64 (floatOfInt .f64 q) q (by kernel_rfl) Tryz.underlying2 hf
  unfold pairV
  go_enter Tryz.func182, Tryz.ntmps182
  go_wp2_with fail
  go_ret
  simp

theorem pairOf_yes (p q : Int) (w : World) (h : M.sigB p q = true) :
    Calls Tryz.prog 179 #[I2 p q] w fun r w' => r = .returned (.tuple #[pairV p q, .nilIface]) ∧ Below w.heap.size w w' := by
  obtain ⟨p0, p1, q0, q1⟩ := M.sigB_bd h
  have hp : pubB p = true := by simp only [M.sigB, Bool.and_eq_true] at h; exact h.1
  unfold pairV
  clear h
  go_enter Tryz.func179, Tryz.ntmps179
  go_wp2_with fail
  refine (implIsPublic_any _ _).mono ?_
  rintro r w1 ⟨rfl, hb_w1⟩
  obtain ⟨hc_w1, hf_w1⟩ := bcell hb_w1
  have hz_w1 := hb_w1.size
  (try simp at hz_w1)
  go_wp2_with fail
  go_ret2
  exact ⟨rfl, btr (bal (Below.refl _ _) _) hb_w1⟩
def PairNo (w : World) (r : Ending) (w' : World) : Prop := ∃ s v, r = .returned (.tuple #[v, misV 3 s]) ∧ Below w.heap.size w w'
theorem pairOf_no (p q : Int) (w : World) (h : M.sigB p q = false) :
    Calls Tryz.prog 179 #[I2 p q] w (PairNo w) := by
  cases hp : pubB p
  · clear h
    go_enter Tryz.func179, Tryz.ntmps179
    go_wp2_with fail
    refine (implIsPublic_any _ _).mono ?_
    rintro r w1 ⟨rfl, hb_w1⟩
    obtain ⟨hc_w1, hf_w1⟩ := bcell hb_w1
    have hz_w1 := hb_w1.size
    (try simp at hz_w1)
    go_wp2_with fail
    go_ret2
    exact ⟨_, _, rfl, btr (bal (Below.refl _ _) _) hb_w1⟩
  · have hq : ¬ (0 ≤ q ∧ q ≤ 1438) := by
      intro hq
      simp only [M.sigB, hp, inB, hq, and_self, decide_true, Bool.and_self] at h
      cases h
    clear h
    by_cases q0 : q < 0
    · go_enter Tryz.func179, Tryz.ntmps179
      go_wp2_with fail
      refine (implIsPublic_any _ _).mono ?_
      rintro r w1 ⟨rfl, hb_w1⟩
      obtain ⟨hc_w1, hf_w1⟩ := bcell hb_w1
      have hz_w1 := hb_w1.size
      (try simp at hz_w1)
      go_wp2_with fail
      go_ret2
      exact ⟨_, _, rfl, btr (bal (Below.refl _ _) _) hb_w1⟩
    · have q1 : 1438 < q := by omega
      clear hq
      go_enter Tryz.func179, Tryz.ntmps179
      go_wp2_with fail
      refine (implIsPublic_any _ _).mono ?_
      rintro r w1 ⟨rfl, hb_w1⟩
      obtain ⟨hc_w1, hf_w1⟩ := bcell hb_w1
      have hz_w1 := hb_w1.size
      (try simp at hz_w1)
      go_wp2_with fail
      go_ret2
      exact ⟨_, _, rfl, btr (bal (Below.refl _ _) _) hb_w1⟩

theorem l3Nonce_any (s t : Int) (w : World) (hs : M.sumB s = true) (ht : M.sumB t = true) :
    Calls Tryz.prog 258 #[.int .i64 s, .int .i64 t] w fun r w' => r = .returned (.int .i64 (M.nonceN s t)) ∧ Below w.heap.size w w' := by
  have hR := row_two (w := w) s t 2 hs ht
  have HA := Lib.hid (show [s, t].all M.sumB = true by simp [hs, ht])
  obtain ⟨t0, t1⟩ := M.tagL_bd M.nonceS [s, t]
  unfold M.nonceN
  clear hs ht
  go_enter Tryz.func258, Tryz.ntmps258
  go_wp2_with fail
  refine (l2Tag_any M.nonceS _ _ _ _ _ _ (by decide) hR (by simp) HA.out (by omega)).mono ?_
  rintro r w2 ⟨rfl, hb2⟩
  have hb := btr (bal (Below.refl _ _) _) hb2
  clear hb2 hR HA
  go_wp2_with fail
  go_ret
  exact ⟨rfl, hb⟩
theorem l3Challenge_any (p q t : Int) (w : World) (hp : M.sumB p = true) (hq : M.sumB q = true) (ht : M.sumB t = true) :
    Calls Tryz.prog 259 #[.int .i64 p, .int .i64 q, .int .i64 t] w fun r w' => r = .returned (.int .i64 (M.chalN p q t)) ∧ Below w.heap.size w w' := by
  have hR := row_three (w := w) p q t 2 hp hq ht
  have HA := Lib.hid (show [p, q, t].all M.sumB = true by simp [hp, hq, ht])
  obtain ⟨t0, t1⟩ := M.tagL_bd M.signS [p, q, t]
  unfold M.chalN
  clear hp hq ht
  go_enter Tryz.func259, Tryz.ntmps259
  go_wp2_with fail
  refine (l2Tag_any M.signS _ _ _ _ _ _ (by decide) hR (by simp) HA.out (by omega)).mono ?_
  rintro r w2 ⟨rfl, hb2⟩
  have hb := btr (bal (Below.refl _ _) _) hb2
  clear hb2 hR HA
  go_wp2_with fail
  go_ret
  exact ⟨rfl, hb⟩

theorem l3Fault_at (g o : Nat) (p q : Int) (w : World) (c0 : w.cell? ⟨g, o, none⟩ = some (.int .i64 p)) (c1 : w.cell? ⟨g, o + 1, none⟩ = some (.int .i64 q)) :
    Calls Tryz.prog 199 #[.pointer (some ⟨g, o, none⟩)] w fun r w' => r = .returned (.int .i64 (M.sigF p q)) ∧ w = w' := by
  cases hp : pubB p
  · have E : M.sigF p q = 3 := by simp [M.sigF, M.sigB, hp]
    rw [E]; clear E
    go_enter Tryz.func199, Tryz.ntmps199
    go_wp2_with fail
    refine (l1Public_any _ _).mono ?_
    rintro r w' ⟨rfl, rfl⟩
    go_wp2_with fail
    go_ret
    simp
  cases hq : inB q 0 1438
  · have E : M.sigF p q = 3 := by simp [M.sigF, M.sigB, hq]
    rw [E]; clear E
    go_enter Tryz.func199, Tryz.ntmps199
    go_wp2_with fail
    refine (l1Public_any _ _).mono ?_
    rintro r w' ⟨rfl, rfl⟩
    go_wp2_with fail
    refine (l1In_any _ _ _ _).mono ?_
    rintro r w' ⟨rfl, rfl⟩
    go_wp2_with fail
    go_ret
    simp
  · have E : M.sigF p q = 0 := by simp [M.sigF, M.sigB, hp, hq]
    rw [E]; clear E
    go_enter Tryz.func199, Tryz.ntmps199
    go_wp2_with fail
    refine (l1Public_any _ _).mono ?_
    rintro r w' ⟨rfl, rfl⟩
    go_wp2_with fail
    refine (l1In_any _ _ _ _).mono ?_
    rintro r w' ⟨rfl, rfl⟩
    go_wp2_with fail
    go_ret
    simp
theorem l3Fault_any (g : Nat) (p q : Int) (w : World) (c0 : w.cell? ⟨g, 0, none⟩ = some (.int .i64 p)) (c1 : w.cell? ⟨g, 1, none⟩ = some (.int .i64 q)) :
    Calls Tryz.prog 199 #[.pointer (some ⟨g, 0, none⟩)] w fun r w' => r = .returned (.int .i64 (M.sigF p q)) ∧ w = w' := l3Fault_at g 0 p q w c0 c1
theorem implSignFault_any (p q : Int) (w : World) (hg : ErrT w) :
    Calls Tryz.prog 108 #[I2 p q] w fun r w' => r = .returned (.int .i64 (M.sigF p q)) ∧ Below w.heap.size w w' := by
  cases hB : M.sigB p q
  · have E : M.sigF p q = 3 := by simp [M.sigF, hB]
    rw [E]; clear E
    go_enter Tryz.func108, Tryz.ntmps108
    go_wp2_with fail
    refine (pairOf_no p q _ hB).mono ?_
    rintro r w1 ⟨s, v, rfl, hb0⟩
    have hb1 := btr (bal (Below.refl _ w) _) hb0
    clear hb0
    have hg1 := hg.on hb1
    go_wp2_with fail
    refine (codeOf_mis _ _ _ hg1).mono ?_
    rintro r w2 ⟨rfl, hb_w2⟩
    obtain ⟨hc_w2, hf_w2⟩ := bcell hb_w2
    have hz_w2 := hb_w2.size
    (try simp at hz_w2)
    go_wp2_with fail
    go_ret
    exact ⟨rfl, btr hb1 hb_w2⟩
  · have E : M.sigF p q = 0 := by simp [M.sigF, hB]
    rw [E]; clear E
    go_enter Tryz.func108, Tryz.ntmps108
    go_wp2_with fail
    refine (pairOf_yes p q _ hB).mono ?_
    rintro r w1 ⟨rfl, hb0⟩
    have hb1 := btr (bal (Below.refl _ w) _) hb0
    clear hb0
    go_wp2_with fail
    refine (codeOf_nil _).mono ?_
    rintro r w2 ⟨rfl, hb_w2⟩
    obtain ⟨hc_w2, hf_w2⟩ := bcell hb_w2
    have hz_w2 := hb_w2.size
    (try simp at hz_w2)
    go_wp2_with fail
    go_ret
    exact ⟨rfl, btr hb1 hb_w2⟩

end Go.Proofs.YtlodhleihnlchaaGreatDoor
namespace Go.Proofs.YtlodhleihnlchaaGreatDoor
open Go.RowKit
set_option maxRecDepth 100000
set_option linter.unusedVariables false

abbrev R6 (r s p x y f : Int) : Value := .agg #[.int .i64 r, .int .i64 s, .int .i64 p, .int .i64 x, .int .i64 y, .int .i64 f]
abbrev RL6 (r s p x y f : Int) : List Value := [.int .i64 r, .int .i64 s, .int .i64 p, .int .i64 x, .int .i64 y, .int .i64 f]
abbrev R7 (c r s p x y f : Int) : Value := .agg #[.int .i64 c, .int .i64 r, .int .i64 s, .int .i64 p, .int .i64 x, .int .i64 y, .int .i64 f]
abbrev RL7 (c r s p x y f : Int) : List Value := [.int .i64 c, .int .i64 r, .int .i64 s, .int .i64 p, .int .i64 x, .int .i64 y, .int .i64 f]

theorem implReplyFault_any (r s p x y f : Int) (w : World) (hg : ErrT w) :
    Calls Tryz.prog 25 #[R6 r s p x y f] w fun e w' => e = .returned (.int .i64 (repF r s p x y f)) ∧ Below w.heap.size w w' := by
  have b0 := bal (Below.refl _ w) (.cells #[.int .i64 r, .int .i64 s, .int .i64 p, .int .i64 x, .int .i64 y, .int .i64 f] 33)
  have A0 := At.new w (RL6 r s p x y f) 33
  have E0 := hg.on b0
  clear hg
  cases hr : M.sumB r
  · rw [repF_no (by rw [hr]; rfl)]
    go_enter Tryz.func25, Tryz.ntmps25
    go_wp2_with fail
    refine (isSum_any _ _).mono ?_
    rintro r w' ⟨rfl, rfl⟩
    go_wp2_with fail
    go_ret
    exact ⟨rfl, b0⟩
  cases hs : pubB s
  · rw [repF_no (by rw [hs]; simp)]
    go_enter Tryz.func25, Tryz.ntmps25
    go_wp2_with fail
    refine (isSum_any _ _).mono ?_
    rintro r w' ⟨rfl, rfl⟩
    go_wp2_with fail
    generalize w.alloc (.cells #[.int .i64 r, .int .i64 s, .int .i64 p, .int .i64 x, .int .i64 y, .int .i64 f] 33) = W0 at *
    refine (implIsPublic_any _ _).mono ?_
    rintro e u1 ⟨rfl, b1⟩
    have B1 := btr b0 b1
    have d0 := (A0.on b1).cell 0 _ rfl
    have d1 := (A0.on b1).cell 1 _ rfl
    have d2 := (A0.on b1).cell 2 _ rfl
    have d3 := (A0.on b1).cell 3 _ rfl
    have d4 := (A0.on b1).cell 4 _ rfl
    have d5 := (A0.on b1).cell 5 _ rfl
    go_wp2_with fail
    go_ret
    exact ⟨rfl, B1⟩
  cases hp : pubB p
  · rw [repF_no (by rw [hp]; simp)]
    go_enter Tryz.func25, Tryz.ntmps25
    go_wp2_with fail
    refine (isSum_any _ _).mono ?_
    rintro r w' ⟨rfl, rfl⟩
    go_wp2_with fail
    generalize w.alloc (.cells #[.int .i64 r, .int .i64 s, .int .i64 p, .int .i64 x, .int .i64 y, .int .i64 f] 33) = W0 at *
    refine (implIsPublic_any _ _).mono ?_
    rintro e u1 ⟨rfl, b1⟩
    have B1 := btr b0 b1
    have d0 := (A0.on b1).cell 0 _ rfl
    have d1 := (A0.on b1).cell 1 _ rfl
    have d2 := (A0.on b1).cell 2 _ rfl
    have d3 := (A0.on b1).cell 3 _ rfl
    have d4 := (A0.on b1).cell 4 _ rfl
    have d5 := (A0.on b1).cell 5 _ rfl
    go_wp2_with fail
    refine (implIsPublic_any _ _).mono ?_
    rintro e u2 ⟨rfl, b2⟩
    have B2 := btr B1 b2
    have b12 := btr b1 b2
    clear d0 d1 d2 d3 d4 d5 b1 b2
    have d0 := (A0.on b12).cell 0 _ rfl
    have d1 := (A0.on b12).cell 1 _ rfl
    have d2 := (A0.on b12).cell 2 _ rfl
    have d3 := (A0.on b12).cell 3 _ rfl
    have d4 := (A0.on b12).cell 4 _ rfl
    have d5 := (A0.on b12).cell 5 _ rfl
    go_wp2_with fail
    go_ret
    exact ⟨rfl, B2⟩
  cases hf : M.sumB f
  · rw [repF_no (by rw [hf]; simp)]
    go_enter Tryz.func25, Tryz.ntmps25
    go_wp2_with fail
    refine (isSum_any _ _).mono ?_
    rintro r w' ⟨rfl, rfl⟩
    go_wp2_with fail
    generalize w.alloc (.cells #[.int .i64 r, .int .i64 s, .int .i64 p, .int .i64 x, .int .i64 y, .int .i64 f] 33) = W0 at *
    refine (implIsPublic_any _ _).mono ?_
    rintro e u1 ⟨rfl, b1⟩
    have B1 := btr b0 b1
    have d0 := (A0.on b1).cell 0 _ rfl
    have d1 := (A0.on b1).cell 1 _ rfl
    have d2 := (A0.on b1).cell 2 _ rfl
    have d3 := (A0.on b1).cell 3 _ rfl
    have d4 := (A0.on b1).cell 4 _ rfl
    have d5 := (A0.on b1).cell 5 _ rfl
    go_wp2_with fail
    refine (implIsPublic_any _ _).mono ?_
    rintro e u2 ⟨rfl, b2⟩
    have B2 := btr B1 b2
    have b12 := btr b1 b2
    clear d0 d1 d2 d3 d4 d5 b1 b2
    have d0 := (A0.on b12).cell 0 _ rfl
    have d1 := (A0.on b12).cell 1 _ rfl
    have d2 := (A0.on b12).cell 2 _ rfl
    have d3 := (A0.on b12).cell 3 _ rfl
    have d4 := (A0.on b12).cell 4 _ rfl
    have d5 := (A0.on b12).cell 5 _ rfl
    go_wp2_with fail
    refine (isSum_any _ _).mono ?_
    rintro r w' ⟨rfl, rfl⟩
    go_wp2_with fail
    go_ret
    exact ⟨rfl, B2⟩
  · rw [repF_yes (by rw [hr, hs, hp, hf]; rfl)]
    go_enter Tryz.func25, Tryz.ntmps25
    go_wp2_with fail
    refine (isSum_any _ _).mono ?_
    rintro r w' ⟨rfl, rfl⟩
    go_wp2_with fail
    generalize w.alloc (.cells #[.int .i64 r, .int .i64 s, .int .i64 p, .int .i64 x, .int .i64 y, .int .i64 f] 33) = W0 at *
    refine (implIsPublic_any _ _).mono ?_
    rintro e u1 ⟨rfl, b1⟩
    have B1 := btr b0 b1
    have d0 := (A0.on b1).cell 0 _ rfl
    have d1 := (A0.on b1).cell 1 _ rfl
    have d2 := (A0.on b1).cell 2 _ rfl
    have d3 := (A0.on b1).cell 3 _ rfl
    have d4 := (A0.on b1).cell 4 _ rfl
    have d5 := (A0.on b1).cell 5 _ rfl
    go_wp2_with fail
    refine (implIsPublic_any _ _).mono ?_
    rintro e u2 ⟨rfl, b2⟩
    have B2 := btr B1 b2
    have b12 := btr b1 b2
    clear d0 d1 d2 d3 d4 d5 b1 b2
    have d0 := (A0.on b12).cell 0 _ rfl
    have d1 := (A0.on b12).cell 1 _ rfl
    have d2 := (A0.on b12).cell 2 _ rfl
    have d3 := (A0.on b12).cell 3 _ rfl
    have d4 := (A0.on b12).cell 4 _ rfl
    have d5 := (A0.on b12).cell 5 _ rfl
    go_wp2_with fail
    refine (isSum_any _ _).mono ?_
    rintro r w' ⟨rfl, rfl⟩
    go_wp2_with fail
    refine (implSignFault_any x y _ (E0.on b12)).mono ?_
    rintro e u3 ⟨rfl, b3⟩
    have B3 := btr B2 b3
    go_wp2_with fail
    go_ret
    exact ⟨rfl, B3⟩

theorem l3Fault3_any (g : Nat) (p q : Int) (w : World) (c0 : w.cell? ⟨g, 3, none⟩ = some (.int .i64 p)) (c1 : w.cell? ⟨g, 4, none⟩ = some (.int .i64 q)) :
    Calls Tryz.prog 199 #[.pointer (some ⟨g, 3, none⟩)] w fun r w' => r = .returned (.int .i64 (M.sigF p q)) ∧ w = w' := by
  cases hp : pubB p
  · have E : M.sigF p q = 3 := by simp [M.sigF, M.sigB, hp]
    rw [E]; clear E
    go_enter Tryz.func199, Tryz.ntmps199
    go_wp2_with fail
    refine (l1Public_any _ _).mono ?_
    rintro r w' ⟨rfl, rfl⟩
    go_wp2_with fail
    go_ret
    simp
  cases hq : inB q 0 1438
  · have E : M.sigF p q = 3 := by simp [M.sigF, M.sigB, hq]
    rw [E]; clear E
    go_enter Tryz.func199, Tryz.ntmps199
    go_wp2_with fail
    refine (l1Public_any _ _).mono ?_
    rintro r w' ⟨rfl, rfl⟩
    go_wp2_with fail
    refine (l1In_any _ _ _ _).mono ?_
    rintro r w' ⟨rfl, rfl⟩
    go_wp2_with fail
    go_ret
    simp
  · have E : M.sigF p q = 0 := by simp [M.sigF, M.sigB, hp, hq]
    rw [E]; clear E
    go_enter Tryz.func199, Tryz.ntmps199
    go_wp2_with fail
    refine (l1Public_any _ _).mono ?_
    rintro r w' ⟨rfl, rfl⟩
    go_wp2_with fail
    refine (l1In_any _ _ _ _).mono ?_
    rintro r w' ⟨rfl, rfl⟩
    go_wp2_with fail
    go_ret
    simp
theorem l6Reply_any (g : Nat) (r s p x y f : Int) (w : World) (A0 : At g (RL6 r s p x y f) w) :
    Calls Tryz.prog 109 #[.pointer (some ⟨g, 0, none⟩)] w fun e w' => e = .returned (.int .i64 (repF r s p x y f)) ∧ w = w' := by
  have d0 := A0.cell 0 _ rfl
  have d1 := A0.cell 1 _ rfl
  have d2 := A0.cell 2 _ rfl
  have d3 := A0.cell 3 _ rfl
  have d4 := A0.cell 4 _ rfl
  have d5 := A0.cell 5 _ rfl
  cases hr : M.sumB r
  · rw [repF_no (by rw [hr]; rfl)]
    go_enter Tryz.func109, Tryz.ntmps109
    go_wp2_with fail
    refine (l2Is_any _ _).mono ?_
    rintro r w' ⟨rfl, rfl⟩
    go_wp2_with fail
    go_ret
    simp
  cases hs : pubB s
  · rw [repF_no (by rw [hs]; simp)]
    go_enter Tryz.func109, Tryz.ntmps109
    go_wp2_with fail
    refine (l2Is_any _ _).mono ?_
    rintro r w' ⟨rfl, rfl⟩
    go_wp2_with fail
    refine (l1Public_any _ _).mono ?_
    rintro r w' ⟨rfl, rfl⟩
    go_wp2_with fail
    go_ret
    simp
  cases hp : pubB p
  · rw [repF_no (by rw [hp]; simp)]
    go_enter Tryz.func109, Tryz.ntmps109
    go_wp2_with fail
    refine (l2Is_any _ _).mono ?_
    rintro r w' ⟨rfl, rfl⟩
    go_wp2_with fail
    refine (l1Public_any _ _).mono ?_
    rintro r w' ⟨rfl, rfl⟩
    go_wp2_with fail
    refine (l1Public_any _ _).mono ?_
    rintro r w' ⟨rfl, rfl⟩
    go_wp2_with fail
    go_ret
    simp
  cases hf : M.sumB f
  · rw [repF_no (by rw [hf]; simp)]
    go_enter Tryz.func109, Tryz.ntmps109
    go_wp2_with fail
    refine (l2Is_any _ _).mono ?_
    rintro r w' ⟨rfl, rfl⟩
    go_wp2_with fail
    refine (l1Public_any _ _).mono ?_
    rintro r w' ⟨rfl, rfl⟩
    go_wp2_with fail
    refine (l1Public_any _ _).mono ?_
    rintro r w' ⟨rfl, rfl⟩
    go_wp2_with fail
    refine (l2Is_any _ _).mono ?_
    rintro r w' ⟨rfl, rfl⟩
    go_wp2_with fail
    go_ret
    simp
  · rw [repF_yes (by rw [hr, hs, hp, hf]; rfl)]
    go_enter Tryz.func109, Tryz.ntmps109
    go_wp2_with fail
    refine (l2Is_any _ _).mono ?_
    rintro r w' ⟨rfl, rfl⟩
    go_wp2_with fail
    refine (l1Public_any _ _).mono ?_
    rintro r w' ⟨rfl, rfl⟩
    go_wp2_with fail
    refine (l1Public_any _ _).mono ?_
    rintro r w' ⟨rfl, rfl⟩
    go_wp2_with fail
    refine (l2Is_any _ _).mono ?_
    rintro r w' ⟨rfl, rfl⟩
    go_wp2_with fail
    refine (l3Fault3_any g x y _ d3 d4).mono ?_
    rintro r w' ⟨rfl, rfl⟩
    go_wp2_with fail
    go_ret
    simp
theorem specReplyFault_any (r s p x y f : Int) (w : World) :
    Calls Tryz.prog 26 #[R6 r s p x y f] w fun e w' => e = .returned (.int .i64 (repF r s p x y f)) ∧ Below w.heap.size w w' := by
  have b0 := bal (Below.refl _ w) (.cells #[.int .i64 r, .int .i64 s, .int .i64 p, .int .i64 x, .int .i64 y, .int .i64 f] 33)
  have A0 := At.new w (RL6 r s p x y f) 33
  go_enter Tryz.func26, Tryz.ntmps26
  go_wp2_with fail
  refine (l6Reply_any _ r s p x y f _ A0).mono ?_
  rintro r w' ⟨rfl, rfl⟩
  go_wp2_with fail
  go_ret
  exact ⟨rfl, b0⟩
end Go.Proofs.YtlodhleihnlchaaGreatDoor
namespace Go.Proofs.YtlodhleihnlchaaGreatDoor
open Go.RowKit
set_option maxRecDepth 100000
set_option linter.unusedVariables false

abbrev H3 (r s : Int) (n : ByteArray) : Value := .agg #[.int .i64 r, .int .i64 s, .string n]
abbrev HL3 (r s : Int) (n : ByteArray) : List Value := [.int .i64 r, .int .i64 s, .string n]
abbrev H4 (c r s : Int) (n : ByteArray) : Value := .agg #[.int .i64 c, .int .i64 r, .int .i64 s, .string n]
abbrev HL4 (c r s : Int) (n : ByteArray) : List Value := [.int .i64 c, .int .i64 r, .int .i64 s, .string n]

theorem implHelloFault_any (r s : Int) (n : ByteArray) (w : World) (hn : n.size ≤ maxLen) :
    Calls Tryz.prog 23 #[H3 r s n] w fun e w' => e = .returned (.int .i64 (helF n.data.toList r s)) ∧ Below w.heap.size w w' := by
  have b0 := bal (Below.refl _ w) (.cells #[.int .i64 r, .int .i64 s, .string n] 26)
  have A0 := At.new w (HL3 r s n) 26
  have F := fun w => implNormalFault_any n w hn
  cases hr : M.sumB r
  · rw [helF_no (by rw [hr]; rfl)]
    go_enter Tryz.func23, Tryz.ntmps23
    go_wp2_with fail
    refine (isSum_any _ _).mono ?_
    rintro r w' ⟨rfl, rfl⟩
    go_wp2_with fail
    go_ret
    exact ⟨rfl, b0⟩
  cases hs : pubB s
  · rw [helF_no (by rw [hs]; simp)]
    go_enter Tryz.func23, Tryz.ntmps23
    go_wp2_with fail
    refine (isSum_any _ _).mono ?_
    rintro r w' ⟨rfl, rfl⟩
    go_wp2_with fail
    generalize w.alloc (.cells #[.int .i64 r, .int .i64 s, .string n] 26) = W0 at *
    refine (implIsPublic_any _ _).mono ?_
    rintro e u1 ⟨rfl, b1⟩
    have B1 := btr b0 b1
    have p0 := (A0.on b1).cell 0 _ rfl
    have p1 := (A0.on b1).cell 1 _ rfl
    have p2 := (A0.on b1).cell 2 _ rfl
    clear A0 b0 b1
    go_wp2_with fail
    go_ret
    exact ⟨rfl, B1⟩
  · rw [helF_yes (by rw [hr, hs]; rfl)]
    generalize M.normF n.data.toList = c at *
    go_enter Tryz.func23, Tryz.ntmps23
    go_wp2_with fail
    refine (isSum_any _ _).mono ?_
    rintro r w' ⟨rfl, rfl⟩
    go_wp2_with fail
    generalize w.alloc (.cells #[.int .i64 r, .int .i64 s, .string n] 26) = W0 at *
    refine (implIsPublic_any _ _).mono ?_
    rintro e u1 ⟨rfl, b1⟩
    have B1 := btr b0 b1
    have p0 := (A0.on b1).cell 0 _ rfl
    have p1 := (A0.on b1).cell 1 _ rfl
    have p2 := (A0.on b1).cell 2 _ rfl
    clear A0 b0 b1
    go_wp2_with fail
    refine (F _).mono ?_
    rintro e u2 ⟨rfl, b2⟩
    have B2 := btr B1 b2
    go_wp2_with fail
    go_ret
    exact ⟨rfl, B2⟩

theorem l6Hello_any (g : Nat) (r s : Int) (n : ByteArray) (w : World) (A0 : At g (HL3 r s n) w) (hn : n.size ≤ maxLen) :
    Calls Tryz.prog 107 #[.pointer (some ⟨g, 0, none⟩)] w fun e w' => e = .returned (.int .i64 (helF n.data.toList r s)) ∧ Below w.heap.size w w' := by
  have hL : n.data.toList.length = n.size := by simp
  have F := fun w => l5Fault_any n w hn
  have d0 := A0.cell 0 _ rfl
  have d1 := A0.cell 1 _ rfl
  have d2 := A0.cell 2 _ rfl
  cases hr : M.sumB r
  · rw [helF_no (by rw [hr]; rfl)]
    go_enter Tryz.func107, Tryz.ntmps107
    go_wp2_with fail
    refine (l2Is_any _ _).mono ?_
    rintro r w' ⟨rfl, rfl⟩
    go_wp2_with fail
    go_ret
    exact ⟨rfl, Below.refl _ _⟩
  cases hs : pubB s
  · rw [helF_no (by rw [hs]; simp)]
    go_enter Tryz.func107, Tryz.ntmps107
    go_wp2_with fail
    refine (l2Is_any _ _).mono ?_
    rintro r w' ⟨rfl, rfl⟩
    go_wp2_with fail
    refine (l1Public_any _ _).mono ?_
    rintro r w' ⟨rfl, rfl⟩
    go_wp2_with fail
    go_ret
    exact ⟨rfl, Below.refl _ _⟩
  rw [helF_yes (by rw [hr, hs]; rfl)]
  by_cases h0 : M.nameF n.data.toList = 0
  · obtain ⟨h20, hm⟩ := M.nameF_zero h0
    rw [hL] at h20
    have N := fun w : World => l5Normal_any n w h20
    have Q := text_beq (M.bs (M.nrm n.data.toList)) n
    rw [M.bs_list] at Q
    rw [h0] at F
    by_cases hq : M.nrm n.data.toList = n.data.toList
    · rw [M.normF_yes h0 hq]
      rw [decide_eq_true hq] at Q
      generalize M.bs (M.nrm n.data.toList) = R at *
      clear h0 hm hq hL
      go_enter Tryz.func107, Tryz.ntmps107
      go_wp2_with fail
      refine (l2Is_any _ _).mono ?_
      rintro r w' ⟨rfl, rfl⟩
      go_wp2_with fail
      refine (l1Public_any _ _).mono ?_
      rintro r w' ⟨rfl, rfl⟩
      go_wp2_with fail
      refine (F _).mono ?_
      rintro e u1 ⟨rfl, b1⟩
      have p0 := (A0.on b1).cell 0 _ rfl
      have p1 := (A0.on b1).cell 1 _ rfl
      have p2 := (A0.on b1).cell 2 _ rfl
      go_wp2_with fail
      refine wp_region_line (Bel u1) [(0, true), (1, true), (2, true), (3, true), (5, true), (6, true), (7, true), (8, true), (4, false), (9, true)] (by kernel_rfl) (by kernel_rfl) (fun _ _ d _ _ h => by cases d <;> exact h) (Bel.drew u1) ?_
      have hst := Bel.drew u1
      have inst : Nonempty (Of (Bel u1)) := ⟨⟨_, hst⟩⟩
      have q2 := bel_cell p2
      iterate 8 (refine line_read rfl (by kernel_rfl) (fun K hK => ?_); go_big_quiet_op; refine hK _ ?_; clear hK K)
      refine line_alone rfl (by kernel_rfl) (fun K hK => ?_)
      refine call_wp (args := #[.string n]) rfl (by kernel_rfl) (by kernel_rfl) (N _) (fun wn hbn => ?_)
      have hst2 := hst.on hbn
      refine hK _ _ hst2 ?_
      clear hK K hst hbn
      have hst := hst2
      clear hst2
      simp only [Act.put, List.setIfInBounds_toArray, List.set_cons_zero, List.set_cons_succ]
      iterate 1 (refine line_read rfl (by kernel_rfl) (fun K hK => ?_); go_big_quiet_op; refine hK _ ?_; clear hK K)
      refine line_nil ?_
      have bb := btr b1 hst.out
      go_wp2_with fail
      go_ret
      exact ⟨rfl, bb⟩
    · rw [M.normF_form h0 hq]
      rw [decide_eq_false hq] at Q
      generalize M.bs (M.nrm n.data.toList) = R at *
      clear h0 hm hq hL
      go_enter Tryz.func107, Tryz.ntmps107
      go_wp2_with fail
      refine (l2Is_any _ _).mono ?_
      rintro r w' ⟨rfl, rfl⟩
      go_wp2_with fail
      refine (l1Public_any _ _).mono ?_
      rintro r w' ⟨rfl, rfl⟩
      go_wp2_with fail
      refine (F _).mono ?_
      rintro e u1 ⟨rfl, b1⟩
      have p0 := (A0.on b1).cell 0 _ rfl
      have p1 := (A0.on b1).cell 1 _ rfl
      have p2 := (A0.on b1).cell 2 _ rfl
      go_wp2_with fail
      refine wp_region_line (Bel u1) [(0, true), (1, true), (2, true), (3, true), (5, true), (6, true), (7, true), (8, true), (4, false), (9, true)] (by kernel_rfl) (by kernel_rfl) (fun _ _ d _ _ h => by cases d <;> exact h) (Bel.drew u1) ?_
      have hst := Bel.drew u1
      have inst : Nonempty (Of (Bel u1)) := ⟨⟨_, hst⟩⟩
      have q2 := bel_cell p2
      iterate 8 (refine line_read rfl (by kernel_rfl) (fun K hK => ?_); go_big_quiet_op; refine hK _ ?_; clear hK K)
      refine line_alone rfl (by kernel_rfl) (fun K hK => ?_)
      refine call_wp (args := #[.string n]) rfl (by kernel_rfl) (by kernel_rfl) (N _) (fun wn hbn => ?_)
      have hst2 := hst.on hbn
      refine hK _ _ hst2 ?_
      clear hK K hst hbn
      have hst := hst2
      clear hst2
      simp only [Act.put, List.setIfInBounds_toArray, List.set_cons_zero, List.set_cons_succ]
      iterate 1 (refine line_read rfl (by kernel_rfl) (fun K hK => ?_); go_big_quiet_op; refine hK _ ?_; clear hK K)
      refine line_nil ?_
      have bb := btr b1 hst.out
      go_wp2_with fail
      go_ret
      exact ⟨rfl, bb⟩
  · rw [M.normF_no h0]
    generalize M.nameF n.data.toList = c at *
    go_enter Tryz.func107, Tryz.ntmps107
    go_wp2_with fail
    refine (l2Is_any _ _).mono ?_
    rintro r w' ⟨rfl, rfl⟩
    go_wp2_with fail
    refine (l1Public_any _ _).mono ?_
    rintro r w' ⟨rfl, rfl⟩
    go_wp2_with fail
    refine (F _).mono ?_
    rintro e u1 ⟨rfl, b1⟩
    have p0 := (A0.on b1).cell 0 _ rfl
    have p1 := (A0.on b1).cell 1 _ rfl
    have p2 := (A0.on b1).cell 2 _ rfl
    go_wp2_with fail
    go_ret
    exact ⟨rfl, b1⟩
theorem specHelloFault_any (r s : Int) (n : ByteArray) (w : World) (hn : n.size ≤ maxLen) :
    Calls Tryz.prog 24 #[H3 r s n] w fun e w' => e = .returned (.int .i64 (helF n.data.toList r s)) ∧ Below w.heap.size w w' := by
  have b0 := bal (Below.refl _ w) (.cells #[.int .i64 r, .int .i64 s, .string n] 26)
  have A0 := At.new w (HL3 r s n) 26
  go_enter Tryz.func24, Tryz.ntmps24
  go_wp2_with fail
  refine (l6Hello_any _ r s n _ A0 hn).mono ?_
  rintro e u1 ⟨rfl, b1⟩
  have hb := btr b0 b1
  go_wp2_with fail
  go_ret
  exact ⟨rfl, hb⟩
end Go.Proofs.YtlodhleihnlchaaGreatDoor
namespace Go.Proofs.YtlodhleihnlchaaGreatDoor
open Go.RowKit
set_option maxRecDepth 100000

end Go.Proofs.YtlodhleihnlchaaGreatDoor
namespace Go.Proofs.YtlodhleihnlchaaGreatDoor
open Go.RowKit
set_option maxRecDepth 100000

theorem kf0 (a b : Int) (w : World) : Sem.run Tryz.prog (Instr.field 119 (.agg #[.int .i64 a, .int .i64 b]) 0) w = .ok (.int .i64 a) w := by kernel_rfl
theorem kf1 (a b : Int) (w : World) : Sem.run Tryz.prog (Instr.field 119 (.agg #[.int .i64 a, .int .i64 b]) 1) w = .ok (.int .i64 b) w := by kernel_rfl

theorem l3Sign_any (s t : Int) (w : World) (hs : inB s 1 1438 = true) (ht : M.sumB t = true) :
    Calls Tryz.prog 192 #[.int .i64 s, .int .i64 t] w fun r w' => r = .returned (I2 (M.sigPt s t) (M.sigPr s t)) ∧ Below w.heap.size w w' := by
  have hs' := hs
  simp only [inB, decide_eq_true_eq] at hs'
  obtain ⟨s0, s1⟩ := hs'
  have hS := M.sum_of_sec hs
  have e1 : M.sigPt s t = M.pw 4 (M.nonceN s t).toNat 2879 := rfl
  have e2 : M.sigPr s t = (M.nonceN s t + M.chalN (M.pw 4 s.toNat 2879) (M.pw 4 (M.nonceN s t).toNat 2879) t * s) % 1439 := rfl
  rw [e1, e2]
  clear e1 e2
  obtain ⟨n0, n1⟩ := M.nonceN_bd s t
  obtain ⟨c0, c1⟩ := M.chalN_bd (M.pw 4 s.toNat 2879) (M.pw 4 (M.nonceN s t).toNat 2879) t
  obtain ⟨m0, m1⟩ := M.mul_bd (M := 1439) c0 (by omega) (show 0 ≤ s by omega) (by omega) (by omega)
  have hp1 := M.pow_sum (a := 4) s.toNat
  have hp2 := M.pow_sum (a := 4) (M.nonceN s t).toNat
  have K1 := fun w => l1Key_any s w (by omega) (by omega)
  have K2 := fun w => l1Key_any (M.nonceN s t) w (by omega) (by omega)
  generalize M.pw 4 s.toNat 2879 = U at *
  generalize M.pw 4 (M.nonceN s t).toNat 2879 = P at *
  have g0 := kf0
  have g1 := kf1
  have N1 := fun w => l3Nonce_any s t w hS ht
  generalize M.nonceN s t = n at *
  go_enter Tryz.func192, Tryz.ntmps192
  go_wp2_with fail
  refine (N1 _).mono ?_
  rintro r w1 ⟨rfl, h1⟩
  go_wp2_with fail
  refine (K2 _).mono ?_
  rintro r w2 ⟨rfl, h2⟩
  have k0 : (w2.alloc (.cells #[.int .i64 n, .int .i64 P] 119)).drew.cell? ⟨w2.heap.size, 0, none⟩ = some (.int .i64 n) := by go_simp
  have k1 : (w2.alloc (.cells #[.int .i64 n, .int .i64 P] 119)).drew.cell? ⟨w2.heap.size, 1, none⟩ = some (.int .i64 P) := by go_simp
  have hbel := (bal (btr h1 h2) (.cells #[.int .i64 n, .int .i64 P] 119)).drew
  have hR0 := Res2.new w 31
  have hb0 := bal (Below.refl _ w) (.cells #[.int .i64 0, .int .i64 0] 31)
  clear h1 h2
  go_wp2_with fail
  generalize w2.alloc (.cells #[.int .i64 n, .int .i64 P] 119) = v2 at *
  generalize w.alloc (.cells #[.int .i64 0, .int .i64 0] 31) = W0 at *
  go_region_held3 (fun w' => w'.cell? ⟨w2.heap.size, 1, none⟩ = some (.int .i64 P)) (first | exact k1) (first | (go_at_call 187; refine (K1 _).mono ?_; rintro r wn ⟨rfl, hbn⟩; have pk := cell_keep hbn k0; clear k0; have k0 := pk; clear pk; have pk := cell_keep hbn k1; clear k1; have k1 := pk; clear pk; have bk := btr hbel hbn; clear hbel; have hbel := bk; clear bk hbn) | (go_at_call 259; refine (l3Challenge_any _ _ _ _ hp1 hp2 ht).mono ?_; rintro r wn ⟨rfl, hbn⟩; have pk := cell_keep hbn k0; clear k0; have k0 := pk; clear pk; have pk := cell_keep hbn k1; clear k1; have k1 := pk; clear pk; have bk := btr hbel hbn; clear hbel; have hbel := bk; clear bk hbn))
  all_goals
    obtain ⟨q0, q1, z0, z1⟩ := hR0.on hbel
    go_wp2_with fail
    exact bodyPost_ret (v := I2 P ((n + M.chalN U P t * s) % 1439)) (by simp [results, Tryz.results192, go_sem, q0, q1]) rfl ⟨rfl, bset (bset (btr hb0 hbel) (Nat.le_refl _) _) (Nat.le_refl _) _⟩

end Go.Proofs.YtlodhleihnlchaaGreatDoor
namespace Go.Proofs.YtlodhleihnlchaaGreatDoor
open Go.RowKit
set_option maxRecDepth 100000
set_option linter.unusedVariables false

theorem dsecret6 {w0 : World} {a : Option Addr} {len cap : Nat} {zs : List Int} {p : Nat} {w : World} (D : Draw w0 a len cap zs p w) (hp : p ≤ 1000000) :
    Calls Tryz.prog 159 #[.pointer (some ⟨w0.heap.size, 0, none⟩)] w fun r w' => ∃ v : Int, 1 ≤ v ∧ v ≤ 1438 ∧ r = .returned (.int .i64 v) ∧ Draw w0 a len cap zs (p + 1) w' ∧ Only w0.heap.size w w' := by
  go_enter Tryz.func159, Tryz.ntmps159
  go_wp2_with fail
  refine (dnext _ D hp).mono ?_
  rintro r w2 ⟨x, x0, x1, rfl, D2, O2⟩
  have x2 : x < 1438 := by omega
  clear x1 D
  go_wp2_with fail
  go_ret
  exact ⟨1 + x, by omega, by omega, rfl, D2, O2⟩

structure Drw (w0 : World) (a : Option Addr) (len cap : Nat) (zs : List Int) (p : Nat) (w : World) (rb : Nat) (rs : List Value) (cur : World) : Prop where
  draw : Draw w0 a len cap zs p cur
  grew : w.grownBy cur (some w0.heap.size)
  res : At rb rs cur
section
variable {w0 : World} {a : Option Addr} {len cap : Nat} {zs : List Int} {p p' : Nat} {w : World} {rb tb : Nat} {rs cs : List Value} {cur cur' : World}
theorem Drw.only (h : Drw w0 a len cap zs p w rb rs cur) (hO : Only w0.heap.size cur cur') (D : Draw w0 a len cap zs p' cur') (h1 : rb ≠ w0.heap.size) : Drw w0 a len cap zs p' w rb rs cur' :=
  ⟨D, gtr h.grew hO.grown, h.res.only5 hO h1⟩
theorem Drw.kept (h : Drw w0 a len cap zs p w rb rs cur) (hO : cur.grownBy cur' (some w0.heap.size)) (D : Draw w0 a len cap zs p' cur') (h1 : rb ≠ w0.heap.size) : Drw w0 a len cap zs p' w rb rs cur' :=
  ⟨D, gtr h.grew hO, h.res.kept hO (fun e => by injection e with e; exact h1 e)⟩
theorem Drw.on (h : Drw w0 a len cap zs p w rb rs cur) (hb : Below cur.heap.size cur cur') : Drw w0 a len cap zs p w rb rs cur' := ⟨h.draw.below hb, gbe h.grew hb, h.res.on hb⟩
theorem Drw.alloc (h : Drw w0 a len cap zs p w rb rs cur) (o : Obj) : Drw w0 a len cap zs p w rb rs (cur.alloc o) := ⟨h.draw.alloc o, gal h.grew o, h.res.alloc o⟩
structure BentX (w0 : World) (a : Option Addr) (len cap : Nat) (zs : List Int) (p : Nat) (w : World) (rb : Nat) (rs : List Value) (tb : Nat) (cs : List Value) (cur : World) : Prop where
  drw : Drw w0 a len cap zs p w rb rs cur
  one : At tb cs cur
theorem BentX.only (h : BentX w0 a len cap zs p w rb rs tb cs cur) (hO : Only w0.heap.size cur cur') (D : Draw w0 a len cap zs p' cur') (h1 : rb ≠ w0.heap.size) (h2 : tb ≠ w0.heap.size) : BentX w0 a len cap zs p' w rb rs tb cs cur' :=
  ⟨h.drw.only hO D h1, h.one.only5 hO h2⟩
theorem BentX.kept (h : BentX w0 a len cap zs p w rb rs tb cs cur) (hO : cur.grownBy cur' (some w0.heap.size)) (D : Draw w0 a len cap zs p' cur') (h1 : rb ≠ w0.heap.size) (h2 : tb ≠ w0.heap.size) : BentX w0 a len cap zs p' w rb rs tb cs cur' :=
  ⟨h.drw.kept hO D h1, h.one.kept hO (fun e => by injection e with e; exact h2 e)⟩
theorem BentX.alloc (h : BentX w0 a len cap zs p w rb rs tb cs cur) (o : Obj) : BentX w0 a len cap zs p w rb rs tb cs (cur.alloc o) := ⟨h.drw.alloc o, h.one.alloc o⟩
theorem BentX.put (i : Nat) (x : Value) (h : BentX w0 a len cap zs p w rb rs tb cs cur) (h1 : rb ≠ tb) (h2 : w0.heap.size < tb) (h3 : w.heap.size ≤ tb) : BentX w0 a len cap zs p w rb rs tb (cs.set i x) (cur.setCell ⟨tb, i, none⟩ x) :=
  ⟨⟨h.drw.draw.put h2 x, gset h.drw.grew h3 x, h.drw.res.setB (p := ⟨tb, i, none⟩) h1 x⟩, h.one.set i x⟩
end

def DHello (K : Nat) (Q : ByteArray → Int → Int → Prop) (w0 : World) (a : Option Addr) (len cap : Nat) (zs : List Int) (w : World) (e : Ending) (w' : World) : Prop :=
  ∃ (r s : Int) (n : ByteArray) (p : Nat), Q n r s ∧ p ≤ K ∧ e = .returned (H3 r s n) ∧ Draw w0 a len cap zs p w' ∧ w.grownBy w' (some w0.heap.size)
def DReply (K : Nat) (Q : Int → Int → Int → Int → Int → Int → Prop) (w0 : World) (a : Option Addr) (len cap : Nat) (zs : List Int) (w : World) (e : Ending) (w' : World) : Prop :=
  ∃ (r s t x y f : Int) (p : Nat), Q r s t x y f ∧ p ≤ K ∧ e = .returned (R6 r s t x y f) ∧ Draw w0 a len cap zs p w' ∧ w.grownBy w' (some w0.heap.size)

theorem dl6DrawHello {w0 : World} {a : Option Addr} {len cap : Nat} {zs : List Int} {w : World} (D : Draw w0 a len cap zs 0 w) :
    Calls Tryz.prog 90 #[.pointer (some ⟨w0.heap.size, 0, none⟩)] w (DHello 3 (fun n r s => helF n.data.toList r s = 0) w0 a len cap zs w) := by
  have g1 := key1
  have hlt := D.lt
  have B0 : Drw w0 a len cap zs 0 w w.heap.size (HL3 0 0 { data := #[] }) (w.alloc (.cells #[.int .i64 0, .int .i64 0, .string { data := #[] }] 26)) :=
    ⟨D.alloc _, gal (World.grownBy.refl w (some w0.heap.size)) _, At.new w (HL3 0 0 { data := #[] }) 26⟩
  clear D
  go_enter Tryz.func90, Tryz.ntmps90
  go_wp2_with fail
  generalize w.alloc (.cells #[.int .i64 0, .int .i64 0, .string { data := #[] }] 26) = W0 at *
  refine (dnext 65521 B0.draw (by omega)).mono ?_
  rintro e w1 ⟨x, x0, x1, rfl, D1, O1⟩
  have hx : M.sumB x = true := by simp only [M.sumB, decide_eq_true_eq]; omega
  have B1 := B0.only O1 D1 (by omega)
  clear B0 D1 O1 x0 x1
  go_wp2_with fail
  refine (dsecret6 B1.draw (by omega)).mono ?_
  rintro e w2 ⟨k, k0, k1, rfl, D2, O2⟩
  have B2 := B1.only O2 D2 (by omega)
  clear B1 D2 O2
  go_wp2_with fail
  refine (l1Key_any _ _ (by omega) (by omega)).mono ?_
  rintro e w3 ⟨rfl, b3⟩
  have B3 := B2.on b3
  have hs := pub_base k0 k1
  generalize M.pw 4 k.toNat 2879 = s at *
  clear B2 b3
  go_wp2_with fail
  refine (dl5DrawName B3.draw (by omega)).mono ?_
  rintro e w4 ⟨n, hn, rfl, D4, g4⟩
  have B4 := B3.kept g4 D4 (by omega)
  have hF : helF n.data.toList x s = 0 := by rw [helF_yes (by rw [hx, hs]; rfl)]; exact hn.2
  have q0 := B4.res.cell 0 _ rfl
  have q1 := B4.res.cell 1 _ rfl
  have q2 := B4.res.cell 2 _ rfl
  have z0 := B4.res.free 0 _ rfl
  have z1 := B4.res.free 1 _ rfl
  have z2 := B4.res.free 2 _ rfl
  have HD := Lib.hid (And.intro hF B4)
  clear B3 B4 D4 g4 hn hF hx hs k0 k1
  go_wp2_with fail
  refine bodyPost_ret (v := H3 x s n) (by simp [results, Tryz.results90, go_sem, q0, q1, q2]) rfl ?_
  refine ⟨x, s, n, _, HD.out.1, Nat.le_refl _, rfl, ?_, ?_⟩
  · iterate 3 (refine Draw.put ?_ (by dsimp only; omega) _)
    exact HD.out.2.draw
  · iterate 3 (refine gset ?_ (Nat.le_refl _) _)
    exact HD.out.2.grew
theorem dl6DrawReply {w0 : World} {a : Option Addr} {len cap : Nat} {zs : List Int} {p : Nat} {w : World} (D : Draw w0 a len cap zs p w) (hp : p ≤ 100) :
    Calls Tryz.prog 96 #[.pointer (some ⟨w0.heap.size, 0, none⟩)] w (DReply (p + 6) (fun r s t x y f => repF r s t x y f = 0) w0 a len cap zs w) := by
  have g1 := key1
  have hlt := D.lt
  have B0 : Drw w0 a len cap zs p w w.heap.size (RL6 0 0 0 0 0 0) (w.alloc (.cells #[.int .i64 0, .int .i64 0, .int .i64 0, .int .i64 0, .int .i64 0, .int .i64 0] 33)) :=
    ⟨D.alloc _, gal (World.grownBy.refl w (some w0.heap.size)) _, At.new w (RL6 0 0 0 0 0 0) 33⟩
  clear D
  go_enter Tryz.func96, Tryz.ntmps96
  go_wp2_with fail
  generalize w.alloc (.cells #[.int .i64 0, .int .i64 0, .int .i64 0, .int .i64 0, .int .i64 0, .int .i64 0] 33) = W0 at *
  refine (dnext 65521 B0.draw (by omega)).mono ?_
  rintro e w1 ⟨r, r0, r1, rfl, D1, O1⟩
  have hr : M.sumB r = true := by simp only [M.sumB, decide_eq_true_eq]; omega
  have B1 := B0.only O1 D1 (by omega)
  clear B0 D1 O1 r0 r1
  go_wp2_with fail
  refine (dsecret6 B1.draw (by omega)).mono ?_
  rintro e w2 ⟨k, k0, k1, rfl, D2, O2⟩
  have B2 := B1.only O2 D2 (by omega)
  clear B1 D2 O2
  go_wp2_with fail
  refine (l1Key_any _ _ (by omega) (by omega)).mono ?_
  rintro e w3 ⟨rfl, b3⟩
  have B3 := B2.on b3
  have hs := pub_base k0 k1
  generalize M.pw 4 k.toNat 2879 = s at *
  clear B2 b3
  go_wp2_with fail
  refine (dnext 3 B3.draw (by omega)).mono ?_
  rintro e w4 ⟨u, u0, u1, rfl, D4, O4⟩
  have B4 := B3.only O4 D4 (by omega)
  have u2 : u < 3 := by omega
  clear B3 D4 O4 u1
  go_wp2_with fail
  refine (l1Key_any _ _ (by omega) (by omega)).mono ?_
  rintro e w5 ⟨rfl, b5⟩
  have B5 := B4.on b5
  have ht := pub_base (a := 1 + u) (by omega) (by omega)
  generalize M.pw 4 (1 + u).toNat 2879 = t at *
  clear B4 b5
  go_wp2_with fail
  refine (dnext 3 B5.draw (by omega)).mono ?_
  rintro e w6 ⟨v, v0, v1, rfl, D6, O6⟩
  have B6 := B5.only O6 D6 (by omega)
  have v2 : v < 3 := by omega
  clear B5 D6 O6 v1
  go_wp2_with fail
  refine (dnext 65521 B6.draw (by omega)).mono ?_
  rintro e w7 ⟨m, m0, m1, rfl, D7, O7⟩
  have hm : M.sumB m = true := by simp only [M.sumB, decide_eq_true_eq]; omega
  have B7 := B6.only O7 D7 (by omega)
  clear B6 D7 O7 m0 m1
  have SG := fun w => l3Sign_any (1 + v) m w (by simp only [inB, decide_eq_true_eq]; omega) hm
  have hsg := M.sigB_signed (1 + v) m
  generalize M.sigPt (1 + v) m = x at *
  generalize M.sigPr (1 + v) m = y at *
  go_wp2_with fail
  refine (SG _).mono ?_
  rintro e w8 ⟨rfl, b8⟩
  have B8 := B7.on b8
  clear B7 b8 SG
  go_wp2_with fail
  refine (dnext 65521 B8.draw (by omega)).mono ?_
  rintro e w9 ⟨f, f0, f1, rfl, D9, O9⟩
  have hf : M.sumB f = true := by simp only [M.sumB, decide_eq_true_eq]; omega
  have B9 := B8.only O9 D9 (by omega)
  have hF : repF r s t x y f = 0 := by rw [repF_yes (by rw [hr, hs, ht, hf]; rfl)]; simp [M.sigF, hsg]
  have q0 := B9.res.cell 0 _ rfl
  have q1 := B9.res.cell 1 _ rfl
  have q2 := B9.res.cell 2 _ rfl
  have q3 := B9.res.cell 3 _ rfl
  have q4 := B9.res.cell 4 _ rfl
  have q5 := B9.res.cell 5 _ rfl
  have z0 := B9.res.free 0 _ rfl
  have z1 := B9.res.free 1 _ rfl
  have z2 := B9.res.free 2 _ rfl
  have z3 := B9.res.free 3 _ rfl
  have z4 := B9.res.free 4 _ rfl
  have z5 := B9.res.free 5 _ rfl
  have HD := Lib.hid (And.intro hF B9)
  clear B8 B9 D9 O9 f0 f1 hF hr hs ht hf hm hsg k0 k1
  go_wp2_with fail
  refine bodyPost_ret (v := R6 r s t x y f) (by simp [results, Tryz.results96, go_sem, q0, q1, q2, q3, q4, q5]) rfl ?_
  refine ⟨r, s, t, x, y, f, p + 1 + 1 + 1 + 1 + 1 + 1, HD.out.1, ?hp, rfl, ?hd, ?hg⟩
  case hd =>
    iterate 6 (refine Draw.put ?_ (by dsimp only; omega) _)
    exact HD.out.2.draw
  case hg =>
    iterate 6 (refine gset ?_ (Nat.le_refl _) _)
    exact HD.out.2.grew
  case hp => omega

theorem dl6BentHello {w0 : World} {a : Option Addr} {len cap : Nat} {zs : List Int} {w : World} (D : Draw w0 a len cap zs 0 w) :
    Calls Tryz.prog 99 #[.pointer (some ⟨w0.heap.size, 0, none⟩)] w (DHello 10 (fun n r s => n.size ≤ 21) w0 a len cap zs w) := by
  have hlt := D.lt
  have D0 := D.alloc (.cells #[.int .i64 0, .int .i64 0, .string { data := #[] }] 26)
  have A0 := At.new w (HL3 0 0 { data := #[] }) 26
  have G0 := gal (World.grownBy.refl w (some w0.heap.size)) (.cells #[.int .i64 0, .int .i64 0, .string { data := #[] }] 26)
  have lt0 : w.heap.size < (w.alloc (.cells #[.int .i64 0, .int .i64 0, .string { data := #[] }] 26)).heap.size := by simp
  go_enter Tryz.func99, Tryz.ntmps99
  go_wp2_with fail
  generalize w.alloc (.cells #[.int .i64 0, .int .i64 0, .string { data := #[] }] 26) = W0 at *
  refine (dl6DrawHello D0).mono ?_
  rintro e w1 ⟨r, s, n, p, hf, hp, rfl, D1, g1⟩
  have hn := hel_size hf
  have lt1 : W0.heap.size ≤ w1.heap.size := g1.size
  have B1 : BentX w0 a len cap zs p w w.heap.size (HL3 0 0 { data := #[] }) w1.heap.size (HL3 r s n) (w1.alloc (.cells #[.int .i64 r, .int .i64 s, .string n] 26)) :=
    ⟨⟨D1.alloc _, gal (gtr G0 g1) _, (A0.kept g1 (fun e => by injection e with e; omega)).alloc _⟩, At.new w1 (HL3 r s n) 26⟩
  have hn' : n.size ≤ 21 := by omega
  clear D D0 A0 G0 D1 g1 hf hn
  go_wp2_with fail
  generalize w1.alloc (.cells #[.int .i64 r, .int .i64 s, .string n] 26) = v1 at *
  refine (dnext 8 B1.drw.draw (by omega)).mono ?_
  rintro e w2 ⟨sw, t0, t1, rfl, D2, O2⟩
  have B2 := B1.only O2 D2 (by omega) (by omega)
  clear B1 D2 O2 t1
  by_cases e0 : sw = 0
  · subst e0
    go_wp2_with fail
    refine (dl5Bent B2.drw.draw (by omega)).mono ?_
    rintro e w3 ⟨m, hs, rfl, D3, g3⟩
    have B3 := B2.kept g3 D3 (by omega) (by omega)
    have B4 := B3.put 2 (.string m) (by omega) (by omega) (by omega)
    clear B2 D3 g3
    have q0 := B3.drw.res.cell 0 _ rfl
    have q1 := B3.drw.res.cell 1 _ rfl
    have q2 := B3.drw.res.cell 2 _ rfl
    have z0 := B3.drw.res.free 0 _ rfl
    have z1 := B3.drw.res.free 1 _ rfl
    have z2 := B3.drw.res.free 2 _ rfl
    have x0 := B3.one.cell 0 _ rfl
    have x1 := B3.one.cell 1 _ rfl
    have x2 := B3.one.cell 2 _ rfl
    have f0 := B3.one.free 0 _ rfl
    have f1 := B3.one.free 1 _ rfl
    have f2 := B3.one.free 2 _ rfl
    have hrb : w.heap.size ≠ w1.heap.size := by omega
    have HB := Lib.hid B4
    clear B3 B4
    go_wp2_with fail
    refine bodyPost_ret (v := H3 r s m) (by simp [results, Tryz.results99, go_sem, q0, q1, q2]) rfl ?_
    refine ⟨_, _, _, p + 1 + 1, hs, ?hp, rfl, ?hd, ?hg⟩
    case hd =>
      iterate 3 (refine Draw.put ?_ (by dsimp only; omega) _)
      exact HB.out.drw.draw
    case hg =>
      iterate 3 (refine gset ?_ (Nat.le_refl _) _)
      exact HB.out.drw.grew
    case hp => omega
  by_cases e1 : sw = 1
  · subst e1
    go_wp2_with fail
    refine (dpick [1, 5, 2879] 3 B2.drw.draw (by omega) (by omega) (by omega) rfl 2).mono ?_
    rintro e w3 ⟨y, hy, rfl, D3, O3⟩
    have B3 := (B2.alloc (.cells #[.int .i64 1, .int .i64 5, .int .i64 2879] 2)).only O3 D3 (by omega) (by omega)
    have B4 := B3.put 1 (.int .i64 y) (by omega) (by omega) (by omega)
    clear B2 D3 O3 hy
    have q0 := B3.drw.res.cell 0 _ rfl
    have q1 := B3.drw.res.cell 1 _ rfl
    have q2 := B3.drw.res.cell 2 _ rfl
    have z0 := B3.drw.res.free 0 _ rfl
    have z1 := B3.drw.res.free 1 _ rfl
    have z2 := B3.drw.res.free 2 _ rfl
    have x0 := B3.one.cell 0 _ rfl
    have x1 := B3.one.cell 1 _ rfl
    have x2 := B3.one.cell 2 _ rfl
    have f0 := B3.one.free 0 _ rfl
    have f1 := B3.one.free 1 _ rfl
    have f2 := B3.one.free 2 _ rfl
    have hrb : w.heap.size ≠ w1.heap.size := by omega
    have HB := Lib.hid B4
    clear B3 B4
    go_wp2_with fail
    refine bodyPost_ret (v := H3 r y n) (by simp [results, Tryz.results99, go_sem, q0, q1, q2]) rfl ?_
    refine ⟨_, _, _, p + 1 + 1, hn', ?hp, rfl, ?hd, ?hg⟩
    case hd =>
      iterate 3 (refine Draw.put ?_ (by dsimp only; omega) _)
      exact HB.out.drw.draw
    case hg =>
      iterate 3 (refine gset ?_ (Nat.le_refl _) _)
      exact HB.out.drw.grew
    case hp => omega
  by_cases e2 : sw = 2
  · subst e2
    go_wp2_with fail
    refine (dpick [65521, -1] 2 B2.drw.draw (by omega) (by omega) (by omega) rfl 2).mono ?_
    rintro e w3 ⟨y, hy, rfl, D3, O3⟩
    have B3 := (B2.alloc (.cells #[.int .i64 65521, .int .i64 (-1)] 2)).only O3 D3 (by omega) (by omega)
    have B4 := B3.put 0 (.int .i64 y) (by omega) (by omega) (by omega)
    clear B2 D3 O3 hy
    have q0 := B3.drw.res.cell 0 _ rfl
    have q1 := B3.drw.res.cell 1 _ rfl
    have q2 := B3.drw.res.cell 2 _ rfl
    have z0 := B3.drw.res.free 0 _ rfl
    have z1 := B3.drw.res.free 1 _ rfl
    have z2 := B3.drw.res.free 2 _ rfl
    have x0 := B3.one.cell 0 _ rfl
    have x1 := B3.one.cell 1 _ rfl
    have x2 := B3.one.cell 2 _ rfl
    have f0 := B3.one.free 0 _ rfl
    have f1 := B3.one.free 1 _ rfl
    have f2 := B3.one.free 2 _ rfl
    have hrb : w.heap.size ≠ w1.heap.size := by omega
    have HB := Lib.hid B4
    clear B3 B4
    go_wp2_with fail
    refine bodyPost_ret (v := H3 y s n) (by simp [results, Tryz.results99, go_sem, q0, q1, q2]) rfl ?_
    refine ⟨_, _, _, p + 1 + 1, hn', ?hp, rfl, ?hd, ?hg⟩
    case hd =>
      iterate 3 (refine Draw.put ?_ (by dsimp only; omega) _)
      exact HB.out.drw.draw
    case hg =>
      iterate 3 (refine gset ?_ (Nat.le_refl _) _)
      exact HB.out.drw.grew
    case hp => omega
  · have n0 : (sw == 0) = false := by rw [beq_eq_false_iff_ne]; exact e0
    have n1 : (sw == 1) = false := by rw [beq_eq_false_iff_ne]; exact e1
    have n2 : (sw == 2) = false := by rw [beq_eq_false_iff_ne]; exact e2
    have B4 := B2
    have q0 := B2.drw.res.cell 0 _ rfl
    have q1 := B2.drw.res.cell 1 _ rfl
    have q2 := B2.drw.res.cell 2 _ rfl
    have z0 := B2.drw.res.free 0 _ rfl
    have z1 := B2.drw.res.free 1 _ rfl
    have z2 := B2.drw.res.free 2 _ rfl
    have x0 := B2.one.cell 0 _ rfl
    have x1 := B2.one.cell 1 _ rfl
    have x2 := B2.one.cell 2 _ rfl
    have f0 := B2.one.free 0 _ rfl
    have f1 := B2.one.free 1 _ rfl
    have f2 := B2.one.free 2 _ rfl
    have hrb : w.heap.size ≠ w1.heap.size := by omega
    have HB := Lib.hid B4
    clear B2 B4
    go_wp2_with fail
    refine bodyPost_ret (v := H3 r s n) (by simp [results, Tryz.results99, go_sem, q0, q1, q2]) rfl ?_
    refine ⟨_, _, _, p + 1, hn', ?hp, rfl, ?hd, ?hg⟩
    case hd =>
      iterate 3 (refine Draw.put ?_ (by dsimp only; omega) _)
      exact HB.out.drw.draw
    case hg =>
      iterate 3 (refine gset ?_ (Nat.le_refl _) _)
      exact HB.out.drw.grew
    case hp => omega
theorem dl6BentReply {w0 : World} {a : Option Addr} {len cap : Nat} {zs : List Int} {p0 : Nat} {w : World} (D : Draw w0 a len cap zs p0 w) (hp0 : p0 ≤ 20) :
    Calls Tryz.prog 101 #[.pointer (some ⟨w0.heap.size, 0, none⟩)] w (DReply 50 (fun _ _ _ _ _ _ => True) w0 a len cap zs w) := by
  have hlt := D.lt
  have D0 := D.alloc (.cells #[.int .i64 0, .int .i64 0, .int .i64 0, .int .i64 0, .int .i64 0, .int .i64 0] 33)
  have A0 := At.new w (RL6 0 0 0 0 0 0) 33
  have G0 := gal (World.grownBy.refl w (some w0.heap.size)) (.cells #[.int .i64 0, .int .i64 0, .int .i64 0, .int .i64 0, .int .i64 0, .int .i64 0] 33)
  have lt0 : w.heap.size < (w.alloc (.cells #[.int .i64 0, .int .i64 0, .int .i64 0, .int .i64 0, .int .i64 0, .int .i64 0] 33)).heap.size := by simp
  go_enter Tryz.func101, Tryz.ntmps101
  go_wp2_with fail
  generalize w.alloc (.cells #[.int .i64 0, .int .i64 0, .int .i64 0, .int .i64 0, .int .i64 0, .int .i64 0] 33) = W0 at *
  refine (dl6DrawReply D0 (by omega)).mono ?_
  rintro e w1 ⟨r, s, t, x, y, f, p, hf, hp, rfl, D1, g1⟩
  have lt1 : W0.heap.size ≤ w1.heap.size := g1.size
  have B1 : BentX w0 a len cap zs p w w.heap.size (RL6 0 0 0 0 0 0) w1.heap.size (RL6 r s t x y f) (w1.alloc (.cells #[.int .i64 r, .int .i64 s, .int .i64 t, .int .i64 x, .int .i64 y, .int .i64 f] 33)) :=
    ⟨⟨D1.alloc _, gal (gtr G0 g1) _, (A0.kept g1 (fun e => by injection e with e; omega)).alloc _⟩, At.new w1 (RL6 r s t x y f) 33⟩
  clear D D0 A0 G0 D1 g1 hf
  go_wp2_with fail
  generalize w1.alloc (.cells #[.int .i64 r, .int .i64 s, .int .i64 t, .int .i64 x, .int .i64 y, .int .i64 f] 33) = v1 at *
  refine (dnext 8 B1.drw.draw (by omega)).mono ?_
  rintro e w2 ⟨sw, t0, t1, rfl, D2, O2⟩
  have B2 := B1.only O2 D2 (by omega) (by omega)
  clear B1 D2 O2 t1
  by_cases e0 : sw = 0
  · subst e0
    go_wp2_with fail
    refine (dpick [1, 5] 2 B2.drw.draw (by omega) (by omega) (by omega) rfl 2).mono ?_
    rintro e w3 ⟨u, hu, rfl, D3, O3⟩
    have B3 := (B2.alloc (.cells #[.int .i64 1, .int .i64 5] 2)).only O3 D3 (by omega) (by omega)
    have B4 := B3.put 2 (.int .i64 u) (by omega) (by omega) (by omega)
    clear B2 D3 O3 hu
    have q0 := B3.drw.res.cell 0 _ rfl
    have q1 := B3.drw.res.cell 1 _ rfl
    have q2 := B3.drw.res.cell 2 _ rfl
    have q3 := B3.drw.res.cell 3 _ rfl
    have q4 := B3.drw.res.cell 4 _ rfl
    have q5 := B3.drw.res.cell 5 _ rfl
    have z0 := B3.drw.res.free 0 _ rfl
    have z1 := B3.drw.res.free 1 _ rfl
    have z2 := B3.drw.res.free 2 _ rfl
    have z3 := B3.drw.res.free 3 _ rfl
    have z4 := B3.drw.res.free 4 _ rfl
    have z5 := B3.drw.res.free 5 _ rfl
    have k0 := B3.one.cell 0 _ rfl
    have k1 := B3.one.cell 1 _ rfl
    have k2 := B3.one.cell 2 _ rfl
    have k3 := B3.one.cell 3 _ rfl
    have k4 := B3.one.cell 4 _ rfl
    have k5 := B3.one.cell 5 _ rfl
    have h0 := B3.one.free 0 _ rfl
    have h1 := B3.one.free 1 _ rfl
    have h2 := B3.one.free 2 _ rfl
    have h3 := B3.one.free 3 _ rfl
    have h4 := B3.one.free 4 _ rfl
    have h5 := B3.one.free 5 _ rfl
    have hrb : w.heap.size ≠ w1.heap.size := by omega
    have HB := Lib.hid B4
    clear B3 B4
    go_wp2_with fail
    refine bodyPost_ret (v := R6 r s u x y f) (by simp [results, Tryz.results101, go_sem, q0, q1, q2, q3, q4, q5]) rfl ?_
    refine ⟨_, _, _, _, _, _, p + 1 + 1, trivial, ?hp, rfl, ?hd, ?hg⟩
    case hd =>
      iterate 6 (refine Draw.put ?_ (by dsimp only; omega) _)
      exact HB.out.drw.draw
    case hg =>
      iterate 6 (refine gset ?_ (Nat.le_refl _) _)
      exact HB.out.drw.grew
    case hp => omega
  by_cases e1 : sw = 1
  · subst e1
    go_wp2_with fail
    refine (dpick [1439, 0] 2 B2.drw.draw (by omega) (by omega) (by omega) rfl 2).mono ?_
    rintro e w3 ⟨u, hu, rfl, D3, O3⟩
    have B3 := (B2.alloc (.cells #[.int .i64 1439, .int .i64 0] 2)).only O3 D3 (by omega) (by omega)
    have B4 := B3.put 4 (.int .i64 u) (by omega) (by omega) (by omega)
    clear B2 D3 O3 hu
    have q0 := B3.drw.res.cell 0 _ rfl
    have q1 := B3.drw.res.cell 1 _ rfl
    have q2 := B3.drw.res.cell 2 _ rfl
    have q3 := B3.drw.res.cell 3 _ rfl
    have q4 := B3.drw.res.cell 4 _ rfl
    have q5 := B3.drw.res.cell 5 _ rfl
    have z0 := B3.drw.res.free 0 _ rfl
    have z1 := B3.drw.res.free 1 _ rfl
    have z2 := B3.drw.res.free 2 _ rfl
    have z3 := B3.drw.res.free 3 _ rfl
    have z4 := B3.drw.res.free 4 _ rfl
    have z5 := B3.drw.res.free 5 _ rfl
    have k0 := B3.one.cell 0 _ rfl
    have k1 := B3.one.cell 1 _ rfl
    have k2 := B3.one.cell 2 _ rfl
    have k3 := B3.one.cell 3 _ rfl
    have k4 := B3.one.cell 4 _ rfl
    have k5 := B3.one.cell 5 _ rfl
    have h0 := B3.one.free 0 _ rfl
    have h1 := B3.one.free 1 _ rfl
    have h2 := B3.one.free 2 _ rfl
    have h3 := B3.one.free 3 _ rfl
    have h4 := B3.one.free 4 _ rfl
    have h5 := B3.one.free 5 _ rfl
    have hrb : w.heap.size ≠ w1.heap.size := by omega
    have HB := Lib.hid B4
    clear B3 B4
    go_wp2_with fail
    refine bodyPost_ret (v := R6 r s t x u f) (by simp [results, Tryz.results101, go_sem, q0, q1, q2, q3, q4, q5]) rfl ?_
    refine ⟨_, _, _, _, _, _, p + 1 + 1, trivial, ?hp, rfl, ?hd, ?hg⟩
    case hd =>
      iterate 6 (refine Draw.put ?_ (by dsimp only; omega) _)
      exact HB.out.drw.draw
    case hg =>
      iterate 6 (refine gset ?_ (Nat.le_refl _) _)
      exact HB.out.drw.grew
    case hp => omega
  by_cases e2 : sw = 2
  · subst e2
    go_wp2_with fail
    refine (dpick [65521, 0] 2 B2.drw.draw (by omega) (by omega) (by omega) rfl 2).mono ?_
    rintro e w3 ⟨u, hu, rfl, D3, O3⟩
    have B3 := (B2.alloc (.cells #[.int .i64 65521, .int .i64 0] 2)).only O3 D3 (by omega) (by omega)
    have B4 := B3.put 5 (.int .i64 u) (by omega) (by omega) (by omega)
    clear B2 D3 O3 hu
    have q0 := B3.drw.res.cell 0 _ rfl
    have q1 := B3.drw.res.cell 1 _ rfl
    have q2 := B3.drw.res.cell 2 _ rfl
    have q3 := B3.drw.res.cell 3 _ rfl
    have q4 := B3.drw.res.cell 4 _ rfl
    have q5 := B3.drw.res.cell 5 _ rfl
    have z0 := B3.drw.res.free 0 _ rfl
    have z1 := B3.drw.res.free 1 _ rfl
    have z2 := B3.drw.res.free 2 _ rfl
    have z3 := B3.drw.res.free 3 _ rfl
    have z4 := B3.drw.res.free 4 _ rfl
    have z5 := B3.drw.res.free 5 _ rfl
    have k0 := B3.one.cell 0 _ rfl
    have k1 := B3.one.cell 1 _ rfl
    have k2 := B3.one.cell 2 _ rfl
    have k3 := B3.one.cell 3 _ rfl
    have k4 := B3.one.cell 4 _ rfl
    have k5 := B3.one.cell 5 _ rfl
    have h0 := B3.one.free 0 _ rfl
    have h1 := B3.one.free 1 _ rfl
    have h2 := B3.one.free 2 _ rfl
    have h3 := B3.one.free 3 _ rfl
    have h4 := B3.one.free 4 _ rfl
    have h5 := B3.one.free 5 _ rfl
    have hrb : w.heap.size ≠ w1.heap.size := by omega
    have HB := Lib.hid B4
    clear B3 B4
    go_wp2_with fail
    refine bodyPost_ret (v := R6 r s t x y u) (by simp [results, Tryz.results101, go_sem, q0, q1, q2, q3, q4, q5]) rfl ?_
    refine ⟨_, _, _, _, _, _, p + 1 + 1, trivial, ?hp, rfl, ?hd, ?hg⟩
    case hd =>
      iterate 6 (refine Draw.put ?_ (by dsimp only; omega) _)
      exact HB.out.drw.draw
    case hg =>
      iterate 6 (refine gset ?_ (Nat.le_refl _) _)
      exact HB.out.drw.grew
    case hp => omega
  · have n0 : (sw == 0) = false := by rw [beq_eq_false_iff_ne]; exact e0
    have n1 : (sw == 1) = false := by rw [beq_eq_false_iff_ne]; exact e1
    have n2 : (sw == 2) = false := by rw [beq_eq_false_iff_ne]; exact e2
    have B4 := B2
    have q0 := B2.drw.res.cell 0 _ rfl
    have q1 := B2.drw.res.cell 1 _ rfl
    have q2 := B2.drw.res.cell 2 _ rfl
    have q3 := B2.drw.res.cell 3 _ rfl
    have q4 := B2.drw.res.cell 4 _ rfl
    have q5 := B2.drw.res.cell 5 _ rfl
    have z0 := B2.drw.res.free 0 _ rfl
    have z1 := B2.drw.res.free 1 _ rfl
    have z2 := B2.drw.res.free 2 _ rfl
    have z3 := B2.drw.res.free 3 _ rfl
    have z4 := B2.drw.res.free 4 _ rfl
    have z5 := B2.drw.res.free 5 _ rfl
    have k0 := B2.one.cell 0 _ rfl
    have k1 := B2.one.cell 1 _ rfl
    have k2 := B2.one.cell 2 _ rfl
    have k3 := B2.one.cell 3 _ rfl
    have k4 := B2.one.cell 4 _ rfl
    have k5 := B2.one.cell 5 _ rfl
    have h0 := B2.one.free 0 _ rfl
    have h1 := B2.one.free 1 _ rfl
    have h2 := B2.one.free 2 _ rfl
    have h3 := B2.one.free 3 _ rfl
    have h4 := B2.one.free 4 _ rfl
    have h5 := B2.one.free 5 _ rfl
    have hrb : w.heap.size ≠ w1.heap.size := by omega
    have HB := Lib.hid B4
    clear B2 B4
    go_wp2_with fail
    refine bodyPost_ret (v := R6 r s t x y f) (by simp [results, Tryz.results101, go_sem, q0, q1, q2, q3, q4, q5]) rfl ?_
    refine ⟨_, _, _, _, _, _, p + 1, trivial, ?hp, rfl, ?hd, ?hg⟩
    case hd =>
      iterate 6 (refine Draw.put ?_ (by dsimp only; omega) _)
      exact HB.out.drw.draw
    case hg =>
      iterate 6 (refine gset ?_ (Nat.le_refl _) _)
      exact HB.out.drw.grew
    case hp => omega
end Go.Proofs.YtlodhleihnlchaaGreatDoor
namespace Go.Proofs.YtlodhleihnlchaaGreatDoor
open Go.RowKit

def marks (k : Int) (n : Nat) : List Int := (List.range n).map fun i : Nat => (k + (i : Int)) % 256
theorem marks_length (k : Int) (n : Nat) : (marks k n).length = n := by simp [marks]
theorem marks_at (k : Int) (n j : Nat) (h : j < n) : (marks k n)[j]? = some ((k + (j : Int)) % 256) := by simp [marks, h]
structure MarkRel (w : World) (g cap : Nat) (k : Int) (j : Nat) (wr : World) : Prop where
  grew : w.grownBy wr (some g)
  lt : g < wr.heap.size
  room : ∀ i, i < cap → (∃ u, wr.cell? ⟨g, i, none⟩ = some u) ∧ wr.frozen? ⟨g, i, none⟩ = false
  told : ∀ i, i < j → wr.cell? ⟨g, i, none⟩ = some (.int .u8 ((k + (i : Int)) % 256))
theorem MarkRel.step {w : World} {g cap : Nat} {k : Int} {j : Nat} {wr : World} (h : MarkRel w g cap k j wr) (hj : j < cap) : MarkRel w g cap k (j + 1) (wr.setCell ⟨g, j, none⟩ (.int .u8 ((k + (j : Int)) % 256))) := by
  refine ⟨⟨h.grew.os, h.grew.tape, h.grew.output, by simpa [World.setCell] using h.grew.size, fun i hi hne => (Below.heap_setCell wr _ _ i (fun e => hne (by subst e; rfl))).trans (h.grew.block i hi hne)⟩, by simpa [World.setCell] using h.lt, fun i hi => ?_, fun i hi => ?_⟩
  · obtain ⟨⟨u, hu⟩, hf⟩ := h.room i hi
    refine ⟨?_, by rw [World.frozen?_setCell]; exact hf⟩
    obtain ⟨v, hv⟩ := cell?_setCell_some (w := wr) (p := ⟨g, j, none⟩) (x := .int .u8 ((k + (j : Int)) % 256)) (q := ⟨g, i, none⟩) (v := u) hu
    exact ⟨v, hv⟩
  · rcases Nat.lt_or_ge i j with hlt | hge
    · rw [World.cell?_setCell_other _ _ _ _ (fun e => by injection e with _ e2; omega)]
      exact h.told i hlt
    · obtain rfl : i = j := by omega
      obtain ⟨⟨u, hu⟩, _⟩ := h.room i hj
      rw [World.cell?_setCell_same _ _ _ (by rw [hu])]
theorem MarkRel.own {w : World} {g cap : Nat} {k : Int} {n B : Nat} {wr : World} (h : MarkRel w g cap k n wr) (hB : B ≤ g) (hn : n ≤ cap) (hm : cap ≤ maxLen) : OwnK .u8 wr B (.slice (some ⟨g, 0, none⟩) n cap) (marks k n) := by
  unfold OwnK
  rw [marks_length]
  refine ⟨by simp [marks_length], .inr ⟨g, cap, rfl, hB, h.lt, hn, hm, fun j u hu => ?_, fun j hj => ?_⟩⟩
  · have hj := (List.getElem?_eq_some_iff.1 hu).1
    simp [marks_length] at hj
    rw [h.told j hj, ← hu]
    simp [marks_at k n j hj]
  · obtain ⟨⟨u, hu⟩, hf⟩ := h.room j (by omega)
    exact ⟨by rw [hu]; rfl, hf⟩

theorem OwnK.len {k : IntKind} {w : World} {B : Nat} {a : Option Addr} {len cap : Nat} {zs : List Int} (h : OwnK k w B (.slice a len cap) zs) : len = zs.length := by
  rcases h.2 with ⟨e, h0⟩ | ⟨g, c, e, _⟩
  · injection e with e1 e2 e3
    omega
  · injection e with e1 e2 e3

structure TwoRes (w : World) (c : Int) (zs : List Int) (p1 p2 : Nat) (a1 a2 : Option Addr) (n c1 c2 : Nat) (ms : List Int) (cur : World) : Prop where
  bel : Below w.heap.size w cur
  x0 : cur.cell? ⟨p1, 0, none⟩ = some (.int .i64 c)
  x1 : cur.cell? ⟨p1, 1, none⟩ = some (.slice a1 n c1)
  row : Row .u8 cur p1 a1 n c1 zs
  y0 : cur.cell? ⟨p2, 0, none⟩ = some (.int .i64 c)
  y1 : cur.cell? ⟨p2, 1, none⟩ = some (.slice a2 n c2)
  own : OwnK .u8 cur (p1 + 1) (.slice a2 n c2) ms
  old : w.heap.size ≤ p1
  sep : ∀ k, Value.ownBlock (.slice a2 n c2) = some k → k < p2
  ahead : p1 < p2
section
variable {w : World} {c : Int} {zs : List Int} {p1 p2 : Nat} {a1 a2 : Option Addr} {n c1 c2 : Nat} {ms : List Int} {cur cur' : World}
theorem TwoRes.lt1 (h : TwoRes w c zs p1 p2 a1 a2 n c1 c2 ms cur) : p1 < cur.heap.size := cell_lt h.x0
theorem TwoRes.lt2 (h : TwoRes w c zs p1 p2 a1 a2 n c1 c2 ms cur) : p2 < cur.heap.size := cell_lt h.y0
theorem TwoRes.on (h : TwoRes w c zs p1 p2 a1 a2 n c1 c2 ms cur) (hb : Below cur.heap.size cur cur') : TwoRes w c zs p1 p2 a1 a2 n c1 c2 ms cur' :=
  ⟨btr h.bel hb, cell_keep hb h.x0, cell_keep hb h.x1, h.row.below (hb.mono (by have := h.lt1; omega)), cell_keep hb h.y0, cell_keep hb h.y1, h.own.below hb, h.old, h.sep, h.ahead⟩
theorem TwoRes.new {u1 u2 : World} {t : TypeId} (b1 : Below w.heap.size w u1) (O1 : OwnK .u8 u1 w.heap.size (.slice a1 n c1) zs) (hw : ∀ z ∈ zs, (Lit.int .u8 z).wf = true)
    (b2 : Below (u1.alloc (.cells #[.int .i64 c, .slice a1 n c1] t)).heap.size (u1.alloc (.cells #[.int .i64 c, .slice a1 n c1] t)) u2) (O2 : OwnK .u8 u2 (u1.alloc (.cells #[.int .i64 c, .slice a1 n c1] t)).heap.size (.slice a2 n c2) zs) :
    TwoRes w c zs u1.heap.size u2.heap.size a1 a2 n c1 c2 zs (u2.alloc (.cells #[.int .i64 c, .slice a2 n c2] t)) := by
  have hs := b2.size
  simp at hs
  have x0 : (u1.alloc (.cells #[.int .i64 c, .slice a1 n c1] t)).cell? ⟨u1.heap.size, 0, none⟩ = some (.int .i64 c) := by simp
  have x1 : (u1.alloc (.cells #[.int .i64 c, .slice a1 n c1] t)).cell? ⟨u1.heap.size, 1, none⟩ = some (.slice a1 n c1) := by simp
  have b3 := bal b2 (.cells #[.int .i64 c, .slice a2 n c2] t)
  have R1 := Own.row O1 hw
  refine ⟨btr (bal b1 _) b3, cell_keep b3 x0, cell_keep b3 x1, ?_, by simp, by simp, ?_, b1.size, fun k hk => (O2.lt k hk).2, by omega⟩
  · exact (R1.alloc (Nat.le_refl _) _).below (b3.mono (by simp))
  · have := O2.alloc (.cells #[.int .i64 c, .slice a2 n c2] t)
    simpa [OwnK] using this
end

end Go.Proofs.YtlodhleihnlchaaGreatDoor
namespace Go.Proofs.YtlodhleihnlchaaGreatDoor
open Go.RowKit
set_option maxRecDepth 100000
set_option linter.unusedVariables false

def headW6 (m : Int) (zs : List Int) : List Int := m :: zs.flatMap M.two
def Head6Rel (w : World) (m : Int) (zs : List Int) (k : Nat) (v : Value) (wr : World) : Prop := OwnK .u8 wr w.heap.size v (headW6 m (zs.take k)) ∧ Below w.heap.size w wr
theorem headL_take (m : Int) (zs : List Int) (k : Nat) (hk : k < zs.length) : headW6 m (zs.take k) ++ M.two (zs[k]?.getD 0) = headW6 m (zs.take (k + 1)) := by
  have e : zs.take (k + 1) = zs.take k ++ [zs[k]] := List.take_succ_eq_append_getElem hk
  rw [e, List.getElem?_eq_getElem hk]
  simp only [headW6, List.flatMap_append, List.flatMap_cons, List.flatMap_nil, List.append_nil, List.cons_append, Option.getD_some]
theorem headL_length (m : Int) : ∀ zs : List Int, (headW6 m zs).length = 1 + 2 * zs.length
  | [] => rfl
  | z :: r => by
    have := headL_length m r
    simp only [headW6, List.length_cons, List.flatMap_cons, List.length_append, M.two, List.length_nil] at *
    omega
theorem Head6Rel.step {w w1 w2 : World} {m : Int} {zs : List Int} {k : Nat} {v v' : Value} (h : Head6Rel w m zs k v w1) (hk : k < zs.length) (ho : OwnK .u8 w2 w.heap.size v' (headW6 m (zs.take k) ++ M.two (zs[k]?.getD 0))) (hg : w1.grownBy w2 v.ownBlock) : Head6Rel w m zs (k + 1) v' w2 :=
  ⟨by rw [← headL_take m zs k hk]; exact ho, h.1.grown h.2 h.2.size hg⟩
theorem wordHead_any (m : Int) (a : Option Addr) (len cap B : Nat) (zs : List Int) (w : World) (hR : Row .i64 w B a len cap zs) (hB : B ≤ w.heap.size) (hz : zs.all M.sumB = true) (hl : len ≤ 10) :
    Calls Tryz.prog 260 #[.int .u8 m, .slice a len cap] w (Made (headW6 m zs) w) := by
  have hL := Lib.hid hR.length
  have HZ := Lib.hid hz
  have O0 : OwnK .u8 (w.alloc (.cells #[.int .u8 m] 5)) w.heap.size (.slice (some ⟨w.heap.size, 0, none⟩) 1 1) [m] := own_lit (k := .u8) w [m] 1 5 (Nat.le_refl _) rfl (by simp only [maxLen]; omega)
  have T1 : Head6Rel w m zs 0 (.slice (some ⟨w.heap.size, 0, none⟩) 1 1) (w.alloc (.cells #[.int .u8 m] 5)) := ⟨by simpa [headW6] using O0, bal (Below.refl _ _) _⟩
  clear hz O0
  go_enter Tryz.func260, Tryz.ntmps260
  go_wp2_with fail
  generalize w.alloc (.cells #[.int .u8 m] 5) = W0 at *
  go_loopw [5, 12] (fun v i wr => ∃ k : Nat, k ≤ len ∧ i = .int .i64 k ∧ Head6Rel w m zs k v wr) (fun _ i _ => len - (intOf i).toNat)
  case atStart => exact ⟨0, Nat.zero_le _, rfl, T1⟩
  case round =>
    obtain ⟨k, hk, rfl, hT⟩ := hrel
    by_cases hlt : k < len
    · obtain ⟨b, off, ha, hb, hc⟩ := hR.cells (by omega)
      have hcell := (hT.2.cell (p := ⟨b, off + k, none⟩) (by show b < _; omega)).trans (hc k hlt)
      simp only [List.getD_eq_getElem?_getD] at hcell
      clear hc
      have hzk : M.sumB (zs[k]?.getD 0) = true := List.all_eq_true.1 HZ.out _ (by simp [show k < zs.length by rw [hL.out]; exact hlt])
      have HK := Lib.hid hzk
      have hlen : (headW6 m (zs.take k)).length ≤ 1000000 := by rw [headL_length]; simp; omega
      subst ha
      clear hzk
      go_wp2_with fail
      refine (appendTwo_any _ _ _ _ _ hT.1 hT.2.size HK.out hlen).mono ?_
      rintro r w2 ⟨v2, rfl, ho2, hg2⟩
      have T2 := hT.step (by rw [hL.out]; exact hlt) ho2 hg2
      clear ho2 hg2 hT hcell HK hlen
      go_wp2_with fail
      go_roundw
      case rel => exact ⟨k + 1, by omega, by go_num, T2⟩
      case measure => simp [intOf]; omega
    · obtain rfl : k = len := by omega
      have hT' := hT
      rw [← hL.out] at hT'
      obtain ⟨ho, hb⟩ := hT'
      rw [List.take_length] at ho
      obtain ⟨a', c', hv, -⟩ := ho.form
      have HB := Lib.hid (And.intro ho hb)
      clear hT ho hb
      subst hv
      go_wp2_with fail
      go_ret
      exact ⟨_, _, _, rfl, HB.out.1, HB.out.2⟩

theorem bytes_cells (n : ByteArray) : (M.textL n).map (Value.int .u8) = byteCells n := by simp [M.textL, byteCells, List.map_map, Function.comp_def]
theorem wordBytes_hello (r s : Int) (n : ByteArray) (w : World) (h : helF n.data.toList r s = 0) :
    Calls Tryz.prog 195 #[.iface 26 (H3 r s n)] w (Made (packH n r s) w) := by
  obtain ⟨hr, hs, -⟩ := helF_zero h
  have hn := hel_size h
  have hss := pub_sum6 hs
  obtain ⟨i0, hi0, hz0, hz1, hz2⟩ := info_parts u8_info
  have ta : ∀ W : World, (Instr.typeAssert (.iface 26 (H3 r s n)) 157 26 true).run Tryz.prog W = .ok (.tuple #[H3 r s n, .bool true]) W := fun _ => by kernel_rfl
  have A0 := At.new w (HL3 r s n) 26
  have b0 := bal (Below.refl _ w) (.cells #[.int .i64 r, .int .i64 s, .string n] 26)
  have hall : [r, s].all M.sumB = true := by simp [hr, hss]
  clear h
  go_enter Tryz.func195, Tryz.ntmps195
  go_wp2_with fail
  generalize w.alloc (.cells #[.int .i64 r, .int .i64 s, .string n] 26) = W0 at *
  have d0 := A0.cell 0 _ rfl
  have d1 := A0.cell 1 _ rfl
  have d2 := A0.cell 2 _ rfl
  refine wp_region_line (Bel W0) [(0, true), (1, true), (2, true), (3, true), (6, true), (7, true), (4, false), (5, false), (8, false), (9, true)] (by kernel_rfl) (by kernel_rfl) (fun _ _ d _ _ h => by cases d <;> exact h) (Bel.drew W0) ?_
  have hst := Bel.drew W0
  have inst : Nonempty (Of (Bel W0)) := ⟨⟨_, hst⟩⟩
  have u0 := bel_cell d0
  have u1 := bel_cell d1
  have u2 := bel_cell d2
  generalize W0.drew = V1 at *
  iterate 6 (refine line_read rfl (by kernel_rfl) (fun K hK => ?_); go_big_quiet_op; refine hK _ ?_; clear hK K)
  refine line_alone rfl (by kernel_rfl) (fun K hK => ?_)
  go_big_op
  refine hK _ _ (hst.on (bal (Below.refl _ V1) _)) ?_
  clear hK K
  have st2 := hst.on (bal (Below.refl _ V1) (.cells #[.int .i64 r, .int .i64 s] 2))
  have R2 := row_two (w := V1) r s 2 hr hss
  have lt2 : V1.heap.size + 1 ≤ (V1.alloc (.cells #[.int .i64 r, .int .i64 s] 2)).heap.size := by simp
  generalize V1.alloc (.cells #[.int .i64 r, .int .i64 s] 2) = V2 at *
  refine line_alone rfl (by kernel_rfl) (fun K hK => ?_)
  refine call_any (args := #[.int .u8 1, .slice (some ⟨V1.heap.size, 0, none⟩) 2 2]) rfl (by kernel_rfl) (by kernel_rfl) (wordHead_any 1 _ 2 2 _ [r, s] V2 R2 lt2 hall (by omega)) ?_
  rintro e V3 ⟨a3, n3, c3, rfl, O3, b3⟩
  have l3 : n3 = 5 := O3.len
  subst l3
  have st3 := st2.on b3
  refine ⟨_, rfl, hK _ _ st3 ?_⟩
  clear hK K
  simp only [Act.put, List.setIfInBounds_toArray, List.set_cons_zero, List.set_cons_succ]
  have hz3 := b3.size
  refine line_alone rfl (by kernel_rfl) (fun K hK => ?_)
  refine wp_append_src _ (.tmp 15) (.tmp 17) 22 9 rfl V2.heap.size 5 i0 (.int .u8 0) 1 1 Tryz.underlying22 hi0 hz0 hz1 hz2 rfl _ _ _ rfl O3 _ n.size _ rfl (Src.ofString (P := Tryz.prog) V3 (tx := 9) Tryz.underlying9 n) (by rw [headL_length]; simp only [maxLen, List.length_cons, List.length_nil]; omega) (by rw [headL_length]; simp only [List.length_cons, List.length_nil]; omega) hz3 (fun v4 w4 hown hgrow hat => ?_)
  have b4 : Below V2.heap.size V2 w4 := Own.grown O3 b3 hz3 hgrow
  have O4 : OwnK .u8 w4 V2.heap.size v4 (packH n r s) := by
    have e : packH n r s = headW6 1 [r, s] ++ M.textL n := by simp [packH, helHead, headW6]
    unfold OwnK
    rw [e, List.length_append, M.textL_length, List.map_append, bytes_cells]
    exact hown
  have st4 := st2.on b4
  refine hK _ _ st4 ?_
  have B4 := btr b0 st4.out
  obtain ⟨a4, c4, hv4, -⟩ := O4.form
  have hle : w.heap.size ≤ V2.heap.size := (btr b0 st2.out).size
  have HT := Lib.hid (And.intro (O4.less hle) B4)
  clear hK K hown hgrow hat O3 O4 b3 b4 B4 st3 st4 st2
  subst hv4
  simp only [Act.put, List.setIfInBounds_toArray, List.set_cons_zero, List.set_cons_succ]
  iterate 1 (refine line_read rfl (by kernel_rfl) (fun K hK => ?_); go_big_quiet_op; refine hK _ ?_; clear hK K)
  refine line_nil ?_
  go_wp2_with fail
  go_ret
  exact ⟨_, _, _, rfl, HT.out.1, HT.out.2⟩
theorem helloFault_method (r s : Int) (n : ByteArray) (w : World) (hn : n.size ≤ maxLen) :
    Calls Tryz.prog 363 #[H3 r s n] w fun e w' => e = .returned (.int .i64 (helF n.data.toList r s)) ∧ Below w.heap.size w w' := by
  have b0 := bal (Below.refl _ w) (.cells #[.int .i64 r, .int .i64 s, .string n] 26)
  have F := fun w => implHelloFault_any r s n w hn
  go_enter Tryz.func363, Tryz.ntmps363
  go_wp2_with fail
  refine (F _).mono ?_
  rintro e u1 ⟨rfl, b1⟩
  have hb := btr b0 b1
  go_wp2_with fail
  go_ret
  exact ⟨rfl, hb⟩
theorem packWord_hello (r s : Int) (n : ByteArray) (w : World) (hn : n.size ≤ maxLen) :
    Calls Tryz.prog 100 #[.iface 26 (H3 r s n)] w (BytesRes (helF n.data.toList r s) (packHL n r s) w) := by
  have hm : ∀ w : World, (method 566 26 (H3 r s n) "loop.example/g00618/impl.fault").run Tryz.prog w = .ok (363, H3 r s n) w := fun _ => by kernel_rfl
  have F := fun w => helloFault_method r s n w hn
  have A0 := At.new w [.int .i64 0, .slice none 0 0] 39
  have b0 := bal (Below.refl _ w) (.cells #[.int .i64 0, .slice none 0 0] 39)
  by_cases h : helF n.data.toList r s = 0
  · have e : packHL n r s = packH n r s := by simp [packHL, h]
    rw [e]
    have P1 := fun w => wordBytes_hello r s n w h
    simp only [h] at F ⊢
    clear e h
    go_enter Tryz.func100, Tryz.ntmps100
    go_wp2_with fail
    generalize w.alloc (.cells #[.int .i64 0, .slice none 0 0] 39) = W0 at *
    refine (F _).mono ?_
    rintro e u1 ⟨rfl, b1⟩
    go_wp2_with fail
    refine (P1 _).mono ?_
    rintro e u2 ⟨a2, n2, c2, rfl, O2, b2⟩
    have lt1 : w.heap.size < u1.heap.size := (A0.on b1).lt (by simp)
    have p0 := ((A0.on b1).on b2).cell 0 _ rfl
    have p1 := ((A0.on b1).on b2).cell 1 _ rfl
    have z0 := ((A0.on b1).on b2).free 0 _ rfl
    have z1 := ((A0.on b1).on b2).free 1 _ rfl
    have HT := Lib.hid (And.intro O2 (btr b0 (btr b1 b2)))
    have hzs := (btr b0 b1).size
    clear A0 O2 b2 b1 b0
    go_wp2_with fail
    refine bodyPost_ret (v := .agg #[.int .i64 0, .slice a2 n2 c2]) (by simp [results, Tryz.results100, go_sem, p0, p1]) rfl ?_
    exact ⟨_, _, _, rfl, (by (iterate 2 (refine Own.setCell ?_ (fun g hg => by have := (HT.out.1.lt g hg).1; dsimp only; omega) _)); exact HT.out.1.less (by omega)), (by (iterate 2 (refine bset ?_ (by dsimp only; omega) _)); exact HT.out.2)⟩
  · have e : packHL n r s = [] := by simp [packHL, h]
    rw [e]
    generalize helF n.data.toList r s = cd at *
    clear e
    go_enter Tryz.func100, Tryz.ntmps100
    go_wp2_with fail
    generalize w.alloc (.cells #[.int .i64 0, .slice none 0 0] 39) = W0 at *
    refine (F _).mono ?_
    rintro e u1 ⟨rfl, b1⟩
    have q0 := (A0.on b1).cell 0 _ rfl
    have q1 := (A0.on b1).cell 1 _ rfl
    have z0 := (A0.on b1).free 0 _ rfl
    have z1 := (A0.on b1).free 1 _ rfl
    have hb := btr b0 b1
    clear A0 b0 b1 F
    go_wp2_with fail
    refine bodyPost_ret (v := .agg #[.int .i64 cd, .slice none 0 0]) (by simp [results, Tryz.results100, go_sem, q0, q1]) rfl ?_
    exact ⟨_, _, _, rfl, Own.nil _ _ _, (by (iterate 2 (refine bset ?_ (by dsimp only; omega) _)); exact hb)⟩
theorem implPackHello_any (r s : Int) (n : ByteArray) (w : World) (hn : n.size ≤ maxLen) :
    Calls Tryz.prog 17 #[H3 r s n] w (BytesRes (helF n.data.toList r s) (packHL n r s) w) := by
  have F := fun w => packWord_hello r s n w hn
  have b0 := bal (bal (Below.refl _ w) (.cells #[.int .i64 r, .int .i64 s, .string n] 26)) (.cells #[.int .i64 0, .slice none 0 0] 39)
  have A2 := At.new (w.alloc (.cells #[.int .i64 r, .int .i64 s, .string n] 26)) [.int .i64 0, .slice none 0 0] 39
  simp only [World.size_alloc] at A2
  generalize helF n.data.toList r s = cd at *
  generalize packHL n r s = zs at *
  go_enter Tryz.func17, Tryz.ntmps17
  go_wp2_with fail
  generalize (w.alloc (.cells #[.int .i64 r, .int .i64 s, .string n] 26)).alloc (.cells #[.int .i64 0, .slice none 0 0] 39) = W0 at *
  refine (F _).mono ?_
  rintro e u1 ⟨a2, n2, c2, rfl, O2, b2⟩
  have lt1 : w.heap.size + 1 < W0.heap.size := A2.lt (by simp)
  have p0 := (A2.on b2).cell 0 _ rfl
  have p1 := (A2.on b2).cell 1 _ rfl
  have z0 := (A2.on b2).free 0 _ rfl
  have z1 := (A2.on b2).free 1 _ rfl
  have HT := Lib.hid (And.intro O2 (btr b0 b2))
  clear A2 O2 b2 b0
  go_wp2_with fail
  refine bodyPost_ret (v := .agg #[.int .i64 cd, .slice a2 n2 c2]) (by simp [results, Tryz.results17, go_sem, p0, p1]) rfl ?_
  exact ⟨_, _, _, rfl, (by (iterate 2 (refine Own.setCell ?_ (fun g hg => by have := (HT.out.1.lt g hg).1; dsimp only; omega) _)); exact HT.out.1.less (by omega)), (by (iterate 2 (refine bset ?_ (by dsimp only; omega) _)); exact HT.out.2)⟩
end Go.Proofs.YtlodhleihnlchaaGreatDoor
