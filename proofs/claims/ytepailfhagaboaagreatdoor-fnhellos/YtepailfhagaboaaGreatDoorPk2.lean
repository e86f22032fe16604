/- Texts of this seat that several laws rest on, laid into one. Conditions: as each theorem states. -/
import Derived.Test.YtepailfhagaboaaGreatDoorPk0
import Derived.Test.YtepailfhagaboaaGreatDoorPk1
import Derived.KernelRfl
import Derived.Test.YtepailfhagaboaaGreatDoorRows
import Derived.Test.YtepailfhagaboaaGreatDoorTie
import Derived.Test.YtepailfhagaboaaGreatDoorCards
import Derived.LaidHandle
import Derived.LaidLaws
import Derived.ProofKit
import Derived.OpenShut
import Derived.WalkSmall
import Derived.Carry
import Derived.Below
import Derived.Deep.DeepHandedRow
import Derived.Lib.LaidTab
import Derived.Lay
import Derived.MakeChecks
import Derived.LaidMore
import Derived.Stop.Joined
namespace Go.Proofs.YtepailfhagaboaaGreatDoor
open Go.RowKit
set_option maxRecDepth 100000
set_option linter.unusedVariables false

theorem implSignFault_yes (p q : Int) (w : World) (hB : M.sigB p q = true) :
    Calls Tryz.prog 48 #[I2 p q] w fun r w' => r = .returned (.int .i64 0) ∧ Below w.heap.size w w' := by
  go_enter Tryz.func48, Tryz.ntmps48
  go_wp2_with fail
  refine (pairOf_yes p q _ hB).mono ?_
  rintro r w1 ⟨rfl, hb0⟩
  have hb1 := btr (bal (Below.refl _ w) _) hb0
  clear hb0
  go_wp2_with fail
  refine (codeOf_nil _).mono ?_
  rintro r w2 ⟨rfl, hb_w2⟩
  obtain ⟨hc_w2, hf_w2⟩ := bcell hb_w2
  have hz_w2 := hb_w2.size
  (try simp at hz_w2)
  go_wp2_with fail
  go_ret
  exact ⟨rfl, btr hb1 hb_w2⟩
/-- Where the signature has no fault, no error's type is asked for. -/
theorem implReplyFault_sig (r s p x y f : Int) (w : World) (hB : M.sigB x y = true) :
    Calls Tryz.prog 19 #[R6 r s p x y f] w fun e w' => e = .returned (.int .i64 (repF r s p x y f)) ∧ Below w.heap.size w w' := by
  have b0 := bal (Below.refl _ w) (.cells #[.int .i64 r, .int .i64 s, .int .i64 p, .int .i64 x, .int .i64 y, .int .i64 f] 33)
  have A0 := At.new w (RL6 r s p x y f) 33
  cases hr : M.sumB r
  · rw [repF_no (by rw [hr]; rfl)]
    go_enter Tryz.func19, Tryz.ntmps19
    go_wp2_with fail
    refine (isSum_any _ _).mono ?_
    rintro r w' ⟨rfl, rfl⟩
    go_wp2_with fail
    go_ret
    exact ⟨rfl, b0⟩
  cases hs : pubB s
  · rw [repF_no (by rw [hs]; simp)]
    go_enter Tryz.func19, Tryz.ntmps19
    go_wp2_with fail
    refine (isSum_any _ _).mono ?_
    rintro r w' ⟨rfl, rfl⟩
    go_wp2_with fail
    generalize w.alloc (.cells #[.int .i64 r, .int .i64 s, .int .i64 p, .int .i64 x, .int .i64 y, .int .i64 f] 33) = W0 at *
    refine (implIsPublic_any _ _).mono ?_
    rintro e u1 ⟨rfl, b1⟩
    have B1 := btr b0 b1
    have d0 := (A0.on b1).cell 0 _ rfl
    have d1 := (A0.on b1).cell 1 _ rfl
    have d2 := (A0.on b1).cell 2 _ rfl
    have d3 := (A0.on b1).cell 3 _ rfl
    have d4 := (A0.on b1).cell 4 _ rfl
    have d5 := (A0.on b1).cell 5 _ rfl
    go_wp2_with fail
    go_ret
    exact ⟨rfl, B1⟩
  cases hp : pubB p
  · rw [repF_no (by rw [hp]; simp)]
    go_enter Tryz.func19, Tryz.ntmps19
    go_wp2_with fail
    refine (isSum_any _ _).mono ?_
    rintro r w' ⟨rfl, rfl⟩
    go_wp2_with fail
    generalize w.alloc (.cells #[.int .i64 r, .int .i64 s, .int .i64 p, .int .i64 x, .int .i64 y, .int .i64 f] 33) = W0 at *
    refine (implIsPublic_any _ _).mono ?_
    rintro e u1 ⟨rfl, b1⟩
    have B1 := btr b0 b1
    have d0 := (A0.on b1).cell 0 _ rfl
    have d1 := (A0.on b1).cell 1 _ rfl
    have d2 := (A0.on b1).cell 2 _ rfl
    have d3 := (A0.on b1).cell 3 _ rfl
    have d4 := (A0.on b1).cell 4 _ rfl
    have d5 := (A0.on b1).cell 5 _ rfl
    go_wp2_with fail
    refine (implIsPublic_any _ _).mono ?_
    rintro e u2 ⟨rfl, b2⟩
    have B2 := btr B1 b2
    have b12 := btr b1 b2
    clear d0 d1 d2 d3 d4 d5 b1 b2
    have d0 := (A0.on b12).cell 0 _ rfl
    have d1 := (A0.on b12).cell 1 _ rfl
    have d2 := (A0.on b12).cell 2 _ rfl
    have d3 := (A0.on b12).cell 3 _ rfl
    have d4 := (A0.on b12).cell 4 _ rfl
    have d5 := (A0.on b12).cell 5 _ rfl
    go_wp2_with fail
    go_ret
    exact ⟨rfl, B2⟩
  cases hf : M.sumB f
  · rw [repF_no (by rw [hf]; simp)]
    go_enter Tryz.func19, Tryz.ntmps19
    go_wp2_with fail
    refine (isSum_any _ _).mono ?_
    rintro r w' ⟨rfl, rfl⟩
    go_wp2_with fail
    generalize w.alloc (.cells #[.int .i64 r, .int .i64 s, .int .i64 p, .int .i64 x, .int .i64 y, .int .i64 f] 33) = W0 at *
    refine (implIsPublic_any _ _).mono ?_
    rintro e u1 ⟨rfl, b1⟩
    have B1 := btr b0 b1
    have d0 := (A0.on b1).cell 0 _ rfl
    have d1 := (A0.on b1).cell 1 _ rfl
    have d2 := (A0.on b1).cell 2 _ rfl
    have d3 := (A0.on b1).cell 3 _ rfl
    have d4 := (A0.on b1).cell 4 _ rfl
    have d5 := (A0.on b1).cell 5 _ rfl
    go_wp2_with fail
    refine (implIsPublic_any _ _).mono ?_
    rintro e u2 ⟨rfl, b2⟩
    have B2 := btr B1 b2
    have b12 := btr b1 b2
    clear d0 d1 d2 d3 d4 d5 b1 b2
    have d0 := (A0.on b12).cell 0 _ rfl
    have d1 := (A0.on b12).cell 1 _ rfl
    have d2 := (A0.on b12).cell 2 _ rfl
    have d3 := (A0.on b12).cell 3 _ rfl
    have d4 := (A0.on b12).cell 4 _ rfl
    have d5 := (A0.on b12).cell 5 _ rfl
    go_wp2_with fail
    refine (isSum_any _ _).mono ?_
    rintro r w' ⟨rfl, rfl⟩
    go_wp2_with fail
    go_ret
    exact ⟨rfl, B2⟩
  · rw [repF_yes (by rw [hr, hs, hp, hf]; rfl), show M.sigF x y = 0 by simp [M.sigF, hB]]
    go_enter Tryz.func19, Tryz.ntmps19
    go_wp2_with fail
    refine (isSum_any _ _).mono ?_
    rintro r w' ⟨rfl, rfl⟩
    go_wp2_with fail
    generalize w.alloc (.cells #[.int .i64 r, .int .i64 s, .int .i64 p, .int .i64 x, .int .i64 y, .int .i64 f] 33) = W0 at *
    refine (implIsPublic_any _ _).mono ?_
    rintro e u1 ⟨rfl, b1⟩
    have B1 := btr b0 b1
    have d0 := (A0.on b1).cell 0 _ rfl
    have d1 := (A0.on b1).cell 1 _ rfl
    have d2 := (A0.on b1).cell 2 _ rfl
    have d3 := (A0.on b1).cell 3 _ rfl
    have d4 := (A0.on b1).cell 4 _ rfl
    have d5 := (A0.on b1).cell 5 _ rfl
    go_wp2_with fail
    refine (implIsPublic_any _ _).mono ?_
    rintro e u2 ⟨rfl, b2⟩
    have B2 := btr B1 b2
    have b12 := btr b1 b2
    clear d0 d1 d2 d3 d4 d5 b1 b2
    have d0 := (A0.on b12).cell 0 _ rfl
    have d1 := (A0.on b12).cell 1 _ rfl
    have d2 := (A0.on b12).cell 2 _ rfl
    have d3 := (A0.on b12).cell 3 _ rfl
    have d4 := (A0.on b12).cell 4 _ rfl
    have d5 := (A0.on b12).cell 5 _ rfl
    go_wp2_with fail
    refine (isSum_any _ _).mono ?_
    rintro r w' ⟨rfl, rfl⟩
    go_wp2_with fail
    refine (implSignFault_yes x y _ hB).mono ?_
    rintro e u3 ⟨rfl, b3⟩
    have B3 := btr B2 b3
    go_wp2_with fail
    go_ret
    exact ⟨rfl, B3⟩
theorem replyFault_sig (r s p x y f : Int) (w : World) (hB : M.sigB x y = true) :
    Calls Tryz.prog 154 #[R6 r s p x y f] w fun e w' => e = .returned (.int .i64 (repF r s p x y f)) ∧ Below w.heap.size w w' := by
  have b0 := bal (Below.refl _ w) (.cells #[.int .i64 r, .int .i64 s, .int .i64 p, .int .i64 x, .int .i64 y, .int .i64 f] 33)
  have F := fun w => implReplyFault_sig r s p x y f w hB
  go_enter Tryz.func154, Tryz.ntmps154
  go_wp2_with fail
  refine (F _).mono ?_
  rintro e u1 ⟨rfl, b1⟩
  have hb := btr b0 b1
  go_wp2_with fail
  go_ret
  exact ⟨rfl, hb⟩

abbrev helV (zs : List Int) : Value := H3 (tw zs 1) (tw zs 3) (M.bs (helNm zs))
abbrev repV (zs : List Int) : Value := R6 (tw zs 1) (tw zs 3) (tw zs 5) (tw zs 7) (tw zs 9) (tw zs 11)
theorem hel_method (zs : List Int) (w : World) (hz : zs.length ≤ maxLen) :
    Calls Tryz.prog 153 #[helV zs] w fun e w' => e = .returned (.int .i64 (helF (helNm zs) (tw zs 1) (tw zs 3))) ∧ Below w.heap.size w w' := by
  have h := helloFault_method (tw zs 1) (tw zs 3) (M.bs (helNm zs)) w (helNm_size maxLen hz)
  rw [M.bs_list] at h
  exact h
theorem readWord_hello (a : Option Addr) (len cap B : Nat) (zs : List Int) (w : World) (hR : Row .u8 w B a len cap zs) (hB : B ≤ w.heap.size) (h : helOk zs = true) :
    Calls Tryz.prog 35 #[.slice a len cap] w fun e w' => e = .returned (.iface 26 (helV zs)) ∧ Below w.heap.size w w' := by
  have hlen := hR.fits
  have hmost := hR.most
  have hzl := hR.length
  have hm2 := hmost
  unfold maxLen at hm2
  simp only [helOk, Bool.and_eq_true, decide_eq_true_eq] at h
  obtain ⟨⟨h5, h1⟩, hf⟩ := h
  rw [hzl] at h5
  have h0 : 0 < len := by omega
  have I := fun w' R => helloIn_yes a len cap B zs w' R
  have M1 := fun w => hel_method zs w (by omega)
  rw [show helF (helNm zs) (tw zs 1) (tw zs 3) = 0 from of_decide_eq_true hf] at M1
  have hmt : ∀ w : World, (method 337 26 (helV zs) "loop.example/g00618/impl.fault").run Tryz.prog w = .ok (153, helV zs) w := fun _ => by kernel_rfl
  have hne : ∀ w : World, (binOp BinOp.neq 70 (.iface 26 (helV zs)) .nilIface).run Tryz.prog w = .ok (.bool true) w := fun _ => by kernel_rfl
  obtain ⟨b, off, rfl, hb, hc⟩ := hR.cells (by omega)
  have d0 := hc 0 (by omega)
  rw [Nat.add_zero] at d0
  clear hc
  rw [h1] at d0
  unfold helV at *
  generalize M.bs (helNm zs) = N at *
  generalize tw zs 1 = y1 at *
  generalize tw zs 3 = y3 at *
  go_enter Tryz.func35, Tryz.ntmps35
  go_wp2_with fail
  refine (needs_yes _).mono ?_
  rintro e w' ⟨rfl, rfl⟩
  go_wp2_with fail
  refine (I _ hR hB h5).mono ?_
  rintro e u1 ⟨rfl, b1⟩
  go_wp2_with fail
  refine (M1 _).mono ?_
  rintro e u2 ⟨rfl, b2⟩
  have b3 := btr b1 b2
  go_wp2_with fail
  refine (needs_yes _).mono ?_
  rintro e w' ⟨rfl, rfl⟩
  go_wp2_with fail
  go_ret
  exact ⟨rfl, b3⟩
theorem readWord_reply (a : Option Addr) (len cap B : Nat) (zs : List Int) (w : World) (hR : Row .u8 w B a len cap zs) (hB : B ≤ w.heap.size) (h : repOk zs = true) :
    Calls Tryz.prog 35 #[.slice a len cap] w fun e w' => e = .returned (.iface 33 (repV zs)) ∧ Below w.heap.size w w' := by
  have hlen := hR.fits
  have hmost := hR.most
  have hzl := hR.length
  have hm2 := hmost
  unfold maxLen at hm2
  simp only [repOk, Bool.and_eq_true, decide_eq_true_eq] at h
  obtain ⟨⟨h5, h1⟩, hf⟩ := h
  rw [hzl] at h5
  subst h5
  have hf0 : repF (tw zs 1) (tw zs 3) (tw zs 5) (tw zs 7) (tw zs 9) (tw zs 11) = 0 := of_decide_eq_true hf
  have hsg := (repF_zero hf0).2.2.2.2
  have I := fun w' R hB => replyIn_yes a cap B zs w' R hB hsg
  have M1 := fun w => replyFault_sig (tw zs 1) (tw zs 3) (tw zs 5) (tw zs 7) (tw zs 9) (tw zs 11) w hsg
  rw [hf0] at M1
  have hmt : ∀ w : World, (method 337 33 (repV zs) "loop.example/g00618/impl.fault").run Tryz.prog w = .ok (154, repV zs) w := fun _ => by kernel_rfl
  have hne : ∀ w : World, (binOp BinOp.neq 70 (.iface 33 (repV zs)) .nilIface).run Tryz.prog w = .ok (.bool true) w := fun _ => by kernel_rfl
  obtain ⟨b, off, rfl, hb, hc⟩ := hR.cells (by omega)
  have d0 := hc 0 (by omega)
  rw [Nat.add_zero] at d0
  clear hc
  rw [h1] at d0
  unfold repV at *
  clear hf hf0 hsg
  generalize tw zs 1 = y1 at *
  generalize tw zs 3 = y3 at *
  generalize tw zs 5 = y5 at *
  generalize tw zs 7 = y7 at *
  generalize tw zs 9 = y9 at *
  generalize tw zs 11 = y11 at *
  go_enter Tryz.func35, Tryz.ntmps35
  go_wp2_with fail
  refine (needs_yes _).mono ?_
  rintro e w' ⟨rfl, rfl⟩
  go_wp2_with fail
  refine (I _ hR hB).mono ?_
  rintro e u1 ⟨rfl, b1⟩
  go_wp2_with fail
  refine (M1 _).mono ?_
  rintro e u2 ⟨rfl, b2⟩
  have b3 := btr b1 b2
  go_wp2_with fail
  refine (needs_yes _).mono ?_
  rintro e w' ⟨rfl, rfl⟩
  go_wp2_with fail
  go_ret
  exact ⟨rfl, b3⟩
theorem readWord_no {u : TypeId} {v : Value} (a : Option Addr) (len cap B : Nat) (zs : List Int) (w : World) (hv : ErrV u v w) (hR : Row .u8 w B a len cap zs) (hB : B ≤ w.heap.size) (hh : helOk zs = false) (hr : repOk zs = false) :
    Calls Tryz.prog 35 #[.slice a len cap] w fun e w' => e = unread u v ∧ Below w.heap.size w w' := by
  have hlen := hR.fits
  have hmost := hR.most
  have hzl := hR.length
  have hm2 := hmost
  unfold maxLen at hm2
  by_cases hl0 : len = 0
  · subst hl0
    go_enter Tryz.func35, Tryz.ntmps35
    go_wp2_with fail
    refine (needs_no _ hv).mono ?_
    rintro e w' ⟨rfl, rfl⟩
    exact ⟨rfl, rfl, Below.refl _ _⟩
  have h0 : 0 < len := by omega
  by_cases h1 : zs.getD 0 0 = 1
  · by_cases h5 : len < 5
    · have I := fun w' V => helloIn_no (u := u) (v := v) a len cap w' V h5
      obtain ⟨b, off, rfl, hb, hc⟩ := hR.cells (by omega)
      have d0 := hc 0 (by omega)
      rw [Nat.add_zero] at d0
      clear hc
      rw [h1] at d0
      go_enter Tryz.func35, Tryz.ntmps35
      go_wp2_with fail
      refine (needs_yes _).mono ?_
      rintro e w' ⟨rfl, rfl⟩
      go_wp2_with fail
      refine (I _ hv).mono ?_
      rintro e u1 ⟨rfl, b1⟩
      exact ⟨rfl, rfl, b1⟩
    · have I := fun w' R => helloIn_yes a len cap B zs w' R
      have M1 := fun w => hel_method zs w (by omega)
      have hc0 : (helF (helNm zs) (tw zs 1) (tw zs 3) == 0) = false := by
        have : helB zs = false := by
          cases hb : helB zs
          · rfl
          · exfalso
            unfold helOk at hh
            rw [h1, hb, decide_eq_true (by omega)] at hh
            simp at hh
        rw [beq_eq_false_iff_ne]
        exact of_decide_eq_false this
      have hmt : ∀ w : World, (method 337 26 (helV zs) "loop.example/g00618/impl.fault").run Tryz.prog w = .ok (153, helV zs) w := fun _ => by kernel_rfl
      have hne : ∀ w : World, (binOp BinOp.neq 70 (.iface 26 (helV zs)) .nilIface).run Tryz.prog w = .ok (.bool true) w := fun _ => by kernel_rfl
      obtain ⟨b, off, rfl, hb, hc⟩ := hR.cells (by omega)
      have d0 := hc 0 (by omega)
      rw [Nat.add_zero] at d0
      clear hc
      rw [h1] at d0
      unfold helV at *
      generalize helF (helNm zs) (tw zs 1) (tw zs 3) = cd at *
      generalize M.bs (helNm zs) = N at *
      generalize tw zs 1 = y1 at *
      generalize tw zs 3 = y3 at *
      clear hh hr
      go_enter Tryz.func35, Tryz.ntmps35
      go_wp2_with fail
      refine (needs_yes _).mono ?_
      rintro e w' ⟨rfl, rfl⟩
      go_wp2_with fail
      refine (I _ hR hB (by omega)).mono ?_
      rintro e u1 ⟨rfl, b1⟩
      go_wp2_with fail
      refine (M1 _).mono ?_
      rintro e u2 ⟨rfl, b2⟩
      have b3 := btr b1 b2
      have V3 := hv.on b3
      go_wp2_with fail
      refine (needs_no _ V3).mono ?_
      rintro e w' ⟨rfl, rfl⟩
      exact ⟨rfl, rfl, b3⟩
  have q1 : (zs.getD 0 0 == 1) = false := by rw [beq_eq_false_iff_ne]; exact h1
  by_cases h2 : zs.getD 0 0 = 2
  · by_cases h13 : len = 13
    · subst h13
      cases hsg : M.sigB (tw zs 7) (tw zs 9)
      · have I := fun w' R hB V => replyIn_bad (u := u) (v := v) a cap B zs w' R hB V hsg
        obtain ⟨b, off, rfl, hb, hc⟩ := hR.cells (by omega)
        have d0 := hc 0 (by omega)
        rw [Nat.add_zero] at d0
        clear hc
        rw [h2] at d0
        go_enter Tryz.func35, Tryz.ntmps35
        go_wp2_with fail
        refine (needs_yes _).mono ?_
        rintro e w' ⟨rfl, rfl⟩
        go_wp2_with fail
        refine (I _ hR hB hv).mono ?_
        rintro e u1 ⟨rfl, b1⟩
        exact ⟨rfl, rfl, b1⟩
      · have I := fun w' R hB => replyIn_yes a cap B zs w' R hB hsg
        have M1 := fun w => replyFault_sig (tw zs 1) (tw zs 3) (tw zs 5) (tw zs 7) (tw zs 9) (tw zs 11) w hsg
        have hc0 : (repF (tw zs 1) (tw zs 3) (tw zs 5) (tw zs 7) (tw zs 9) (tw zs 11) == 0) = false := by
          have : repB zs = false := by
            cases hb : repB zs
            · rfl
            · exfalso
              unfold repOk at hr
              rw [h2, hb, decide_eq_true hzl] at hr
              simp at hr
          rw [beq_eq_false_iff_ne]
          exact of_decide_eq_false this
        have hmt : ∀ w : World, (method 337 33 (repV zs) "loop.example/g00618/impl.fault").run Tryz.prog w = .ok (154, repV zs) w := fun _ => by kernel_rfl
        have hne : ∀ w : World, (binOp BinOp.neq 70 (.iface 33 (repV zs)) .nilIface).run Tryz.prog w = .ok (.bool true) w := fun _ => by kernel_rfl
        obtain ⟨b, off, rfl, hb, hc⟩ := hR.cells (by omega)
        have d0 := hc 0 (by omega)
        rw [Nat.add_zero] at d0
        clear hc
        rw [h2] at d0
        unfold repV at *
        clear hh hr hsg
        generalize repF (tw zs 1) (tw zs 3) (tw zs 5) (tw zs 7) (tw zs 9) (tw zs 11) = cd at *
        generalize tw zs 1 = y1 at *
        generalize tw zs 3 = y3 at *
        generalize tw zs 5 = y5 at *
        generalize tw zs 7 = y7 at *
        generalize tw zs 9 = y9 at *
        generalize tw zs 11 = y11 at *
        go_enter Tryz.func35, Tryz.ntmps35
        go_wp2_with fail
        refine (needs_yes _).mono ?_
        rintro e w' ⟨rfl, rfl⟩
        go_wp2_with fail
        refine (I _ hR hB).mono ?_
        rintro e u1 ⟨rfl, b1⟩
        go_wp2_with fail
        refine (M1 _).mono ?_
        rintro e u2 ⟨rfl, b2⟩
        have b3 := btr b1 b2
        have V3 := hv.on b3
        go_wp2_with fail
        refine (needs_no _ V3).mono ?_
        rintro e w' ⟨rfl, rfl⟩
        exact ⟨rfl, rfl, b3⟩
    · have I := fun w' V => replyIn_short (u := u) (v := v) a len cap w' V h13 (by omega)
      obtain ⟨b, off, rfl, hb, hc⟩ := hR.cells (by omega)
      have d0 := hc 0 (by omega)
      rw [Nat.add_zero] at d0
      clear hc
      rw [h2] at d0
      go_enter Tryz.func35, Tryz.ntmps35
      go_wp2_with fail
      refine (needs_yes _).mono ?_
      rintro e w' ⟨rfl, rfl⟩
      go_wp2_with fail
      refine (I _ hv).mono ?_
      rintro e u1 ⟨rfl, b1⟩
      exact ⟨rfl, rfl, b1⟩
  · have q2 : (zs.getD 0 0 == 2) = false := by rw [beq_eq_false_iff_ne]; exact h2
    obtain ⟨b, off, rfl, hb, hc⟩ := hR.cells (by omega)
    have d0 := hc 0 (by omega)
    rw [Nat.add_zero] at d0
    clear hc
    generalize zs.getD 0 0 = z at *
    clear hh hr
    go_enter Tryz.func35, Tryz.ntmps35
    go_wp2_with fail
    refine (needs_yes _).mono ?_
    rintro e w' ⟨rfl, rfl⟩
    go_wp2_with fail
    refine (needs_no _ hv).mono ?_
    rintro e w' ⟨rfl, rfl⟩
    exact ⟨rfl, rfl, Below.refl _ _⟩
end Go.Proofs.YtepailfhagaboaaGreatDoor
namespace Go.Proofs.YtepailfhagaboaaGreatDoor
open Go.RowKit
set_option maxRecDepth 100000
set_option linter.unusedVariables false

theorem ifaceNe (u : TypeId) (v : Value) (w : World) : (binOp BinOp.neq 20 (.iface u v) .nilIface).run Tryz.prog w = .ok (.bool true) w := by kernel_rfl
abbrev helT (zs : List Int) : Value := H4 (if helOk zs then 0 else 5) (if helOk zs then tw zs 1 else 0) (if helOk zs then tw zs 3 else 0) (M.bs (if helOk zs then helNm zs else []))
theorem helT_no {zs : List Int} (h : helOk zs = false) : helT zs = H4 5 0 0 { data := #[] } := by simp [helT, h, M.bs]
theorem helT_yes {zs : List Int} (h : helOk zs = true) : helT zs = H4 0 (tw zs 1) (tw zs 3) (M.bs (helNm zs)) := by simp [helT, h]
abbrev repT (zs : List Int) : Value := R7 (if repOk zs then 0 else 5) (if repOk zs then tw zs 1 else 0) (if repOk zs then tw zs 3 else 0) (if repOk zs then tw zs 5 else 0) (if repOk zs then tw zs 7 else 0) (if repOk zs then tw zs 9 else 0) (if repOk zs then tw zs 11 else 0)
theorem repT_no {zs : List Int} (h : repOk zs = false) : repT zs = R7 5 0 0 0 0 0 0 := by simp [repT, h]
theorem repT_yes {zs : List Int} (h : repOk zs = true) : repT zs = R7 0 (tw zs 1) (tw zs 3) (tw zs 5) (tw zs 7) (tw zs 9) (tw zs 11) := by simp [repT, h]

theorem catchHello_panic (g : Nat) (u : TypeId) (v : Value) (w : World) (A : At g (HL4 0 0 0 { data := #[] }) w) :
    CallsD Tryz.prog 34 #[.pointer (some ⟨g, 0, none⟩)] (.panicking [{ v := .iface u v, recovered := false }]) w fun e u' w' =>
      e = .returned (.tuple #[]) ∧ u' = .panicking [{ v := .iface u v, recovered := true }] ∧ At g (HL4 5 0 0 { data := #[] }) w' ∧ ∀ W : World, W.heap.size ≤ g → Below W.heap.size W w → Below W.heap.size W w' := by
  have hne := ifaceNe u v
  have c0 := A.cell 0 _ rfl
  have c1 := A.cell 1 _ rfl
  have c2 := A.cell 2 _ rfl
  have c3 := A.cell 3 _ rfl
  have z0 := A.free 0 _ rfl
  have z1 := A.free 1 _ rfl
  have z2 := A.free 2 _ rfl
  have z3 := A.free 3 _ rfl
  refine callsD_of_wpS Tryz.func34 rfl fun c₀ cs hu => ?_
  apply wpS_seq
  apply wpS_region
  simp [wpOpsS, go_sem, recoverD, hu, Tryz.ntmps34, Exit.thenS]
  refine wpS_cond (t := true) (by simp [Act.eval, Array.replicate]) ?_
  simp only [if_true]
  have HA := Lib.hid ((((A.set 0 (.int .i64 5)).set 1 (.int .i64 0)).set 2 (.int .i64 0)).set 3 (.string { data := #[] }))
  clear A
  apply wpS_region
  simp [wpOpsS, go_sem, c0, z0, c1, z1, c2, z2, c3, z3, bodyPostS, results, Tryz.results34, Array.replicate]
  exact ⟨HA.out, fun W hB hb => (by (iterate 4 (refine bset ?_ (by first | omega | (dsimp only; omega)) _)); exact hb)⟩
theorem catchHello_idle (p : Addr) (w : World) :
    CallsD Tryz.prog 34 #[.pointer (some p)] .returning w fun e u' w' => e = .returned (.tuple #[]) ∧ u' = .returning ∧ w' = w := by
  refine callsD_of_wpS Tryz.func34 rfl fun c₀ cs hu => ?_
  apply wpS_seq
  apply wpS_region
  simp [wpOpsS, go_sem, recoverD, hu, Tryz.ntmps34, Exit.thenS]
  refine wpS_cond (t := false) (by simp [Act.eval, Array.replicate]) ?_
  simp only [Bool.false_eq_true, if_false]
  refine wpS_of_wp (wp_skip ?_)
  cases c₀
  simp_all [bodyPostS, results, Tryz.results34]
theorem implReadHello_any (a : Option Addr) (len cap B : Nat) (zs : List Int) (w : World) (hu : ErrU w) (hR : Row .u8 w B a len cap zs) (hB : B ≤ w.heap.size) :
    Calls Tryz.prog 7 #[.slice a len cap] w fun e w' => e = .returned (helT zs) ∧ Below w.heap.size w w' := by
  obtain ⟨u, v, hv⟩ := hu
  have hmf : ∀ (fn : Fn) (first cap : Array Value) (w : World), (Instr.makeFunc fn first cap).run Tryz.prog w = .ok (.func fn first cap) w := fun _ _ _ _ => rfl
  have b0 := bal (Below.refl _ w) (.cells #[.int .i64 0, .int .i64 0, .int .i64 0, .string { data := #[] }] 28)
  have A0 := At.new w (HL4 0 0 0 { data := #[] }) 28
  have V0 := hv.on b0
  have R0 := hR.below (b0.mono hB)
  have hB0 : B ≤ (w.alloc (.cells #[.int .i64 0, .int .i64 0, .int .i64 0, .string { data := #[] }] 28)).heap.size := by simp; omega
  clear hR hv
  cases hh : helOk zs
  · rw [helT_no hh]
    cases hr : repOk zs
    · have N := fun w V R hB => readWord_no (u := u) (v := v) a len cap B zs w V R hB hh hr
      clear hh hr
      go_enter_defers Tryz.func7, Tryz.ntmps7
      go_wp2_with fail
      generalize w.alloc (.cells #[.int .i64 0, .int .i64 0, .int .i64 0, .string { data := #[] }] 28) = W0 at *
      refine (N _ V0 R0 hB0).mono ?_
      rintro e u1 ⟨rfl, b1⟩
      refine leaves_cons (f := 34) (args := #[.pointer (some ⟨w.heap.size, 0, none⟩)]) (by simp) (by simp [go_sem]) ?_
      refine (catchHello_panic w.heap.size u v _ (A0.on b1)).mono ?_
      rintro e u' w2 ⟨rfl, rfl, A2, hk⟩
      have HB := Lib.hid (hk w (Nat.le_refl _) (btr b0 b1))
      have q0 := A2.cell 0 _ rfl
      have q1 := A2.cell 1 _ rfl
      have q2 := A2.cell 2 _ rfl
      have q3 := A2.cell 3 _ rfl
      simp [Leaves, settle, results, Tryz.results7, go_sem, q0, q1, q2, q3]
      exact HB.out
    · have N := fun w R hB => readWord_reply a len cap B zs w R hB hr
      have ta : ∀ W : World, (Instr.typeAssert (.iface 33 (repV zs)) 70 26 true).run Tryz.prog W = .ok (.tuple #[.agg #[.int .i64 0, .int .i64 0, .string { data := #[] }], .bool false]) W := fun _ => by kernel_rfl
      generalize repV zs = VV at *
      clear hh hr
      go_enter_defers Tryz.func7, Tryz.ntmps7
      go_wp2_with fail
      generalize w.alloc (.cells #[.int .i64 0, .int .i64 0, .int .i64 0, .string { data := #[] }] 28) = W0 at *
      refine (N _ R0 hB0).mono ?_
      rintro e u1 ⟨rfl, b1⟩
      have hc := (V0.on b1).cell
      go_wp2_with fail
      refine leaves_cons (f := 34) (args := #[.pointer (some ⟨w.heap.size, 0, none⟩)]) (by simp) (by simp [go_sem]) ?_
      refine (catchHello_panic w.heap.size u v _ (A0.on b1)).mono ?_
      rintro e u' w2 ⟨rfl, rfl, A2, hk⟩
      have HB := Lib.hid (hk w (Nat.le_refl _) (btr b0 b1))
      have q0 := A2.cell 0 _ rfl
      have q1 := A2.cell 1 _ rfl
      have q2 := A2.cell 2 _ rfl
      have q3 := A2.cell 3 _ rfl
      simp [Leaves, settle, results, Tryz.results7, go_sem, q0, q1, q2, q3]
      exact HB.out
  · rw [helT_yes hh]
    have N := fun w R hB => readWord_hello a len cap B zs w R hB hh
    have ta : ∀ W : World, (Instr.typeAssert (.iface 26 (helV zs)) 70 26 true).run Tryz.prog W = .ok (.tuple #[helV zs, .bool true]) W := fun _ => by kernel_rfl
    unfold helV at *
    generalize M.bs (helNm zs) = n at *
    generalize tw zs 1 = y1 at *
    generalize tw zs 3 = y3 at *
    clear hh
    go_enter_defers Tryz.func7, Tryz.ntmps7
    go_wp2_with fail
    generalize w.alloc (.cells #[.int .i64 0, .int .i64 0, .int .i64 0, .string { data := #[] }] 28) = W0 at *
    refine (N _ R0 hB0).mono ?_
    rintro e u1 ⟨rfl, b1⟩
    have lt1 : w.heap.size < u1.heap.size := (A0.on b1).lt (by simp)
    have p0 := (A0.on b1).cell 0 _ rfl
    have p1 := (A0.on b1).cell 1 _ rfl
    have p2 := (A0.on b1).cell 2 _ rfl
    have p3 := (A0.on b1).cell 3 _ rfl
    have z0 := (A0.on b1).free 0 _ rfl
    have z1 := (A0.on b1).free 1 _ rfl
    have z2 := (A0.on b1).free 2 _ rfl
    have z3 := (A0.on b1).free 3 _ rfl
    have A9 := (((((A0.on b1).set 0 (.int .i64 0)).set 1 (.int .i64 y1)).set 2 (.int .i64 y3)).set 3 (.string n)).alloc (.cells #[.int .i64 y1, .int .i64 y3, .string n] 26)
    have q0 := A9.cell 0 _ rfl
    have q1 := A9.cell 1 _ rfl
    have q2 := A9.cell 2 _ rfl
    have q3 := A9.cell 3 _ rfl
    have HB := Lib.hid (bal (bset (bset (bset (bset (btr b0 b1) (p := ⟨w.heap.size, 0, none⟩) (Nat.le_refl _) (.int .i64 0)) (p := ⟨w.heap.size, 1, none⟩) (Nat.le_refl _) (.int .i64 y1)) (p := ⟨w.heap.size, 2, none⟩) (Nat.le_refl _) (.int .i64 y3)) (p := ⟨w.heap.size, 3, none⟩) (Nat.le_refl _) (.string n)) (.cells #[.int .i64 y1, .int .i64 y3, .string n] 26))
    clear A0 A9 b0 b1 V0 R0 N
    go_wp2_with fail
    refine leaves_cons (f := 34) (args := #[.pointer (some ⟨w.heap.size, 0, none⟩)]) (by simp) (by simp [go_sem]) ?_
    refine (catchHello_idle _ _).mono ?_
    rintro e u' w2 ⟨rfl, rfl, rfl⟩
    simp [Leaves, settle, results, Tryz.results7, go_sem, q0, q1, q2, q3]
    exact HB.out

theorem catchReply_panic (g : Nat) (u : TypeId) (v : Value) (w : World) (A : At g (RL7 0 0 0 0 0 0 0) w) :
    CallsD Tryz.prog 38 #[.pointer (some ⟨g, 0, none⟩)] (.panicking [{ v := .iface u v, recovered := false }]) w fun e u' w' =>
      e = .returned (.tuple #[]) ∧ u' = .panicking [{ v := .iface u v, recovered := true }] ∧ At g (RL7 5 0 0 0 0 0 0) w' ∧ ∀ W : World, W.heap.size ≤ g → Below W.heap.size W w → Below W.heap.size W w' := by
  have hne := ifaceNe u v
  have c0 := A.cell 0 _ rfl
  have c1 := A.cell 1 _ rfl
  have c2 := A.cell 2 _ rfl
  have c3 := A.cell 3 _ rfl
  have c4 := A.cell 4 _ rfl
  have c5 := A.cell 5 _ rfl
  have c6 := A.cell 6 _ rfl
  have z0 := A.free 0 _ rfl
  have z1 := A.free 1 _ rfl
  have z2 := A.free 2 _ rfl
  have z3 := A.free 3 _ rfl
  have z4 := A.free 4 _ rfl
  have z5 := A.free 5 _ rfl
  have z6 := A.free 6 _ rfl
  refine callsD_of_wpS Tryz.func38 rfl fun c₀ cs hu => ?_
  apply wpS_seq
  apply wpS_region
  simp [wpOpsS, go_sem, recoverD, hu, Tryz.ntmps38, Exit.thenS]
  refine wpS_cond (t := true) (by simp [Act.eval, Array.replicate]) ?_
  simp only [if_true]
  have HA := Lib.hid ((((((((A.set 0 (.int .i64 5)).set 1 (.int .i64 0)).set 2 (.int .i64 0)).set 3 (.int .i64 0)).set 4 (.int .i64 0)).set 5 (.int .i64 0)).set 6 (.int .i64 0)))
  clear A
  apply wpS_region
  simp [wpOpsS, go_sem, c0, z0, c1, z1, c2, z2, c3, z3, c4, z4, c5, z5, c6, z6, bodyPostS, results, Tryz.results38, Array.replicate]
  exact ⟨HA.out, fun W hB hb => (by (iterate 7 (refine bset ?_ (by first | omega | (dsimp only; omega)) _)); exact hb)⟩
theorem catchReply_idle (p : Addr) (w : World) :
    CallsD Tryz.prog 38 #[.pointer (some p)] .returning w fun e u' w' => e = .returned (.tuple #[]) ∧ u' = .returning ∧ w' = w := by
  refine callsD_of_wpS Tryz.func38 rfl fun c₀ cs hu => ?_
  apply wpS_seq
  apply wpS_region
  simp [wpOpsS, go_sem, recoverD, hu, Tryz.ntmps38, Exit.thenS]
  refine wpS_cond (t := false) (by simp [Act.eval, Array.replicate]) ?_
  simp only [Bool.false_eq_true, if_false]
  refine wpS_of_wp (wp_skip ?_)
  cases c₀
  simp_all [bodyPostS, results, Tryz.results38]
theorem implReadReply_any (a : Option Addr) (len cap B : Nat) (zs : List Int) (w : World) (hu : ErrU w) (hR : Row .u8 w B a len cap zs) (hB : B ≤ w.heap.size) :
    Calls Tryz.prog 9 #[.slice a len cap] w fun e w' => e = .returned (repT zs) ∧ Below w.heap.size w w' := by
  obtain ⟨u, v, hv⟩ := hu
  have hmf : ∀ (fn : Fn) (first cap : Array Value) (w : World), (Instr.makeFunc fn first cap).run Tryz.prog w = .ok (.func fn first cap) w := fun _ _ _ _ => rfl
  have b0 := bal (Below.refl _ w) (.cells #[.int .i64 0, .int .i64 0, .int .i64 0, .int .i64 0, .int .i64 0, .int .i64 0, .int .i64 0] 35)
  have A0 := At.new w (RL7 0 0 0 0 0 0 0) 35
  have V0 := hv.on b0
  have R0 := hR.below (b0.mono hB)
  have hB0 : B ≤ (w.alloc (.cells #[.int .i64 0, .int .i64 0, .int .i64 0, .int .i64 0, .int .i64 0, .int .i64 0, .int .i64 0] 35)).heap.size := by simp; omega
  clear hR hv
  cases hh : repOk zs
  · rw [repT_no hh]
    cases hr : helOk zs
    · have N := fun w V R hB => readWord_no (u := u) (v := v) a len cap B zs w V R hB hr hh
      clear hh hr
      go_enter_defers Tryz.func9, Tryz.ntmps9
      go_wp2_with fail
      generalize w.alloc (.cells #[.int .i64 0, .int .i64 0, .int .i64 0, .int .i64 0, .int .i64 0, .int .i64 0, .int .i64 0] 35) = W0 at *
      refine (N _ V0 R0 hB0).mono ?_
      rintro e u1 ⟨rfl, b1⟩
      refine leaves_cons (f := 38) (args := #[.pointer (some ⟨w.heap.size, 0, none⟩)]) (by simp) (by simp [go_sem]) ?_
      refine (catchReply_panic w.heap.size u v _ (A0.on b1)).mono ?_
      rintro e u' w2 ⟨rfl, rfl, A2, hk⟩
      have HB := Lib.hid (hk w (Nat.le_refl _) (btr b0 b1))
      have q0 := A2.cell 0 _ rfl
      have q1 := A2.cell 1 _ rfl
      have q2 := A2.cell 2 _ rfl
      have q3 := A2.cell 3 _ rfl
      have q4 := A2.cell 4 _ rfl
      have q5 := A2.cell 5 _ rfl
      have q6 := A2.cell 6 _ rfl
      simp [Leaves, settle, results, Tryz.results9, go_sem, q0, q1, q2, q3, q4, q5, q6]
      exact HB.out
    · have N := fun w R hB => readWord_hello a len cap B zs w R hB hr
      have ta : ∀ W : World, (Instr.typeAssert (.iface 26 (helV zs)) 70 33 true).run Tryz.prog W = .ok (.tuple #[.agg #[.int .i64 0, .int .i64 0, .int .i64 0, .int .i64 0, .int .i64 0, .int .i64 0], .bool false]) W := fun _ => by kernel_rfl
      generalize helV zs = VV at *
      clear hh hr
      go_enter_defers Tryz.func9, Tryz.ntmps9
      go_wp2_with fail
      generalize w.alloc (.cells #[.int .i64 0, .int .i64 0, .int .i64 0, .int .i64 0, .int .i64 0, .int .i64 0, .int .i64 0] 35) = W0 at *
      refine (N _ R0 hB0).mono ?_
      rintro e u1 ⟨rfl, b1⟩
      have hc := (V0.on b1).cell
      go_wp2_with fail
      refine leaves_cons (f := 38) (args := #[.pointer (some ⟨w.heap.size, 0, none⟩)]) (by simp) (by simp [go_sem]) ?_
      refine (catchReply_panic w.heap.size u v _ (A0.on b1)).mono ?_
      rintro e u' w2 ⟨rfl, rfl, A2, hk⟩
      have HB := Lib.hid (hk w (Nat.le_refl _) (btr b0 b1))
      have q0 := A2.cell 0 _ rfl
      have q1 := A2.cell 1 _ rfl
      have q2 := A2.cell 2 _ rfl
      have q3 := A2.cell 3 _ rfl
      have q4 := A2.cell 4 _ rfl
      have q5 := A2.cell 5 _ rfl
      have q6 := A2.cell 6 _ rfl
      simp [Leaves, settle, results, Tryz.results9, go_sem, q0, q1, q2, q3, q4, q5, q6]
      exact HB.out
  · rw [repT_yes hh]
    have N := fun w R hB => readWord_reply a len cap B zs w R hB hh
    have ta : ∀ W : World, (Instr.typeAssert (.iface 33 (repV zs)) 70 33 true).run Tryz.prog W = .ok (.tuple #[repV zs, .bool true]) W := fun _ => by kernel_rfl
    unfold repV at *
    generalize tw zs 1 = y1 at *
    generalize tw zs 3 = y3 at *
    generalize tw zs 5 = y5 at *
    generalize tw zs 7 = y7 at *
    generalize tw zs 9 = y9 at *
    generalize tw zs 11 = y11 at *
    clear hh
    go_enter_defers Tryz.func9, Tryz.ntmps9
    go_wp2_with fail
    generalize w.alloc (.cells #[.int .i64 0, .int .i64 0, .int .i64 0, .int .i64 0, .int .i64 0, .int .i64 0, .int .i64 0] 35) = W0 at *
    refine (N _ R0 hB0).mono ?_
    rintro e u1 ⟨rfl, b1⟩
    have lt1 : w.heap.size < u1.heap.size := (A0.on b1).lt (by simp)
    have p0 := (A0.on b1).cell 0 _ rfl
    have p1 := (A0.on b1).cell 1 _ rfl
    have p2 := (A0.on b1).cell 2 _ rfl
    have p3 := (A0.on b1).cell 3 _ rfl
    have p4 := (A0.on b1).cell 4 _ rfl
    have p5 := (A0.on b1).cell 5 _ rfl
    have p6 := (A0.on b1).cell 6 _ rfl
    have z0 := (A0.on b1).free 0 _ rfl
    have z1 := (A0.on b1).free 1 _ rfl
    have z2 := (A0.on b1).free 2 _ rfl
    have z3 := (A0.on b1).free 3 _ rfl
    have z4 := (A0.on b1).free 4 _ rfl
    have z5 := (A0.on b1).free 5 _ rfl
    have z6 := (A0.on b1).free 6 _ rfl
    have A9 := ((((((((A0.on b1).set 0 (.int .i64 0)).set 1 (.int .i64 y1)).set 2 (.int .i64 y3)).set 3 (.int .i64 y5)).set 4 (.int .i64 y7)).set 5 (.int .i64 y9)).set 6 (.int .i64 y11)).alloc (.cells #[.int .i64 y1, .int .i64 y3, .int .i64 y5, .int .i64 y7, .int .i64 y9, .int .i64 y11] 33)
    have q0 := A9.cell 0 _ rfl
    have q1 := A9.cell 1 _ rfl
    have q2 := A9.cell 2 _ rfl
    have q3 := A9.cell 3 _ rfl
    have q4 := A9.cell 4 _ rfl
    have q5 := A9.cell 5 _ rfl
    have q6 := A9.cell 6 _ rfl
    have HB := Lib.hid (bal (bset (bset (bset (bset (bset (bset (bset (btr b0 b1) (p := ⟨w.heap.size, 0, none⟩) (Nat.le_refl _) (.int .i64 0)) (p := ⟨w.heap.size, 1, none⟩) (Nat.le_refl _) (.int .i64 y1)) (p := ⟨w.heap.size, 2, none⟩) (Nat.le_refl _) (.int .i64 y3)) (p := ⟨w.heap.size, 3, none⟩) (Nat.le_refl _) (.int .i64 y5)) (p := ⟨w.heap.size, 4, none⟩) (Nat.le_refl _) (.int .i64 y7)) (p := ⟨w.heap.size, 5, none⟩) (Nat.le_refl _) (.int .i64 y9)) (p := ⟨w.heap.size, 6, none⟩) (Nat.le_refl _) (.int .i64 y11)) (.cells #[.int .i64 y1, .int .i64 y3, .int .i64 y5, .int .i64 y7, .int .i64 y9, .int .i64 y11] 33))
    clear A0 A9 b0 b1 V0 R0 N
    go_wp2_with fail
    refine leaves_cons (f := 38) (args := #[.pointer (some ⟨w.heap.size, 0, none⟩)]) (by simp) (by simp [go_sem]) ?_
    refine (catchReply_idle _ _).mono ?_
    rintro e u' w2 ⟨rfl, rfl, rfl⟩
    simp [Leaves, settle, results, Tryz.results9, go_sem, q0, q1, q2, q3, q4, q5, q6]
    exact HB.out
end Go.Proofs.YtepailfhagaboaaGreatDoor
namespace Go.Proofs.YtepailfhagaboaaGreatDoor
open Go.RowKit
set_option maxRecDepth 100000
set_option linter.unusedVariables false

theorem byte_back6 {z : Int} (h : M.byteB z) : ((UInt8.ofNat z.toNat).toNat : Int) = z := by
  unfold M.byteB at h
  simp
  omega
theorem text_back6 {zs : List Int} (h : ∀ z ∈ zs, M.byteB z) : M.textL (M.bs (zs.map fun z => UInt8.ofNat z.toNat)) = zs := by
  unfold M.textL
  rw [M.bs_list, List.map_map]
  have : zs.map ((fun c : UInt8 => (c.toNat : Int)) ∘ fun z => UInt8.ofNat z.toNat) = zs.map id := List.map_congr_left fun z hz => byte_back6 (h z hz)
  rw [this, List.map_id]
theorem tw_back {zs : List Int} (hb : ∀ z ∈ zs, M.byteB z) (i : Nat) (h : i + 1 < zs.length) : M.two (tw zs i) = [zs.getD i 0, zs.getD (i + 1) 0] := by
  have m1 : zs.getD i 0 ∈ zs := by rw [List.getD_eq_getElem?_getD, List.getElem?_eq_getElem (by omega)]; exact List.getElem_mem _
  have m2 : zs.getD (i + 1) 0 ∈ zs := by rw [List.getD_eq_getElem?_getD, List.getElem?_eq_getElem (by omega)]; exact List.getElem_mem _
  have h1 := hb _ m1
  have h2 := hb _ m2
  unfold M.byteB at h1 h2
  unfold M.two tw
  congr 1
  · omega
  · congr 1
    omega
theorem five_split {zs : List Int} (h : 5 ≤ zs.length) : zs = zs.getD 0 0 :: zs.getD 1 0 :: zs.getD 2 0 :: zs.getD 3 0 :: zs.getD 4 0 :: zs.drop 5 := by
  match zs, h with
  | a :: b :: c :: d :: e :: r, _ => rfl
theorem two_val {v : Int} (h : M.sumB v = true) : 256 * (v / 256) + v % 256 = v := by omega
theorem hel_pack {zs : List Int} (hb : ∀ z ∈ zs, M.byteB z) (h : helOk zs = true) : helF (helNm zs) (tw zs 1) (tw zs 3) = 0 ∧ packH (M.bs (helNm zs)) (tw zs 1) (tw zs 3) = zs := by
  simp only [helOk, Bool.and_eq_true, decide_eq_true_eq] at h
  obtain ⟨⟨h5, h1⟩, hf⟩ := h
  refine ⟨of_decide_eq_true hf, ?_⟩
  have e := five_split h5
  unfold packH helHead
  rw [tw_back hb 1 (by omega), tw_back hb 3 (by omega), helNm, text_back6 (fun z hz => hb z (List.mem_of_mem_drop hz))]
  rw [h1] at e
  exact e.symm
theorem hel_back {n : ByteArray} {r s : Int} (h : helF n.data.toList r s = 0) : helT (packH n r s) = H4 0 r s n := by
  obtain ⟨h1, h2, h3⟩ := helF_zero h
  have e1 : tw (packH n r s) 1 = 256 * (r / 256) + r % 256 := rfl
  have e3 : tw (packH n r s) 3 = 256 * (s / 256) + s % 256 := rfl
  have e4 : helNm (packH n r s) = n.data.toList := by
    have : (packH n r s).drop 5 = M.textL n := rfl
    unfold helNm
    rw [this]
    unfold M.textL
    rw [List.map_map]
    have : n.data.toList.map ((fun z : Int => UInt8.ofNat z.toNat) ∘ fun c : UInt8 => (c.toNat : Int)) = n.data.toList.map id := List.map_congr_left fun c _ => by simp
    rw [this, List.map_id]
  rw [two_val h1] at e1
  rw [two_val (pub_sum6 h2)] at e3
  have hok : helOk (packH n r s) = true := by
    unfold helOk helB
    rw [e1, e3, e4, h, packH_length]
    simp [packH, helHead]
  rw [helT_yes hok, e1, e3, e4, M.bs_data]
theorem hel_cases {zs : List Int} (hb : ∀ z ∈ zs, M.byteB z) : (if helOk zs = true then (0 : Int) else 5) = 5 ∨
    ((if helOk zs = true then (0 : Int) else 5) = 0 ∧ helF (M.bs (if helOk zs = true then helNm zs else [])).data.toList (if helOk zs = true then tw zs 1 else 0) (if helOk zs = true then tw zs 3 else 0) = 0 ∧
      packHL (M.bs (if helOk zs = true then helNm zs else [])) (if helOk zs = true then tw zs 1 else 0) (if helOk zs = true then tw zs 3 else 0) = zs) := by
  cases h : helOk zs
  · exact .inl (by simp)
  · obtain ⟨h1, h2⟩ := hel_pack hb h
    refine .inr ⟨by simp, ?_, ?_⟩
    · simp only [if_true, M.bs_list]
      exact h1
    · simp only [if_true]
      unfold packHL
      rw [M.bs_list, if_pos h1]
      exact h2
theorem hel_laid (n : ByteArray) (r s : Int) : ¬ helF n.data.toList r s = 0 ∨ (helF n.data.toList r s = 0 ∧ helT (packHL n r s) = H4 0 r s n) := by
  by_cases h : helF n.data.toList r s = 0
  · exact .inr ⟨h, by rw [show packHL n r s = packH n r s by simp [packHL, h]]; exact hel_back h⟩
  · exact .inl h

theorem rep_pack {zs : List Int} (hb : ∀ z ∈ zs, M.byteB z) (h : repOk zs = true) : repF (tw zs 1) (tw zs 3) (tw zs 5) (tw zs 7) (tw zs 9) (tw zs 11) = 0 ∧ packR (tw zs 1) (tw zs 3) (tw zs 5) (tw zs 7) (tw zs 9) (tw zs 11) = zs := by
  simp only [repOk, Bool.and_eq_true, decide_eq_true_eq] at h
  obtain ⟨⟨h13, h1⟩, hf⟩ := h
  refine ⟨of_decide_eq_true hf, ?_⟩
  unfold packR frontR
  rw [tw_back hb 1 (by omega), tw_back hb 3 (by omega), tw_back hb 5 (by omega), tw_back hb 7 (by omega), tw_back hb 9 (by omega), tw_back hb 11 (by omega)]
  match zs, h13, h1 with
  | [z0, z1, z2, z3, z4, z5, z6, z7, z8, z9, z10, z11, z12], _, h1 =>
    have : z0 = 2 := h1
    subst this
    rfl
theorem rep_back {r s p x y f : Int} (h : repF r s p x y f = 0) : repT (packR r s p x y f) = R7 0 r s p x y f := by
  obtain ⟨h1, h2, h3, h4, h5⟩ := repF_zero h
  obtain ⟨h6, h7⟩ := sig_sums h5
  have e1 : tw (packR r s p x y f) 1 = 256 * (r / 256) + r % 256 := rfl
  have e3 : tw (packR r s p x y f) 3 = 256 * (s / 256) + s % 256 := rfl
  have e5 : tw (packR r s p x y f) 5 = 256 * (p / 256) + p % 256 := rfl
  have e7 : tw (packR r s p x y f) 7 = 256 * (x / 256) + x % 256 := rfl
  have e9 : tw (packR r s p x y f) 9 = 256 * (y / 256) + y % 256 := rfl
  have e11 : tw (packR r s p x y f) 11 = 256 * (f / 256) + f % 256 := rfl
  rw [two_val h1] at e1
  rw [two_val (pub_sum6 h2)] at e3
  rw [two_val (pub_sum6 h3)] at e5
  rw [two_val h6] at e7
  rw [two_val h7] at e9
  rw [two_val h4] at e11
  have e0 : (packR r s p x y f).getD 0 0 = 2 := rfl
  have hok : repOk (packR r s p x y f) = true := by
    unfold repOk repB
    rw [e1, e3, e5, e7, e9, e11, h, packR_length, e0]
    rfl
  rw [repT_yes hok, e1, e3, e5, e7, e9, e11]
theorem rep_cases {zs : List Int} (hb : ∀ z ∈ zs, M.byteB z) : (if repOk zs = true then (0 : Int) else 5) = 5 ∨
    ((if repOk zs = true then (0 : Int) else 5) = 0 ∧ repF (if repOk zs = true then tw zs 1 else 0) (if repOk zs = true then tw zs 3 else 0) (if repOk zs = true then tw zs 5 else 0) (if repOk zs = true then tw zs 7 else 0) (if repOk zs = true then tw zs 9 else 0) (if repOk zs = true then tw zs 11 else 0) = 0 ∧
      packRL (if repOk zs = true then tw zs 1 else 0) (if repOk zs = true then tw zs 3 else 0) (if repOk zs = true then tw zs 5 else 0) (if repOk zs = true then tw zs 7 else 0) (if repOk zs = true then tw zs 9 else 0) (if repOk zs = true then tw zs 11 else 0) = zs) := by
  cases h : repOk zs
  · exact .inl (by simp)
  · obtain ⟨h1, h2⟩ := rep_pack hb h
    refine .inr ⟨by simp, ?_, ?_⟩
    · simp only [if_true]
      exact h1
    · simp only [if_true]
      unfold packRL
      rw [if_pos h1]
      exact h2
theorem rep_laid (r s p x y f : Int) : ¬ repF r s p x y f = 0 ∨ (repF r s p x y f = 0 ∧ repT (packRL r s p x y f) = R7 0 r s p x y f) := by
  by_cases h : repF r s p x y f = 0
  · exact .inr ⟨h, by rw [show packRL r s p x y f = packR r s p x y f by simp [packRL, h]]; exact rep_back h⟩
  · exact .inl h
theorem hr0 (c r s : Int) (n : ByteArray) (w : World) : Sem.run Tryz.prog (Instr.field 28 (.agg #[.int .i64 c, .int .i64 r, .int .i64 s, .string n]) 0) w = .ok (.int .i64 c) w := by kernel_rfl
theorem hr1 (c r s : Int) (n : ByteArray) (w : World) : Sem.run Tryz.prog (Instr.field 28 (.agg #[.int .i64 c, .int .i64 r, .int .i64 s, .string n]) 1) w = .ok (.agg #[.int .i64 r, .int .i64 s, .string n]) w := by kernel_rfl
theorem rr0 (c r s p x y f : Int) (w : World) : Sem.run Tryz.prog (Instr.field 35 (.agg #[.int .i64 c, .int .i64 r, .int .i64 s, .int .i64 p, .int .i64 x, .int .i64 y, .int .i64 f]) 0) w = .ok (.int .i64 c) w := by kernel_rfl
theorem rr1 (c r s p x y f : Int) (w : World) : Sem.run Tryz.prog (Instr.field 35 (.agg #[.int .i64 c, .int .i64 r, .int .i64 s, .int .i64 p, .int .i64 x, .int .i64 y, .int .i64 f]) 1) w = .ok (.agg #[.int .i64 r, .int .i64 s, .int .i64 p, .int .i64 x, .int .i64 y, .int .i64 f]) w := by kernel_rfl
theorem ir0 (c v : Int) (w : World) : Sem.run Tryz.prog (Instr.field 49 (.agg #[.int .i64 c, .int .i64 v]) 0) w = .ok (.int .i64 c) w := by kernel_rfl
theorem ir1 (c v : Int) (w : World) : Sem.run Tryz.prog (Instr.field 49 (.agg #[.int .i64 c, .int .i64 v]) 1) w = .ok (.int .i64 v) w := by kernel_rfl
end Go.Proofs.YtepailfhagaboaaGreatDoor
namespace Go.Proofs.YtepailfhagaboaaGreatDoor
open Go.RowKit
set_option maxRecDepth 100000

/-- A list of numbers that was drawn so far. -/
structure LRel (w0 : World) (a : Option Addr) (len cap : Nat) (zs : List Int) (p b : Nat) (v : Value) (wr : World) : Prop where
  own : ∃ zs', zs'.length ≤ b ∧ OwnK .i64 wr (w0.heap.size + 1) v zs' ∧ ∀ z ∈ zs', (Lit.int .i64 z).wf = true
  draw : Draw w0 a len cap zs p wr
section
variable {w0 : World} {a : Option Addr} {len cap : Nat} {zs : List Int} {p p' b : Nat} {v : Value} {w w' : World}
theorem LRel.only (h : LRel w0 a len cap zs p b v w) (hO : Only w0.heap.size w w') (D : Draw w0 a len cap zs p' w') : LRel w0 a len cap zs p' b v w' := by
  obtain ⟨zs', h1, h2, h3⟩ := h.own
  exact ⟨⟨zs', h1, h2.only hO (by omega), h3⟩, D⟩
theorem LRel.alloc (h : LRel w0 a len cap zs p b v w) (o : Obj) : LRel w0 a len cap zs p b v (w.alloc o) := by
  obtain ⟨zs', h1, h2, h3⟩ := h.own
  exact ⟨⟨zs', h1, h2.alloc o, h3⟩, h.draw.alloc o⟩
theorem LRel.kept (h : LRel w0 a len cap zs p b v w) (hg : w.grownBy w' (some w0.heap.size)) (D : Draw w0 a len cap zs p' w') : LRel w0 a len cap zs p' b v w' := by
  obtain ⟨zs', h1, h2, h3⟩ := h.own
  exact ⟨⟨zs', h1, h2.kept hg (.inr (fun e => by have := (h2.lt _ e).1; omega)), h3⟩, D⟩
end
theorem i64_wf {x : Int} (h0 : -9223372036854775808 ≤ x) (h1 : x ≤ 9223372036854775807) : (Lit.int .i64 x).wf = true := by
  simp [Lit.wf, IntKind.min, IntKind.max, IntKind.signed, IntKind.bits]; omega

theorem rows_info2 : (Tryz.prog.info? 22).map (fun i => (i.zero, i.size, i.bytes)) = some (some (.slice none 0 0), 1, 24) := by kernel_rfl
/-- A list of pieces that was drawn so far. -/
structure GRel (w0 : World) (a : Option Addr) (len cap : Nat) (zs : List Int) (p b : Nat) (v : Value) (wr : World) : Prop where
  own : ∃ rows, rows.length ≤ b ∧ Own2 wr (w0.heap.size + 1) v rows
  draw : Draw w0 a len cap zs p wr
section
variable {w0 : World} {a : Option Addr} {len cap : Nat} {zs : List Int} {p p' b : Nat} {v : Value} {w w' : World}
theorem GRel.only (h : GRel w0 a len cap zs p b v w) (hO : Only w0.heap.size w w') (D : Draw w0 a len cap zs p' w') : GRel w0 a len cap zs p' b v w' := by
  obtain ⟨rows, h1, h2⟩ := h.own
  exact ⟨⟨rows, h1, h2.only hO (by omega)⟩, D⟩
theorem GRel.alloc (h : GRel w0 a len cap zs p b v w) (o : Obj) : GRel w0 a len cap zs p b v (w.alloc o) := by
  obtain ⟨rows, h1, h2⟩ := h.own
  exact ⟨⟨rows, h1, h2.alloc o⟩, h.draw.alloc o⟩
theorem GRel.kept (h : GRel w0 a len cap zs p b v w) (hg : w.grownBy w' (some w0.heap.size)) (D : Draw w0 a len cap zs p' w') : GRel w0 a len cap zs p' b v w' := by
  obtain ⟨rows, h1, h2⟩ := h.own
  exact ⟨⟨rows, h1, h2.kept hg (by omega)⟩, D⟩
end
theorem slice_oneCell (a : Option Addr) (n c : Nat) : ∀ u ∈ [Value.slice a n c], u.oneCell' = true := by
  intro u hu
  simp at hu
  subst hu
  rfl
theorem step_row {w0 w1 w2 wb : World} {a : Option Addr} {len cap : Nat} {zs : List Int} {p b : Nat} {v v' : Value} {rows : List (Value × List Int)} {a' : Option Addr} {n' c' : Nat} {zs' : List Int}
    (h : Own2 w1 (w0.heap.size + 1) v rows) (hb : rows.length ≤ b) (hlt : ∀ k, v.ownBlock = some k → k < wb.heap.size) (hB : w0.heap.size < wb.heap.size) (ho : OwnK .u8 w1 wb.heap.size (.slice a' n' c') zs') (hz : ∀ z ∈ zs', (Lit.int .u8 z).wf = true)
    (hn : Own w2 (w0.heap.size + 1) 1 v' (rows.length + 1) (rows.map (·.1) ++ [.slice a' n' c'])) (hg : w1.grownBy w2 v.ownBlock) (hat : v'.ownBlock = v.ownBlock ∨ v'.ownBlock = some w1.heap.size) (D : Draw w0 a len cap zs p w1) :
    GRel w0 a len cap zs p (b + 1) v' w2 := by
  refine ⟨⟨rows ++ [(.slice a' n' c', zs')], by simp; omega, h.more (ho.less (by omega)) hz (fun k hk e => ?_) hn hg hat⟩, D.grown hg (fun k hk => by have := (h.own.lt k hk).1; omega)⟩
  have h1 := (ho.lt k hk).1
  have h2 := hlt k e
  omega

/-- Two slices of bytes that read alike. -/
theorem lwBytes_any {B : Nat} {a b : Option Addr} {n1 n2 c1 c2 : Nat} {zs : List Int} {w : World} (hR : Row .u8 w B a n1 c1 zs) (hQ : Row .u8 w B b n2 c2 zs) :
    Calls Tryz.prog 15 #[.slice a n1 c1, .slice b n2 c2] w fun r w' => r = .returned (.bool true) ∧ w = w' := by
  have k1 := conv_row hR
  have k2 := conv_row hQ
  clear hR hQ
  generalize strOf zs = S at k1 k2
  go_enter Tryz.func15, Tryz.ntmps15
  go_wp2_with fail
  go_ret
  simp

end Go.Proofs.YtepailfhagaboaaGreatDoor
namespace Go.Proofs.YtepailfhagaboaaGreatDoor
open Go.RowKit
set_option maxRecDepth 100000
set_option linter.unusedVariables false

theorem sigF_eq (p q : Int) : (M.sigF p q == 0) = M.sigB p q := by
  unfold M.sigF
  cases M.sigB p q <;> rfl
theorem l3Read_any (a : Option Addr) (len cap B : Nat) (zs : List Int) (w : World) (hR : Row .u8 w B a len cap zs) (hB : B ≤ w.heap.size) :
    Calls Tryz.prog 67 #[.slice a len cap] w fun r w' => r = .returned (.tuple #[(if zs.length = 4 then I2 (M.readP zs) (M.readQ zs) else I2 0 0), .bool (M.readB zs)]) ∧ Below w.heap.size w w' := by
  have hlen := hR.fits
  have hmost := hR.most
  have hm2 := hmost
  unfold maxLen at hm2
  by_cases h4 : len = 4
  · subst h4
    obtain ⟨b, off, x, y, u, v, rfl, rfl, d0, d1, d2, d3, x0, x1, y0, y1, u0, u1, v0, v1⟩ := row_four hR
    have eP : M.readP [x, y, u, v] = 256 * x + y := by simp [M.readP]
    have eQ : M.readQ [x, y, u, v] = 256 * u + v := by simp [M.readQ]
    have eB : M.readB [x, y, u, v] = M.sigB (256 * x + y) (256 * u + v) := by simp only [M.readB, eP, eQ]; rfl
    rw [eP, eQ, eB, ← sigF_eq, if_pos (show [x, y, u, v].length = 4 from rfl)]
    clear eP eQ eB hR
    have T1 := fun (w' : World) d0 d1 => l1At_any b off 4 cap 0 x y w' (by omega) (by omega) hlen hmost d0 d1 x0 x1 y0 y1
    have T2 := fun (w' : World) d2 d3 => l1At_any b off 4 cap 2 u v w' (by omega) (by omega) hlen hmost d2 d3 u0 u1 v0 v1
    have hb0 := bal (Below.refl _ w) (.cells #[.int .i64 0, .int .i64 0] 31)
    have hR0 := Res2.new w 31
    go_enter Tryz.func67, Tryz.ntmps67
    go_wp2_with fail
    refine (T1 _ (cell_keep hb0 d0) (cell_keep hb0 d1)).mono ?_
    rintro r w1 ⟨rfl, h1⟩
    have b1 := btr hb0 h1
    have hR1 := hR0.on h1
    clear h1 hb0 hR0 T1
    go_wp2_with fail
    refine (T2 _ (cell_keep b1 d2) (cell_keep b1 d3)).mono ?_
    rintro r w2 ⟨rfl, h2⟩
    have b2 := btr b1 h2
    have hR2 := hR1.on h2
    clear h2 b1 hR1 T2 d0 d1 d2 d3
    have k0 : (w2.alloc (.cells #[.int .i64 (256 * x + y), .int .i64 (256 * u + v)] 31)).cell? ⟨w2.heap.size, 0, none⟩ = some (.int .i64 (256 * x + y)) := by go_simp
    have k1 : (w2.alloc (.cells #[.int .i64 (256 * x + y), .int .i64 (256 * u + v)] 31)).cell? ⟨w2.heap.size, 1, none⟩ = some (.int .i64 (256 * u + v)) := by go_simp
    have hR3 := hR2.on (bal (Below.refl _ _) (.cells #[.int .i64 (256 * x + y), .int .i64 (256 * u + v)] 31))
    have b3 := bal b2 (.cells #[.int .i64 (256 * x + y), .int .i64 (256 * u + v)] 31)
    have hne : w.heap.size < w2.heap.size := cell_lt hR2.c0
    clear b2 hR2
    go_wp2_with fail
    generalize w2.alloc (.cells #[.int .i64 (256 * x + y), .int .i64 (256 * u + v)] 31) = v2 at *
    have T0 : SigAt w w2.heap.size (256 * x + y) (256 * u + v) v2.drew := ⟨b3.drew, k0, k1⟩
    refine wp_region_line (SigAt w w2.heap.size (256 * x + y) (256 * u + v)) [(0, true), (1, false), (2, true), (3, false), (4, true)] (by kernel_rfl) (by kernel_rfl) (fun _ _ d _ _ h => by cases d <;> exact h) T0 ?_
    have hst := T0
    have hRV : Res2 w.heap.size v2.drew := hR3.on (bdrew _)
    clear T0 hR3 k0 k1 b3
    generalize v2.drew = V at *
    have inst : Nonempty (Of (SigAt w w2.heap.size (256 * x + y) (256 * u + v))) := ⟨⟨_, hst⟩⟩
    have q8 : ∀ z : Of (SigAt w w2.heap.size (256 * x + y) (256 * u + v)), z.val.cell? ⟨w2.heap.size, 0, none⟩ = some (.int .i64 (256 * x + y)) := fun z => z.prop.c0
    have q9 : ∀ z : Of (SigAt w w2.heap.size (256 * x + y) (256 * u + v)), z.val.cell? ⟨w2.heap.size, 1, none⟩ = some (.int .i64 (256 * u + v)) := fun z => z.prop.c1
    iterate 1 (refine line_read rfl (by kernel_rfl) (fun K hK => ?_); go_big_quiet_op; refine hK _ ?_; clear hK K)
    refine line_alone rfl (by kernel_rfl) (fun K hK => ?_)
    refine call_wp (args := #[.pointer (some ⟨w2.heap.size, 0, none⟩)]) rfl (by kernel_rfl) (by kernel_rfl) (l3Fault_any _ _ _ _ hst.c0 hst.c1) (fun wn hbn => ?_)
    subst hbn
    refine hK _ _ hst ?_
    clear hK K
    simp only [Act.put, List.setIfInBounds_toArray, List.set_cons_zero, List.set_cons_succ]
    iterate 1 (refine line_read rfl (by kernel_rfl) (fun K hK => ?_); go_big_quiet_op; refine hK _ ?_; clear hK K)
    obtain ⟨q0, q1, z0, z1⟩ := hRV
    refine line_alone rfl (by kernel_rfl) (fun K hK => ?_)
    go_big_op
    refine hK _ _ (hst.set hne) ?_
    clear hK K
    iterate 1 (refine line_read rfl (by kernel_rfl) (fun K hK => ?_); go_big_quiet_op; refine hK _ ?_; clear hK K)
    refine line_nil ?_
    go_wp2_with fail
    exact bodyPost_ret (v := .tuple #[I2 (256 * x + y) (256 * u + v), .bool (M.sigF (256 * x + y) (256 * u + v) == 0)]) (by simp [results, Tryz.results67, go_sem, q0, q1]) rfl ⟨rfl, bset (bset hst.bel (Nat.le_refl _) _) (Nat.le_refl _) _⟩
  · have e4 : ((len : Int) == 4) = false := by rw [beq_eq_false_iff_ne]; omega
    have hl : ¬ zs.length = 4 := by rw [hR.length]; exact h4
    have eB : M.readB zs = false := by simp [M.readB, hl]
    rw [eB, if_neg hl]
    clear h4 eB hl
    go_enter Tryz.func67, Tryz.ntmps67
    go_wp2_with fail
    exact bodyPost_ret (v := .tuple #[I2 0 0, .bool false]) (by simp [results, Tryz.results67, go_sem]) rfl ⟨rfl, bal (Below.refl _ _) _⟩
end Go.Proofs.YtepailfhagaboaaGreatDoor
namespace Go.Proofs.YtepailfhagaboaaGreatDoor
open Go.RowKit
set_option maxRecDepth 100000
set_option linter.unusedVariables false

/-- A value lies in a block of its own. -/
def CellsAt (V : World) (cs : List Value) (v : Value) (wx : World) : Prop := ∃ g, v = .pointer (some ⟨g, 0, none⟩) ∧ At g cs wx ∧ Below V.heap.size V wx ∧ V.heap.size ≤ g
def HelRead (zs : List Int) (w : World) (e : Ending) (w' : World) : Prop := ∃ r s n, e = .returned (.tuple #[H3 r s n, .bool (helOk zs)]) ∧ (helOk zs = true → r = tw zs 1 ∧ s = tw zs 3 ∧ n = M.bs (helNm zs)) ∧ Below w.heap.size w w'
def RepRead (zs : List Int) (w : World) (e : Ending) (w' : World) : Prop := ∃ r s p x y f, e = .returned (.tuple #[R6 r s p x y f, .bool (repOk zs)]) ∧ (repOk zs = true → r = tw zs 1 ∧ s = tw zs 3 ∧ p = tw zs 5 ∧ x = tw zs 7 ∧ y = tw zs 9 ∧ f = tw zs 11) ∧ Below w.heap.size w w'

theorem l6ReadHello_any (a : Option Addr) (len cap B : Nat) (zs : List Int) (w : World) (hR : Row .u8 w B a len cap zs) (hB : B ≤ w.heap.size) :
    Calls Tryz.prog 42 #[.slice a len cap] w (HelRead zs w) := by
  have hlen := hR.fits
  have hmost := hR.most
  have hzl := hR.length
  have hm2 := hmost
  unfold maxLen at hm2
  have b0 := bal (Below.refl _ w) (.cells #[.int .i64 0, .int .i64 0, .string { data := #[] }] 26)
  have A0 := At.new w (HL3 0 0 { data := #[] }) 26
  by_cases h6 : len < 6
  · have hno := helOk_short (zs := zs) (by omega)
    have F : HelRead zs w (.returned (.tuple #[H3 0 0 { data := #[] }, .bool false])) (w.alloc (.cells #[.int .i64 0, .int .i64 0, .string { data := #[] }] 26)) := ⟨_, _, _, by rw [hno], (fun h => by rw [hno] at h; cases h), b0⟩
    have h6' : (len : Int) < 6 := by omega
    clear hR hno
    go_enter Tryz.func42, Tryz.ntmps42
    go_wp2_with fail
    exact bodyPost_ret (v := .tuple #[H3 0 0 { data := #[] }, .bool false]) (by simp [results, Tryz.results42, go_sem]) rfl F
  obtain ⟨b, off, rfl, hb, hc⟩ := hR.cells (by omega)
  have d0 := cell_keep b0 (hc 0 (by omega))
  rw [Nat.add_zero] at d0
  have h6' : ¬ (len : Int) < 6 := by omega
  by_cases hz1 : zs.getD 0 0 = 1
  · have d1 := cell_keep b0 (hc 1 (by omega))
    have d2 := cell_keep b0 (hc 2 (by omega))
    have d3 := cell_keep b0 (hc 3 (by omega))
    have d4 := cell_keep b0 (hc 4 (by omega))
    have R1 := hR.below (b0.mono hB)
    have hWB : B ≤ (w.alloc (.cells #[.int .i64 0, .int .i64 0, .string { data := #[] }] 26)).heap.size := by simp; omega
    have hsub := fun (w' : World) (R : Row .u8 w' B (some ⟨b, off, none⟩) len cap zs) => conv_row (R.sub 5 (len - 5) (cap - 5) (by omega) (by omega) (by omega))
    have edrop : (zs.drop 5).take (len - 5) = zs.drop 5 := List.take_of_length_le (by simp; omega)
    simp only [edrop, helNm_str] at hsub
    have T1 := fun (w' : World) d c => l1At_any b off len cap 1 (zs.getD 1 0) (zs.getD 2 0) w' (by omega) (by omega) hlen hmost d c (hR.byte 1).1 (hR.byte 1).2 (hR.byte 2).1 (hR.byte 2).2
    have T2 := fun (w' : World) d c => l1At_any b off len cap 3 (zs.getD 3 0) (zs.getD 4 0) w' (by omega) (by omega) hlen hmost d c (hR.byte 3).1 (hR.byte 3).2 (hR.byte 4).1 (hR.byte 4).2
    have hF := fun g w A => l6Hello_any g (tw zs 1) (tw zs 3) (M.bs (helNm zs)) w A (helNm_size maxLen (by omega))
    rw [M.bs_list] at hF
    have hOk : helOk zs = (helF (helNm zs) (tw zs 1) (tw zs 3) == 0) := by
      unfold helOk helB
      rw [hz1, decide_eq_true (show 5 ≤ zs.length by omega)]
      simp
      rw [Bool.eq_iff_iff]
      simp
    have HP : ∀ w' : World, Below w.heap.size w w' → HelRead zs w (.returned (.tuple #[H3 (tw zs 1) (tw zs 3) (M.bs (helNm zs)), .bool (helF (helNm zs) (tw zs 1) (tw zs 3) == 0)])) w' := fun w' hb => ⟨_, _, _, by rw [hOk], fun _ => ⟨rfl, rfl, rfl⟩, hb⟩
    have e1 : tw zs 1 = 256 * zs.getD 1 0 + zs.getD 2 0 := rfl
    have e3 : tw zs 3 = 256 * zs.getD 3 0 + zs.getD 4 0 := rfl
    rw [← e1] at T1
    rw [← e3] at T2
    rw [hz1] at d0
    clear e1 e3 hOk
    generalize HQ : HelRead zs w = Q at *
    clear HQ
    generalize helF (helNm zs) (tw zs 1) (tw zs 3) = cd at *
    generalize M.bs (helNm zs) = N at *
    generalize tw zs 1 = y1 at *
    generalize tw zs 3 = y3 at *
    clear hR hc edrop hmost
    go_enter Tryz.func42, Tryz.ntmps42
    go_upto_region 3 with fail
    generalize w.alloc (.cells #[.int .i64 0, .int .i64 0, .string { data := #[] }] 26) = W0 at *
    go_cut [4] from 15 to 23 (fun v' wx => CellsAt W0 [.int .i64 y1, .int .i64 y3, .string N] v' wx)
    case first =>
      refine wp_region_fork (Bel W0) (by kernel_rfl) (Bel.drew W0) ?_
      have hst : (Bel W0) _ := (Bel.drew W0)
      have inst : Nonempty (Of (Bel W0)) := ⟨⟨_, hst⟩⟩
      have cv : ∀ z : Of (Bel W0), (convert 22 9 (.slice (some ⟨b, off + 5, none⟩) (len - 5) (cap - 5))).run Tryz.prog z.val = .ok (.string N) z.val := fun z => hsub _ (R1.below (z.prop.out.mono hWB))
      generalize W0.drew = V1 at *
      refine any_seg 5 [(0, true), (2, true), (4, true), (5, true), (6, true)] (by kernel_rfl) (fun _ _ d _ _ h => by cases d <;> exact h) ?_
      iterate 5 (refine line_read rfl (by kernel_rfl) (fun K hK => ?_); go_big_quiet_op; refine hK _ ?_; clear hK K)
      refine line_nil ?_
      clear cv
      refine any_fork 1 8 (by kernel_rfl) rfl rfl (by kernel_rfl) (by kernel_rfl) (fun K hK => ?_) (fun K hK => ?_)
      · refine call_any (args := #[.slice (some ⟨b, off, none⟩) len cap, .int .i64 1]) rfl (by kernel_rfl) (by kernel_rfl) (T1 _ (cell_keep hst.out d1) (cell_keep hst.out d2)) ?_
        rintro e x0 ⟨rfl, hbn⟩
        have hst2 := hst.on hbn
        refine ⟨_, rfl, hK _ _ hst2 ?_⟩
        clear hK K hst hbn
        have hst := hst2
        clear hst2
        simp only [Act.put, List.setIfInBounds_toArray, List.set_cons_zero, List.set_cons_succ]
        refine any_fork 3 8 (by kernel_rfl) rfl rfl (by kernel_rfl) (by kernel_rfl) (fun K hK => ?_) (fun K hK => ?_)
        · refine call_any (args := #[.slice (some ⟨b, off, none⟩) len cap, .int .i64 3]) rfl (by kernel_rfl) (by kernel_rfl) (T2 _ (cell_keep hst.out d3) (cell_keep hst.out d4)) ?_
          rintro e x1 ⟨rfl, hbn⟩
          have hst2 := hst.on hbn
          refine ⟨_, rfl, hK _ _ hst2 ?_⟩
          clear hK K hst hbn
          have hst := hst2
          clear hst2
          simp only [Act.put, List.setIfInBounds_toArray, List.set_cons_zero, List.set_cons_succ]
          refine any_rest [(7, true), (8, false), (9, false)] (by kernel_rfl) (fun _ _ d _ _ h => by cases d <;> exact h) ?_
          refine line_readv (v := H3 y1 y3 N) rfl (by kernel_rfl) (fun _ => by kernel_rfl) ?_
          simp only [Act.put, List.setIfInBounds_toArray, List.set_cons_zero, List.set_cons_succ]
          refine line_alone rfl (by kernel_rfl) (fun K hK => ?_)
          go_big_op
          have hst2 := hst.on (bal (Below.refl _ x1) (.cells #[.int .i64 0, .int .i64 0, .string { data := #[] }] 26))
          have A := At.new x1 [.int .i64 0, .int .i64 0, .string { data := #[] }] 26
          have leA : W0.heap.size ≤ x1.heap.size := hst.out.size
          refine hK _ _ hst2 ?_
          clear hK K hst
          have hst := hst2
          clear hst2
          generalize x1.alloc (.cells #[.int .i64 0, .int .i64 0, .string { data := #[] }] 26) = xa at *
          have p0 := A.cell 0 _ rfl
          have p1 := A.cell 1 _ rfl
          have p2 := A.cell 2 _ rfl
          have f0 := A.free 0 _ rfl
          have f1 := A.free 1 _ rfl
          have f2 := A.free 2 _ rfl
          refine line_alone rfl (by kernel_rfl) (fun K hK => ?_)
          go_big_op
          refine hK _ _ (⟨(by (iterate 3 (refine bset ?_ (by dsimp only; omega) _)); exact hst.out)⟩) ?_
          clear hK K
          have A9 := (((A.set 0 (.int .i64 y1)).set 1 (.int .i64 y3)).set 2 (.string N))
          refine line_nil ?_
          go_wp2_with fail
          go_meet
          case rel => exact ⟨_, rfl, A9, (by (iterate 3 (refine bset ?_ (by dsimp only; omega) _)); exact hst.out), leA⟩
        · go_big_op
          have hst2 := hst.on (bal (Below.refl _ x0) (.cells #[.int .i64 0, .int .i64 0, .string { data := #[] }] 26))
          have A := At.new x0 [.int .i64 0, .int .i64 0, .string { data := #[] }] 26
          have leA : W0.heap.size ≤ x0.heap.size := hst.out.size
          refine hK _ _ hst2 ?_
          clear hK K hst
          have hst := hst2
          clear hst2
          generalize x0.alloc (.cells #[.int .i64 0, .int .i64 0, .string { data := #[] }] 26) = xa at *
          refine any_rest [(3, false), (7, true), (9, false)] (by kernel_rfl) (fun _ _ d _ _ h => by cases d <;> exact h) ?_
          refine line_alone rfl (by kernel_rfl) (fun K hK => ?_)
          refine call_any (args := #[.slice (some ⟨b, off, none⟩) len cap, .int .i64 3]) rfl (by kernel_rfl) (by kernel_rfl) (T2 _ (cell_keep hst.out d3) (cell_keep hst.out d4)) ?_
          rintro e kw1 ⟨rfl, hbn⟩
          have hst2 := hst.on hbn
          have A2 := A.on hbn
          clear A
          have A := A2
          clear A2
          refine ⟨_, rfl, hK _ _ hst2 ?_⟩
          clear hK K hst hbn
          have hst := hst2
          clear hst2
          simp only [Act.put, List.setIfInBounds_toArray, List.set_cons_zero, List.set_cons_succ]
          refine line_readv (v := H3 y1 y3 N) rfl (by kernel_rfl) (fun _ => by kernel_rfl) ?_
          simp only [Act.put, List.setIfInBounds_toArray, List.set_cons_zero, List.set_cons_succ]
          have p0 := A.cell 0 _ rfl
          have p1 := A.cell 1 _ rfl
          have p2 := A.cell 2 _ rfl
          have f0 := A.free 0 _ rfl
          have f1 := A.free 1 _ rfl
          have f2 := A.free 2 _ rfl
          refine line_alone rfl (by kernel_rfl) (fun K hK => ?_)
          go_big_op
          refine hK _ _ (⟨(by (iterate 3 (refine bset ?_ (by dsimp only; omega) _)); exact hst.out)⟩) ?_
          clear hK K
          have A9 := (((A.set 0 (.int .i64 y1)).set 1 (.int .i64 y3)).set 2 (.string N))
          refine line_nil ?_
          go_wp2_with fail
          go_meet
          case rel => exact ⟨_, rfl, A9, (by (iterate 3 (refine bset ?_ (by dsimp only; omega) _)); exact hst.out), leA⟩
      · go_big_op
        have hst2 := hst.on (bal (Below.refl _ V1) (.cells #[.int .i64 0, .int .i64 0, .string { data := #[] }] 26))
        have A := At.new V1 [.int .i64 0, .int .i64 0, .string { data := #[] }] 26
        have leA : W0.heap.size ≤ V1.heap.size := hst.out.size
        refine hK _ _ hst2 ?_
        clear hK K hst
        have hst := hst2
        clear hst2
        generalize V1.alloc (.cells #[.int .i64 0, .int .i64 0, .string { data := #[] }] 26) = xa at *
        refine any_rest [(1, false), (3, false), (7, true), (9, false)] (by kernel_rfl) (fun _ _ d _ _ h => by cases d <;> exact h) ?_
        refine line_alone rfl (by kernel_rfl) (fun K hK => ?_)
        refine call_any (args := #[.slice (some ⟨b, off, none⟩) len cap, .int .i64 1]) rfl (by kernel_rfl) (by kernel_rfl) (T1 _ (cell_keep hst.out d1) (cell_keep hst.out d2)) ?_
        rintro e kw0 ⟨rfl, hbn⟩
        have hst2 := hst.on hbn
        have A2 := A.on hbn
        clear A
        have A := A2
        clear A2
        refine ⟨_, rfl, hK _ _ hst2 ?_⟩
        clear hK K hst hbn
        have hst := hst2
        clear hst2
        simp only [Act.put, List.setIfInBounds_toArray, List.set_cons_zero, List.set_cons_succ]
        refine line_alone rfl (by kernel_rfl) (fun K hK => ?_)
        refine call_any (args := #[.slice (some ⟨b, off, none⟩) len cap, .int .i64 3]) rfl (by kernel_rfl) (by kernel_rfl) (T2 _ (cell_keep hst.out d3) (cell_keep hst.out d4)) ?_
        rintro e kw1 ⟨rfl, hbn⟩
        have hst2 := hst.on hbn
        have A2 := A.on hbn
        clear A
        have A := A2
        clear A2
        refine ⟨_, rfl, hK _ _ hst2 ?_⟩
        clear hK K hst hbn
        have hst := hst2
        clear hst2
        simp only [Act.put, List.setIfInBounds_toArray, List.set_cons_zero, List.set_cons_succ]
        refine line_readv (v := H3 y1 y3 N) rfl (by kernel_rfl) (fun _ => by kernel_rfl) ?_
        simp only [Act.put, List.setIfInBounds_toArray, List.set_cons_zero, List.set_cons_succ]
        have p0 := A.cell 0 _ rfl
        have p1 := A.cell 1 _ rfl
        have p2 := A.cell 2 _ rfl
        have f0 := A.free 0 _ rfl
        have f1 := A.free 1 _ rfl
        have f2 := A.free 2 _ rfl
        refine line_alone rfl (by kernel_rfl) (fun K hK => ?_)
        go_big_op
        refine hK _ _ (⟨(by (iterate 3 (refine bset ?_ (by dsimp only; omega) _)); exact hst.out)⟩) ?_
        clear hK K
        have A9 := (((A.set 0 (.int .i64 y1)).set 1 (.int .i64 y3)).set 2 (.string N))
        refine line_nil ?_
        go_wp2_with fail
        go_meet
        case rel => exact ⟨_, rfl, A9, (by (iterate 3 (refine bset ?_ (by dsimp only; omega) _)); exact hst.out), leA⟩
    case rest =>
      obtain ⟨g, rfl, A1, b1, hg⟩ := hcut
      have ltA := A1.lt (by simp)
      have lt0 : w.heap.size < W0.heap.size := A0.lt (by simp)
      go_wp2_with fail
      have S0 : Hold w g [.int .i64 y1, .int .i64 y3, .string N] wc.drew := ⟨(btr b0 b1).drew, A1.on (bdrew wc)⟩
      have AA := (A0.on b1).on (bdrew wc)
      refine wp_region_line (Hold w g [.int .i64 y1, .int .i64 y3, .string N]) [(0, true), (1, false), (2, true), (3, false), (4, true)] (by kernel_rfl) (by kernel_rfl) (fun _ _ d _ _ h => by cases d <;> exact h) S0 ?_
      have hst := S0
      have inst : Nonempty (Of (Hold w g [.int .i64 y1, .int .i64 y3, .string N])) := ⟨⟨_, hst⟩⟩
      have q0 := hold_cell (W := w) (g := g) (cs := [.int .i64 y1, .int .i64 y3, .string N]) 0 _ rfl
      have q1 := hold_cell (W := w) (g := g) (cs := [.int .i64 y1, .int .i64 y3, .string N]) 1 _ rfl
      have q2 := hold_cell (W := w) (g := g) (cs := [.int .i64 y1, .int .i64 y3, .string N]) 2 _ rfl
      clear S0 A1 A0 b1 b0
      generalize wc.drew = V2 at *
      iterate 1 (refine line_read rfl (by kernel_rfl) (fun K hK => ?_); go_big_quiet_op; refine hK _ ?_; clear hK K)
      clear q0 q1 q2
      refine line_alone rfl (by kernel_rfl) (fun K hK => ?_)
      refine call_any (args := #[.pointer (some ⟨g, 0, none⟩)]) rfl (by kernel_rfl) (by kernel_rfl) (hF _ _ hst.at') ?_
      rintro e x9 ⟨rfl, hbn⟩
      have hst2 := hst.on hbn
      have AA2 := AA.on hbn
      refine ⟨_, rfl, hK _ _ hst2 ?_⟩
      clear hK K hst hbn AA
      have hst := hst2
      clear hst2
      simp only [Act.put, List.setIfInBounds_toArray, List.set_cons_zero, List.set_cons_succ]
      iterate 1 (refine line_read rfl (by kernel_rfl) (fun K hK => ?_); go_big_quiet_op; refine hK _ ?_; clear hK K)
      have p0 := AA2.cell 0 _ rfl
      have p1 := AA2.cell 1 _ rfl
      have p2 := AA2.cell 2 _ rfl
      have z0 := AA2.free 0 _ rfl
      have z1 := AA2.free 1 _ rfl
      have z2 := AA2.free 2 _ rfl
      refine line_alone rfl (by kernel_rfl) (fun K hK => ?_)
      go_big_op
      refine hK _ _ ((by (iterate 3 (refine Hold.setB ?_ (by dsimp only; omega) (by dsimp only; omega) _)); exact hst)) ?_
      clear hK K
      iterate 1 (refine line_read rfl (by kernel_rfl) (fun K hK => ?_); go_big_quiet_op; refine hK _ ?_; clear hK K)
      refine line_nil ?_
      have HB := Lib.hid hst.bel
      clear hst inst AA2
      go_wp2_with fail
      refine bodyPost_ret (v := .tuple #[H3 y1 y3 N, .bool (cd == 0)]) (by simp [results, Tryz.results42, go_sem, p0, p1, p2]) rfl (HP _ ?_)
      exact (by (iterate 3 (refine bset ?_ (by dsimp only; omega) _)); exact HB.out)
  · have hno : helOk zs = false := by simp only [helOk, decide_eq_false hz1, Bool.and_false, Bool.false_and]
    have F : HelRead zs w (.returned (.tuple #[H3 0 0 { data := #[] }, .bool false])) (w.alloc (.cells #[.int .i64 0, .int .i64 0, .string { data := #[] }] 26)) := ⟨_, _, _, by rw [hno], (fun h => by rw [hno] at h; cases h), b0⟩
    have q1 : (zs.getD 0 0 != 1) = true := by simpa using hz1
    generalize zs.getD 0 0 = z at *
    clear hR hc hno
    go_enter Tryz.func42, Tryz.ntmps42
    go_wp2_with fail
    exact bodyPost_ret (v := .tuple #[H3 0 0 { data := #[] }, .bool false]) (by simp [results, Tryz.results42, go_sem]) rfl F
theorem specReadHello_any (a : Option Addr) (len cap B : Nat) (zs : List Int) (w : World) (hR : Row .u8 w B a len cap zs) (hB : B ≤ w.heap.size) :
    Calls Tryz.prog 14 #[.slice a len cap] w fun e w' => e = .returned (helT zs) ∧ Below w.heap.size w w' := by
  have b0 := bal (Below.refl _ w) (.cells #[.int .i64 0, .int .i64 0, .int .i64 0, .string { data := #[] }] 28)
  have A0 := At.new w (HL4 0 0 0 { data := #[] }) 28
  have F := fun w R hB => l6ReadHello_any a len cap B zs w R hB
  have R0 := hR.below (b0.mono hB)
  have hB0 : B ≤ (w.alloc (.cells #[.int .i64 0, .int .i64 0, .int .i64 0, .string { data := #[] }] 28)).heap.size := by simp; omega
  clear hR
  cases hh : helOk zs
  · rw [helT_no hh]
    go_enter Tryz.func14, Tryz.ntmps14
    go_wp2_with fail
    generalize w.alloc (.cells #[.int .i64 0, .int .i64 0, .int .i64 0, .string { data := #[] }] 28) = W0 at *
    refine (F _ R0 hB0).mono ?_
    rintro e u1 ⟨r, s, n, rfl, hv, b1⟩
    rw [hh] at hv ⊢
    have lt1 : w.heap.size < u1.heap.size := (A0.on b1).lt (by simp)
    have b2 := bal b1 (.cells #[.int .i64 r, .int .i64 s, .string n] 26)
    have p0 := (A0.on b1).cell 0 _ rfl
    have p1 := (A0.on b1).cell 1 _ rfl
    have p2 := (A0.on b1).cell 2 _ rfl
    have p3 := (A0.on b1).cell 3 _ rfl
    have z0 := (A0.on b1).free 0 _ rfl
    have z1 := (A0.on b1).free 1 _ rfl
    have z2 := (A0.on b1).free 2 _ rfl
    have z3 := (A0.on b1).free 3 _ rfl
    have A9 := (((((A0.on b1).set 0 (.int .i64 5)).set 1 (.int .i64 0)).set 2 (.int .i64 0)).set 3 (.string { data := #[] })).alloc (.cells #[.int .i64 r, .int .i64 s, .string n] 26)
    have q0 := A9.cell 0 _ rfl
    have q1 := A9.cell 1 _ rfl
    have q2 := A9.cell 2 _ rfl
    have q3 := A9.cell 3 _ rfl
    have HB := Lib.hid (bal (bset (bset (bset (bset (btr b0 b1) (p := ⟨w.heap.size, 0, none⟩) (Nat.le_refl _) (.int .i64 5)) (p := ⟨w.heap.size, 1, none⟩) (Nat.le_refl _) (.int .i64 0)) (p := ⟨w.heap.size, 2, none⟩) (Nat.le_refl _) (.int .i64 0)) (p := ⟨w.heap.size, 3, none⟩) (Nat.le_refl _) (.string { data := #[] })) (.cells #[.int .i64 r, .int .i64 s, .string n] 26))
    clear A0 A9 b0 b1 b2 hv F R0
    go_wp2_with fail
    refine bodyPost_ret (v := H4 5 0 0 { data := #[] }) (by simp [results, Tryz.results14, go_sem, q0, q1, q2, q3]) rfl ⟨rfl, HB.out⟩
  · rw [helT_yes hh]
    go_enter Tryz.func14, Tryz.ntmps14
    go_wp2_with fail
    generalize w.alloc (.cells #[.int .i64 0, .int .i64 0, .int .i64 0, .string { data := #[] }] 28) = W0 at *
    refine (F _ R0 hB0).mono ?_
    rintro e u1 ⟨r, s, n, rfl, hv, b1⟩
    rw [hh] at hv ⊢
    have lt1 : w.heap.size < u1.heap.size := (A0.on b1).lt (by simp)
    have b2 := bal b1 (.cells #[.int .i64 r, .int .i64 s, .string n] 26)
    have p0 := (A0.on b1).cell 0 _ rfl
    have p1 := (A0.on b1).cell 1 _ rfl
    have p2 := (A0.on b1).cell 2 _ rfl
    have p3 := (A0.on b1).cell 3 _ rfl
    have z0 := (A0.on b1).free 0 _ rfl
    have z1 := (A0.on b1).free 1 _ rfl
    have z2 := (A0.on b1).free 2 _ rfl
    have z3 := (A0.on b1).free 3 _ rfl
    obtain ⟨rfl, rfl, rfl⟩ := hv rfl
    generalize eN : M.bs (helNm zs) = N at *
    generalize e1 : tw zs 1 = y1 at *
    generalize e3 : tw zs 3 = y3 at *
    have A9 := (((((A0.on b1).set 0 (.int .i64 0)).set 1 (.int .i64 y1)).set 2 (.int .i64 y3)).set 3 (.string N)).alloc (.cells #[.int .i64 y1, .int .i64 y3, .string N] 26)
    have q0 := A9.cell 0 _ rfl
    have q1 := A9.cell 1 _ rfl
    have q2 := A9.cell 2 _ rfl
    have q3 := A9.cell 3 _ rfl
    have HB := Lib.hid (bal (bset (bset (bset (bset (btr b0 b1) (p := ⟨w.heap.size, 0, none⟩) (Nat.le_refl _) (.int .i64 0)) (p := ⟨w.heap.size, 1, none⟩) (Nat.le_refl _) (.int .i64 y1)) (p := ⟨w.heap.size, 2, none⟩) (Nat.le_refl _) (.int .i64 y3)) (p := ⟨w.heap.size, 3, none⟩) (Nat.le_refl _) (.string N)) (.cells #[.int .i64 y1, .int .i64 y3, .string N] 26))
    clear A0 A9 b0 b1 b2 hv F R0
    go_wp2_with fail
    refine bodyPost_ret (v := H4 0 y1 y3 N) (by simp [results, Tryz.results14, go_sem, q0, q1, q2, q3]) rfl ⟨by rw [eN, e1, e3], HB.out⟩
end Go.Proofs.YtepailfhagaboaaGreatDoor
namespace Go.Proofs.YtepailfhagaboaaGreatDoor
open Go.RowKit
set_option maxRecDepth 100000
set_option linter.unusedVariables false

set_option maxHeartbeats 1000000 in
theorem l6ReadReply_any (a : Option Addr) (len cap B : Nat) (zs : List Int) (w : World) (hR : Row .u8 w B a len cap zs) (hB : B ≤ w.heap.size) :
    Calls Tryz.prog 43 #[.slice a len cap] w (RepRead zs w) := by
  have hlen := hR.fits
  have hmost := hR.most
  have hzl := hR.length
  have hm2 := hmost
  unfold maxLen at hm2
  have b0 := bal (Below.refl _ w) (.cells #[.int .i64 0, .int .i64 0, .int .i64 0, .int .i64 0, .int .i64 0, .int .i64 0] 33)
  have A0 := At.new w (RL6 0 0 0 0 0 0) 33
  by_cases h13 : len = 13
  · subst h13
    obtain ⟨b, off, rfl, hb, hc⟩ := hR.cells (by omega)
    have d0 := cell_keep b0 (hc 0 (by omega))
    rw [Nat.add_zero] at d0
    by_cases hz1 : zs.getD 0 0 = 2
    · have R1 := (hR.below (b0.mono hB)).sub 7 4 (cap - 7) (by omega) (by omega) (by omega)
      have hWB : B ≤ (w.alloc (.cells #[.int .i64 0, .int .i64 0, .int .i64 0, .int .i64 0, .int .i64 0, .int .i64 0] 33)).heap.size := by simp; omega
      have L1 := fun w' R => l3Read_any (some ⟨b, off + 7, none⟩) 4 (cap - 7) B (sigZ zs) w' R
      rw [if_pos (sigZ_P hzl).2.2, (sigZ_P hzl).1, (sigZ_P hzl).2.1, sigZ_B hzl] at L1
      have T1 := fun (w' : World) d c => l1At_any b off 13 cap 1 (zs.getD 1 0) (zs.getD 2 0) w' (by omega) (by omega) hlen hmost d c (hR.byte 1).1 (hR.byte 1).2 (hR.byte 2).1 (hR.byte 2).2
      have e1 : tw zs 1 = 256 * zs.getD 1 0 + zs.getD 2 0 := rfl
      rw [← e1] at T1
      clear e1
      have T2 := fun (w' : World) d c => l1At_any b off 13 cap 3 (zs.getD 3 0) (zs.getD 4 0) w' (by omega) (by omega) hlen hmost d c (hR.byte 3).1 (hR.byte 3).2 (hR.byte 4).1 (hR.byte 4).2
      have e3 : tw zs 3 = 256 * zs.getD 3 0 + zs.getD 4 0 := rfl
      rw [← e3] at T2
      clear e3
      have T3 := fun (w' : World) d c => l1At_any b off 13 cap 5 (zs.getD 5 0) (zs.getD 6 0) w' (by omega) (by omega) hlen hmost d c (hR.byte 5).1 (hR.byte 5).2 (hR.byte 6).1 (hR.byte 6).2
      have e5 : tw zs 5 = 256 * zs.getD 5 0 + zs.getD 6 0 := rfl
      rw [← e5] at T3
      clear e5
      have T4 := fun (w' : World) d c => l1At_any b off 13 cap 11 (zs.getD 11 0) (zs.getD 12 0) w' (by omega) (by omega) hlen hmost d c (hR.byte 11).1 (hR.byte 11).2 (hR.byte 12).1 (hR.byte 12).2
      have e11 : tw zs 11 = 256 * zs.getD 11 0 + zs.getD 12 0 := rfl
      rw [← e11] at T4
      clear e11
      have d1 := cell_keep b0 (hc 1 (by omega))
      have d2 := cell_keep b0 (hc 2 (by omega))
      have d3 := cell_keep b0 (hc 3 (by omega))
      have d4 := cell_keep b0 (hc 4 (by omega))
      have d5 := cell_keep b0 (hc 5 (by omega))
      have d6 := cell_keep b0 (hc 6 (by omega))
      have d11 := cell_keep b0 (hc 11 (by omega))
      have d12 := cell_keep b0 (hc 12 (by omega))
      have hF := fun g w A => l6Reply_any g (tw zs 1) (tw zs 3) (tw zs 5) (tw zs 7) (tw zs 9) (tw zs 11) w A
      have hOk : repOk zs = (repF (tw zs 1) (tw zs 3) (tw zs 5) (tw zs 7) (tw zs 9) (tw zs 11) == 0) := by
        unfold repOk repB
        rw [hz1, decide_eq_true hzl]
        simp
        rw [Bool.eq_iff_iff]
        simp
      have hNo : M.sigB (tw zs 7) (tw zs 9) = false → repOk zs = false := fun h => by
        rw [hOk, beq_eq_false_iff_ne]
        intro h0
        rw [(repF_zero h0).2.2.2.2] at h
        cases h
      have HP : ∀ w' : World, Below w.heap.size w w' → RepRead zs w (.returned (.tuple #[R6 (tw zs 1) (tw zs 3) (tw zs 5) (tw zs 7) (tw zs 9) (tw zs 11), .bool (repF (tw zs 1) (tw zs 3) (tw zs 5) (tw zs 7) (tw zs 9) (tw zs 11) == 0)])) w' := fun w' hb => ⟨_, _, _, _, _, _, by rw [hOk], (fun _ => ⟨rfl, rfl, rfl, rfl, rfl, rfl⟩), hb⟩
      have HN : M.sigB (tw zs 7) (tw zs 9) = false → ∀ w' : World, Below w.heap.size w w' → RepRead zs w (.returned (.tuple #[R6 (tw zs 1) (tw zs 3) (tw zs 5) (tw zs 7) (tw zs 9) (tw zs 11), .bool false])) w' := fun h w' hb => ⟨_, _, _, _, _, _, by rw [hNo h], (fun _ => ⟨rfl, rfl, rfl, rfl, rfl, rfl⟩), hb⟩
      rw [hz1] at d0
      clear hOk hNo
      generalize HQ : RepRead zs w = Q at *
      clear HQ
      generalize repF (tw zs 1) (tw zs 3) (tw zs 5) (tw zs 7) (tw zs 9) (tw zs 11) = cd at *
      generalize tw zs 1 = y1 at *
      generalize tw zs 3 = y3 at *
      generalize tw zs 5 = y5 at *
      generalize tw zs 7 = y7 at *
      generalize tw zs 9 = y9 at *
      generalize tw zs 11 = y11 at *
      clear hR hc hmost
      cases hsg : M.sigB y7 y9
      · rw [hsg] at L1
        go_enter Tryz.func43, Tryz.ntmps43
        go_wp2_with fail
        generalize w.alloc (.cells #[.int .i64 0, .int .i64 0, .int .i64 0, .int .i64 0, .int .i64 0, .int .i64 0] 33) = W0 at *
        refine (L1 _ R1 hWB).mono ?_
        rintro e u1 ⟨rfl, b1⟩
        have G1 := At.new u1 [.int .i64 y7, .int .i64 y9] 31
        have b2 := bal b1 (.cells #[.int .i64 y7, .int .i64 y9] 31)
        have b3 := btr b0 b2
        have A1 := A0.on b2
        have lt0 : w.heap.size < u1.heap.size := (A0.on b1).lt (by simp)
        have c1 := cell_keep b2 d1
        have c2 := cell_keep b2 d2
        have c3 := cell_keep b2 d3
        have c4 := cell_keep b2 d4
        have c5 := cell_keep b2 d5
        have c6 := cell_keep b2 d6
        have c11 := cell_keep b2 d11
        have c12 := cell_keep b2 d12
        clear R1 L1 b1 b0 A0 d0
        go_upto_region 4 with fail
        generalize u1.alloc (.cells #[.int .i64 y7, .int .i64 y9] 31) = W1 at *
        go_cut [6] from 23 to 33 (fun v' wx => CellsAt W1 [.int .i64 y1, .int .i64 y3, .int .i64 y5, .int .i64 y7, .int .i64 y9, .int .i64 y11] v' wx)
        case first =>
          refine wp_region_fork (Bel W1) (by kernel_rfl) (Bel.drew W1) ?_
          have hst : (Bel W1) _ := (Bel.drew W1)
          have inst : Nonempty (Of (Bel W1)) := ⟨⟨_, hst⟩⟩
          have q0 := bel_cell (G1.cell 0 _ rfl)
          have q1 := bel_cell (G1.cell 1 _ rfl)
          generalize W1.drew = V1 at *
          refine any_seg 7 [(0, true), (2, true), (4, true), (6, true), (7, true)] (by kernel_rfl) (fun _ _ d _ _ h => by cases d <;> exact h) ?_
          iterate 5 (refine line_read rfl (by kernel_rfl) (fun K hK => ?_); go_big_quiet_op; refine hK _ ?_; clear hK K)
          refine line_nil ?_
          clear q0 q1
          refine any_fork 1 10 (by kernel_rfl) rfl rfl (by kernel_rfl) (by kernel_rfl) (fun K hK => ?_) (fun K hK => ?_)
          · refine call_any (args := #[.slice (some ⟨b, off, none⟩) 13 cap, .int .i64 1]) rfl (by kernel_rfl) (by kernel_rfl) (T1 _ (cell_keep hst.out c1) (cell_keep hst.out c2)) ?_
            rintro e x0 ⟨rfl, hbn⟩
            have hst2 := hst.on hbn
            refine ⟨_, rfl, hK _ _ hst2 ?_⟩
            clear hK K hst hbn
            have hst := hst2
            clear hst2
            simp only [Act.put, List.setIfInBounds_toArray, List.set_cons_zero, List.set_cons_succ]
            refine any_fork 3 10 (by kernel_rfl) rfl rfl (by kernel_rfl) (by kernel_rfl) (fun K hK => ?_) (fun K hK => ?_)
            · refine call_any (args := #[.slice (some ⟨b, off, none⟩) 13 cap, .int .i64 3]) rfl (by kernel_rfl) (by kernel_rfl) (T2 _ (cell_keep hst.out c3) (cell_keep hst.out c4)) ?_
              rintro e x1 ⟨rfl, hbn⟩
              have hst2 := hst.on hbn
              refine ⟨_, rfl, hK _ _ hst2 ?_⟩
              clear hK K hst hbn
              have hst := hst2
              clear hst2
              simp only [Act.put, List.setIfInBounds_toArray, List.set_cons_zero, List.set_cons_succ]
              refine any_fork 5 10 (by kernel_rfl) rfl rfl (by kernel_rfl) (by kernel_rfl) (fun K hK => ?_) (fun K hK => ?_)
              · refine call_any (args := #[.slice (some ⟨b, off, none⟩) 13 cap, .int .i64 5]) rfl (by kernel_rfl) (by kernel_rfl) (T3 _ (cell_keep hst.out c5) (cell_keep hst.out c6)) ?_
                rintro e x2 ⟨rfl, hbn⟩
                have hst2 := hst.on hbn
                refine ⟨_, rfl, hK _ _ hst2 ?_⟩
                clear hK K hst hbn
                have hst := hst2
                clear hst2
                simp only [Act.put, List.setIfInBounds_toArray, List.set_cons_zero, List.set_cons_succ]
                refine any_fork 8 10 (by kernel_rfl) rfl rfl (by kernel_rfl) (by kernel_rfl) (fun K hK => ?_) (fun K hK => ?_)
                · refine call_any (args := #[.slice (some ⟨b, off, none⟩) 13 cap, .int .i64 11]) rfl (by kernel_rfl) (by kernel_rfl) (T4 _ (cell_keep hst.out c11) (cell_keep hst.out c12)) ?_
                  rintro e x3 ⟨rfl, hbn⟩
                  have hst2 := hst.on hbn
                  refine ⟨_, rfl, hK _ _ hst2 ?_⟩
                  clear hK K hst hbn
                  have hst := hst2
                  clear hst2
                  simp only [Act.put, List.setIfInBounds_toArray, List.set_cons_zero, List.set_cons_succ]
                  refine any_rest [(9, true), (10, false), (11, false)] (by kernel_rfl) (fun _ _ d _ _ h => by cases d <;> exact h) ?_
                  refine line_readv (v := R6 y1 y3 y5 y7 y9 y11) rfl (by kernel_rfl) (fun _ => by kernel_rfl) ?_
                  simp only [Act.put, List.setIfInBounds_toArray, List.set_cons_zero, List.set_cons_succ]
                  refine line_alone rfl (by kernel_rfl) (fun K hK => ?_)
                  go_big_op
                  have hst2 := hst.on (bal (Below.refl _ x3) (.cells #[.int .i64 0, .int .i64 0, .int .i64 0, .int .i64 0, .int .i64 0, .int .i64 0] 33))
                  have A := At.new x3 [.int .i64 0, .int .i64 0, .int .i64 0, .int .i64 0, .int .i64 0, .int .i64 0] 33
                  have leA : W1.heap.size ≤ x3.heap.size := hst.out.size
                  refine hK _ _ hst2 ?_
                  clear hK K hst
                  have hst := hst2
                  clear hst2
                  generalize x3.alloc (.cells #[.int .i64 0, .int .i64 0, .int .i64 0, .int .i64 0, .int .i64 0, .int .i64 0] 33) = xa at *
                  have p0 := A.cell 0 _ rfl
                  have p1 := A.cell 1 _ rfl
                  have p2 := A.cell 2 _ rfl
                  have p3 := A.cell 3 _ rfl
                  have p4 := A.cell 4 _ rfl
                  have p5 := A.cell 5 _ rfl
                  have f0 := A.free 0 _ rfl
                  have f1 := A.free 1 _ rfl
                  have f2 := A.free 2 _ rfl
                  have f3 := A.free 3 _ rfl
                  have f4 := A.free 4 _ rfl
                  have f5 := A.free 5 _ rfl
                  refine line_alone rfl (by kernel_rfl) (fun K hK => ?_)
                  go_big_op
                  refine hK _ _ (⟨(by (iterate 6 (refine bset ?_ (by dsimp only; omega) _)); exact hst.out)⟩) ?_
                  clear hK K
                  have A9 := ((((((A.set 0 (.int .i64 y1)).set 1 (.int .i64 y3)).set 2 (.int .i64 y5)).set 3 (.int .i64 y7)).set 4 (.int .i64 y9)).set 5 (.int .i64 y11))
                  refine line_nil ?_
                  go_wp2_with fail
                  go_meet
                  case rel => exact ⟨_, rfl, A9, (by (iterate 6 (refine bset ?_ (by dsimp only; omega) _)); exact hst.out), leA⟩
                · go_big_op
                  have hst2 := hst.on (bal (Below.refl _ x2) (.cells #[.int .i64 0, .int .i64 0, .int .i64 0, .int .i64 0, .int .i64 0, .int .i64 0] 33))
                  have A := At.new x2 [.int .i64 0, .int .i64 0, .int .i64 0, .int .i64 0, .int .i64 0, .int .i64 0] 33
                  have leA : W1.heap.size ≤ x2.heap.size := hst.out.size
                  refine hK _ _ hst2 ?_
                  clear hK K hst
                  have hst := hst2
                  clear hst2
                  generalize x2.alloc (.cells #[.int .i64 0, .int .i64 0, .int .i64 0, .int .i64 0, .int .i64 0, .int .i64 0] 33) = xa at *
                  refine any_rest [(8, false), (9, true), (11, false)] (by kernel_rfl) (fun _ _ d _ _ h => by cases d <;> exact h) ?_
                  refine line_alone rfl (by kernel_rfl) (fun K hK => ?_)
                  refine call_any (args := #[.slice (some ⟨b, off, none⟩) 13 cap, .int .i64 11]) rfl (by kernel_rfl) (by kernel_rfl) (T4 _ (cell_keep hst.out c11) (cell_keep hst.out c12)) ?_
                  rintro e kw3 ⟨rfl, hbn⟩
                  have hst2 := hst.on hbn
                  have A2 := A.on hbn
                  clear A
                  have A := A2
                  clear A2
                  refine ⟨_, rfl, hK _ _ hst2 ?_⟩
                  clear hK K hst hbn
                  have hst := hst2
                  clear hst2
                  simp only [Act.put, List.setIfInBounds_toArray, List.set_cons_zero, List.set_cons_succ]
                  refine line_readv (v := R6 y1 y3 y5 y7 y9 y11) rfl (by kernel_rfl) (fun _ => by kernel_rfl) ?_
                  simp only [Act.put, List.setIfInBounds_toArray, List.set_cons_zero, List.set_cons_succ]
                  have p0 := A.cell 0 _ rfl
                  have p1 := A.cell 1 _ rfl
                  have p2 := A.cell 2 _ rfl
                  have p3 := A.cell 3 _ rfl
                  have p4 := A.cell 4 _ rfl
                  have p5 := A.cell 5 _ rfl
                  have f0 := A.free 0 _ rfl
                  have f1 := A.free 1 _ rfl
                  have f2 := A.free 2 _ rfl
                  have f3 := A.free 3 _ rfl
                  have f4 := A.free 4 _ rfl
                  have f5 := A.free 5 _ rfl
                  refine line_alone rfl (by kernel_rfl) (fun K hK => ?_)
                  go_big_op
                  refine hK _ _ (⟨(by (iterate 6 (refine bset ?_ (by dsimp only; omega) _)); exact hst.out)⟩) ?_
                  clear hK K
                  have A9 := ((((((A.set 0 (.int .i64 y1)).set 1 (.int .i64 y3)).set 2 (.int .i64 y5)).set 3 (.int .i64 y7)).set 4 (.int .i64 y9)).set 5 (.int .i64 y11))
                  refine line_nil ?_
                  go_wp2_with fail
                  go_meet
                  case rel => exact ⟨_, rfl, A9, (by (iterate 6 (refine bset ?_ (by dsimp only; omega) _)); exact hst.out), leA⟩
              · go_big_op
                have hst2 := hst.on (bal (Below.refl _ x1) (.cells #[.int .i64 0, .int .i64 0, .int .i64 0, .int .i64 0, .int .i64 0, .int .i64 0] 33))
                have A := At.new x1 [.int .i64 0, .int .i64 0, .int .i64 0, .int .i64 0, .int .i64 0, .int .i64 0] 33
                have leA : W1.heap.size ≤ x1.heap.size := hst.out.size
                refine hK _ _ hst2 ?_
                clear hK K hst
                have hst := hst2
                clear hst2
                generalize x1.alloc (.cells #[.int .i64 0, .int .i64 0, .int .i64 0, .int .i64 0, .int .i64 0, .int .i64 0] 33) = xa at *
                refine any_rest [(5, false), (8, false), (9, true), (11, false)] (by kernel_rfl) (fun _ _ d _ _ h => by cases d <;> exact h) ?_
                refine line_alone rfl (by kernel_rfl) (fun K hK => ?_)
                refine call_any (args := #[.slice (some ⟨b, off, none⟩) 13 cap, .int .i64 5]) rfl (by kernel_rfl) (by kernel_rfl) (T3 _ (cell_keep hst.out c5) (cell_keep hst.out c6)) ?_
                rintro e kw2 ⟨rfl, hbn⟩
                have hst2 := hst.on hbn
                have A2 := A.on hbn
                clear A
                have A := A2
                clear A2
                refine ⟨_, rfl, hK _ _ hst2 ?_⟩
                clear hK K hst hbn
                have hst := hst2
                clear hst2
                simp only [Act.put, List.setIfInBounds_toArray, List.set_cons_zero, List.set_cons_succ]
                refine line_alone rfl (by kernel_rfl) (fun K hK => ?_)
                refine call_any (args := #[.slice (some ⟨b, off, none⟩) 13 cap, .int .i64 11]) rfl (by kernel_rfl) (by kernel_rfl) (T4 _ (cell_keep hst.out c11) (cell_keep hst.out c12)) ?_
                rintro e kw3 ⟨rfl, hbn⟩
                have hst2 := hst.on hbn
                have A2 := A.on hbn
                clear A
                have A := A2
                clear A2
                refine ⟨_, rfl, hK _ _ hst2 ?_⟩
                clear hK K hst hbn
                have hst := hst2
                clear hst2
                simp only [Act.put, List.setIfInBounds_toArray, List.set_cons_zero, List.set_cons_succ]
                refine line_readv (v := R6 y1 y3 y5 y7 y9 y11) rfl (by kernel_rfl) (fun _ => by kernel_rfl) ?_
                simp only [Act.put, List.setIfInBounds_toArray, List.set_cons_zero, List.set_cons_succ]
                have p0 := A.cell 0 _ rfl
                have p1 := A.cell 1 _ rfl
                have p2 := A.cell 2 _ rfl
                have p3 := A.cell 3 _ rfl
                have p4 := A.cell 4 _ rfl
                have p5 := A.cell 5 _ rfl
                have f0 := A.free 0 _ rfl
                have f1 := A.free 1 _ rfl
                have f2 := A.free 2 _ rfl
                have f3 := A.free 3 _ rfl
                have f4 := A.free 4 _ rfl
                have f5 := A.free 5 _ rfl
                refine line_alone rfl (by kernel_rfl) (fun K hK => ?_)
                go_big_op
                refine hK _ _ (⟨(by (iterate 6 (refine bset ?_ (by dsimp only; omega) _)); exact hst.out)⟩) ?_
                clear hK K
                have A9 := ((((((A.set 0 (.int .i64 y1)).set 1 (.int .i64 y3)).set 2 (.int .i64 y5)).set 3 (.int .i64 y7)).set 4 (.int .i64 y9)).set 5 (.int .i64 y11))
                refine line_nil ?_
                go_wp2_with fail
                go_meet
                case rel => exact ⟨_, rfl, A9, (by (iterate 6 (refine bset ?_ (by dsimp only; omega) _)); exact hst.out), leA⟩
            · go_big_op
              have hst2 := hst.on (bal (Below.refl _ x0) (.cells #[.int .i64 0, .int .i64 0, .int .i64 0, .int .i64 0, .int .i64 0, .int .i64 0] 33))
              have A := At.new x0 [.int .i64 0, .int .i64 0, .int .i64 0, .int .i64 0, .int .i64 0, .int .i64 0] 33
              have leA : W1.heap.size ≤ x0.heap.size := hst.out.size
              refine hK _ _ hst2 ?_
              clear hK K hst
              have hst := hst2
              clear hst2
              generalize x0.alloc (.cells #[.int .i64 0, .int .i64 0, .int .i64 0, .int .i64 0, .int .i64 0, .int .i64 0] 33) = xa at *
              refine any_rest [(3, false), (5, false), (8, false), (9, true), (11, false)] (by kernel_rfl) (fun _ _ d _ _ h => by cases d <;> exact h) ?_
              refine line_alone rfl (by kernel_rfl) (fun K hK => ?_)
              refine call_any (args := #[.slice (some ⟨b, off, none⟩) 13 cap, .int .i64 3]) rfl (by kernel_rfl) (by kernel_rfl) (T2 _ (cell_keep hst.out c3) (cell_keep hst.out c4)) ?_
              rintro e kw1 ⟨rfl, hbn⟩
              have hst2 := hst.on hbn
              have A2 := A.on hbn
              clear A
              have A := A2
              clear A2
              refine ⟨_, rfl, hK _ _ hst2 ?_⟩
              clear hK K hst hbn
              have hst := hst2
              clear hst2
              simp only [Act.put, List.setIfInBounds_toArray, List.set_cons_zero, List.set_cons_succ]
              refine line_alone rfl (by kernel_rfl) (fun K hK => ?_)
              refine call_any (args := #[.slice (some ⟨b, off, none⟩) 13 cap, .int .i64 5]) rfl (by kernel_rfl) (by kernel_rfl) (T3 _ (cell_keep hst.out c5) (cell_keep hst.out c6)) ?_
              rintro e kw2 ⟨rfl, hbn⟩
              have hst2 := hst.on hbn
              have A2 := A.on hbn
              clear A
              have A := A2
              clear A2
              refine ⟨_, rfl, hK _ _ hst2 ?_⟩
              clear hK K hst hbn
              have hst := hst2
              clear hst2
              simp only [Act.put, List.setIfInBounds_toArray, List.set_cons_zero, List.set_cons_succ]
              refine line_alone rfl (by kernel_rfl) (fun K hK => ?_)
              refine call_any (args := #[.slice (some ⟨b, off, none⟩) 13 cap, .int .i64 11]) rfl (by kernel_rfl) (by kernel_rfl) (T4 _ (cell_keep hst.out c11) (cell_keep hst.out c12)) ?_
              rintro e kw3 ⟨rfl, hbn⟩
              have hst2 := hst.on hbn
              have A2 := A.on hbn
              clear A
              have A := A2
              clear A2
              refine ⟨_, rfl, hK _ _ hst2 ?_⟩
              clear hK K hst hbn
              have hst := hst2
              clear hst2
              simp only [Act.put, List.setIfInBounds_toArray, List.set_cons_zero, List.set_cons_succ]
              refine line_readv (v := R6 y1 y3 y5 y7 y9 y11) rfl (by kernel_rfl) (fun _ => by kernel_rfl) ?_
              simp only [Act.put, List.setIfInBounds_toArray, List.set_cons_zero, List.set_cons_succ]
              have p0 := A.cell 0 _ rfl
              have p1 := A.cell 1 _ rfl
              have p2 := A.cell 2 _ rfl
              have p3 := A.cell 3 _ rfl
              have p4 := A.cell 4 _ rfl
              have p5 := A.cell 5 _ rfl
              have f0 := A.free 0 _ rfl
              have f1 := A.free 1 _ rfl
              have f2 := A.free 2 _ rfl
              have f3 := A.free 3 _ rfl
              have f4 := A.free 4 _ rfl
              have f5 := A.free 5 _ rfl
              refine line_alone rfl (by kernel_rfl) (fun K hK => ?_)
              go_big_op
              refine hK _ _ (⟨(by (iterate 6 (refine bset ?_ (by dsimp only; omega) _)); exact hst.out)⟩) ?_
              clear hK K
              have A9 := ((((((A.set 0 (.int .i64 y1)).set 1 (.int .i64 y3)).set 2 (.int .i64 y5)).set 3 (.int .i64 y7)).set 4 (.int .i64 y9)).set 5 (.int .i64 y11))
              refine line_nil ?_
              go_wp2_with fail
              go_meet
              case rel => exact ⟨_, rfl, A9, (by (iterate 6 (refine bset ?_ (by dsimp only; omega) _)); exact hst.out), leA⟩
          · go_big_op
            have hst2 := hst.on (bal (Below.refl _ V1) (.cells #[.int .i64 0, .int .i64 0, .int .i64 0, .int .i64 0, .int .i64 0, .int .i64 0] 33))
            have A := At.new V1 [.int .i64 0, .int .i64 0, .int .i64 0, .int .i64 0, .int .i64 0, .int .i64 0] 33
            have leA : W1.heap.size ≤ V1.heap.size := hst.out.size
            refine hK _ _ hst2 ?_
            clear hK K hst
            have hst := hst2
            clear hst2
            generalize V1.alloc (.cells #[.int .i64 0, .int .i64 0, .int .i64 0, .int .i64 0, .int .i64 0, .int .i64 0] 33) = xa at *
            refine any_rest [(1, false), (3, false), (5, false), (8, false), (9, true), (11, false)] (by kernel_rfl) (fun _ _ d _ _ h => by cases d <;> exact h) ?_
            refine line_alone rfl (by kernel_rfl) (fun K hK => ?_)
            refine call_any (args := #[.slice (some ⟨b, off, none⟩) 13 cap, .int .i64 1]) rfl (by kernel_rfl) (by kernel_rfl) (T1 _ (cell_keep hst.out c1) (cell_keep hst.out c2)) ?_
            rintro e kw0 ⟨rfl, hbn⟩
            have hst2 := hst.on hbn
            have A2 := A.on hbn
            clear A
            have A := A2
            clear A2
            refine ⟨_, rfl, hK _ _ hst2 ?_⟩
            clear hK K hst hbn
            have hst := hst2
            clear hst2
            simp only [Act.put, List.setIfInBounds_toArray, List.set_cons_zero, List.set_cons_succ]
            refine line_alone rfl (by kernel_rfl) (fun K hK => ?_)
            refine call_any (args := #[.slice (some ⟨b, off, none⟩) 13 cap, .int .i64 3]) rfl (by kernel_rfl) (by kernel_rfl) (T2 _ (cell_keep hst.out c3) (cell_keep hst.out c4)) ?_
            rintro e kw1 ⟨rfl, hbn⟩
            have hst2 := hst.on hbn
            have A2 := A.on hbn
            clear A
            have A := A2
            clear A2
            refine ⟨_, rfl, hK _ _ hst2 ?_⟩
            clear hK K hst hbn
            have hst := hst2
            clear hst2
            simp only [Act.put, List.setIfInBounds_toArray, List.set_cons_zero, List.set_cons_succ]
            refine line_alone rfl (by kernel_rfl) (fun K hK => ?_)
            refine call_any (args := #[.slice (some ⟨b, off, none⟩) 13 cap, .int .i64 5]) rfl (by kernel_rfl) (by kernel_rfl) (T3 _ (cell_keep hst.out c5) (cell_keep hst.out c6)) ?_
            rintro e kw2 ⟨rfl, hbn⟩
            have hst2 := hst.on hbn
            have A2 := A.on hbn
            clear A
            have A := A2
            clear A2
            refine ⟨_, rfl, hK _ _ hst2 ?_⟩
            clear hK K hst hbn
            have hst := hst2
            clear hst2
            simp only [Act.put, List.setIfInBounds_toArray, List.set_cons_zero, List.set_cons_succ]
            refine line_alone rfl (by kernel_rfl) (fun K hK => ?_)
            refine call_any (args := #[.slice (some ⟨b, off, none⟩) 13 cap, .int .i64 11]) rfl (by kernel_rfl) (by kernel_rfl) (T4 _ (cell_keep hst.out c11) (cell_keep hst.out c12)) ?_
            rintro e kw3 ⟨rfl, hbn⟩
            have hst2 := hst.on hbn
            have A2 := A.on hbn
            clear A
            have A := A2
            clear A2
            refine ⟨_, rfl, hK _ _ hst2 ?_⟩
            clear hK K hst hbn
            have hst := hst2
            clear hst2
            simp only [Act.put, List.setIfInBounds_toArray, List.set_cons_zero, List.set_cons_succ]
            refine line_readv (v := R6 y1 y3 y5 y7 y9 y11) rfl (by kernel_rfl) (fun _ => by kernel_rfl) ?_
            simp only [Act.put, List.setIfInBounds_toArray, List.set_cons_zero, List.set_cons_succ]
            have p0 := A.cell 0 _ rfl
            have p1 := A.cell 1 _ rfl
            have p2 := A.cell 2 _ rfl
            have p3 := A.cell 3 _ rfl
            have p4 := A.cell 4 _ rfl
            have p5 := A.cell 5 _ rfl
            have f0 := A.free 0 _ rfl
            have f1 := A.free 1 _ rfl
            have f2 := A.free 2 _ rfl
            have f3 := A.free 3 _ rfl
            have f4 := A.free 4 _ rfl
            have f5 := A.free 5 _ rfl
            refine line_alone rfl (by kernel_rfl) (fun K hK => ?_)
            go_big_op
            refine hK _ _ (⟨(by (iterate 6 (refine bset ?_ (by dsimp only; omega) _)); exact hst.out)⟩) ?_
            clear hK K
            have A9 := ((((((A.set 0 (.int .i64 y1)).set 1 (.int .i64 y3)).set 2 (.int .i64 y5)).set 3 (.int .i64 y7)).set 4 (.int .i64 y9)).set 5 (.int .i64 y11))
            refine line_nil ?_
            go_wp2_with fail
            go_meet
            case rel => exact ⟨_, rfl, A9, (by (iterate 6 (refine bset ?_ (by dsimp only; omega) _)); exact hst.out), leA⟩
        case rest =>
          obtain ⟨g, rfl, A3, b4, hg⟩ := hcut
          have lt1 : w.heap.size < W1.heap.size := A1.lt (by simp)
          have b5 := btr b3 b4
          have A4 := A1.on b4
          clear A1 b3 G1 b2
          go_wp2_with fail
          have S0 : Hold w g [.int .i64 y1, .int .i64 y3, .int .i64 y5, .int .i64 y7, .int .i64 y9, .int .i64 y11] wc.drew := ⟨b5.drew, A3.on (bdrew wc)⟩
          have AA := A4.on (bdrew wc)
          refine wp_region_line (Hold w g [.int .i64 y1, .int .i64 y3, .int .i64 y5, .int .i64 y7, .int .i64 y9, .int .i64 y11]) [(0, true), (1, true), (2, true), (3, false), (4, true), (5, true), (6, false), (7, true)] (by kernel_rfl) (by kernel_rfl) (fun _ _ d _ _ h => by cases d <;> exact h) S0 ?_
          have hst := S0
          have inst : Nonempty (Of (Hold w g [.int .i64 y1, .int .i64 y3, .int .i64 y5, .int .i64 y7, .int .i64 y9, .int .i64 y11])) := ⟨⟨_, hst⟩⟩
          have q0 := hold_cell (W := w) (g := g) (cs := [.int .i64 y1, .int .i64 y3, .int .i64 y5, .int .i64 y7, .int .i64 y9, .int .i64 y11]) 0 _ rfl
          have q1 := hold_cell (W := w) (g := g) (cs := [.int .i64 y1, .int .i64 y3, .int .i64 y5, .int .i64 y7, .int .i64 y9, .int .i64 y11]) 1 _ rfl
          have q2 := hold_cell (W := w) (g := g) (cs := [.int .i64 y1, .int .i64 y3, .int .i64 y5, .int .i64 y7, .int .i64 y9, .int .i64 y11]) 2 _ rfl
          have q3 := hold_cell (W := w) (g := g) (cs := [.int .i64 y1, .int .i64 y3, .int .i64 y5, .int .i64 y7, .int .i64 y9, .int .i64 y11]) 3 _ rfl
          have q4 := hold_cell (W := w) (g := g) (cs := [.int .i64 y1, .int .i64 y3, .int .i64 y5, .int .i64 y7, .int .i64 y9, .int .i64 y11]) 4 _ rfl
          have q5 := hold_cell (W := w) (g := g) (cs := [.int .i64 y1, .int .i64 y3, .int .i64 y5, .int .i64 y7, .int .i64 y9, .int .i64 y11]) 5 _ rfl
          clear S0 A3 A4 b4 b5
          generalize wc.drew = V2 at *
          iterate 3 (refine line_read rfl (by kernel_rfl) (fun K hK => ?_); go_big_quiet_op; refine hK _ ?_; clear hK K)
          clear q0 q1 q2 q3 q4 q5
          iterate 2 (refine line_skip rfl (by kernel_rfl) ?_; simp only [Act.put, List.setIfInBounds_toArray, List.set_cons_zero, List.set_cons_succ])
          iterate 1 (refine line_read rfl (by kernel_rfl) (fun K hK => ?_); go_big_quiet_op; refine hK _ ?_; clear hK K)
          have p0 := AA.cell 0 _ rfl
          have p1 := AA.cell 1 _ rfl
          have p2 := AA.cell 2 _ rfl
          have p3 := AA.cell 3 _ rfl
          have p4 := AA.cell 4 _ rfl
          have p5 := AA.cell 5 _ rfl
          have z0 := AA.free 0 _ rfl
          have z1 := AA.free 1 _ rfl
          have z2 := AA.free 2 _ rfl
          have z3 := AA.free 3 _ rfl
          have z4 := AA.free 4 _ rfl
          have z5 := AA.free 5 _ rfl
          refine line_alone rfl (by kernel_rfl) (fun K hK => ?_)
          go_big_op
          refine hK _ _ ((by (iterate 6 (refine Hold.setB ?_ (by dsimp only; omega) (by dsimp only; omega) _)); exact hst)) ?_
          clear hK K
          iterate 1 (refine line_read rfl (by kernel_rfl) (fun K hK => ?_); go_big_quiet_op; refine hK _ ?_; clear hK K)
          refine line_nil ?_
          have HB := Lib.hid hst.bel
          clear hst inst AA
          go_wp2_with fail
          refine bodyPost_ret (v := .tuple #[R6 y1 y3 y5 y7 y9 y11, .bool false]) (by simp [results, Tryz.results43, go_sem, p0, p1, p2, p3, p4, p5]) rfl (HN hsg _ ?_)
          exact (by (iterate 6 (refine bset ?_ (by dsimp only; omega) _)); exact HB.out)
      · rw [hsg] at L1
        go_enter Tryz.func43, Tryz.ntmps43
        go_wp2_with fail
        generalize w.alloc (.cells #[.int .i64 0, .int .i64 0, .int .i64 0, .int .i64 0, .int .i64 0, .int .i64 0] 33) = W0 at *
        refine (L1 _ R1 hWB).mono ?_
        rintro e u1 ⟨rfl, b1⟩
        have G1 := At.new u1 [.int .i64 y7, .int .i64 y9] 31
        have b2 := bal b1 (.cells #[.int .i64 y7, .int .i64 y9] 31)
        have b3 := btr b0 b2
        have A1 := A0.on b2
        have lt0 : w.heap.size < u1.heap.size := (A0.on b1).lt (by simp)
        have c1 := cell_keep b2 d1
        have c2 := cell_keep b2 d2
        have c3 := cell_keep b2 d3
        have c4 := cell_keep b2 d4
        have c5 := cell_keep b2 d5
        have c6 := cell_keep b2 d6
        have c11 := cell_keep b2 d11
        have c12 := cell_keep b2 d12
        clear R1 L1 b1 b0 A0 d0
        go_upto_region 4 with fail
        generalize u1.alloc (.cells #[.int .i64 y7, .int .i64 y9] 31) = W1 at *
        go_cut [6] from 23 to 33 (fun v' wx => CellsAt W1 [.int .i64 y1, .int .i64 y3, .int .i64 y5, .int .i64 y7, .int .i64 y9, .int .i64 y11] v' wx)
        case first =>
          refine wp_region_fork (Bel W1) (by kernel_rfl) (Bel.drew W1) ?_
          have hst : (Bel W1) _ := (Bel.drew W1)
          have inst : Nonempty (Of (Bel W1)) := ⟨⟨_, hst⟩⟩
          have q0 := bel_cell (G1.cell 0 _ rfl)
          have q1 := bel_cell (G1.cell 1 _ rfl)
          generalize W1.drew = V1 at *
          refine any_seg 7 [(0, true), (2, true), (4, true), (6, true), (7, true)] (by kernel_rfl) (fun _ _ d _ _ h => by cases d <;> exact h) ?_
          iterate 5 (refine line_read rfl (by kernel_rfl) (fun K hK => ?_); go_big_quiet_op; refine hK _ ?_; clear hK K)
          refine line_nil ?_
          clear q0 q1
          refine any_fork 1 10 (by kernel_rfl) rfl rfl (by kernel_rfl) (by kernel_rfl) (fun K hK => ?_) (fun K hK => ?_)
          · refine call_any (args := #[.slice (some ⟨b, off, none⟩) 13 cap, .int .i64 1]) rfl (by kernel_rfl) (by kernel_rfl) (T1 _ (cell_keep hst.out c1) (cell_keep hst.out c2)) ?_
            rintro e x0 ⟨rfl, hbn⟩
            have hst2 := hst.on hbn
            refine ⟨_, rfl, hK _ _ hst2 ?_⟩
            clear hK K hst hbn
            have hst := hst2
            clear hst2
            simp only [Act.put, List.setIfInBounds_toArray, List.set_cons_zero, List.set_cons_succ]
            refine any_fork 3 10 (by kernel_rfl) rfl rfl (by kernel_rfl) (by kernel_rfl) (fun K hK => ?_) (fun K hK => ?_)
            · refine call_any (args := #[.slice (some ⟨b, off, none⟩) 13 cap, .int .i64 3]) rfl (by kernel_rfl) (by kernel_rfl) (T2 _ (cell_keep hst.out c3) (cell_keep hst.out c4)) ?_
              rintro e x1 ⟨rfl, hbn⟩
              have hst2 := hst.on hbn
              refine ⟨_, rfl, hK _ _ hst2 ?_⟩
              clear hK K hst hbn
              have hst := hst2
              clear hst2
              simp only [Act.put, List.setIfInBounds_toArray, List.set_cons_zero, List.set_cons_succ]
              refine any_fork 5 10 (by kernel_rfl) rfl rfl (by kernel_rfl) (by kernel_rfl) (fun K hK => ?_) (fun K hK => ?_)
              · refine call_any (args := #[.slice (some ⟨b, off, none⟩) 13 cap, .int .i64 5]) rfl (by kernel_rfl) (by kernel_rfl) (T3 _ (cell_keep hst.out c5) (cell_keep hst.out c6)) ?_
                rintro e x2 ⟨rfl, hbn⟩
                have hst2 := hst.on hbn
                refine ⟨_, rfl, hK _ _ hst2 ?_⟩
                clear hK K hst hbn
                have hst := hst2
                clear hst2
                simp only [Act.put, List.setIfInBounds_toArray, List.set_cons_zero, List.set_cons_succ]
                refine any_fork 8 10 (by kernel_rfl) rfl rfl (by kernel_rfl) (by kernel_rfl) (fun K hK => ?_) (fun K hK => ?_)
                · refine call_any (args := #[.slice (some ⟨b, off, none⟩) 13 cap, .int .i64 11]) rfl (by kernel_rfl) (by kernel_rfl) (T4 _ (cell_keep hst.out c11) (cell_keep hst.out c12)) ?_
                  rintro e x3 ⟨rfl, hbn⟩
                  have hst2 := hst.on hbn
                  refine ⟨_, rfl, hK _ _ hst2 ?_⟩
                  clear hK K hst hbn
                  have hst := hst2
                  clear hst2
                  simp only [Act.put, List.setIfInBounds_toArray, List.set_cons_zero, List.set_cons_succ]
                  refine any_rest [(9, true), (10, false), (11, false)] (by kernel_rfl) (fun _ _ d _ _ h => by cases d <;> exact h) ?_
                  refine line_readv (v := R6 y1 y3 y5 y7 y9 y11) rfl (by kernel_rfl) (fun _ => by kernel_rfl) ?_
                  simp only [Act.put, List.setIfInBounds_toArray, List.set_cons_zero, List.set_cons_succ]
                  refine line_alone rfl (by kernel_rfl) (fun K hK => ?_)
                  go_big_op
                  have hst2 := hst.on (bal (Below.refl _ x3) (.cells #[.int .i64 0, .int .i64 0, .int .i64 0, .int .i64 0, .int .i64 0, .int .i64 0] 33))
                  have A := At.new x3 [.int .i64 0, .int .i64 0, .int .i64 0, .int .i64 0, .int .i64 0, .int .i64 0] 33
                  have leA : W1.heap.size ≤ x3.heap.size := hst.out.size
                  refine hK _ _ hst2 ?_
                  clear hK K hst
                  have hst := hst2
                  clear hst2
                  generalize x3.alloc (.cells #[.int .i64 0, .int .i64 0, .int .i64 0, .int .i64 0, .int .i64 0, .int .i64 0] 33) = xa at *
                  have p0 := A.cell 0 _ rfl
                  have p1 := A.cell 1 _ rfl
                  have p2 := A.cell 2 _ rfl
                  have p3 := A.cell 3 _ rfl
                  have p4 := A.cell 4 _ rfl
                  have p5 := A.cell 5 _ rfl
                  have f0 := A.free 0 _ rfl
                  have f1 := A.free 1 _ rfl
                  have f2 := A.free 2 _ rfl
                  have f3 := A.free 3 _ rfl
                  have f4 := A.free 4 _ rfl
                  have f5 := A.free 5 _ rfl
                  refine line_alone rfl (by kernel_rfl) (fun K hK => ?_)
                  go_big_op
                  refine hK _ _ (⟨(by (iterate 6 (refine bset ?_ (by dsimp only; omega) _)); exact hst.out)⟩) ?_
                  clear hK K
                  have A9 := ((((((A.set 0 (.int .i64 y1)).set 1 (.int .i64 y3)).set 2 (.int .i64 y5)).set 3 (.int .i64 y7)).set 4 (.int .i64 y9)).set 5 (.int .i64 y11))
                  refine line_nil ?_
                  go_wp2_with fail
                  go_meet
                  case rel => exact ⟨_, rfl, A9, (by (iterate 6 (refine bset ?_ (by dsimp only; omega) _)); exact hst.out), leA⟩
                · go_big_op
                  have hst2 := hst.on (bal (Below.refl _ x2) (.cells #[.int .i64 0, .int .i64 0, .int .i64 0, .int .i64 0, .int .i64 0, .int .i64 0] 33))
                  have A := At.new x2 [.int .i64 0, .int .i64 0, .int .i64 0, .int .i64 0, .int .i64 0, .int .i64 0] 33
                  have leA : W1.heap.size ≤ x2.heap.size := hst.out.size
                  refine hK _ _ hst2 ?_
                  clear hK K hst
                  have hst := hst2
                  clear hst2
                  generalize x2.alloc (.cells #[.int .i64 0, .int .i64 0, .int .i64 0, .int .i64 0, .int .i64 0, .int .i64 0] 33) = xa at *
                  refine any_rest [(8, false), (9, true), (11, false)] (by kernel_rfl) (fun _ _ d _ _ h => by cases d <;> exact h) ?_
                  refine line_alone rfl (by kernel_rfl) (fun K hK => ?_)
                  refine call_any (args := #[.slice (some ⟨b, off, none⟩) 13 cap, .int .i64 11]) rfl (by kernel_rfl) (by kernel_rfl) (T4 _ (cell_keep hst.out c11) (cell_keep hst.out c12)) ?_
                  rintro e kw3 ⟨rfl, hbn⟩
                  have hst2 := hst.on hbn
                  have A2 := A.on hbn
                  clear A
                  have A := A2
                  clear A2
                  refine ⟨_, rfl, hK _ _ hst2 ?_⟩
                  clear hK K hst hbn
                  have hst := hst2
                  clear hst2
                  simp only [Act.put, List.setIfInBounds_toArray, List.set_cons_zero, List.set_cons_succ]
                  refine line_readv (v := R6 y1 y3 y5 y7 y9 y11) rfl (by kernel_rfl) (fun _ => by kernel_rfl) ?_
                  simp only [Act.put, List.setIfInBounds_toArray, List.set_cons_zero, List.set_cons_succ]
                  have p0 := A.cell 0 _ rfl
                  have p1 := A.cell 1 _ rfl
                  have p2 := A.cell 2 _ rfl
                  have p3 := A.cell 3 _ rfl
                  have p4 := A.cell 4 _ rfl
                  have p5 := A.cell 5 _ rfl
                  have f0 := A.free 0 _ rfl
                  have f1 := A.free 1 _ rfl
                  have f2 := A.free 2 _ rfl
                  have f3 := A.free 3 _ rfl
                  have f4 := A.free 4 _ rfl
                  have f5 := A.free 5 _ rfl
                  refine line_alone rfl (by kernel_rfl) (fun K hK => ?_)
                  go_big_op
                  refine hK _ _ (⟨(by (iterate 6 (refine bset ?_ (by dsimp only; omega) _)); exact hst.out)⟩) ?_
                  clear hK K
                  have A9 := ((((((A.set 0 (.int .i64 y1)).set 1 (.int .i64 y3)).set 2 (.int .i64 y5)).set 3 (.int .i64 y7)).set 4 (.int .i64 y9)).set 5 (.int .i64 y11))
                  refine line_nil ?_
                  go_wp2_with fail
                  go_meet
                  case rel => exact ⟨_, rfl, A9, (by (iterate 6 (refine bset ?_ (by dsimp only; omega) _)); exact hst.out), leA⟩
              · go_big_op
                have hst2 := hst.on (bal (Below.refl _ x1) (.cells #[.int .i64 0, .int .i64 0, .int .i64 0, .int .i64 0, .int .i64 0, .int .i64 0] 33))
                have A := At.new x1 [.int .i64 0, .int .i64 0, .int .i64 0, .int .i64 0, .int .i64 0, .int .i64 0] 33
                have leA : W1.heap.size ≤ x1.heap.size := hst.out.size
                refine hK _ _ hst2 ?_
                clear hK K hst
                have hst := hst2
                clear hst2
                generalize x1.alloc (.cells #[.int .i64 0, .int .i64 0, .int .i64 0, .int .i64 0, .int .i64 0, .int .i64 0] 33) = xa at *
                refine any_rest [(5, false), (8, false), (9, true), (11, false)] (by kernel_rfl) (fun _ _ d _ _ h => by cases d <;> exact h) ?_
                refine line_alone rfl (by kernel_rfl) (fun K hK => ?_)
                refine call_any (args := #[.slice (some ⟨b, off, none⟩) 13 cap, .int .i64 5]) rfl (by kernel_rfl) (by kernel_rfl) (T3 _ (cell_keep hst.out c5) (cell_keep hst.out c6)) ?_
                rintro e kw2 ⟨rfl, hbn⟩
                have hst2 := hst.on hbn
                have A2 := A.on hbn
                clear A
                have A := A2
                clear A2
                refine ⟨_, rfl, hK _ _ hst2 ?_⟩
                clear hK K hst hbn
                have hst := hst2
                clear hst2
                simp only [Act.put, List.setIfInBounds_toArray, List.set_cons_zero, List.set_cons_succ]
                refine line_alone rfl (by kernel_rfl) (fun K hK => ?_)
                refine call_any (args := #[.slice (some ⟨b, off, none⟩) 13 cap, .int .i64 11]) rfl (by kernel_rfl) (by kernel_rfl) (T4 _ (cell_keep hst.out c11) (cell_keep hst.out c12)) ?_
                rintro e kw3 ⟨rfl, hbn⟩
                have hst2 := hst.on hbn
                have A2 := A.on hbn
                clear A
                have A := A2
                clear A2
                refine ⟨_, rfl, hK _ _ hst2 ?_⟩
                clear hK K hst hbn
                have hst := hst2
                clear hst2
                simp only [Act.put, List.setIfInBounds_toArray, List.set_cons_zero, List.set_cons_succ]
                refine line_readv (v := R6 y1 y3 y5 y7 y9 y11) rfl (by kernel_rfl) (fun _ => by kernel_rfl) ?_
                simp only [Act.put, List.setIfInBounds_toArray, List.set_cons_zero, List.set_cons_succ]
                have p0 := A.cell 0 _ rfl
                have p1 := A.cell 1 _ rfl
                have p2 := A.cell 2 _ rfl
                have p3 := A.cell 3 _ rfl
                have p4 := A.cell 4 _ rfl
                have p5 := A.cell 5 _ rfl
                have f0 := A.free 0 _ rfl
                have f1 := A.free 1 _ rfl
                have f2 := A.free 2 _ rfl
                have f3 := A.free 3 _ rfl
                have f4 := A.free 4 _ rfl
                have f5 := A.free 5 _ rfl
                refine line_alone rfl (by kernel_rfl) (fun K hK => ?_)
                go_big_op
                refine hK _ _ (⟨(by (iterate 6 (refine bset ?_ (by dsimp only; omega) _)); exact hst.out)⟩) ?_
                clear hK K
                have A9 := ((((((A.set 0 (.int .i64 y1)).set 1 (.int .i64 y3)).set 2 (.int .i64 y5)).set 3 (.int .i64 y7)).set 4 (.int .i64 y9)).set 5 (.int .i64 y11))
                refine line_nil ?_
                go_wp2_with fail
                go_meet
                case rel => exact ⟨_, rfl, A9, (by (iterate 6 (refine bset ?_ (by dsimp only; omega) _)); exact hst.out), leA⟩
            · go_big_op
              have hst2 := hst.on (bal (Below.refl _ x0) (.cells #[.int .i64 0, .int .i64 0, .int .i64 0, .int .i64 0, .int .i64 0, .int .i64 0] 33))
              have A := At.new x0 [.int .i64 0, .int .i64 0, .int .i64 0, .int .i64 0, .int .i64 0, .int .i64 0] 33
              have leA : W1.heap.size ≤ x0.heap.size := hst.out.size
              refine hK _ _ hst2 ?_
              clear hK K hst
              have hst := hst2
              clear hst2
              generalize x0.alloc (.cells #[.int .i64 0, .int .i64 0, .int .i64 0, .int .i64 0, .int .i64 0, .int .i64 0] 33) = xa at *
              refine any_rest [(3, false), (5, false), (8, false), (9, true), (11, false)] (by kernel_rfl) (fun _ _ d _ _ h => by cases d <;> exact h) ?_
              refine line_alone rfl (by kernel_rfl) (fun K hK => ?_)
              refine call_any (args := #[.slice (some ⟨b, off, none⟩) 13 cap, .int .i64 3]) rfl (by kernel_rfl) (by kernel_rfl) (T2 _ (cell_keep hst.out c3) (cell_keep hst.out c4)) ?_
              rintro e kw1 ⟨rfl, hbn⟩
              have hst2 := hst.on hbn
              have A2 := A.on hbn
              clear A
              have A := A2
              clear A2
              refine ⟨_, rfl, hK _ _ hst2 ?_⟩
              clear hK K hst hbn
              have hst := hst2
              clear hst2
              simp only [Act.put, List.setIfInBounds_toArray, List.set_cons_zero, List.set_cons_succ]
              refine line_alone rfl (by kernel_rfl) (fun K hK => ?_)
              refine call_any (args := #[.slice (some ⟨b, off, none⟩) 13 cap, .int .i64 5]) rfl (by kernel_rfl) (by kernel_rfl) (T3 _ (cell_keep hst.out c5) (cell_keep hst.out c6)) ?_
              rintro e kw2 ⟨rfl, hbn⟩
              have hst2 := hst.on hbn
              have A2 := A.on hbn
              clear A
              have A := A2
              clear A2
              refine ⟨_, rfl, hK _ _ hst2 ?_⟩
              clear hK K hst hbn
              have hst := hst2
              clear hst2
              simp only [Act.put, List.setIfInBounds_toArray, List.set_cons_zero, List.set_cons_succ]
              refine line_alone rfl (by kernel_rfl) (fun K hK => ?_)
              refine call_any (args := #[.slice (some ⟨b, off, none⟩) 13 cap, .int .i64 11]) rfl (by kernel_rfl) (by kernel_rfl) (T4 _ (cell_keep hst.out c11) (cell_keep hst.out c12)) ?_
              rintro e kw3 ⟨rfl, hbn⟩
              have hst2 := hst.on hbn
              have A2 := A.on hbn
              clear A
              have A := A2
              clear A2
              refine ⟨_, rfl, hK _ _ hst2 ?_⟩
              clear hK K hst hbn
              have hst := hst2
              clear hst2
              simp only [Act.put, List.setIfInBounds_toArray, List.set_cons_zero, List.set_cons_succ]
              refine line_readv (v := R6 y1 y3 y5 y7 y9 y11) rfl (by kernel_rfl) (fun _ => by kernel_rfl) ?_
              simp only [Act.put, List.setIfInBounds_toArray, List.set_cons_zero, List.set_cons_succ]
              have p0 := A.cell 0 _ rfl
              have p1 := A.cell 1 _ rfl
              have p2 := A.cell 2 _ rfl
              have p3 := A.cell 3 _ rfl
              have p4 := A.cell 4 _ rfl
              have p5 := A.cell 5 _ rfl
              have f0 := A.free 0 _ rfl
              have f1 := A.free 1 _ rfl
              have f2 := A.free 2 _ rfl
              have f3 := A.free 3 _ rfl
              have f4 := A.free 4 _ rfl
              have f5 := A.free 5 _ rfl
              refine line_alone rfl (by kernel_rfl) (fun K hK => ?_)
              go_big_op
              refine hK _ _ (⟨(by (iterate 6 (refine bset ?_ (by dsimp only; omega) _)); exact hst.out)⟩) ?_
              clear hK K
              have A9 := ((((((A.set 0 (.int .i64 y1)).set 1 (.int .i64 y3)).set 2 (.int .i64 y5)).set 3 (.int .i64 y7)).set 4 (.int .i64 y9)).set 5 (.int .i64 y11))
              refine line_nil ?_
              go_wp2_with fail
              go_meet
              case rel => exact ⟨_, rfl, A9, (by (iterate 6 (refine bset ?_ (by dsimp only; omega) _)); exact hst.out), leA⟩
          · go_big_op
            have hst2 := hst.on (bal (Below.refl _ V1) (.cells #[.int .i64 0, .int .i64 0, .int .i64 0, .int .i64 0, .int .i64 0, .int .i64 0] 33))
            have A := At.new V1 [.int .i64 0, .int .i64 0, .int .i64 0, .int .i64 0, .int .i64 0, .int .i64 0] 33
            have leA : W1.heap.size ≤ V1.heap.size := hst.out.size
            refine hK _ _ hst2 ?_
            clear hK K hst
            have hst := hst2
            clear hst2
            generalize V1.alloc (.cells #[.int .i64 0, .int .i64 0, .int .i64 0, .int .i64 0, .int .i64 0, .int .i64 0] 33) = xa at *
            refine any_rest [(1, false), (3, false), (5, false), (8, false), (9, true), (11, false)] (by kernel_rfl) (fun _ _ d _ _ h => by cases d <;> exact h) ?_
            refine line_alone rfl (by kernel_rfl) (fun K hK => ?_)
            refine call_any (args := #[.slice (some ⟨b, off, none⟩) 13 cap, .int .i64 1]) rfl (by kernel_rfl) (by kernel_rfl) (T1 _ (cell_keep hst.out c1) (cell_keep hst.out c2)) ?_
            rintro e kw0 ⟨rfl, hbn⟩
            have hst2 := hst.on hbn
            have A2 := A.on hbn
            clear A
            have A := A2
            clear A2
            refine ⟨_, rfl, hK _ _ hst2 ?_⟩
            clear hK K hst hbn
            have hst := hst2
            clear hst2
            simp only [Act.put, List.setIfInBounds_toArray, List.set_cons_zero, List.set_cons_succ]
            refine line_alone rfl (by kernel_rfl) (fun K hK => ?_)
            refine call_any (args := #[.slice (some ⟨b, off, none⟩) 13 cap, .int .i64 3]) rfl (by kernel_rfl) (by kernel_rfl) (T2 _ (cell_keep hst.out c3) (cell_keep hst.out c4)) ?_
            rintro e kw1 ⟨rfl, hbn⟩
            have hst2 := hst.on hbn
            have A2 := A.on hbn
            clear A
            have A := A2
            clear A2
            refine ⟨_, rfl, hK _ _ hst2 ?_⟩
            clear hK K hst hbn
            have hst := hst2
            clear hst2
            simp only [Act.put, List.setIfInBounds_toArray, List.set_cons_zero, List.set_cons_succ]
            refine line_alone rfl (by kernel_rfl) (fun K hK => ?_)
            refine call_any (args := #[.slice (some ⟨b, off, none⟩) 13 cap, .int .i64 5]) rfl (by kernel_rfl) (by kernel_rfl) (T3 _ (cell_keep hst.out c5) (cell_keep hst.out c6)) ?_
            rintro e kw2 ⟨rfl, hbn⟩
            have hst2 := hst.on hbn
            have A2 := A.on hbn
            clear A
            have A := A2
            clear A2
            refine ⟨_, rfl, hK _ _ hst2 ?_⟩
            clear hK K hst hbn
            have hst := hst2
            clear hst2
            simp only [Act.put, List.setIfInBounds_toArray, List.set_cons_zero, List.set_cons_succ]
            refine line_alone rfl (by kernel_rfl) (fun K hK => ?_)
            refine call_any (args := #[.slice (some ⟨b, off, none⟩) 13 cap, .int .i64 11]) rfl (by kernel_rfl) (by kernel_rfl) (T4 _ (cell_keep hst.out c11) (cell_keep hst.out c12)) ?_
            rintro e kw3 ⟨rfl, hbn⟩
            have hst2 := hst.on hbn
            have A2 := A.on hbn
            clear A
            have A := A2
            clear A2
            refine ⟨_, rfl, hK _ _ hst2 ?_⟩
            clear hK K hst hbn
            have hst := hst2
            clear hst2
            simp only [Act.put, List.setIfInBounds_toArray, List.set_cons_zero, List.set_cons_succ]
            refine line_readv (v := R6 y1 y3 y5 y7 y9 y11) rfl (by kernel_rfl) (fun _ => by kernel_rfl) ?_
            simp only [Act.put, List.setIfInBounds_toArray, List.set_cons_zero, List.set_cons_succ]
            have p0 := A.cell 0 _ rfl
            have p1 := A.cell 1 _ rfl
            have p2 := A.cell 2 _ rfl
            have p3 := A.cell 3 _ rfl
            have p4 := A.cell 4 _ rfl
            have p5 := A.cell 5 _ rfl
            have f0 := A.free 0 _ rfl
            have f1 := A.free 1 _ rfl
            have f2 := A.free 2 _ rfl
            have f3 := A.free 3 _ rfl
            have f4 := A.free 4 _ rfl
            have f5 := A.free 5 _ rfl
            refine line_alone rfl (by kernel_rfl) (fun K hK => ?_)
            go_big_op
            refine hK _ _ (⟨(by (iterate 6 (refine bset ?_ (by dsimp only; omega) _)); exact hst.out)⟩) ?_
            clear hK K
            have A9 := ((((((A.set 0 (.int .i64 y1)).set 1 (.int .i64 y3)).set 2 (.int .i64 y5)).set 3 (.int .i64 y7)).set 4 (.int .i64 y9)).set 5 (.int .i64 y11))
            refine line_nil ?_
            go_wp2_with fail
            go_meet
            case rel => exact ⟨_, rfl, A9, (by (iterate 6 (refine bset ?_ (by dsimp only; omega) _)); exact hst.out), leA⟩
        case rest =>
          obtain ⟨g, rfl, A3, b4, hg⟩ := hcut
          have lt1 : w.heap.size < W1.heap.size := A1.lt (by simp)
          have b5 := btr b3 b4
          have A4 := A1.on b4
          clear A1 b3 G1 b2
          go_wp2_with fail
          have S0 : Hold w g [.int .i64 y1, .int .i64 y3, .int .i64 y5, .int .i64 y7, .int .i64 y9, .int .i64 y11] wc.drew := ⟨b5.drew, A3.on (bdrew wc)⟩
          have AA := A4.on (bdrew wc)
          refine wp_region_line (Hold w g [.int .i64 y1, .int .i64 y3, .int .i64 y5, .int .i64 y7, .int .i64 y9, .int .i64 y11]) [(0, true), (1, true), (2, true), (3, false), (4, true), (5, true), (6, false), (7, true)] (by kernel_rfl) (by kernel_rfl) (fun _ _ d _ _ h => by cases d <;> exact h) S0 ?_
          have hst := S0
          have inst : Nonempty (Of (Hold w g [.int .i64 y1, .int .i64 y3, .int .i64 y5, .int .i64 y7, .int .i64 y9, .int .i64 y11])) := ⟨⟨_, hst⟩⟩
          have q0 := hold_cell (W := w) (g := g) (cs := [.int .i64 y1, .int .i64 y3, .int .i64 y5, .int .i64 y7, .int .i64 y9, .int .i64 y11]) 0 _ rfl
          have q1 := hold_cell (W := w) (g := g) (cs := [.int .i64 y1, .int .i64 y3, .int .i64 y5, .int .i64 y7, .int .i64 y9, .int .i64 y11]) 1 _ rfl
          have q2 := hold_cell (W := w) (g := g) (cs := [.int .i64 y1, .int .i64 y3, .int .i64 y5, .int .i64 y7, .int .i64 y9, .int .i64 y11]) 2 _ rfl
          have q3 := hold_cell (W := w) (g := g) (cs := [.int .i64 y1, .int .i64 y3, .int .i64 y5, .int .i64 y7, .int .i64 y9, .int .i64 y11]) 3 _ rfl
          have q4 := hold_cell (W := w) (g := g) (cs := [.int .i64 y1, .int .i64 y3, .int .i64 y5, .int .i64 y7, .int .i64 y9, .int .i64 y11]) 4 _ rfl
          have q5 := hold_cell (W := w) (g := g) (cs := [.int .i64 y1, .int .i64 y3, .int .i64 y5, .int .i64 y7, .int .i64 y9, .int .i64 y11]) 5 _ rfl
          clear S0 A3 A4 b4 b5
          generalize wc.drew = V2 at *
          iterate 3 (refine line_read rfl (by kernel_rfl) (fun K hK => ?_); go_big_quiet_op; refine hK _ ?_; clear hK K)
          clear q0 q1 q2 q3 q4 q5
          refine line_alone rfl (by kernel_rfl) (fun K hK => ?_)
          refine call_any (args := #[.pointer (some ⟨g, 0, none⟩)]) rfl (by kernel_rfl) (by kernel_rfl) (hF _ _ hst.at') ?_
          rintro e x9 ⟨rfl, rfl⟩
          refine ⟨_, rfl, hK _ _ hst ?_⟩
          clear hK K
          simp only [Act.put, List.setIfInBounds_toArray, List.set_cons_zero, List.set_cons_succ]
          iterate 2 (refine line_read rfl (by kernel_rfl) (fun K hK => ?_); go_big_quiet_op; refine hK _ ?_; clear hK K)
          have p0 := AA.cell 0 _ rfl
          have p1 := AA.cell 1 _ rfl
          have p2 := AA.cell 2 _ rfl
          have p3 := AA.cell 3 _ rfl
          have p4 := AA.cell 4 _ rfl
          have p5 := AA.cell 5 _ rfl
          have z0 := AA.free 0 _ rfl
          have z1 := AA.free 1 _ rfl
          have z2 := AA.free 2 _ rfl
          have z3 := AA.free 3 _ rfl
          have z4 := AA.free 4 _ rfl
          have z5 := AA.free 5 _ rfl
          refine line_alone rfl (by kernel_rfl) (fun K hK => ?_)
          go_big_op
          refine hK _ _ ((by (iterate 6 (refine Hold.setB ?_ (by dsimp only; omega) (by dsimp only; omega) _)); exact hst)) ?_
          clear hK K
          iterate 1 (refine line_read rfl (by kernel_rfl) (fun K hK => ?_); go_big_quiet_op; refine hK _ ?_; clear hK K)
          refine line_nil ?_
          have HB := Lib.hid hst.bel
          clear hst inst AA
          go_wp2_with fail
          refine bodyPost_ret (v := .tuple #[R6 y1 y3 y5 y7 y9 y11, .bool (cd == 0)]) (by simp [results, Tryz.results43, go_sem, p0, p1, p2, p3, p4, p5]) rfl (HP _ ?_)
          exact (by (iterate 6 (refine bset ?_ (by dsimp only; omega) _)); exact HB.out)
    · have hno : repOk zs = false := by simp only [repOk, decide_eq_false hz1, Bool.and_false, Bool.false_and]
      have F : RepRead zs w (.returned (.tuple #[R6 0 0 0 0 0 0, .bool false])) (w.alloc (.cells #[.int .i64 0, .int .i64 0, .int .i64 0, .int .i64 0, .int .i64 0, .int .i64 0] 33)) := ⟨_, _, _, _, _, _, by rw [hno], (fun h => by rw [hno] at h; cases h), b0⟩
      have q1 : (zs.getD 0 0 != 2) = true := by simpa using hz1
      generalize zs.getD 0 0 = z at *
      clear hR hc hno
      go_enter Tryz.func43, Tryz.ntmps43
      go_wp2_with fail
      exact bodyPost_ret (v := .tuple #[R6 0 0 0 0 0 0, .bool false]) (by simp [results, Tryz.results43, go_sem]) rfl F
  · have hno : repOk zs = false := by simp only [repOk, hzl, decide_eq_false h13, Bool.false_and]
    have F : RepRead zs w (.returned (.tuple #[R6 0 0 0 0 0 0, .bool false])) (w.alloc (.cells #[.int .i64 0, .int .i64 0, .int .i64 0, .int .i64 0, .int .i64 0, .int .i64 0] 33)) := ⟨_, _, _, _, _, _, by rw [hno], (fun h => by rw [hno] at h; cases h), b0⟩
    have q1 : ((len : Int) != 13) = true := by simp; omega
    clear hR hno
    go_enter Tryz.func43, Tryz.ntmps43
    go_wp2_with fail
    exact bodyPost_ret (v := .tuple #[R6 0 0 0 0 0 0, .bool false]) (by simp [results, Tryz.results43, go_sem]) rfl F
theorem specReadReply_any (a : Option Addr) (len cap B : Nat) (zs : List Int) (w : World) (hR : Row .u8 w B a len cap zs) (hB : B ≤ w.heap.size) :
    Calls Tryz.prog 16 #[.slice a len cap] w fun e w' => e = .returned (repT zs) ∧ Below w.heap.size w w' := by
  have b0 := bal (Below.refl _ w) (.cells #[.int .i64 0, .int .i64 0, .int .i64 0, .int .i64 0, .int .i64 0, .int .i64 0, .int .i64 0] 35)
  have A0 := At.new w (RL7 0 0 0 0 0 0 0) 35
  have F := fun w R hB => l6ReadReply_any a len cap B zs w R hB
  have R0 := hR.below (b0.mono hB)
  have hB0 : B ≤ (w.alloc (.cells #[.int .i64 0, .int .i64 0, .int .i64 0, .int .i64 0, .int .i64 0, .int .i64 0, .int .i64 0] 35)).heap.size := by simp; omega
  clear hR
  cases hh : repOk zs
  · rw [repT_no hh]
    go_enter Tryz.func16, Tryz.ntmps16
    go_wp2_with fail
    generalize w.alloc (.cells #[.int .i64 0, .int .i64 0, .int .i64 0, .int .i64 0, .int .i64 0, .int .i64 0, .int .i64 0] 35) = W0 at *
    refine (F _ R0 hB0).mono ?_
    rintro e u1 ⟨r, s, p, x, y, f, rfl, hv, b1⟩
    rw [hh] at hv ⊢
    have lt1 : w.heap.size < u1.heap.size := (A0.on b1).lt (by simp)
    have k0 := (A0.on b1).cell 0 _ rfl
    have k1 := (A0.on b1).cell 1 _ rfl
    have k2 := (A0.on b1).cell 2 _ rfl
    have k3 := (A0.on b1).cell 3 _ rfl
    have k4 := (A0.on b1).cell 4 _ rfl
    have k5 := (A0.on b1).cell 5 _ rfl
    have k6 := (A0.on b1).cell 6 _ rfl
    have z0 := (A0.on b1).free 0 _ rfl
    have z1 := (A0.on b1).free 1 _ rfl
    have z2 := (A0.on b1).free 2 _ rfl
    have z3 := (A0.on b1).free 3 _ rfl
    have z4 := (A0.on b1).free 4 _ rfl
    have z5 := (A0.on b1).free 5 _ rfl
    have z6 := (A0.on b1).free 6 _ rfl
    have A9 := ((((((((A0.on b1).set 0 (.int .i64 5)).set 1 (.int .i64 0)).set 2 (.int .i64 0)).set 3 (.int .i64 0)).set 4 (.int .i64 0)).set 5 (.int .i64 0)).set 6 (.int .i64 0)).alloc (.cells #[.int .i64 r, .int .i64 s, .int .i64 p, .int .i64 x, .int .i64 y, .int .i64 f] 33)
    have q0 := A9.cell 0 _ rfl
    have q1 := A9.cell 1 _ rfl
    have q2 := A9.cell 2 _ rfl
    have q3 := A9.cell 3 _ rfl
    have q4 := A9.cell 4 _ rfl
    have q5 := A9.cell 5 _ rfl
    have q6 := A9.cell 6 _ rfl
    have HB := Lib.hid (bal (bset (bset (bset (bset (bset (bset (bset (btr b0 b1) (p := ⟨w.heap.size, 0, none⟩) (Nat.le_refl _) (.int .i64 5)) (p := ⟨w.heap.size, 1, none⟩) (Nat.le_refl _) (.int .i64 0)) (p := ⟨w.heap.size, 2, none⟩) (Nat.le_refl _) (.int .i64 0)) (p := ⟨w.heap.size, 3, none⟩) (Nat.le_refl _) (.int .i64 0)) (p := ⟨w.heap.size, 4, none⟩) (Nat.le_refl _) (.int .i64 0)) (p := ⟨w.heap.size, 5, none⟩) (Nat.le_refl _) (.int .i64 0)) (p := ⟨w.heap.size, 6, none⟩) (Nat.le_refl _) (.int .i64 0)) (.cells #[.int .i64 r, .int .i64 s, .int .i64 p, .int .i64 x, .int .i64 y, .int .i64 f] 33))
    clear A0 A9 b0 b1 hv F R0
    go_wp2_with fail
    refine bodyPost_ret (v := R7 5 0 0 0 0 0 0) (by simp [results, Tryz.results16, go_sem, q0, q1, q2, q3, q4, q5, q6]) rfl ⟨rfl, HB.out⟩
  · rw [repT_yes hh]
    go_enter Tryz.func16, Tryz.ntmps16
    go_wp2_with fail
    generalize w.alloc (.cells #[.int .i64 0, .int .i64 0, .int .i64 0, .int .i64 0, .int .i64 0, .int .i64 0, .int .i64 0] 35) = W0 at *
    refine (F _ R0 hB0).mono ?_
    rintro e u1 ⟨r, s, p, x, y, f, rfl, hv, b1⟩
    rw [hh] at hv ⊢
    have lt1 : w.heap.size < u1.heap.size := (A0.on b1).lt (by simp)
    have k0 := (A0.on b1).cell 0 _ rfl
    have k1 := (A0.on b1).cell 1 _ rfl
    have k2 := (A0.on b1).cell 2 _ rfl
    have k3 := (A0.on b1).cell 3 _ rfl
    have k4 := (A0.on b1).cell 4 _ rfl
    have k5 := (A0.on b1).cell 5 _ rfl
    have k6 := (A0.on b1).cell 6 _ rfl
    have z0 := (A0.on b1).free 0 _ rfl
    have z1 := (A0.on b1).free 1 _ rfl
    have z2 := (A0.on b1).free 2 _ rfl
    have z3 := (A0.on b1).free 3 _ rfl
    have z4 := (A0.on b1).free 4 _ rfl
    have z5 := (A0.on b1).free 5 _ rfl
    have z6 := (A0.on b1).free 6 _ rfl
    obtain ⟨rfl, rfl, rfl, rfl, rfl, rfl⟩ := hv rfl
    generalize e1 : tw zs 1 = y1 at *
    generalize e3 : tw zs 3 = y3 at *
    generalize e5 : tw zs 5 = y5 at *
    generalize e7 : tw zs 7 = y7 at *
    generalize e9 : tw zs 9 = y9 at *
    generalize e11 : tw zs 11 = y11 at *
    have A9 := ((((((((A0.on b1).set 0 (.int .i64 0)).set 1 (.int .i64 y1)).set 2 (.int .i64 y3)).set 3 (.int .i64 y5)).set 4 (.int .i64 y7)).set 5 (.int .i64 y9)).set 6 (.int .i64 y11)).alloc (.cells #[.int .i64 y1, .int .i64 y3, .int .i64 y5, .int .i64 y7, .int .i64 y9, .int .i64 y11] 33)
    have q0 := A9.cell 0 _ rfl
    have q1 := A9.cell 1 _ rfl
    have q2 := A9.cell 2 _ rfl
    have q3 := A9.cell 3 _ rfl
    have q4 := A9.cell 4 _ rfl
    have q5 := A9.cell 5 _ rfl
    have q6 := A9.cell 6 _ rfl
    have HB := Lib.hid (bal (bset (bset (bset (bset (bset (bset (bset (btr b0 b1) (p := ⟨w.heap.size, 0, none⟩) (Nat.le_refl _) (.int .i64 0)) (p := ⟨w.heap.size, 1, none⟩) (Nat.le_refl _) (.int .i64 y1)) (p := ⟨w.heap.size, 2, none⟩) (Nat.le_refl _) (.int .i64 y3)) (p := ⟨w.heap.size, 3, none⟩) (Nat.le_refl _) (.int .i64 y5)) (p := ⟨w.heap.size, 4, none⟩) (Nat.le_refl _) (.int .i64 y7)) (p := ⟨w.heap.size, 5, none⟩) (Nat.le_refl _) (.int .i64 y9)) (p := ⟨w.heap.size, 6, none⟩) (Nat.le_refl _) (.int .i64 y11)) (.cells #[.int .i64 y1, .int .i64 y3, .int .i64 y5, .int .i64 y7, .int .i64 y9, .int .i64 y11] 33))
    clear A0 A9 b0 b1 hv F R0
    go_wp2_with fail
    refine bodyPost_ret (v := R7 0 y1 y3 y5 y7 y9 y11) (by simp [results, Tryz.results16, go_sem, q0, q1, q2, q3, q4, q5, q6]) rfl ⟨by rw [e1, e3, e5, e7, e9, e11], HB.out⟩
end Go.Proofs.YtepailfhagaboaaGreatDoor
namespace Go.Proofs.YtepailfhagaboaaGreatDoor
open Go.RowKit

/-- The regions of a code. -/
def regs : Code → List (Nat × Array Oper)
  | .region i ops _ => [(i, ops)]
  | .seq a b => regs a ++ regs b
  | .cond _ a b => regs a ++ regs b
  | .block _ b => regs b
  | .loop b => regs b
  | .scope b => regs b
  | .rangeFunc _ _ a b => regs a ++ regs b
  | _ => []
def regAt (c : Option Code) (id : Nat) : Array Oper := match (regs (c.getD .skip)).find? (fun x => x.1 == id) with
  | some x => x.2
  | none => #[]
/-- A piece of a line: it may be walked so, and this has come up behind it. -/
structure Piece (ops : Array Oper) (L : Array Bool) (π : List (Nat × Bool)) (L' : Array Bool) : Prop where
  seg : segB .any ops π L = true
  went : marked L π = L'
theorem segB_append (md : Region.Mode) (ops : Array Oper) : ∀ (p q : List (Nat × Bool)) (L : Array Bool), segB md ops (p ++ q) L = (segB md ops p L && segB md ops q (marked L p))
  | [], q, L => by simp [segB, marked]
  | (i, m) :: p, q, L => by
    rw [List.cons_append, segB, segB, segB_append md ops p q, marked, Bool.and_assoc]
theorem marked_append : ∀ (p q : List (Nat × Bool)) (L : Array Bool), marked L (p ++ q) = marked (marked L p) q
  | [], q, L => rfl
  | (i, m) :: p, q, L => by
    rw [List.cons_append, marked, marked, marked_append p q]
theorem Piece.app {ops : Array Oper} {L L1 L2 : Array Bool} {p q : List (Nat × Bool)} (h1 : Piece ops L p L1) (h2 : Piece ops L1 q L2) : Piece ops L (p ++ q) L2 :=
  ⟨by rw [segB_append, h1.seg, h1.went, h2.seg]; rfl, by rw [marked_append, h1.went, h2.went]⟩
theorem wp_region_pieces {P : Program} {Q : Exit → Act → World → Prop} {id : Nat} {a : Act} {w : World} {l : List Oper} (S : World → Prop) (π : List (Nat × Bool)) (ops : Array Oper) (L0 L1 : Array Bool) (hops : l.toArray = ops) (hm : P.follows .mixedOrders = true)
    (hN : Region.noSelect ops = true) (hl : π.length = l.length) (h0 : Array.replicate ops.size false = L0) (hp : Piece ops L0 π L1) (he : (Region.ready .any ops L1).isEmpty = true) (hQ : ∀ c a d v w, Q (.panic c) (a.put d v) w → Q (.panic c) a w)
    (hS : S w.drew) (h : LineP P l.toArray S Q (Q .normal) π a w.drew) : (Code.region id l.toArray true).wp P Q a w := by
  refine wp_region_line S π hm ?_ hQ hS h
  rw [hops, h0, hp.went, hN, hp.seg, he, decide_eq_true hl]
  rfl
end Go.Proofs.YtepailfhagaboaaGreatDoor
namespace Go.Proofs.YtepailfhagaboaaGreatDoor.fnHellos
open Go.RowKit
set_option maxRecDepth 100000

noncomputable def ops : Array Oper := regAt Tryz.f3.body 11
def L0 : Array Bool := #[false, false, false, false, false, false, false, false, false, false, false, false, false, false, false, false, false, false, false, false, false, false, false, false, false, false, false, false, false, false, false, false, false, false, false, false, false, false, false, false, false, false, false, false, false, false, false, false, false, false, false, false, false, false, false, false, false, false, false, false, false, false, false, false, false, false, false, false, false, false, false, false, false, false, false, false, false, false, false, false, false, false, false, false, false, false, false, false, false, false, false, false, false, false, false, false]
def L1 : Array Bool := #[true, true, true, true, true, true, true, true, true, true, false, false, false, false, false, false, false, false, false, false, false, false, false, false, false, false, false, false, false, false, false, false, false, false, false, false, false, false, false, false, false, false, false, false, false, false, false, false, false, false, false, false, false, false, false, false, false, false, false, false, false, false, false, false, false, false, false, false, false, false, false, false, false, false, false, false, false, false, false, false, false, false, false, false, false, false, false, false, false, false, false, false, false, false, false, false]
theorem c0 : Piece ops L0 [(0, true), (1, true), (2, true), (3, false), (4, true), (5, true), (6, true), (7, true), (8, true), (9, true)] L1 := ⟨by kernel_rfl, by kernel_rfl⟩
def L2 : Array Bool := #[true, true, true, true, true, true, true, true, true, true, true, true, true, true, true, true, true, true, true, true, false, false, false, false, false, false, false, false, false, false, false, false, false, false, false, false, false, false, false, false, false, false, false, false, false, false, false, false, false, false, false, false, false, false, false, false, false, false, false, false, false, false, false, false, false, false, false, false, false, false, false, false, false, false, false, false, false, false, false, false, false, false, false, false, false, false, false, false, false, false, false, false, false, false, false, false]
theorem c1 : Piece ops L1 [(10, true), (11, true), (12, true), (15, true), (13, false), (14, true), (16, false), (17, true), (18, true), (19, true)] L2 := ⟨by kernel_rfl, by kernel_rfl⟩
def L3 : Array Bool := #[true, true, true, true, true, true, true, true, true, true, true, true, true, true, true, true, true, true, true, true, true, true, true, true, true, true, true, true, true, true, false, false, false, false, false, false, false, false, false, false, false, false, false, false, false, false, false, false, false, false, false, false, false, false, false, false, false, false, false, false, false, false, false, false, false, false, false, false, false, false, false, false, false, false, false, false, false, false, false, false, false, false, false, false, false, false, false, false, false, false, false, false, false, false, false, false]
theorem c2 : Piece ops L2 [(20, true), (21, true), (22, true), (23, true), (24, false), (25, true), (26, true), (27, true), (28, true), (29, true)] L3 := ⟨by kernel_rfl, by kernel_rfl⟩
def L4 : Array Bool := #[true, true, true, true, true, true, true, true, true, true, true, true, true, true, true, true, true, true, true, true, true, true, true, true, true, true, true, true, true, true, true, true, true, true, true, true, true, true, true, true, false, false, false, false, false, false, false, false, false, false, false, false, false, false, false, false, false, false, false, false, false, false, false, false, false, false, false, false, false, false, false, false, false, false, false, false, false, false, false, false, false, false, false, false, false, false, false, false, false, false, false, false, false, false, false, false]
theorem c3 : Piece ops L3 [(30, true), (31, true), (32, true), (33, true), (34, true), (37, true), (35, false), (36, true), (38, false), (39, true)] L4 := ⟨by kernel_rfl, by kernel_rfl⟩
def L5 : Array Bool := #[true, true, true, true, true, true, true, true, true, true, true, true, true, true, true, true, true, true, true, true, true, true, true, true, true, true, true, true, true, true, true, true, true, true, true, true, true, true, true, true, true, true, true, true, true, true, true, true, true, true, false, false, false, false, false, false, false, false, false, false, false, false, false, false, false, false, false, false, false, false, false, false, false, false, false, false, false, false, false, false, false, false, false, false, false, false, false, false, false, false, false, false, false, false, false, false]
theorem c4 : Piece ops L4 [(40, true), (41, true), (42, true), (43, true), (44, true), (45, true), (46, false), (47, true), (48, true), (49, true)] L5 := ⟨by kernel_rfl, by kernel_rfl⟩
def L6 : Array Bool := #[true, true, true, true, true, true, true, true, true, true, true, true, true, true, true, true, true, true, true, true, true, true, true, true, true, true, true, true, true, true, true, true, true, true, true, true, true, true, true, true, true, true, true, true, true, true, true, true, true, true, true, true, true, true, true, true, true, true, true, true, false, false, false, false, false, false, false, false, false, false, false, false, false, false, false, false, false, false, false, false, false, false, false, false, false, false, false, false, false, false, false, false, false, false, false, false]
theorem c5 : Piece ops L5 [(50, true), (51, true), (52, true), (53, false), (54, true), (55, true), (56, true), (57, true), (58, true), (59, true)] L6 := ⟨by kernel_rfl, by kernel_rfl⟩
def L7 : Array Bool := #[true, true, true, true, true, true, true, true, true, true, true, true, true, true, true, true, true, true, true, true, true, true, true, true, true, true, true, true, true, true, true, true, true, true, true, true, true, true, true, true, true, true, true, true, true, true, true, true, true, true, true, true, true, true, true, true, true, true, true, true, true, true, true, true, true, true, true, true, true, true, false, false, false, false, false, false, false, false, false, false, false, false, false, false, false, false, false, false, false, false, false, false, false, false, false, false]
theorem c6 : Piece ops L6 [(60, false), (61, true), (62, true), (63, true), (64, true), (65, true), (66, true), (67, false), (68, true), (69, true)] L7 := ⟨by kernel_rfl, by kernel_rfl⟩
def L8 : Array Bool := #[true, true, true, true, true, true, true, true, true, true, true, true, true, true, true, true, true, true, true, true, true, true, true, true, true, true, true, true, true, true, true, true, true, true, true, true, true, true, true, true, true, true, true, true, true, true, true, true, true, true, true, true, true, true, true, true, true, true, true, true, true, true, true, true, true, true, true, true, true, true, true, true, true, true, true, true, true, true, true, true, false, false, false, false, false, false, false, false, false, false, false, false, false, false, false, false]
theorem c7 : Piece ops L7 [(70, true), (71, true), (72, true), (73, true), (74, true), (75, true), (76, true), (79, true), (77, false), (78, true)] L8 := ⟨by kernel_rfl, by kernel_rfl⟩
def L9 : Array Bool := #[true, true, true, true, true, true, true, true, true, true, true, true, true, true, true, true, true, true, true, true, true, true, true, true, true, true, true, true, true, true, true, true, true, true, true, true, true, true, true, true, true, true, true, true, true, true, true, true, true, true, true, true, true, true, true, true, true, true, true, true, true, true, true, true, true, true, true, true, true, true, true, true, true, true, true, true, true, true, true, true, true, true, true, true, true, true, true, true, true, true, false, false, false, false, false, false]
theorem c8 : Piece ops L8 [(80, true), (81, true), (82, true), (83, true), (84, true), (85, true), (86, true), (87, true), (88, true), (89, true)] L9 := ⟨by kernel_rfl, by kernel_rfl⟩
def L10 : Array Bool := #[true, true, true, true, true, true, true, true, true, true, true, true, true, true, true, true, true, true, true, true, true, true, true, true, true, true, true, true, true, true, true, true, true, true, true, true, true, true, true, true, true, true, true, true, true, true, true, true, true, true, true, true, true, true, true, true, true, true, true, true, true, true, true, true, true, true, true, true, true, true, true, true, true, true, true, true, true, true, true, true, true, true, true, true, true, true, true, true, true, true, true, true, true, true, true, true]
theorem c9 : Piece ops L9 [(92, true), (90, false), (91, true), (93, true), (94, true), (95, true)] L10 := ⟨by kernel_rfl, by kernel_rfl⟩
theorem line : Piece ops L0 [(0, true), (1, true), (2, true), (3, false), (4, true), (5, true), (6, true), (7, true), (8, true), (9, true), (10, true), (11, true), (12, true), (15, true), (13, false), (14, true), (16, false), (17, true), (18, true), (19, true), (20, true), (21, true), (22, true), (23, true), (24, false), (25, true), (26, true), (27, true), (28, true), (29, true), (30, true), (31, true), (32, true), (33, true), (34, true), (37, true), (35, false), (36, true), (38, false), (39, true), (40, true), (41, true), (42, true), (43, true), (44, true), (45, true), (46, false), (47, true), (48, true), (49, true), (50, true), (51, true), (52, true), (53, false), (54, true), (55, true), (56, true), (57, true), (58, true), (59, true), (60, false), (61, true), (62, true), (63, true), (64, true), (65, true), (66, true), (67, false), (68, true), (69, true), (70, true), (71, true), (72, true), (73, true), (74, true), (75, true), (76, true), (79, true), (77, false), (78, true), (80, true), (81, true), (82, true), (83, true), (84, true), (85, true), (86, true), (87, true), (88, true), (89, true), (92, true), (90, false), (91, true), (93, true), (94, true), (95, true)] L10 := c0.app (c1.app (c2.app (c3.app (c4.app (c5.app (c6.app (c7.app (c8.app (c9)))))))))
theorem noSel : Region.noSelect ops = true := by kernel_rfl
theorem start : Array.replicate ops.size false = L0 := by kernel_rfl
theorem done : (Region.ready .any ops L10).isEmpty = true := by kernel_rfl
end Go.Proofs.YtepailfhagaboaaGreatDoor.fnHellos
namespace Go.Proofs.YtepailfhagaboaaGreatDoor
open Go.ChangeShapes Go.WideShapes Go.ChangeAt Go.RowKit

theorem own : ownKnob Tryz.prog.godebug = none := by kernel_rfl
theorem laidOut : laidOutB Tryz.prog = true := by kernel_rfl

/-- Each named variable is there, and its type can be read. -/
def varsOk (P : Program) (names : List String) : Bool :=
  names.all fun n => match P.globalNamed n with
    | some g => match (P.globals[g]?).map (·.type) with
      | some t => P.readableRec t && decide (t < P.types.size)
      | Option.none => false
    | Option.none => false
theorem vars_keep {H : Type} {enc : TypeId × Value → H} {P : Program} (hl : laidOutB P = true) {W W' : World} (bel : Below W.heap.size W W') : ∀ (names : List String) (gs : List (DataW H)) (q : List MemPlace),
    varsOk P names = true → DataW.TrodVars enc P W (fun _ => true) names gs q → (∀ x ∈ q, x.block < W.heap.size) → DataW.TrodVars enc P W' (fun b => decide (b < W.heap.size)) names gs q
  | [], gs, q, _, h, _ => by
    obtain ⟨rfl, rfl⟩ := trodVars_none h
    exact rfl
  | n :: r, [], q, _, h, _ => by simp [DataW.TrodVars] at h
  | n :: r, d :: ds, q, hok, h, hlt => by
    obtain ⟨g, t, cs, fuel, p, q2, h1, h2, h3, h4, h5, rfl⟩ := h
    simp only [varsOk, List.all_cons, Bool.and_eq_true] at hok
    obtain ⟨ho, hor⟩ := hok
    simp only [h1, h2, Bool.and_eq_true, decide_eq_true_eq] at ho
    have hg : g < W.heap.size := by
      rcases Nat.lt_or_ge g W.heap.size with hlt | hge
      · exact hlt
      · simp [World.var?, h1, Array.getElem?_eq_none hge] at h3
    have hT : DataW.Trod enc P W 0 (fun _ => true) true t (.agg cs) d p := ⟨fuel, h4⟩
    obtain ⟨fuel', h4'⟩ := Below.trod hl ho.1 ho.2 hT bel (fun x hx => hlt x (by simp [hx]))
    exact ⟨g, t, cs, fuel', p, q2, h1, h2, var?_below bel h1 hg h3, h4', vars_keep hl bel r ds q2 hor h5 (fun x hx => hlt x (by simp [hx])), rfl⟩

/-- An array of words that reads as it is listed holds these words, cell for cell. -/
theorem cells_of_words {H : Type} {enc : TypeId × Value → H} {P : Program} {w : World} {base : Nat} {sp : Nat → Bool} {held : Bool} {fuel : Nat} {t e : TypeId} {n : Nat} {cs : List Value} {ss : List (List UInt8)} {p : List MemPlace}
    (ht : P.underlying t = some (.array n e)) (he : P.underlying e = some .string) (hce : P.cellsOf e = 1) (hct : P.cellsOf t = n)
    (h : DataW.trod enc P w base sp held fuel t cs = some (.agg (ss.map fun s => .lit (.string s)), p)) : cs = ss.map fun s => Value.string ⟨s.toArray⟩ := by
  cases fuel with
  | zero => simp [DataW.trod] at h
  | succ fuel =>
    simp only [DataW.trod, ht, hce, hct, Nat.mul_one] at h
    split at h
    · rename_i hl
      obtain ⟨xs, hm, hx⟩ := Option.map_eq_some_iff.1 h
      have hxs : xs.map (·.1) = ss.map fun s => (DataW.lit (.string s) : DataW H) := by
        have := congrArg Prod.fst hx
        simpa using this
      have hxl : xs.length = n := by simpa using Lib.mapM_length hm
      have hzl : ss.length = n := by
        have := congrArg List.length hxs
        simp at this
        omega
      apply List.ext_getElem?
      intro i
      by_cases hi : i < n
      · obtain ⟨b, hb, hf⟩ := Lib.mapM_at hm i i (by simp [hi])
        obtain ⟨s, hc, rfl, _⟩ := DataW.trod_string he hf
        have h1 : cs[i]? = some (.string s) := by
          have := congrArg (·[0]?) hc
          simpa [List.getElem?_take, List.getElem?_drop] using this
        have h2 : (xs.map (·.1))[i]? = some (DataW.lit (.string s.data.toList) : DataW H) := by simp [hb]
        rw [hxs] at h2
        simp only [List.getElem?_map, Option.map_eq_some_iff, DataW.lit.injEq, Lit.string.injEq] at h2
        obtain ⟨z', hz', e'⟩ := h2
        rw [h1]
        simp [hz', e']
      · rw [List.getElem?_eq_none (by omega), List.getElem?_eq_none (by simp; omega)]
    · cases h

theorem gLabels : Tryz.prog.globalNamed "loop.example/g00618/impl.labels" = some 1 := by kernel_rfl
theorem gLabelsType : (Tryz.prog.globals[1]?).map (·.type) = some 91 := by kernel_rfl
theorem cLabels : Tryz.prog.cellsOf 91 = 7 := by kernel_rfl
theorem cWord : Tryz.prog.cellsOf 9 = 1 := by kernel_rfl
/-- What the listed datum of the labels gives a walk. -/
theorem Labels_of {W : World} (h : laidMet Tryz.prog [("loop.example/g00618/impl.labels", Rows.laid_loop_example_g00618_impl_labels)] W) : Labels W := by
  obtain ⟨ps, ⟨g, t, cs, fuel, p, q, hg, ht, hvar, hd, _, _⟩, _⟩ := h
  obtain rfl := Option.some.inj (gLabels.symm.trans hg)
  obtain rfl := Option.some.inj (gLabelsType.symm.trans ht)
  have e := cells_of_words (ss := [[115, 116, 114, 101, 97, 109], [104, 101, 97, 114, 100], [110, 111, 110, 99, 101], [115, 105, 103, 110], [109, 97, 99], [115, 101, 97, 108], [115, 112, 107, 105]]) Tryz.underlying91 Tryz.underlying9 cWord cLabels hd
  have c := fun i => World.var?_cell hg hvar i
  have a0 : cs[0]? = some (.string M.streamS) := by rw [← Array.getElem?_toList, e]; rfl
  have a1 : cs[1]? = some (.string M.heardS) := by rw [← Array.getElem?_toList, e]; rfl
  have a2 : cs[2]? = some (.string M.nonceS) := by rw [← Array.getElem?_toList, e]; rfl
  have a3 : cs[3]? = some (.string M.signS) := by rw [← Array.getElem?_toList, e]; rfl
  have a4 : cs[4]? = some (.string M.macS) := by rw [← Array.getElem?_toList, e]; rfl
  have a5 : cs[5]? = some (.string M.sealS) := by rw [← Array.getElem?_toList, e]; rfl
  have a6 : cs[6]? = some (.string M.spkiS) := by rw [← Array.getElem?_toList, e]; rfl
  exact ⟨(c 0).trans a0, (c 1).trans a1, (c 2).trans a2, (c 3).trans a3, (c 4).trans a4, (c 5).trans a5, (c 6).trans a6⟩
theorem Labels_laid {W : World} (h : laidMetH Tryz.prog [("loop.example/g00618/impl.labels", Rows.laid_loop_example_g00618_impl_labels)] W) : Labels W := Labels_of h

theorem gErrT : Tryz.prog.globalNamed "errors.errorType" = some 2 := by kernel_rfl
theorem rtErrT : (Tryz.prog.cutTypes.find? (·.1 == "internal/reflectlite.rtype")).map (·.2) = some 177 := by kernel_rfl
theorem rowErrT : ((List.range 237).filter fun t => Tryz.prog.rowNamed t [101, 114, 114, 111, 114]) = [73] := by kernel_rfl
theorem sizeErrT : Tryz.prog.types.size = 237 := by kernel_rfl
/-- What the listed handle gives a walk: the variable's one cell. -/
theorem ErrT_of {W : World} (h : handlesMet Tryz.prog [("errors.errorType", Rows.laid_errors_errorType)] W) : ErrT W := by
  obtain ⟨name, u, ty, e1, e2, e3, e4, e5⟩ := h _ (List.mem_singleton.2 rfl)
  have en : name = [101, 114, 114, 111, 114] := (Option.some.inj e1).symm
  subst en
  obtain rfl := Option.some.inj (rtErrT.symm.trans e2)
  have hm : ty ∈ (List.range 237).filter fun t => Tryz.prog.rowNamed t [101, 114, 114, 111, 114] := List.mem_filter.2 ⟨List.mem_range.2 (by rw [← sizeErrT]; exact e3), e4⟩
  rw [rowErrT] at hm
  obtain rfl := List.mem_singleton.1 hm
  have hh : typeHandle Tryz.prog 73 = .pointer (some ⟨7, 73, none⟩) := by kernel_rfl
  rw [hh] at e5
  exact ⟨by simpa using World.var?_cell gErrT e5 0⟩
theorem ErrT_laid {W : World} (h : laidMetH Tryz.prog [("errors.errorType", Rows.laid_errors_errorType)] W) : ErrT W := ErrT_of (show laidMet Tryz.prog [] W ∧ handlesMet Tryz.prog [("errors.errorType", Rows.laid_errors_errorType)] W from h).2
theorem both_laid {W : World} (h : laidMetH Tryz.prog [("errors.errorType", Rows.laid_errors_errorType), ("loop.example/g00618/impl.labels", Rows.laid_loop_example_g00618_impl_labels)] W) : Labels W ∧ ErrT W := by
  have h' : laidMet Tryz.prog [("loop.example/g00618/impl.labels", Rows.laid_loop_example_g00618_impl_labels)] W ∧ handlesMet Tryz.prog [("errors.errorType", Rows.laid_errors_errorType)] W := h
  exact ⟨Labels_of h'.1, ErrT_of h'.2⟩

/-- A world for the witness: the settled one, its tables holding what their initialisers lay. -/
noncomputable def laidWorld (os : Os) : World :=
  { World.holding Tryz.prog os ⟨#[], #[], []⟩ with heap := ((World.holding Tryz.prog os ⟨#[], #[], []⟩).heap
       |>.modify 1 (fun | .cells _ t frozen => .cells #[.string M.streamS, .string M.heardS, .string M.nonceS, .string M.signS, .string M.macS, .string M.sealS, .string M.spkiS] t frozen | o => o)
       |>.modify 2 (fun | .cells _ t frozen => .cells #[.iface 177 (.agg #[.pointer (some ⟨7, 73, none⟩)])] t frozen | o => o)
    ) }
end Go.Proofs.YtepailfhagaboaaGreatDoor
namespace Go.Proofs.YtepailfhagaboaaGreatDoor
open Go.ChangeShapes Go.WideShapes Go.ChangeAt Go.RowKit

/-- What the rows list: with the labels (the variable at block 1). -/
def listL : List (String × DataW Unit) := [("unicode/utf8.acceptRanges", Rows.laid_unicode_utf8_acceptRanges), ("loop.example/g00618/impl.labels", Rows.laid_loop_example_g00618_impl_labels), ("unicode.CaseRanges", Rows.laid_unicode_CaseRanges), ("unicode/utf8.first", Rows.laid_unicode_utf8_first)]
/-- Without them. -/
def listN : List (String × DataW Unit) := [("unicode/utf8.acceptRanges", Rows.laid_unicode_utf8_acceptRanges), ("unicode.CaseRanges", Rows.laid_unicode_CaseRanges), ("unicode/utf8.first", Rows.laid_unicode_utf8_first)]

theorem laid_mem {P : Program} {w : World} : ∀ (l : List (String × DataW Unit)) (ps : List MemPlace), DataW.LaidVars P w l ps → ∀ n d, (n, d) ∈ l →
    ∃ g t cs fuel p, P.globalNamed n = some g ∧ (P.globals[g]?).map (·.type) = some t ∧ w.var? P n = some cs ∧ DataW.trod (fun _ => ()) P w 0 (fun _ => true) false fuel t cs.toList = some (d, p)
  | [], _, _, n, d, h => by cases h
  | (n', d') :: r, ps, ⟨g, t, cs, fuel, p, q, h1, h2, h3, h4, h5, _⟩, n, d, h => by
    rcases List.mem_cons.1 h with e | h
    · injection e with e1 e2
      subst e1
      subst e2
      exact ⟨g, t, cs, fuel, p, h1, h2, h3, h4⟩
    · exact laid_mem r q h5 n d h
theorem Labels_tabs {W : World} (h : laidMetH Tryz.prog listL W) : Labels W := by
  rw [MakeChecks.laidMetH_plain _ _ _ (by kernel_rfl)] at h
  obtain ⟨ps, hv, _⟩ := h
  obtain ⟨g, t, cs, fuel, p, hg, ht, hvar, hd⟩ := laid_mem _ _ hv "loop.example/g00618/impl.labels" Rows.laid_loop_example_g00618_impl_labels (List.mem_cons_of_mem _ (List.mem_cons_self ..))
  obtain rfl := Option.some.inj (gLabels.symm.trans hg)
  obtain rfl := Option.some.inj (gLabelsType.symm.trans ht)
  have e := cells_of_words (ss := [[115, 116, 114, 101, 97, 109], [104, 101, 97, 114, 100], [110, 111, 110, 99, 101], [115, 105, 103, 110], [109, 97, 99], [115, 101, 97, 108], [115, 112, 107, 105]]) Tryz.underlying91 Tryz.underlying9 cWord cLabels hd
  have c := fun i => World.var?_cell hg hvar i
  have a0 : cs[0]? = some (.string M.streamS) := by rw [← Array.getElem?_toList, e]; rfl
  have a1 : cs[1]? = some (.string M.heardS) := by rw [← Array.getElem?_toList, e]; rfl
  have a2 : cs[2]? = some (.string M.nonceS) := by rw [← Array.getElem?_toList, e]; rfl
  have a3 : cs[3]? = some (.string M.signS) := by rw [← Array.getElem?_toList, e]; rfl
  have a4 : cs[4]? = some (.string M.macS) := by rw [← Array.getElem?_toList, e]; rfl
  have a5 : cs[5]? = some (.string M.sealS) := by rw [← Array.getElem?_toList, e]; rfl
  have a6 : cs[6]? = some (.string M.spkiS) := by rw [← Array.getElem?_toList, e]; rfl
  exact ⟨(c 0).trans a0, (c 1).trans a1, (c 2).trans a2, (c 3).trans a3, (c 4).trans a4, (c 5).trans a5, (c 6).trans a6⟩

theorem witness_tabs {H : Type} {enc : TypeId × Value → H} {C : Checked} {os : Os} {f : FuncId} {fn : Func} {s : OpenSpec} {conds : List PathCond} {apart : Bool} {laid : List (String × DataW Unit)} (modest : Bool) (w0 : World) (args : Array Value) (hos : w0.os = os)
    (hsh : (w0.forCall (fun _ _ => 0) ⟨#[], args, []⟩).Shaped C.prog)
    (hok : Input.okWideB C.prog (w0.forCall (fun _ _ => 0) ⟨#[], args, []⟩) f ⟨#[], args, []⟩ = true)
    (hrow : s.preRow enc C.prog fn conds apart laid (w0.forCall (fun _ _ => 0) ⟨#[], args, []⟩).memory args) :
    ∃ (w : World) (tape : Tape) (i : Input), w.os = os ∧ (w.forCall tape i).Shaped C.prog ∧ i.vars = [] ∧ Input.okWide C.prog (w.forCall tape i) .any w.heap.size f i ∧
      s.preRow enc C.prog fn conds apart laid (w.forCall tape i).memory i.args ∧ ({ modest := modest } : Assume).holds C.prog (lone (Frame.enter C.prog f i.args .normal) [] (w.forCall tape i)) :=
  ⟨w0, fun _ _ => 0, ⟨#[], args, []⟩, hos, hsh, (Input.okWide_of_okWideB (base := 0) hok).1, (Input.okWide_of_okWideB hok).2, hrow, by
    simp only [Assume.holds]
    exact ⟨by simp, by simp, fun _ => Modest.zero, by simp, by simp⟩⟩

theorem shapedL (os : Os) (args : Array Value) : ((World.laidAll Tryz.prog os listL).forCall (fun _ _ => 0) ⟨#[], args, []⟩).Shaped Tryz.prog := World.shaped_of_ZipB (by kernel_rfl) (by kernel_rfl)
theorem metL (os : Os) (args : Array Value) : laidMetH Tryz.prog listL ((World.laidAll Tryz.prog os listL).forCall (fun _ _ => 0) ⟨#[], args, []⟩).memory := by
  rw [MakeChecks.laidMetH_plain _ _ _ (by kernel_rfl)]
  exact laidMet_laidAll _ (by kernel_rfl) (by kernel_rfl)

theorem shapedN (os : Os) (args : Array Value) : ((World.laidAll Tryz.prog os listN).forCall (fun _ _ => 0) ⟨#[], args, []⟩).Shaped Tryz.prog := World.shaped_of_ZipB (by kernel_rfl) (by kernel_rfl)
theorem metN (os : Os) (args : Array Value) : laidMetH Tryz.prog listN ((World.laidAll Tryz.prog os listN).forCall (fun _ _ => 0) ⟨#[], args, []⟩).memory := by
  rw [MakeChecks.laidMetH_plain _ _ _ (by kernel_rfl)]
  exact laidMet_laidAll _ (by kernel_rfl) (by kernel_rfl)

end Go.Proofs.YtepailfhagaboaaGreatDoor
namespace Go.Proofs.YtepailfhagaboaaGreatDoor
open Go.ChangeShapes Go.WideShapes Go.ChangeAt Go.RowKit

theorem gErrU : Tryz.prog.globalNamed "loop.example/g00618/impl.errUnread" = some 0 := by kernel_rfl
theorem gErrUType : (Tryz.prog.globals[0]?).map (·.type) = some 73 := by kernel_rfl
theorem ErrU_of {W : World} {l : List (String × DataW Unit)} {ps : List MemPlace} (hv : DataW.LaidVars Tryz.prog W l ps) (hm : ("loop.example/g00618/impl.errUnread", Rows.laid_loop_example_g00618_impl_errUnread) ∈ l) : ErrU W := by
  obtain ⟨g, t, cs, fuel, p, hg, ht, hvar, hd⟩ := laid_mem _ _ hv _ _ hm
  obtain rfl := Option.some.inj (gErrU.symm.trans hg)
  obtain rfl := Option.some.inj (gErrUType.symm.trans ht)
  obtain ⟨fuel', u, v, hcs, -, -⟩ := iface_of_trod Tryz.underlying73 hd
  have c0 := World.var?_cell hg hvar 0
  have a0 : cs[0]? = some (.iface u v) := by rw [← Array.getElem?_toList, hcs]; rfl
  exact ⟨u, v, ⟨c0.trans a0⟩⟩
/-- What the rows list: that error alone. -/
def listU : List (String × DataW Unit) := [("loop.example/g00618/impl.errUnread", Rows.laid_loop_example_g00618_impl_errUnread)]
theorem ErrU_laid {W : World} (h : laidMetH Tryz.prog listU W) : ErrU W := by
  rw [MakeChecks.laidMetH_plain _ _ _ (by kernel_rfl)] at h
  obtain ⟨ps, hv, _⟩ := h
  exact ErrU_of hv (List.mem_cons_self ..)
theorem shapedU (os : Os) (args : Array Value) : ((World.laidAll Tryz.prog os listU).forCall (fun _ _ => 0) ⟨#[], args, []⟩).Shaped Tryz.prog := World.shaped_of_ZipB (by kernel_rfl) (by kernel_rfl)
theorem metU (os : Os) (args : Array Value) : laidMetH Tryz.prog listU ((World.laidAll Tryz.prog os listU).forCall (fun _ _ => 0) ⟨#[], args, []⟩).memory := by
  rw [MakeChecks.laidMetH_plain _ _ _ (by kernel_rfl)]
  exact laidMet_laidAll _ (by kernel_rfl) (by kernel_rfl)
end Go.Proofs.YtepailfhagaboaaGreatDoor
namespace Go.Proofs.YtepailfhagaboaaGreatDoor
open Go.ChangeShapes Go.WideShapes Go.ChangeAt Go.RowKit

/-- What the row lists; the same without the handle. -/
def listA : List (String × DataW Unit) := [("unicode/utf8.acceptRanges", Rows.laid_unicode_utf8_acceptRanges), ("errors.errorType", Rows.laid_errors_errorType), ("loop.example/g00618/impl.labels", Rows.laid_loop_example_g00618_impl_labels), ("loop.example/g00618/impl.errUnread", Rows.laid_loop_example_g00618_impl_errUnread), ("unicode.CaseRanges", Rows.laid_unicode_CaseRanges), ("unicode/utf8.first", Rows.laid_unicode_utf8_first)]
def listB : List (String × DataW Unit) := [("unicode/utf8.acceptRanges", Rows.laid_unicode_utf8_acceptRanges), ("loop.example/g00618/impl.labels", Rows.laid_loop_example_g00618_impl_labels), ("loop.example/g00618/impl.errUnread", Rows.laid_loop_example_g00618_impl_errUnread), ("unicode.CaseRanges", Rows.laid_unicode_CaseRanges), ("unicode/utf8.first", Rows.laid_unicode_utf8_first)]
theorem listA_handle : (listA.filter fun x => x.2.handleName?.isSome) = [("errors.errorType", Rows.laid_errors_errorType)] := by kernel_rfl
theorem listA_plain : (listA.filter fun x => x.2.handleName?.isNone) = listB := by kernel_rfl
theorem all_laid {W : World} (h : laidMetH Tryz.prog listA W) : laidMet Tryz.prog listB W ∧ handlesMet Tryz.prog [("errors.errorType", Rows.laid_errors_errorType)] W := by
  unfold laidMetH at h
  rw [listA_handle, listA_plain] at h
  exact h
theorem ErrT_all {W : World} (h : laidMetH Tryz.prog listA W) : ErrT W := ErrT_of (all_laid h).2
theorem ErrU_all {W : World} (h : laidMetH Tryz.prog listA W) : ErrU W := by
  obtain ⟨ps, hv, _⟩ := (all_laid h).1
  exact ErrU_of hv (List.mem_cons_of_mem _ (List.mem_cons_of_mem _ (List.mem_cons_self ..)))
theorem Labels_all {W : World} (h : laidMetH Tryz.prog listA W) : Labels W := by
  obtain ⟨ps, hv, _⟩ := (all_laid h).1
  obtain ⟨g, t, cs, fuel, p, hg, ht, hvar, hd⟩ := laid_mem _ _ hv "loop.example/g00618/impl.labels" Rows.laid_loop_example_g00618_impl_labels (List.mem_cons_of_mem _ (List.mem_cons_self ..))
  obtain rfl := Option.some.inj (gLabels.symm.trans hg)
  obtain rfl := Option.some.inj (gLabelsType.symm.trans ht)
  have e := cells_of_words (ss := [[115, 116, 114, 101, 97, 109], [104, 101, 97, 114, 100], [110, 111, 110, 99, 101], [115, 105, 103, 110], [109, 97, 99], [115, 101, 97, 108], [115, 112, 107, 105]]) Tryz.underlying91 Tryz.underlying9 cWord cLabels hd
  have c := fun i => World.var?_cell hg hvar i
  have a0 : cs[0]? = some (.string M.streamS) := by rw [← Array.getElem?_toList, e]; rfl
  have a1 : cs[1]? = some (.string M.heardS) := by rw [← Array.getElem?_toList, e]; rfl
  have a2 : cs[2]? = some (.string M.nonceS) := by rw [← Array.getElem?_toList, e]; rfl
  have a3 : cs[3]? = some (.string M.signS) := by rw [← Array.getElem?_toList, e]; rfl
  have a4 : cs[4]? = some (.string M.macS) := by rw [← Array.getElem?_toList, e]; rfl
  have a5 : cs[5]? = some (.string M.sealS) := by rw [← Array.getElem?_toList, e]; rfl
  have a6 : cs[6]? = some (.string M.spkiS) := by rw [← Array.getElem?_toList, e]; rfl
  exact ⟨(c 0).trans a0, (c 1).trans a1, (c 2).trans a2, (c 3).trans a3, (c 4).trans a4, (c 5).trans a5, (c 6).trans a6⟩
theorem trodVars_two {H : Type} {enc : TypeId × Value → H} {P : Program} {w : World} {spare : Nat → Bool} {n m : String} {gs : List (DataW H)} {ps : List MemPlace} (h : DataW.TrodVars enc P w spare [n, m] gs ps) : ∃ g1 g2, gs = [g1, g2] := by
  match gs, h with
  | [], h => simp [DataW.TrodVars] at h
  | [d], h =>
    obtain ⟨g, t, cs, fuel, p, q, h1, h2, h3, h4, hs, e⟩ := h
    simp [DataW.TrodVars] at hs
  | [d1, d2], h => exact ⟨d1, d2, rfl⟩
  | d1 :: d2 :: d3 :: r, h =>
    obtain ⟨g, t, cs, fuel, p, q, h1, h2, h3, h4, hs, e⟩ := h
    obtain ⟨g, t, cs, fuel, p, q, h1, h2, h3, h4, hs, e⟩ := hs
    simp [DataW.TrodVars] at hs

/-- A world with the handle in its place. -/
noncomputable def heldW (os : Os) : World :=
  { World.holding Tryz.prog os ⟨#[], #[], []⟩ with heap := (World.holding Tryz.prog os ⟨#[], #[], []⟩).heap.modify 2 (fun | .cells _ t frozen => .cells #[.iface 177 (.agg #[.pointer (some ⟨7, 73, none⟩)])] t frozen | o => o) }
noncomputable def laidA (os : Os) : World := (heldW os).layVars Tryz.prog listB
theorem laidA_os (os : Os) : (laidA os).os = os := World.layVars_os _ _ _
theorem laidMet_on {P : Program} {w0 : World} {laid : List (String × DataW Unit)} (args : Array Value) (hf : w0.layFits P laid [] = true) (hi : w0.layIfaces P laid (w0.layVars P laid) = true) :
    laidMet P laid ((w0.layVars P laid).forCall (fun _ _ => 0) ⟨#[], args, []⟩).memory := by
  have e1 : (laid.filter fun x => (laid.map (·.1)).contains x.1) = laid := List.filter_eq_self.2 fun x hx => List.contains_iff_mem.2 (List.mem_map.2 ⟨x, hx, rfl⟩)
  have e2 : (laid.filter fun x => !(laid.map (·.1)).contains x.1) = [] := List.filter_eq_nil_iff.2 fun x hx => by rw [List.contains_iff_mem.2 (List.mem_map.2 ⟨x, hx, rfl⟩)]; simp
  have h : laidMet P laid (w0.layVars P laid) := laidMet_layVars (w0 := w0) (laid.map (·.1)) [] (by rw [e1]) (by rw [e1]; exact hf) (by rw [e1]; exact hi) (by rw [e2]; exact LaidIn.none)
  exact h.of_heap (by simp [World.memory, World.forCall, Input.heap])
theorem shapedA (os : Os) (args : Array Value) : ((laidA os).forCall (fun _ _ => 0) ⟨#[], args, []⟩).Shaped Tryz.prog := World.shaped_of_ZipB (by kernel_rfl) (by kernel_rfl)
theorem metA (os : Os) (args : Array Value) : laidMetH Tryz.prog listA ((laidA os).forCall (fun _ _ => 0) ⟨#[], args, []⟩).memory :=
  laidMetH_of_parts (by rw [listA_plain]; exact laidMet_on args (by kernel_rfl) (by kernel_rfl)) (by rw [listA_handle]; kernel_rfl)
end Go.Proofs.YtepailfhagaboaaGreatDoor
