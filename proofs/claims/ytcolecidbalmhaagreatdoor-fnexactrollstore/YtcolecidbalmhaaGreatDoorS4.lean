/- Texts of this seat that several laws rest on, laid into one. Conditions: as each theorem states. -/
import Derived.Test.YtcolecidbalmhaaGreatDoorS0
import Derived.Test.YtcolecidbalmhaaGreatDoorS1
import Derived.Test.YtcolecidbalmhaaGreatDoorS2
import Derived.Scope
import Derived.WalkMore
import Derived.Lib.IndexBytes
import Derived.Test.YtcolecidbalmhaaGreatDoorProg
import Derived.Shelf.Strings.OnBuilder
import Derived.Shelf.Strings.Prefix
namespace Go.Proofs.YtcolecidbalmhaaGreatDoor
open Go Go.RowKit

/-- As Q; by a goto: what is held at its label. -/
def jumps (J : Nat → Act → World → Prop) (Q : Exit → Act → World → Prop) : Exit → Act → World → Prop
  | .goto l, a, w => J l a w
  | e, a, w => Q e a w

theorem wp_scope_labels {P : Program} {a : Act} {w : World} {Q : Exit → Act → World → Prop} {c : Code} (J : Nat → Act → World → Prop) (m : Nat → Act → World → Nat)
    (first : c.wp P (jumps J Q) a w)
    (pass : ∀ l a w, J l a w → ∃ rest, findLabel c l = some rest ∧ rest.wp P (jumps (fun l' a' w' => J l' a' w' ∧ m l' a' w' < m l a w) Q) a w) : (Code.scope c).wp P Q a w := by
  intro b k cs
  have key : ∀ n l a w, m l a w = n → J l a w → ∃ rest, findLabel c l = some rest ∧ ∃ e a' w', Q e a' w' ∧ Arrives P (lone (b.at a (.code rest :: .inScope c :: k)) cs w) b k cs e a' w' := by
    intro n
    induction n using Nat.strongRecOn with
    | _ n ih =>
      intro l a w hn hJ
      obtain ⟨rest, hf, hp⟩ := pass l a w hJ
      refine ⟨rest, hf, ?_⟩
      obtain ⟨e, a₁, w₁, hq, harr⟩ := hp b (.inScope c :: k) cs
      cases e with
      | normal => exact ⟨.normal, a₁, w₁, hq, Steps.trans harr (.one step_inScope)⟩
      | exit id => exact ⟨.exit id, a₁, w₁, hq, fun k' hk => harr k' (by simp [exitTo, hk])⟩
      | goto l' =>
        obtain ⟨hJ', hlt⟩ := hq
        obtain ⟨rest', hf', e₂, a₂, w₂, hq₂, harr₂⟩ := ih _ (by omega) l' a₁ w₁ rfl hJ'
        have hg : gotoIn l' (.inScope c :: k) = some (.code rest' :: .inScope c :: k) := by simp [gotoIn, hf']
        exact ⟨e₂, a₂, w₂, hq₂, .of_steps (harr _ hg) harr₂⟩
      | ret => exact ⟨_, a₁, w₁, hq, harr⟩
      | panic ch => exact ⟨_, a₁, w₁, hq, harr⟩
      | outgrown => exact ⟨_, a₁, w₁, hq, harr⟩
  obtain ⟨e, a₁, w₁, hq, harr⟩ := first b (.inScope c :: k) cs
  cases e with
  | normal => exact ⟨.normal, a₁, w₁, hq, .head step_scope (Steps.trans harr (.one step_inScope))⟩
  | exit id => exact ⟨.exit id, a₁, w₁, hq, fun k' hk => .head step_scope (harr k' (by simp [exitTo, hk]))⟩
  | goto l' =>
    obtain ⟨rest', hf', e₂, a₂, w₂, hq₂, harr₂⟩ := key _ l' a₁ w₁ rfl hq
    have hg : gotoIn l' (.inScope c :: k) = some (.code rest' :: .inScope c :: k) := by simp [gotoIn, hf']
    exact ⟨e₂, a₂, w₂, hq₂, .of_steps (.head step_scope (harr _ hg)) harr₂⟩
  | ret => exact ⟨_, a₁, w₁, hq, .of_steps (.one step_scope) harr⟩
  | panic ch => exact ⟨_, a₁, w₁, hq, .of_steps (.one step_scope) harr⟩
  | outgrown => exact ⟨_, a₁, w₁, hq, .of_steps (.one step_scope) harr⟩
end Go.Proofs.YtcolecidbalmhaaGreatDoor
namespace Go.Proofs.YtcolecidbalmhaaGreatDoor
open Go.RowKit
set_option maxRecDepth 100000
set_option linter.unusedVariables false

theorem charAt_any (s : ByteArray) (k : Nat) (w : World) (hs : s.size ≤ maxLen) (hk : k ≤ 1000) :
    Calls Tryz.prog 208 #[.string s, .int .i64 k] w fun e w' => e = .returned (.int .i64 (M.chr s.data.toList k)) ∧ w = w' := by
  unfold maxLen at hs
  by_cases hlt : k < s.size
  · have HC := Lib.hid ((M.chr_at s k hlt).trans (M.cls_eq _))
    go_enter Tryz.func208, Tryz.ntmps208
    go_wp2_with fail
    all_goals
      go_ret
      refine ⟨ret_int ?_, rfl⟩
      (try simp only [beq_iff_eq, beq_eq_false_iff_ne, ne_eq] at *)
      rw [HC.out]
      repeat' (first | rfl | omega | split)
  · have HC := Lib.hid (M.chr_end s k (by omega))
    have hge : (s.size : Int) ≤ k := by omega
    go_enter Tryz.func208, Tryz.ntmps208
    go_wp2_with fail
    go_ret
    exact ⟨ret_int HC.out.symm, rfl⟩

/-- What holds where the machine comes to a label. -/
def AtLab (l : List UInt8) : Nat → Nat → Prop
  | 0, k => M.mDot (l.drop k) = M.mDot l
  | 1, k => M.mPlain (l.drop (k + 1)) = M.mDot l
  | 2, k => M.mDash (l.drop (k + 1)) = M.mDot l
  | _, _ => False
def PartsJ (s : ByteArray) (w : World) (lab : Nat) (a' : Act) (w' : World) : Prop :=
  w = w' ∧ ∃ (i : Int) (k : Nat) (u4 u5 u6 u7 u8 u9 u10 u11 u12 u13 u14 u15 u16 u17 u18 u19 u20 u21 u22 u23 u24 u25 u26 u27 u28 u29 u30 u31 u32 u33 u34 u35 : Value), a' = { tmps := #[.string s, undef, .bool false, .int .i64 i, u4, u5, u6, u7, u8, u9, u10, u11, u12, u13, u14, u15, u16, u17, u18, u19, u20, u21, u22, u23, u24, u25, u26, u27, u28, u29, u30, u31, u32, u33, u34, u35], defers := [] } ∧ i = k ∧ k < s.size ∧ AtLab s.data.toList lab k
def placeOf (a : Act) : Nat := (intOf (a.tmps.getD 3 undef)).toNat

theorem hasParts_any (s : ByteArray) (w : World) (hs : s.size ≤ 20) :
    Calls Tryz.prog 153 #[.string s] w fun e w' => e = .returned (.bool (M.mDot s.data.toList)) ∧ w = w' := by
  have hm : s.size ≤ maxLen := by simp only [maxLen]; omega
  have C : ∀ (i : Int) (k : Nat) (c : Int), M.chr s.data.toList k = c → i = k → k ≤ 1000 → ∀ w, Calls Tryz.prog 208 #[.string s, .int .i64 i] w fun e w' => e = .returned (.int .i64 c) ∧ w = w' := by
    intro i k c hc hi hk w
    subst hi
    subst hc
    exact charAt_any s k w hm hk
  have hL : s.data.toList.length = s.size := by simp
  have S := fun k => M.step s.data.toList k
  have h0 : M.mDot (s.data.toList.drop 0) = M.mDot s.data.toList := rfl
  obtain ⟨B, hB⟩ : ∃ B, B = M.mDot s.data.toList := ⟨_, rfl⟩
  have fin : ∀ (b : Bool), b = B → Ending.returned (.bool b) = .returned (.bool (M.mDot s.data.toList)) := fun _ h => by rw [h, hB]
  have HF := Lib.hid fin
  have HB := Lib.hid hB
  clear fin hB
  go_enter Tryz.func153, Tryz.ntmps153
  go_wp2_with fail
  refine wp_scope_labels (PartsJ s w) (fun _ a' _ => s.size - placeOf a') ?_ ?_
  · go_wp2_with fail
    go_step3
    rcases S (0) with ⟨e, hl, d, p, q⟩ | ⟨e, hl, d, p, q⟩ | ⟨e, hl, d, p, q⟩ | ⟨e, hl, d, p, q⟩ | ⟨e, hl, d, p, q⟩ | ⟨e, hl, d, p, q⟩
    · go_wp2_with fail
      refine (C 0 (0) _ e (by omega) (by omega) _).mono ?_
      rintro r w' ⟨rfl, rfl⟩
      have h1 := d.symm.trans h0
      clear e
      go_wp2_with fail
      go_step3
      rcases S (0 + 1) with ⟨e, hl, d, p, q⟩ | ⟨e, hl, d, p, q⟩ | ⟨e, hl, d, p, q⟩ | ⟨e, hl, d, p, q⟩ | ⟨e, hl, d, p, q⟩ | ⟨e, hl, d, p, q⟩ <;> clear S
      · go_wp2_with fail
        refine (C (0 + 1) (0 + 1) _ e (by omega) (by omega) _).mono ?_
        rintro r w' ⟨rfl, rfl⟩
        go_wp2_with fail
        go_step3
        refine ⟨rfl, _, 0 + 1, _, _, _, _, _, _, _, _, _, _, _, _, _, _, _, _, _, _, _, _, _, _, _, _, _, _, _, _, _, _, _, _, rfl, by omega, by omega, ?_⟩
        exact (p.symm).trans h1
      · go_wp2_with fail
        refine (C (0 + 1) (0 + 1) _ e (by omega) (by omega) _).mono ?_
        rintro r w' ⟨rfl, rfl⟩
        go_wp2_with fail
        go_step3
        refine ⟨rfl, _, 0 + 1, _, _, _, _, _, _, _, _, _, _, _, _, _, _, _, _, _, _, _, _, _, _, _, _, _, _, _, _, _, _, _, _, rfl, by omega, by omega, ?_⟩
        exact (p.symm).trans h1
      · go_wp2_with fail
        refine (C (0 + 1) (0 + 1) _ e (by omega) (by omega) _).mono ?_
        rintro r w' ⟨rfl, rfl⟩
        have hlt : (0 + 1) + 1 < (s.size : Int) := by omega
        go_wp2_with fail
        go_step3
        refine ⟨rfl, _, 0 + 1 + 1, _, _, _, _, _, _, _, _, _, _, _, _, _, _, _, _, _, _, _, _, _, _, _, _, _, _, _, _, _, _, _, _, rfl, by omega, by omega, ?_⟩
        exact (p.symm).trans h1
      · go_wp2_with fail
        refine (C (0 + 1) (0 + 1) _ e (by omega) (by omega) _).mono ?_
        rintro r w' ⟨rfl, rfl⟩
        have hlt : ¬ (0 + 1) + 1 < (s.size : Int) := by omega
        go_wp2_with fail
        simp only [jumps]
        go_ret
        exact ⟨HF.out _ ((p.symm).trans (h1.trans HB.out.symm)), rfl⟩
      · go_wp2_with fail
        refine (C (0 + 1) (0 + 1) _ e (by omega) (by omega) _).mono ?_
        rintro r w' ⟨rfl, rfl⟩
        go_wp2_with fail
        simp only [jumps]
        go_ret
        exact ⟨HF.out _ ((p.symm).trans (h1.trans HB.out.symm)), rfl⟩
      · go_wp2_with fail
        refine (C (0 + 1) (0 + 1) _ e (by omega) (by omega) _).mono ?_
        rintro r w' ⟨rfl, rfl⟩
        go_wp2_with fail
        simp only [jumps]
        go_ret
        exact ⟨HF.out _ ((p.symm).trans (h1.trans HB.out.symm)), rfl⟩
    · go_wp2_with fail
      refine (C 0 (0) _ e (by omega) (by omega) _).mono ?_
      rintro r w' ⟨rfl, rfl⟩
      go_wp2_with fail
      simp only [jumps]
      go_ret
      exact ⟨HF.out _ ((d.symm).trans (h0.trans HB.out.symm)), rfl⟩
    · go_wp2_with fail
      refine (C 0 (0) _ e (by omega) (by omega) _).mono ?_
      rintro r w' ⟨rfl, rfl⟩
      go_wp2_with fail
      simp only [jumps]
      go_ret
      exact ⟨HF.out _ ((d.symm).trans (h0.trans HB.out.symm)), rfl⟩
    · go_wp2_with fail
      refine (C 0 (0) _ e (by omega) (by omega) _).mono ?_
      rintro r w' ⟨rfl, rfl⟩
      go_wp2_with fail
      simp only [jumps]
      go_ret
      exact ⟨HF.out _ ((d.symm).trans (h0.trans HB.out.symm)), rfl⟩
    · go_wp2_with fail
      refine (C 0 (0) _ e (by omega) (by omega) _).mono ?_
      rintro r w' ⟨rfl, rfl⟩
      go_wp2_with fail
      simp only [jumps]
      go_ret
      exact ⟨HF.out _ ((d.symm).trans (h0.trans HB.out.symm)), rfl⟩
    · go_wp2_with fail
      refine (C 0 (0) _ e (by omega) (by omega) _).mono ?_
      rintro r w' ⟨rfl, rfl⟩
      go_wp2_with fail
      simp only [jumps]
      go_ret
      exact ⟨HF.out _ ((d.symm).trans (h0.trans HB.out.symm)), rfl⟩
  · rintro lab a' w' ⟨rfl, i, k, u4, u5, u6, u7, u8, u9, u10, u11, u12, u13, u14, u15, u16, u17, u18, u19, u20, u21, u22, u23, u24, u25, u26, u27, u28, u29, u30, u31, u32, u33, u34, u35, rfl, rfl, hk, hat⟩
    rcases lab with _ | _ | _ | n
    · refine ⟨_, rfl, ?_⟩
      have h1 : M.mDot (s.data.toList.drop k) = M.mDot s.data.toList := hat
      clear hat
      rcases S (k) with ⟨e, hl, d, p, q⟩ | ⟨e, hl, d, p, q⟩ | ⟨e, hl, d, p, q⟩ | ⟨e, hl, d, p, q⟩ | ⟨e, hl, d, p, q⟩ | ⟨e, hl, d, p, q⟩
      · go_wp2_with fail
        refine (C k (k) _ e (by omega) (by omega) _).mono ?_
        rintro r w' ⟨rfl, rfl⟩
        have h1 := d.symm.trans h1
        clear e
        go_wp2_with fail
        go_step3
        rcases S (k + 1) with ⟨e, hl, d, p, q⟩ | ⟨e, hl, d, p, q⟩ | ⟨e, hl, d, p, q⟩ | ⟨e, hl, d, p, q⟩ | ⟨e, hl, d, p, q⟩ | ⟨e, hl, d, p, q⟩ <;> clear S
        · go_wp2_with fail
          refine (C ((k : Int) + 1) (k + 1) _ e (by omega) (by omega) _).mono ?_
          rintro r w' ⟨rfl, rfl⟩
          go_wp2_with fail
          go_step3
          refine ⟨⟨rfl, _, k + 1, _, _, _, _, _, _, _, _, _, _, _, _, _, _, _, _, _, _, _, _, _, _, _, _, _, _, _, _, _, _, _, _, rfl, by omega, by omega, ?_⟩, ?_⟩
          · exact (p.symm).trans h1
          · simp [placeOf, intOf]; omega
        · go_wp2_with fail
          refine (C ((k : Int) + 1) (k + 1) _ e (by omega) (by omega) _).mono ?_
          rintro r w' ⟨rfl, rfl⟩
          go_wp2_with fail
          go_step3
          refine ⟨⟨rfl, _, k + 1, _, _, _, _, _, _, _, _, _, _, _, _, _, _, _, _, _, _, _, _, _, _, _, _, _, _, _, _, _, _, _, _, rfl, by omega, by omega, ?_⟩, ?_⟩
          · exact (p.symm).trans h1
          · simp [placeOf, intOf]; omega
        · go_wp2_with fail
          refine (C ((k : Int) + 1) (k + 1) _ e (by omega) (by omega) _).mono ?_
          rintro r w' ⟨rfl, rfl⟩
          have hlt : ((k : Int) + 1) + 1 < (s.size : Int) := by omega
          go_wp2_with fail
          go_step3
          refine ⟨⟨rfl, _, k + 1 + 1, _, _, _, _, _, _, _, _, _, _, _, _, _, _, _, _, _, _, _, _, _, _, _, _, _, _, _, _, _, _, _, _, rfl, by omega, by omega, ?_⟩, ?_⟩
          · exact (p.symm).trans h1
          · simp [placeOf, intOf]; omega
        · go_wp2_with fail
          refine (C ((k : Int) + 1) (k + 1) _ e (by omega) (by omega) _).mono ?_
          rintro r w' ⟨rfl, rfl⟩
          have hlt : ¬ ((k : Int) + 1) + 1 < (s.size : Int) := by omega
          go_wp2_with fail
          simp only [jumps]
          go_ret
          exact ⟨HF.out _ ((p.symm).trans (h1.trans HB.out.symm)), rfl⟩
        · go_wp2_with fail
          refine (C ((k : Int) + 1) (k + 1) _ e (by omega) (by omega) _).mono ?_
          rintro r w' ⟨rfl, rfl⟩
          go_wp2_with fail
          simp only [jumps]
          go_ret
          exact ⟨HF.out _ ((p.symm).trans (h1.trans HB.out.symm)), rfl⟩
        · go_wp2_with fail
          refine (C ((k : Int) + 1) (k + 1) _ e (by omega) (by omega) _).mono ?_
          rintro r w' ⟨rfl, rfl⟩
          go_wp2_with fail
          simp only [jumps]
          go_ret
          exact ⟨HF.out _ ((p.symm).trans (h1.trans HB.out.symm)), rfl⟩
      · go_wp2_with fail
        refine (C k (k) _ e (by omega) (by omega) _).mono ?_
        rintro r w' ⟨rfl, rfl⟩
        go_wp2_with fail
        simp only [jumps]
        go_ret
        exact ⟨HF.out _ ((d.symm).trans (h1.trans HB.out.symm)), rfl⟩
      · go_wp2_with fail
        refine (C k (k) _ e (by omega) (by omega) _).mono ?_
        rintro r w' ⟨rfl, rfl⟩
        go_wp2_with fail
        simp only [jumps]
        go_ret
        exact ⟨HF.out _ ((d.symm).trans (h1.trans HB.out.symm)), rfl⟩
      · go_wp2_with fail
        refine (C k (k) _ e (by omega) (by omega) _).mono ?_
        rintro r w' ⟨rfl, rfl⟩
        go_wp2_with fail
        simp only [jumps]
        go_ret
        exact ⟨HF.out _ ((d.symm).trans (h1.trans HB.out.symm)), rfl⟩
      · go_wp2_with fail
        refine (C k (k) _ e (by omega) (by omega) _).mono ?_
        rintro r w' ⟨rfl, rfl⟩
        go_wp2_with fail
        simp only [jumps]
        go_ret
        exact ⟨HF.out _ ((d.symm).trans (h1.trans HB.out.symm)), rfl⟩
      · go_wp2_with fail
        refine (C k (k) _ e (by omega) (by omega) _).mono ?_
        rintro r w' ⟨rfl, rfl⟩
        go_wp2_with fail
        simp only [jumps]
        go_ret
        exact ⟨HF.out _ ((d.symm).trans (h1.trans HB.out.symm)), rfl⟩
    · refine ⟨_, rfl, ?_⟩
      have h1 : M.mPlain (s.data.toList.drop (k + 1)) = M.mDot s.data.toList := hat
      clear hat
      rcases S (k + 1) with ⟨e, hl, d, p, q⟩ | ⟨e, hl, d, p, q⟩ | ⟨e, hl, d, p, q⟩ | ⟨e, hl, d, p, q⟩ | ⟨e, hl, d, p, q⟩ | ⟨e, hl, d, p, q⟩ <;> clear S
      · go_wp2_with fail
        refine (C ((k : Int) + 1) (k + 1) _ e (by omega) (by omega) _).mono ?_
        rintro r w' ⟨rfl, rfl⟩
        go_wp2_with fail
        go_step3
        refine ⟨⟨rfl, _, k + 1, _, _, _, _, _, _, _, _, _, _, _, _, _, _, _, _, _, _, _, _, _, _, _, _, _, _, _, _, _, _, _, _, rfl, by omega, by omega, ?_⟩, ?_⟩
        · exact (p.symm).trans h1
        · simp [placeOf, intOf]; omega
      · go_wp2_with fail
        refine (C ((k : Int) + 1) (k + 1) _ e (by omega) (by omega) _).mono ?_
        rintro r w' ⟨rfl, rfl⟩
        go_wp2_with fail
        go_step3
        refine ⟨⟨rfl, _, k + 1, _, _, _, _, _, _, _, _, _, _, _, _, _, _, _, _, _, _, _, _, _, _, _, _, _, _, _, _, _, _, _, _, rfl, by omega, by omega, ?_⟩, ?_⟩
        · exact (p.symm).trans h1
        · simp [placeOf, intOf]; omega
      · go_wp2_with fail
        refine (C ((k : Int) + 1) (k + 1) _ e (by omega) (by omega) _).mono ?_
        rintro r w' ⟨rfl, rfl⟩
        have hlt : ((k : Int) + 1) + 1 < (s.size : Int) := by omega
        go_wp2_with fail
        go_step3
        refine ⟨⟨rfl, _, k + 1 + 1, _, _, _, _, _, _, _, _, _, _, _, _, _, _, _, _, _, _, _, _, _, _, _, _, _, _, _, _, _, _, _, _, rfl, by omega, by omega, ?_⟩, ?_⟩
        · exact (p.symm).trans h1
        · simp [placeOf, intOf]; omega
      · go_wp2_with fail
        refine (C ((k : Int) + 1) (k + 1) _ e (by omega) (by omega) _).mono ?_
        rintro r w' ⟨rfl, rfl⟩
        have hlt : ¬ ((k : Int) + 1) + 1 < (s.size : Int) := by omega
        go_wp2_with fail
        simp only [jumps]
        go_ret
        exact ⟨HF.out _ ((p.symm).trans (h1.trans HB.out.symm)), rfl⟩
      · go_wp2_with fail
        refine (C ((k : Int) + 1) (k + 1) _ e (by omega) (by omega) _).mono ?_
        rintro r w' ⟨rfl, rfl⟩
        go_wp2_with fail
        simp only [jumps]
        go_ret
        exact ⟨HF.out _ ((p.symm).trans (h1.trans HB.out.symm)), rfl⟩
      · go_wp2_with fail
        refine (C ((k : Int) + 1) (k + 1) _ e (by omega) (by omega) _).mono ?_
        rintro r w' ⟨rfl, rfl⟩
        go_wp2_with fail
        simp only [jumps]
        go_ret
        exact ⟨HF.out _ ((p.symm).trans (h1.trans HB.out.symm)), rfl⟩
    · refine ⟨_, rfl, ?_⟩
      have h1 : M.mDash (s.data.toList.drop (k + 1)) = M.mDot s.data.toList := hat
      clear hat
      rcases S (k + 1) with ⟨e, hl, d, p, q⟩ | ⟨e, hl, d, p, q⟩ | ⟨e, hl, d, p, q⟩ | ⟨e, hl, d, p, q⟩ | ⟨e, hl, d, p, q⟩ | ⟨e, hl, d, p, q⟩ <;> clear S
      · go_wp2_with fail
        refine (C ((k : Int) + 1) (k + 1) _ e (by omega) (by omega) _).mono ?_
        rintro r w' ⟨rfl, rfl⟩
        go_wp2_with fail
        go_step3
        refine ⟨⟨rfl, _, k + 1, _, _, _, _, _, _, _, _, _, _, _, _, _, _, _, _, _, _, _, _, _, _, _, _, _, _, _, _, _, _, _, _, rfl, by omega, by omega, ?_⟩, ?_⟩
        · exact (q.symm).trans h1
        · simp [placeOf, intOf]; omega
      · go_wp2_with fail
        refine (C ((k : Int) + 1) (k + 1) _ e (by omega) (by omega) _).mono ?_
        rintro r w' ⟨rfl, rfl⟩
        go_wp2_with fail
        go_step3
        refine ⟨⟨rfl, _, k + 1, _, _, _, _, _, _, _, _, _, _, _, _, _, _, _, _, _, _, _, _, _, _, _, _, _, _, _, _, _, _, _, _, rfl, by omega, by omega, ?_⟩, ?_⟩
        · exact (q.symm).trans h1
        · simp [placeOf, intOf]; omega
      · go_wp2_with fail
        refine (C ((k : Int) + 1) (k + 1) _ e (by omega) (by omega) _).mono ?_
        rintro r w' ⟨rfl, rfl⟩
        go_wp2_with fail
        simp only [jumps]
        go_ret
        exact ⟨HF.out _ ((q.symm).trans (h1.trans HB.out.symm)), rfl⟩
      · go_wp2_with fail
        refine (C ((k : Int) + 1) (k + 1) _ e (by omega) (by omega) _).mono ?_
        rintro r w' ⟨rfl, rfl⟩
        go_wp2_with fail
        simp only [jumps]
        go_ret
        exact ⟨HF.out _ ((q.symm).trans (h1.trans HB.out.symm)), rfl⟩
      · go_wp2_with fail
        refine (C ((k : Int) + 1) (k + 1) _ e (by omega) (by omega) _).mono ?_
        rintro r w' ⟨rfl, rfl⟩
        go_wp2_with fail
        simp only [jumps]
        go_ret
        exact ⟨HF.out _ ((q.symm).trans (h1.trans HB.out.symm)), rfl⟩
      · go_wp2_with fail
        refine (C ((k : Int) + 1) (k + 1) _ e (by omega) (by omega) _).mono ?_
        rintro r w' ⟨rfl, rfl⟩
        go_wp2_with fail
        simp only [jumps]
        go_ret
        exact ⟨HF.out _ ((q.symm).trans (h1.trans HB.out.symm)), rfl⟩
    · exact hat.elim
end Go.Proofs.YtcolecidbalmhaaGreatDoor
namespace Go.Proofs.YtcolecidbalmhaaGreatDoor
open Go.RowKit
set_option maxRecDepth 100000
set_option linter.unusedVariables false

theorem l5Sign_any (b : UInt8) (w : World) :
    Calls Tryz.prog 223 #[.int .u8 (b.toNat : Int)] w fun e w' => e = .returned (.bool (M.signB b)) ∧ w = w' := by
  have HS := Lib.hid (M.signB_eq b)
  go_enter Tryz.func223, Tryz.ntmps223
  go_wp2_with fail
  all_goals
    go_ret
    refine ⟨ret_bool ?_, rfl⟩
    rw [HS.out]
    (try simp only [beq_iff_eq, beq_eq_false_iff_ne, ne_eq] at *)
    first | (symm; rw [decide_eq_true_iff]; omega) | (symm; rw [decide_eq_false_iff_not]; omega) | (rw [Bool.eq_iff_iff]; simp only [beq_iff_eq, decide_eq_true_eq, Bool.or_eq_true]; omega)

theorem implNameFault_any (s : ByteArray) (w : World) (hs : s.size ≤ maxLen) :
    Calls Tryz.prog 84 #[.string s] w fun e w' => e = .returned (.int .i64 (M.nameF s.data.toList)) ∧ w = w' := by
  have hL : s.data.toList.length = s.size := by simp
  unfold maxLen at hs
  by_cases h : 20 < s.size
  · have HE := Lib.hid (M.nameF_long (l := s.data.toList) (by omega))
    have h' : (20 : Int) < s.size := by omega
    go_enter Tryz.func84, Tryz.ntmps84
    go_wp2_with fail
    go_ret
    exact ⟨ret_int HE.out.symm, rfl⟩
  have h' : ¬ (20 : Int) < s.size := by omega
  have F := fun w => hasParts_any s w (by omega)
  cases hm : M.mDot s.data.toList
  · have HE := Lib.hid (M.nameF_no (l := s.data.toList) (by omega) hm)
    simp only [hm] at F
    clear hm
    go_enter Tryz.func84, Tryz.ntmps84
    go_wp2_with fail
    refine (F _).mono ?_
    rintro r w' ⟨rfl, rfl⟩
    go_wp2_with fail
    go_ret
    exact ⟨ret_int HE.out.symm, rfl⟩
  · have HE := Lib.hid (M.nameF_yes (l := s.data.toList) (by omega) hm)
    simp only [hm] at F
    clear hm
    go_enter Tryz.func84, Tryz.ntmps84
    go_wp2_with fail
    refine (F _).mono ?_
    rintro r w' ⟨rfl, rfl⟩
    go_wp2_with fail
    go_ret
    exact ⟨ret_int HE.out.symm, rfl⟩

theorem l5Part_any (s : ByteArray) (w : World) (hs : s.size ≤ maxLen) :
    Calls Tryz.prog 174 #[.string s] w fun e w' => e = .returned (.bool (M.partB s.data.toList)) ∧ w = w' := by
  unfold maxLen at hs
  go_enter Tryz.func174, Tryz.ntmps174
  go_wp2_with fail
  go_loop [3] (fun i => ∃ k : Nat, k ≤ s.size ∧ i = .int .i64 k ∧ Hid (M.signTo s k = true)) (fun i => s.size - (intOf i).toNat)
  case atStart => exact ⟨0, Nat.zero_le _, rfl, Lib.hid (M.signTo_zero s)⟩
  case round =>
    obtain ⟨k, hk, rfl, hlow⟩ := hrel
    by_cases hlt : k < s.size
    · have F := fun w => l5Sign_any s[k] w
      cases hb : M.signB s[k]
      · have HS := Lib.hid (M.partB_stop s k hlt hb)
        simp only [hb] at F
        clear hb
        go_wp2_with fail
        refine (F _).mono ?_
        rintro r w' ⟨rfl, rfl⟩
        go_wp2_with fail
        go_ret
        exact ⟨ret_bool HS.out.symm, rfl⟩
      · have HN := Lib.hid (M.signTo_next s k hlt hlow.out hb)
        simp only [hb] at F
        clear hb
        go_wp2_with fail
        refine (F _).mono ?_
        rintro r w' ⟨rfl, rfl⟩
        go_wp2_with fail
        go_round
        case rel => exact ⟨k + 1, by omega, by go_num, HN⟩
        case measure => simp [intOf]; omega
    · obtain rfl : k = s.size := by omega
      by_cases h1 : s.size < 1
      · have HS := Lib.hid (M.partB_short s h1)
        have h1' : ¬ 1 ≤ (s.size : Int) := by omega
        go_wp2_with fail
        go_ret
        exact ⟨ret_bool HS.out.symm, rfl⟩
      · obtain ⟨n, hn⟩ : ∃ n, s.size = n + 1 := ⟨s.size - 1, by omega⟩
        have HS := Lib.hid (M.partB_ends s n hn hlow.out)
        have h1' : 1 ≤ (s.size : Int) := by omega
        go_wp2_with fail
        all_goals
          go_ret
          refine ⟨ret_bool ?_, rfl⟩
          rw [HS.out]
          unfold M.dashB
          rcases Classical.em ((s[0].toNat : Int) = 45) with q0 | q0 <;> rcases Classical.em ((s[n].toNat : Int) = 45) with q1 | q1 <;> simp [q0, q1] at * <;> simp [bne, q0, q1]

theorem l5Bare_any (s : ByteArray) (w : World) (hs : s.size ≤ maxLen) :
    Calls Tryz.prog 173 #[.string s] w fun e w' => e = .returned (.string (M.bs (M.bare s.data.toList))) ∧ w = w' := by
  unfold maxLen at hs
  by_cases h1 : s.size ≤ 1
  · have h1' : ¬ 1 < (s.size : Int) := by omega
    rw [M.bare_one s h1]
    go_enter Tryz.func173, Tryz.ntmps173
    go_wp2_with fail
    go_ret
    simp
  obtain ⟨n, hn⟩ : ∃ n, s.size = n + 2 := ⟨s.size - 2, by omega⟩
  cases hd : M.dotB (s[n + 1]'(by omega))
  · rw [M.bare_not s n hn hd]
    have hd' : ((s[n + 1]'(by omega)).toNat : Int) ≠ 46 := by simpa [M.dotB] using hd
    go_enter Tryz.func173, Tryz.ntmps173
    go_wp2_with fail
    go_ret
    exact ⟨rfl, rfl⟩
  · rw [M.bare_dot s n hn hd]
    have hd' : ((s[n + 1]'(by omega)).toNat : Int) = 46 := by simpa [M.dotB] using hd
    go_enter Tryz.func173, Tryz.ntmps173
    go_wp2_with fail
    go_ret
    exact ⟨rfl, rfl⟩
end Go.Proofs.YtcolecidbalmhaaGreatDoor
namespace Go.Proofs.YtcolecidbalmhaaGreatDoor
open Go.RowKit
set_option maxRecDepth 100000
set_option linter.unusedVariables false

theorem str_info : (Tryz.prog.info? 9).map (fun i => (i.zero, i.size, i.bytes)) = some (some (.string ByteArray.empty), 1, 16) := by kernel_rfl

/-- A slice of texts that the call made. -/
def OwnS (w : World) (B : Nat) (v : Value) (ps : List (List UInt8)) : Prop := Own w B 1 v ps.length (ps.map fun p => Value.string (M.bs p))
/-- While a text is cut. -/
inductive CutRel (W : World) (s : ByteArray) (v fv : Value) (k : Nat) (wr : World) : Prop
  | on (done : List (List UInt8)) (f : Nat) : fv = .int .i64 f → M.CutAt s.data.toList done f k → OwnS wr W.heap.size v done → Below W.heap.size W wr → CutRel W s v fv k wr
  | off (f : Nat) : fv = .int .i64 f → k = s.size + 1 → OwnS wr W.heap.size v (M.cutL [] s.data.toList) → Below W.heap.size W wr → CutRel W s v fv k wr

theorem own_more {W wr w2 : World} {v v2 : Value} {done : List (List UInt8)} {p : List UInt8} {x : ByteArray} {o : Obj} (ho : OwnS wr W.heap.size v done) (hb : Below W.heap.size W wr) (hx : x = M.bs p)
    (hown : Own w2 W.heap.size 1 v2 (done.length + 1) (done.map (fun p => Value.string (M.bs p)) ++ [.string x])) (hg : (wr.alloc o).grownBy w2 v.ownBlock) : OwnS w2 W.heap.size v2 (done ++ [p]) ∧ Below W.heap.size W w2 := by
  have hsz := hb.size
  refine ⟨?_, (Own.alloc ho o).grown (bal hb o) (by simp; omega) hg⟩
  unfold OwnS
  rw [hx] at hown
  simpa using hown

def CutMade (s : ByteArray) (w : World) (r : Ending) (w' : World) : Prop := ∃ a n c, r = .returned (.slice a n c) ∧ OwnS w' w.heap.size (.slice a n c) (M.cutL [] s.data.toList) ∧ Below w.heap.size w w'

theorem l1Cut_any (s : ByteArray) (w : World) (hs : s.size ≤ 20) :
    Calls Tryz.prog 172 #[.string s, .int .u8 46] w (CutMade s w) := by
  obtain ⟨i0, hi0, hz0, hz1, hz2⟩ := info_parts str_info
  have hL : s.data.toList.length = s.size := by simp
  have T0 : CutRel w s (.slice (some ⟨w.heap.size, 0, none⟩) 0 0) (.int .i64 0) 0 (w.alloc (.cells #[] 9)) :=
    .on [] 0 rfl (M.CutAt.zero _) (own_empty w 9) (bal (Below.refl _ _) _)
  have h1 : ∀ x : ByteArray, ∀ u ∈ [Value.string x], u.oneCell' = true := fun x u hu => by simp at hu; subst hu; rfl
  go_enter Tryz.func172, Tryz.ntmps172
  go_wp2_with fail
  generalize w.alloc (.cells #[] 9) = W1 at *
  go_loopw [5, 6, 7] (fun v f i wr => ∃ k : Nat, k ≤ s.size + 1 ∧ i = .int .i64 k ∧ CutRel w s v f k wr) (fun _ _ i _ => s.size + 1 - (intOf i).toNat)
  case atStart => exact ⟨0, Nat.zero_le _, rfl, T0⟩
  case round =>
    obtain ⟨k, hk, rfl, hT⟩ := hrel
    rcases hT with ⟨done, f, rfl, hc, ho, hb⟩ | ⟨f, rfl, rfl, ho, hb⟩
    · have hfk := hc.1
      have hkl := hc.2.1
      rw [hL] at hkl
      have hdl := hc.done_le
      rw [hL] at hdl
      have hsz := hb.size
      by_cases hlt : k < s.size
      · have hbyte : s.data.toList[k]? = some s[k] := Lib.data_getElem? s k hlt
        have hne : ((k : Int) == (s.size : Int)) = false := by simp; omega
        cases hd : M.dotB s[k]
        · have hq := Lib.hid (hc.next hbyte hd)
          have hd' : ((s[k].toNat : Int) == 46) = false := by simpa [M.dotB] using hd
          clear hbyte hd hc hL
          have HO := Lib.hid (And.intro ho hb)
          clear ho hb
          go_wp2_with fail
          go_roundw
          case rel => exact ⟨k + 1, by omega, by go_num, .on done f rfl hq.out HO.out.1 HO.out.2⟩
          case measure => simp [intOf]; omega
        · have hq := Lib.hid (hc.cut hbyte hd)
          have hd' : ((s[k].toNat : Int) == 46) = true := by simpa [M.dotB] using hd
          clear hbyte hd hc hL
          go_wp2_with (at_builtin; refine wpList_append_src _ rfl (.tmp 26) (.tmp 31) 217 217 rfl w.heap.size 9 i0 (.string ByteArray.empty) 1 16 Tryz.underlying217 hi0 hz0 hz1 hz2 rfl _ _ _ rfl (Own.alloc ho _) _ 1 [.string (s.extract f k)] rfl (src_new wr _ 1 1 _ _ _ Tryz.underlying217 rfl (h1 _)) (by simp only [maxLen]; omega) (by omega) (by simp; omega) ?_; intro v2 w2 hown hgrow hat)
          have T3 := own_more ho hb (M.bs_extract s f k) hown hgrow
          clear hown hgrow hat ho hb
          go_wp2_with fail
          go_roundw
          case rel => exact ⟨k + 1, by omega, by go_num, .on _ (k + 1) (by go_num) hq.out T3.1 T3.2⟩
          case measure => simp [intOf]; omega
      · obtain rfl : k = s.size := by omega
        have hq := hc
        rw [← hL] at hq
        have HQ := Lib.hid hq.last
        clear hc hL hq
        go_wp2_with (at_builtin; refine wpList_append_src _ rfl (.tmp 26) (.tmp 31) 217 217 rfl w.heap.size 9 i0 (.string ByteArray.empty) 1 16 Tryz.underlying217 hi0 hz0 hz1 hz2 rfl _ _ _ rfl (Own.alloc ho _) _ 1 [.string (s.extract f s.size)] rfl (src_new wr _ 1 1 _ _ _ Tryz.underlying217 rfl (h1 _)) (by simp only [maxLen]; omega) (by omega) (by simp; omega) ?_; intro v2 w2 hown hgrow hat)
        have T3 := own_more ho hb (M.bs_extract s f s.size) hown hgrow
        clear hown hgrow hat ho hb
        go_wp2_with fail
        go_roundw
        case rel => exact ⟨s.size + 1, by omega, by go_num, .off (s.size + 1) (by go_num) rfl (by rw [HQ.out]; simpa using T3.1) T3.2⟩
        case measure => simp [intOf]
    · obtain ⟨a, c, hv, -⟩ := Own.form ho
      subst hv
      go_wp2_with fail
      go_ret
      exact ⟨_, _, _, rfl, ho, hb⟩

theorem OwnS.at {w : World} {B : Nat} {a : Option Addr} {n c : Nat} {ps : List (List UInt8)} (h : OwnS w B (.slice a n c) ps) {j : Nat} {p : List UInt8} (hp : ps[j]? = some p) :
    n = ps.length ∧ n ≤ c ∧ c ≤ maxLen ∧ ∃ g, a = some ⟨g, 0, none⟩ ∧ w.cell? ⟨g, j, none⟩ = some (.string (M.bs p)) := by
  have hj := (List.getElem?_eq_some_iff.1 hp).1
  rcases h.2 with ⟨e, h0⟩ | ⟨g, c', e, hB, hg, h1, h2, hc, hr⟩
  · omega
  · injection e with e1 e2 e3
    subst e1
    subst e3
    refine ⟨e2, by omega, h2, g, rfl, hc j _ ?_⟩
    rw [List.getElem?_map, hp]
    rfl
theorem OwnS.len {w : World} {B : Nat} {a : Option Addr} {n c : Nat} {ps : List (List UInt8)} (h : OwnS w B (.slice a n c) ps) : n = ps.length := by
  rcases h.2 with ⟨e, h0⟩ | ⟨g, c', e, _⟩
  · injection e with e1 e2 e3
    omega
  · injection e

theorem l5Fault_any (s : ByteArray) (w : World) (hs : s.size ≤ maxLen) :
    Calls Tryz.prog 105 #[.string s] w fun e w' => e = .returned (.int .i64 (M.nameF s.data.toList)) ∧ Below w.heap.size w w' := by
  have hL : s.data.toList.length = s.size := by simp
  have hm := hs
  unfold maxLen at hs
  by_cases h : 20 < s.size
  · have HE := Lib.hid (M.nameF_long (l := s.data.toList) (by omega))
    have h' : (20 : Int) < s.size := by omega
    go_enter Tryz.func105, Tryz.ntmps105
    go_wp2_with fail
    go_ret
    exact ⟨ret_int HE.out.symm, Below.refl _ _⟩
  have h' : ¬ (20 : Int) < s.size := by omega
  have hbl := M.bare_length s.data.toList
  have C1 : ∀ w, Calls Tryz.prog 172 #[.string (M.bs (M.bare s.data.toList)), .int .u8 46] w fun r w' => ∃ a n c, r = .returned (.slice a n c) ∧ OwnS w' w.heap.size (.slice a n c) (M.cutL [] (M.bare s.data.toList)) ∧ Below w.heap.size w w' :=
    fun w => (l1Cut_any (M.bs (M.bare s.data.toList)) w (by rw [M.bs_size]; omega)).mono fun r w' h => by
      unfold CutMade at h
      rwa [M.bs_list] at h
  have HE := Lib.hid (show M.nameF s.data.toList = if (M.cutL [] (M.bare s.data.toList)).all M.partB then 0 else 5 by
    unfold M.nameF
    rw [if_neg (by omega), M.hasP_eq])
  have HP := Lib.hid (M.cutL_part (M.bare s.data.toList) [])
  have hn0 := M.cutL_length (M.bare s.data.toList) []
  obtain ⟨ps, hps⟩ : ∃ ps, ps = M.cutL [] (M.bare s.data.toList) := ⟨_, rfl⟩
  simp only [← hps] at C1 HE HP hn0
  clear hps
  go_enter Tryz.func105, Tryz.ntmps105
  go_wp2_with fail
  refine (l5Bare_any s _ hm).mono ?_
  rintro r w' ⟨rfl, rfl⟩
  go_wp2_with fail
  refine (C1 _).mono ?_
  rintro r w1 ⟨a, n, c, rfl, ho, hb⟩
  clear C1
  obtain rfl := ho.len
  go_wp2_with fail
  go_loop [4] (fun i => ∃ k : Nat, k ≤ ps.length ∧ i = .int .i64 k ∧ Hid ((ps.take k).all M.partB = true)) (fun i => ps.length - (intOf i).toNat)
  case atStart => exact ⟨0, Nat.zero_le _, rfl, Lib.hid (by simp)⟩
  case round =>
    obtain ⟨k, hk, rfl, hall⟩ := hrel
    by_cases hlt : k < ps.length
    · obtain ⟨p, hp⟩ : ∃ p, ps[k]? = some p := ⟨ps[k], by simp [hlt]⟩
      obtain ⟨-, hnc, hcm, g, rfl, hcell⟩ := ho.at hp
      have hpl := HP.out p (List.mem_of_getElem? hp)
      have F := fun w => l5Part_any (M.bs p) w (by rw [M.bs_size]; simp only [maxLen]; simp at hpl; omega)
      simp only [M.bs_list] at F
      unfold maxLen at hcm
      cases hb2 : M.partB p
      · have HN : Hid (ps.all M.partB = false) := Lib.hid (by
          rw [List.all_eq_false]
          exact ⟨p, List.mem_of_getElem? hp, by simp [hb2]⟩)
        simp only [hb2] at F
        clear hp hpl
        go_wp2_with fail
        refine (F _).mono ?_
        rintro r w' ⟨rfl, rfl⟩
        go_wp2_with fail
        go_ret
        exact ⟨ret_int (by rw [HE.out, HN.out]; rfl), hb⟩
      · have HN : Hid ((ps.take (k + 1)).all M.partB = true) := Lib.hid (by
          rw [List.take_add_one, hp, List.all_append, hall.out]
          simp [hb2])
        simp only [hb2] at F
        clear hp hpl
        go_wp2_with fail
        refine (F _).mono ?_
        rintro r w' ⟨rfl, rfl⟩
        go_wp2_with fail
        go_round
        case rel => exact ⟨k + 1, by omega, by go_num, HN⟩
        case measure => simp [intOf]; omega
    · obtain rfl : k = ps.length := by omega
      go_wp2_with fail
      go_ret
      exact ⟨ret_int (by rw [HE.out, show ps.all M.partB = true by have := hall.out; rwa [List.take_length] at this]; rfl), hb⟩
end Go.Proofs.YtcolecidbalmhaaGreatDoor
namespace Go.Proofs.YtcolecidbalmhaaGreatDoor
open Go.Shelf
def lays159_ren : Go.Shelf.Ren := ⟨fun | 159 => 154 | 165 => 209 | 166 => 210 | 167 => 211 | 169 => 212 | 230 => 213 | 204 => 214 | 240 => 248 | 241 => 249 | 197 => 250 | 118 => 251 | 168 => 252 | 270 => 253 | 262 => 254 | 276 => 269 | 277 => 270 | 260 => 271 | 242 => 272 | 313 => 273 | 278 => 284 | 274 => 285 | 275 => 286 | n => n, fun | 9 => 9 | 4 => 4 | 3 => 3 | 5 => 5 | 72 => 264 | 0 => 0 | 76 => 266 | 75 => 200 | 107 => 271 | 70 => 262 | 20 => 20 | 37 => 22 | 127 => 307 | 21 => 21 | 105 => 308 | 164 => 291 | 162 => 337 | 203 => 335 | 119 => 349 | 46 => 234 | 139 => 352 | 138 => 351 | 51 => 188 | 160 => 353 | 208 => 365 | 206 => 363 | 80 => 269 | n => n, fun | 13 => 4 | 3 => 5 | 4 => 6 | n => n⟩
theorem lays159 : Go.Proofs.Lays.n159 Tryz.prog lays159_ren := {
  mixed := by kernel_rfl
  f118 := Tryz.func251.trans (congrArg some (by kernel_rfl))
  f159 := Tryz.func154.trans (congrArg some (by kernel_rfl))
  f165 := Tryz.func209.trans (congrArg some (by kernel_rfl))
  f166 := Tryz.func210.trans (congrArg some (by kernel_rfl))
  f167 := Tryz.func211.trans (congrArg some (by kernel_rfl))
  f168 := Tryz.func252.trans (congrArg some (by kernel_rfl))
  f169 := Tryz.func212.trans (congrArg some (by kernel_rfl))
  f197 := Tryz.func250.trans (congrArg some (by kernel_rfl))
  f204 := Tryz.func214.trans (congrArg some (by kernel_rfl))
  f230 := Tryz.func213.trans (congrArg some (by kernel_rfl))
  f240 := Tryz.func248.trans (congrArg some (by kernel_rfl))
  f241 := Tryz.func249.trans (congrArg some (by kernel_rfl))
  f242 := Tryz.func272.trans (congrArg some (by kernel_rfl))
  f260 := Tryz.func271.trans (congrArg some (by kernel_rfl))
  f262 := Tryz.func254.trans (congrArg some (by kernel_rfl))
  f270 := Tryz.func253.trans (congrArg some (by kernel_rfl))
  f274 := Tryz.func285.trans (congrArg some (by kernel_rfl))
  f275 := Tryz.func286.trans (congrArg some (by kernel_rfl))
  f276 := Tryz.func269.trans (congrArg some (by kernel_rfl))
  f277 := Tryz.func270.trans (congrArg some (by kernel_rfl))
  f278 := Tryz.func284.trans (congrArg some (by kernel_rfl))
  f313 := Tryz.func273.trans (congrArg some (by kernel_rfl))
  t0 := Tryz.underlying0
  a0 := Tryz.isAgg0
  z0 := Tryz.sizeOf0
  v0 := Tryz.zeroValue0
  t3 := Tryz.underlying3
  a3 := Tryz.isAgg3
  z3 := Tryz.sizeOf3
  v3 := Tryz.zeroValue3
  t4 := Tryz.underlying4
  a4 := Tryz.isAgg4
  z4 := Tryz.sizeOf4
  v4 := Tryz.zeroValue4
  t5 := Tryz.underlying5
  a5 := Tryz.isAgg5
  z5 := Tryz.sizeOf5
  v5 := Tryz.zeroValue5
  t9 := Tryz.underlying9
  a9 := Tryz.isAgg9
  z9 := Tryz.sizeOf9
  v9 := Tryz.zeroValue9
  t20 := Tryz.underlying20
  a20 := Tryz.isAgg20
  z20 := Tryz.sizeOf20
  v20 := Tryz.zeroValue20
  t21 := Tryz.underlying21
  a21 := Tryz.isAgg21
  z21 := Tryz.sizeOf21
  v21 := Tryz.zeroValue21
  t37 := Tryz.underlying22
  a37 := Tryz.isAgg22
  z37 := Tryz.sizeOf22
  v37 := Tryz.zeroValue22
  t46 := Tryz.underlying234
  a46 := Tryz.isAgg234
  z46 := Tryz.sizeOf234
  v46 := Tryz.zeroValue234
  t51 := Tryz.underlying188
  a51 := Tryz.isAgg188
  z51 := Tryz.sizeOf188
  v51 := Tryz.zeroValue188
  t70 := Tryz.underlying262
  a70 := Tryz.isAgg262
  z70 := Tryz.sizeOf262
  v70 := Tryz.zeroValue262
  t72 := Tryz.underlying264
  a72 := Tryz.isAgg264
  z72 := Tryz.sizeOf264
  v72 := Tryz.zeroValue264
  t75 := Tryz.underlying200
  a75 := Tryz.isAgg200
  z75 := Tryz.sizeOf200
  v75 := Tryz.zeroValue200
  t76 := Tryz.underlying266
  a76 := Tryz.isAgg266
  z76 := Tryz.sizeOf266
  v76 := Tryz.zeroValue266
  t105 := Tryz.underlying308
  a105 := Tryz.isAgg308
  z105 := Tryz.sizeOf308
  v105 := Tryz.zeroValue308
  t107 := Tryz.underlying271
  a107 := Tryz.isAgg271
  z107 := Tryz.sizeOf271
  v107 := Tryz.zeroValue271
  t119 := Tryz.underlying349
  a119 := Tryz.isAgg349
  z119 := Tryz.sizeOf349
  t127 := Tryz.underlying307
  a127 := Tryz.isAgg307
  z127 := Tryz.sizeOf307
  v127 := Tryz.zeroValue307
  t138 := Tryz.underlying351
  a138 := Tryz.isAgg351
  z138 := Tryz.sizeOf351
  v138 := Tryz.zeroValue351
  t139 := Tryz.underlying352
  a139 := Tryz.isAgg352
  z139 := Tryz.sizeOf352
  v139 := Tryz.zeroValue352
  t160 := Tryz.underlying353
  a160 := Tryz.isAgg353
  z160 := Tryz.sizeOf353
  v160 := Tryz.zeroValue353
  t162 := Tryz.underlying337
  a162 := Tryz.isAgg337
  z162 := Tryz.sizeOf337
  v162 := Tryz.zeroValue337
  t164 := Tryz.underlying291
  a164 := Tryz.isAgg291
  z164 := Tryz.sizeOf291
  v164 := Tryz.zeroValue291
  t203 := Tryz.underlying335
  a203 := Tryz.isAgg335
  z203 := Tryz.sizeOf335
  v203 := Tryz.zeroValue335
  t206 := Tryz.underlying363
  a206 := Tryz.isAgg363
  z206 := Tryz.sizeOf363
  v206 := Tryz.zeroValue363
  t208 := Tryz.underlying365
  a208 := Tryz.isAgg365
  z208 := Tryz.sizeOf365
  v208 := Tryz.zeroValue365
  g3 := by kernel_rfl
  g4 := by kernel_rfl
  g13 := by kernel_rfl }
def lays102_ren : Go.Shelf.Ren := ⟨fun | 102 => 155 | 209 => 215 | 207 => 255 | n => n, fun | 9 => 9 | 4 => 4 | 3 => 3 | n => n, fun | n => n⟩
theorem lays102 : Go.Proofs.Lays.n102 Tryz.prog lays102_ren := {
  mixed := by kernel_rfl
  f102 := Tryz.func155.trans (congrArg some (by kernel_rfl))
  f207 := Tryz.func255.trans (congrArg some (by kernel_rfl))
  f209 := Tryz.func215.trans (congrArg some (by kernel_rfl))
  t3 := Tryz.underlying3
  a3 := Tryz.isAgg3
  z3 := Tryz.sizeOf3
  v3 := Tryz.zeroValue3
  t4 := Tryz.underlying4
  a4 := Tryz.isAgg4
  z4 := Tryz.sizeOf4
  v4 := Tryz.zeroValue4
  t9 := Tryz.underlying9
  a9 := Tryz.isAgg9
  z9 := Tryz.sizeOf9
  v9 := Tryz.zeroValue9 }
end Go.Proofs.YtcolecidbalmhaaGreatDoor
namespace Go.Proofs.YtcolecidbalmhaaGreatDoor
open Go.RowKit Go.Shelf
set_option maxRecDepth 100000
set_option linter.unusedVariables false

theorem lower_extra : Builder.Extra Tryz.prog lays159_ren :=
  { sizeBuilder := by kernel_rfl, liesBuilder := by kernel_rfl, t5 := lays159.t5, a5 := lays159.a5, z5 := lays159.z5, v5 := lays159.v5, infoByte := by kernel_rfl, cellsByte := by kernel_rfl, sizeByte := by kernel_rfl, neB5 := by decide }
theorem toLower_any (s : ByteArray) (w : World) (hs : s.size ≤ 140737488355328) (ha : ∀ (j : Nat) (b : UInt8), s.data.toList[j]? = some b → b.toNat < 128) :
    Calls Tryz.prog 154 #[.string s] w fun e w' => e = .returned (.string ⟨(Lib.toLowerA s.data.toList).toArray⟩) ∧ Below w.heap.size w w' :=
  Any.strings_ToLower_ascii lays159 lower_extra s w hs ha
theorem trimSuffix_any (s p : ByteArray) (w : World) (hs : s.size ≤ 9223372036854775807) :
    Calls Tryz.prog 155 #[.string s, .string p] w fun e w' => e = .returned (.string ⟨(Lib.trimSuffix s.data.toList p.data.toList).toArray⟩) ∧ w' = w :=
  Any.strings_TrimSuffix lays102 s p w hs

theorem normalText_any (s : ByteArray) (w : World) (hs : s.size ≤ 20) (hm : M.mDot s.data.toList = true) :
    Calls Tryz.prog 86 #[.string s] w fun e w' => e = .returned (.string (M.bs (M.nrm s.data.toList))) ∧ Below w.heap.size w w' := by
  have hL : s.data.toList.length = s.size := by simp
  have T1 : ∀ w, Calls Tryz.prog 155 #[.string s, .string { data := #[46] }] w fun e w' => e = .returned (.string (M.bs (M.bare s.data.toList))) ∧ w = w' := fun w =>
    (trimSuffix_any s { data := #[46] } w (by omega)).mono fun e w' h => by
      obtain ⟨rfl, rfl⟩ := h
      refine ⟨?_, rfl⟩
      rw [← M.bare_trim hm]
      rfl
  have hbl := M.bare_length s.data.toList
  have T2 : ∀ w, Calls Tryz.prog 154 #[.string (M.bs (M.bare s.data.toList))] w fun e w' => e = .returned (.string (M.bs (M.nrm s.data.toList))) ∧ Below w.heap.size w w' := fun w =>
    (toLower_any (M.bs (M.bare s.data.toList)) w (by rw [M.bs_size]; omega) (by rw [M.bs_list]; exact M.bare_ascii hm)).mono fun e w' h => by
      obtain ⟨rfl, hb⟩ := h
      refine ⟨?_, hb⟩
      rw [M.bs_list]
      rfl
  generalize M.bs (M.nrm s.data.toList) = R at *
  generalize M.bs (M.bare s.data.toList) = B at *
  clear hm hbl hL
  go_enter Tryz.func86, Tryz.ntmps86
  go_wp2_with fail
  refine (T1 _).mono ?_
  rintro r w' ⟨rfl, rfl⟩
  go_wp2_with fail
  refine (T2 _).mono ?_
  rintro r w1 ⟨rfl, hb⟩
  go_wp2_with fail
  go_ret
  exact ⟨rfl, hb⟩
end Go.Proofs.YtcolecidbalmhaaGreatDoor
namespace Go.Proofs.YtcolecidbalmhaaGreatDoor
open Go.RowKit
set_option maxRecDepth 100000
set_option linter.unusedVariables false

theorem strOf_bytes (l : List UInt8) : strOf (l.map fun b => (b.toNat : Int)) = M.bs l := by
  have e : (strOf (l.map fun b => (b.toNat : Int))).data.toList = l := by
    rw [strOf, strOf_data]
    simp [List.map_map, Function.comp_def]
  rw [← M.bs_data (strOf _), e]

theorem OwnK.read {k : IntKind} {w : World} {B g n c : Nat} {zs : List Int} {j : Nat} {z : Int} (h : OwnK k w B (.slice (some ⟨g, 0, none⟩) n c) zs) (hz : zs[j]? = some z) : w.cell? ⟨g, j, none⟩ = some (.int k z) ∧ w.frozen? ⟨g, j, none⟩ = false := by
  have hj := (List.getElem?_eq_some_iff.1 hz).1
  rcases h.2 with ⟨e, h0⟩ | ⟨g', c', e, hB, hg, hn, hm, hcell, hroom⟩
  · cases e
  injection e with e1 e2 e3
  injection e1 with e1
  injection e1 with e1 _ _
  subst e1
  exact ⟨hcell j _ (by rw [List.getElem?_map, hz]; rfl), (hroom j (by omega)).2⟩

structure LowRel (W : World) (g n c : Nat) (zs : List Int) (k : Nat) (wr : World) : Prop where
  own : OwnK .u8 wr W.heap.size (.slice (some ⟨g, 0, none⟩) n c) (M.lowK zs k)
  bel : Below W.heap.size W wr

theorem LowRel.up {W : World} {g n c : Nat} {zs : List Int} {k : Nat} {wr : World} {z : Int} (h : LowRel W g n c zs k wr) (hg : W.heap.size ≤ g) (hz : zs[k]? = some z) (h0 : 65 ≤ z) (h1 : z ≤ 90) : LowRel W g n c zs (k + 1) (wr.setCell ⟨g, k, none⟩ (.int .u8 (z + 32))) := by
  have hk := (List.getElem?_eq_some_iff.1 hz).1
  have e : M.lowI z = z + 32 := by simp [M.lowI, h0, h1]
  refine ⟨?_, bset h.bel hg _⟩
  rw [M.lowK_next zs k z hz, e]
  exact h.own.put (by rw [M.lowK_length]; exact hk)
theorem LowRel.no {W : World} {g n c : Nat} {zs : List Int} {k : Nat} {wr : World} {z : Int} (h : LowRel W g n c zs k wr) (hz : zs[k]? = some z) (h0 : ¬ (65 ≤ z ∧ z ≤ 90)) : LowRel W g n c zs (k + 1) wr := by
  have e : M.lowI z = z := by simp [M.lowI, h0]
  refine ⟨?_, h.bel⟩
  rw [M.lowK_next zs k z hz, e, M.set_same (M.lowK_at zs k z hz)]
  exact h.own

theorem l5Normal_any (s : ByteArray) (w : World) (hs : s.size ≤ 20) :
    Calls Tryz.prog 107 #[.string s] w fun e w' => e = .returned (.string (M.bs (M.nrm s.data.toList))) ∧ Below w.heap.size w w' := by
  have hL : s.data.toList.length = s.size := by simp
  have hbl := M.bare_length s.data.toList
  have F := fun w => l5Bare_any s w (by simp only [maxLen]; omega)
  have HE := Lib.hid (show strOf ((M.textL (M.bs (M.bare s.data.toList))).map M.lowI) = M.bs (M.nrm s.data.toList) by rw [M.low_text, strOf_bytes]; rfl)
  have hB : (M.bs (M.bare s.data.toList)).size ≤ 20 := by rw [M.bs_size]; omega
  generalize M.bs (M.nrm s.data.toList) = R at *
  generalize M.bs (M.bare s.data.toList) = B at *
  have hBm : B.size ≤ maxLen := by simp only [maxLen]; omega
  have hcv := fun (W : World) => run_bytes_of_string (P := Tryz.prog) W 9 22 5 B Tryz.underlying9 Tryz.underlying22 Tryz.underlying5
  have O0 := own_text w B 5 hBm
  have hzl : (M.textL B).length = B.size := M.textL_length B
  have HZ : Hid (∀ z ∈ M.textL B, 0 ≤ z ∧ z ≤ 255) := Lib.hid (fun z hz => by
    unfold M.textL at hz
    obtain ⟨b, _, rfl⟩ := List.mem_map.1 hz
    have := b.toNat_lt
    omega)
  have hcm := grownCap_le_maxLen w B.size 0 5 hBm
  have hcg := grownCap_ge w B.size 0 5
  unfold maxLen at hcm
  clear hbl
  go_enter Tryz.func107, Tryz.ntmps107
  go_wp2_with fail
  refine (F _).mono ?_
  rintro r w' ⟨rfl, rfl⟩
  have T0 : LowRel w w.heap.size B.size (grownCap w B.size 0 5) (M.textL B) 0 (w.alloc (textObj w B 5)).drew := ⟨by
    unfold OwnK
    rw [M.lowK_zero, hzl]
    exact O0.drew, (bal (Below.refl _ _) _).drew⟩
  clear O0
  go_wp2_with fail
  clear hcv
  go_loopw [4] (fun i wr => ∃ k : Nat, k ≤ B.size ∧ i = .int .i64 k ∧ LowRel w w.heap.size B.size (grownCap w B.size 0 5) (M.textL B) k wr) (fun i _ => B.size - (intOf i).toNat)
  case atStart => exact ⟨0, Nat.zero_le _, rfl, T0⟩
  case round =>
    obtain ⟨k, hk, rfl, hT⟩ := hrel
    by_cases hlt : k < B.size
    · obtain ⟨z, hz⟩ : ∃ z, (M.textL B)[k]? = some z := ⟨(M.textL B)[k], by simp [hzl, hlt]⟩
      obtain ⟨z0, z1⟩ := HZ.out z (List.mem_of_getElem? hz)
      obtain ⟨hcell, hfr⟩ := hT.own.read (M.lowK_at _ k z hz)
      by_cases h0 : 65 ≤ z
      · by_cases h1 : z ≤ 90
        · have T2 := hT.up (Nat.le_refl _) hz h0 h1
          clear hT hz
          go_wp2_with fail
          go_roundw
          case rel => exact ⟨k + 1, by omega, by go_num, T2⟩
          case measure => simp [intOf]; omega
        · have T2 := hT.no hz (by omega)
          clear hT hz
          go_wp2_with fail
          go_roundw
          case rel => exact ⟨k + 1, by omega, by go_num, T2⟩
          case measure => simp [intOf]; omega
      · have T2 := hT.no hz (by omega)
        clear hT hz
        go_wp2_with fail
        go_roundw
        case rel => exact ⟨k + 1, by omega, by go_num, T2⟩
        case measure => simp [intOf]; omega
    · obtain rfl : k = B.size := by omega
      have hO := hT.own
      rw [show M.lowK (M.textL B) B.size = (M.textL B).map M.lowI by rw [← hzl, M.lowK_all]] at hO
      have kr := conv_row (Own.row hO (fun z hz => by
        obtain ⟨y, hy, rfl⟩ := List.mem_map.1 hz
        have := HZ.out y hy
        unfold M.lowI
        split <;> (simp [Lit.wf, IntKind.min, IntKind.max, IntKind.signed, IntKind.bits]; omega)))
      rw [HE.out] at kr
      have hb := hT.bel
      clear hT hO
      go_wp2_with fail
      go_ret
      exact ⟨rfl, hb⟩
end Go.Proofs.YtcolecidbalmhaaGreatDoor
namespace Go.Proofs.YtcolecidbalmhaaGreatDoor
open Go.RowKit
set_option maxRecDepth 100000
set_option linter.unusedVariables false

theorem text_beq (x y : ByteArray) : (x.toList == y.toList) = decide (x.data.toList = y.data.toList) := by
  rw [ByteArray.toList_eq, ByteArray.toList_eq, Bool.eq_iff_iff]
  simp
theorem size_max {s : ByteArray} (h : s.size ≤ 20) : s.size ≤ maxLen := by simp only [maxLen]; omega
abbrev X2 (c : Int) (t : ByteArray) : Value := .agg #[.int .i64 c, .string t]

end Go.Proofs.YtcolecidbalmhaaGreatDoor
