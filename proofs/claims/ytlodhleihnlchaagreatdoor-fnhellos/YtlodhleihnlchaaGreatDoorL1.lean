/- Texts of this seat that several laws rest on, laid into one. Conditions: as each theorem states. -/
import Derived.Test.YtlodhleihnlchaaGreatDoorL0
import Derived.WalkMore
import Derived.Lib.IndexBytes
namespace Go.Proofs.YtlodhleihnlchaaGreatDoor
open Go.RowKit
set_option maxRecDepth 100000
set_option linter.unusedVariables false

theorem charAt_any (s : ByteArray) (k : Nat) (w : World) (hs : s.size ≤ maxLen) (hk : k ≤ 1000) :
    Calls Tryz.prog 277 #[.string s, .int .i64 k] w fun e w' => e = .returned (.int .i64 (M.chr s.data.toList k)) ∧ w = w' := by
  unfold maxLen at hs
  by_cases hlt : k < s.size
  · have HC := Lib.hid ((M.chr_at s k hlt).trans (M.cls_eq _))
    go_enter Tryz.func277, Tryz.ntmps277
    go_wp2_with fail
    all_goals
      go_ret
      refine ⟨ret_int ?_, rfl⟩
      (try simp only [beq_iff_eq, beq_eq_false_iff_ne, ne_eq] at *)
      rw [HC.out]
      repeat' (first | rfl | omega | split)
  · have HC := Lib.hid (M.chr_end s k (by omega))
    have hge : (s.size : Int) ≤ k := by omega
    go_enter Tryz.func277, Tryz.ntmps277
    go_wp2_with fail
    go_ret
    exact ⟨ret_int HC.out.symm, rfl⟩

def AtLab (l : List UInt8) : Nat → Nat → Prop
  | 0, k => M.mDot (l.drop k) = M.mDot l
  | 1, k => M.mPlain (l.drop (k + 1)) = M.mDot l
  | 2, k => M.mDash (l.drop (k + 1)) = M.mDot l
  | _, _ => False
def PartsJ (s : ByteArray) (w : World) (lab : Nat) (a' : Act) (w' : World) : Prop :=
  w = w' ∧ ∃ (i : Int) (k : Nat) (u4 u5 u6 u7 u8 u9 u10 u11 u12 u13 u14 u15 u16 u17 u18 u19 u20 u21 u22 u23 u24 u25 u26 u27 u28 u29 u30 u31 u32 u33 u34 u35 : Value), a' = { tmps := #[.string s, undef, .bool false, .int .i64 i, u4, u5, u6, u7, u8, u9, u10, u11, u12, u13, u14, u15, u16, u17, u18, u19, u20, u21, u22, u23, u24, u25, u26, u27, u28, u29, u30, u31, u32, u33, u34, u35], defers := [] } ∧ i = k ∧ k < s.size ∧ AtLab s.data.toList lab k
def placeOf (a : Act) : Nat := (intOf (a.tmps.getD 3 undef)).toNat

theorem hasParts_any (s : ByteArray) (w : World) (hs : s.size ≤ 20) :
    Calls Tryz.prog 227 #[.string s] w fun e w' => e = .returned (.bool (M.mDot s.data.toList)) ∧ w = w' := by
  have hm : s.size ≤ maxLen := by simp only [maxLen]; omega
  have C : ∀ (i : Int) (k : Nat) (c : Int), M.chr s.data.toList k = c → i = k → k ≤ 1000 → ∀ w, Calls Tryz.prog 277 #[.string s, .int .i64 i] w fun e w' => e = .returned (.int .i64 c) ∧ w = w' := by
    intro i k c hc hi hk w
    subst hi
    subst hc
    exact charAt_any s k w hm hk
  have hL : s.data.toList.length = s.size := by simp
  have S := fun k => M.step s.data.toList k
  have h0 : M.mDot (s.data.toList.drop 0) = M.mDot s.data.toList := rfl
  obtain ⟨B, hB⟩ : ∃ B, B = M.mDot s.data.toList := ⟨_, rfl⟩
  have fin : ∀ (b : Bool), b = B → Ending.returned (.bool b) = .returned (.bool (M.mDot s.data.toList)) := fun _ h => by rw [h, hB]
  have HF := Lib.hid fin
  have HB := Lib.hid hB
  clear fin hB
  go_enter Tryz.func227, Tryz.ntmps227
  go_wp2_with fail
  refine wp_scope_labels (PartsJ s w) (fun _ a' _ => s.size - placeOf a') ?_ ?_
  · go_wp2_with fail
    go_step3
    rcases S (0) with ⟨e, hl, d, p, q⟩ | ⟨e, hl, d, p, q⟩ | ⟨e, hl, d, p, q⟩ | ⟨e, hl, d, p, q⟩ | ⟨e, hl, d, p, q⟩ | ⟨e, hl, d, p, q⟩
    · go_wp2_with fail
      refine (C 0 (0) _ e (by omega) (by omega) _).mono ?_
      rintro r w' ⟨rfl, rfl⟩
      have h1 := d.symm.trans h0
      clear e
      go_wp2_with fail
      go_step3
      rcases S (0 + 1) with ⟨e, hl, d, p, q⟩ | ⟨e, hl, d, p, q⟩ | ⟨e, hl, d, p, q⟩ | ⟨e, hl, d, p, q⟩ | ⟨e, hl, d, p, q⟩ | ⟨e, hl, d, p, q⟩ <;> clear S
      · go_wp2_with fail
        refine (C (0 + 1) (0 + 1) _ e (by omega) (by omega) _).mono ?_
        rintro r w' ⟨rfl, rfl⟩
        go_wp2_with fail
        go_step3
        refine ⟨rfl, _, 0 + 1, _, _, _, _, _, _, _, _, _, _, _, _, _, _, _, _, _, _, _, _, _, _, _, _, _, _, _, _, _, _, _, _, rfl, by omega, by omega, ?_⟩
        exact (p.symm).trans h1
      · go_wp2_with fail
        refine (C (0 + 1) (0 + 1) _ e (by omega) (by omega) _).mono ?_
        rintro r w' ⟨rfl, rfl⟩
        go_wp2_with fail
        go_step3
        refine ⟨rfl, _, 0 + 1, _, _, _, _, _, _, _, _, _, _, _, _, _, _, _, _, _, _, _, _, _, _, _, _, _, _, _, _, _, _, _, _, rfl, by omega, by omega, ?_⟩
        exact (p.symm).trans h1
      · go_wp2_with fail
        refine (C (0 + 1) (0 + 1) _ e (by omega) (by omega) _).mono ?_
        rintro r w' ⟨rfl, rfl⟩
        have hlt : (0 + 1) + 1 < (s.size : Int) := by omega
        go_wp2_with fail
        go_step3
        refine ⟨rfl, _, 0 + 1 + 1, _, _, _, _, _, _, _, _, _, _, _, _, _, _, _, _, _, _, _, _, _, _, _, _, _, _, _, _, _, _, _, _, rfl, by omega, by omega, ?_⟩
        exact (p.symm).trans h1
      · go_wp2_with fail
        refine (C (0 + 1) (0 + 1) _ e (by omega) (by omega) _).mono ?_
        rintro r w' ⟨rfl, rfl⟩
        have hlt : ¬ (0 + 1) + 1 < (s.size : Int) := by omega
        go_wp2_with fail
        simp only [jumps]
        go_ret
        exact ⟨HF.out _ ((p.symm).trans (h1.trans HB.out.symm)), rfl⟩
      · go_wp2_with fail
        refine (C (0 + 1) (0 + 1) _ e (by omega) (by omega) _).mono ?_
        rintro r w' ⟨rfl, rfl⟩
        go_wp2_with fail
        simp only [jumps]
        go_ret
        exact ⟨HF.out _ ((p.symm).trans (h1.trans HB.out.symm)), rfl⟩
      · go_wp2_with fail
        refine (C (0 + 1) (0 + 1) _ e (by omega) (by omega) _).mono ?_
        rintro r w' ⟨rfl, rfl⟩
        go_wp2_with fail
        simp only [jumps]
        go_ret
        exact ⟨HF.out _ ((p.symm).trans (h1.trans HB.out.symm)), rfl⟩
    · go_wp2_with fail
      refine (C 0 (0) _ e (by omega) (by omega) _).mono ?_
      rintro r w' ⟨rfl, rfl⟩
      go_wp2_with fail
      simp only [jumps]
      go_ret
      exact ⟨HF.out _ ((d.symm).trans (h0.trans HB.out.symm)), rfl⟩
    · go_wp2_with fail
      refine (C 0 (0) _ e (by omega) (by omega) _).mono ?_
      rintro r w' ⟨rfl, rfl⟩
      go_wp2_with fail
      simp only [jumps]
      go_ret
      exact ⟨HF.out _ ((d.symm).trans (h0.trans HB.out.symm)), rfl⟩
    · go_wp2_with fail
      refine (C 0 (0) _ e (by omega) (by omega) _).mono ?_
      rintro r w' ⟨rfl, rfl⟩
      go_wp2_with fail
      simp only [jumps]
      go_ret
      exact ⟨HF.out _ ((d.symm).trans (h0.trans HB.out.symm)), rfl⟩
    · go_wp2_with fail
      refine (C 0 (0) _ e (by omega) (by omega) _).mono ?_
      rintro r w' ⟨rfl, rfl⟩
      go_wp2_with fail
      simp only [jumps]
      go_ret
      exact ⟨HF.out _ ((d.symm).trans (h0.trans HB.out.symm)), rfl⟩
    · go_wp2_with fail
      refine (C 0 (0) _ e (by omega) (by omega) _).mono ?_
      rintro r w' ⟨rfl, rfl⟩
      go_wp2_with fail
      simp only [jumps]
      go_ret
      exact ⟨HF.out _ ((d.symm).trans (h0.trans HB.out.symm)), rfl⟩
  · rintro lab a' w' ⟨rfl, i, k, u4, u5, u6, u7, u8, u9, u10, u11, u12, u13, u14, u15, u16, u17, u18, u19, u20, u21, u22, u23, u24, u25, u26, u27, u28, u29, u30, u31, u32, u33, u34, u35, rfl, rfl, hk, hat⟩
    rcases lab with _ | _ | _ | n
    · refine ⟨_, rfl, ?_⟩
      have h1 : M.mDot (s.data.toList.drop k) = M.mDot s.data.toList := hat
      clear hat
      rcases S (k) with ⟨e, hl, d, p, q⟩ | ⟨e, hl, d, p, q⟩ | ⟨e, hl, d, p, q⟩ | ⟨e, hl, d, p, q⟩ | ⟨e, hl, d, p, q⟩ | ⟨e, hl, d, p, q⟩
      · go_wp2_with fail
        refine (C k (k) _ e (by omega) (by omega) _).mono ?_
        rintro r w' ⟨rfl, rfl⟩
        have h1 := d.symm.trans h1
        clear e
        go_wp2_with fail
        go_step3
        rcases S (k + 1) with ⟨e, hl, d, p, q⟩ | ⟨e, hl, d, p, q⟩ | ⟨e, hl, d, p, q⟩ | ⟨e, hl, d, p, q⟩ | ⟨e, hl, d, p, q⟩ | ⟨e, hl, d, p, q⟩ <;> clear S
        · go_wp2_with fail
          refine (C ((k : Int) + 1) (k + 1) _ e (by omega) (by omega) _).mono ?_
          rintro r w' ⟨rfl, rfl⟩
          go_wp2_with fail
          go_step3
          refine ⟨⟨rfl, _, k + 1, _, _, _, _, _, _, _, _, _, _, _, _, _, _, _, _, _, _, _, _, _, _, _, _, _, _, _, _, _, _, _, _, rfl, by omega, by omega, ?_⟩, ?_⟩
          · exact (p.symm).trans h1
          · simp [placeOf, intOf]; omega
        · go_wp2_with fail
          refine (C ((k : Int) + 1) (k + 1) _ e (by omega) (by omega) _).mono ?_
          rintro r w' ⟨rfl, rfl⟩
          go_wp2_with fail
          go_step3
          refine ⟨⟨rfl, _, k + 1, _, _, _, _, _, _, _, _, _, _, _, _, _, _, _, _, _, _, _, _, _, _, _, _, _, _, _, _, _, _, _, _, rfl, by omega, by omega, ?_⟩, ?_⟩
          · exact (p.symm).trans h1
          · simp [placeOf, intOf]; omega
        · go_wp2_with fail
          refine (C ((k : Int) + 1) (k + 1) _ e (by omega) (by omega) _).mono ?_
          rintro r w' ⟨rfl, rfl⟩
          have hlt : ((k : Int) + 1) + 1 < (s.size : Int) := by omega
          go_wp2_with fail
          go_step3
          refine ⟨⟨rfl, _, k + 1 + 1, _, _, _, _, _, _, _, _, _, _, _, _, _, _, _, _, _, _, _, _, _, _, _, _, _, _, _, _, _, _, _, _, rfl, by omega, by omega, ?_⟩, ?_⟩
          · exact (p.symm).trans h1
          · simp [placeOf, intOf]; omega
        · go_wp2_with fail
          refine (C ((k : Int) + 1) (k + 1) _ e (by omega) (by omega) _).mono ?_
          rintro r w' ⟨rfl, rfl⟩
          have hlt : ¬ ((k : Int) + 1) + 1 < (s.size : Int) := by omega
          go_wp2_with fail
          simp only [jumps]
          go_ret
          exact ⟨HF.out _ ((p.symm).trans (h1.trans HB.out.symm)), rfl⟩
        · go_wp2_with fail
          refine (C ((k : Int) + 1) (k + 1) _ e (by omega) (by omega) _).mono ?_
          rintro r w' ⟨rfl, rfl⟩
          go_wp2_with fail
          simp only [jumps]
          go_ret
          exact ⟨HF.out _ ((p.symm).trans (h1.trans HB.out.symm)), rfl⟩
        · go_wp2_with fail
          refine (C ((k : Int) + 1) (k + 1) _ e (by omega) (by omega) _).mono ?_
          rintro r w' ⟨rfl, rfl⟩
          go_wp2_with fail
          simp only [jumps]
          go_ret
          exact ⟨HF.out _ ((p.symm).trans (h1.trans HB.out.symm)), rfl⟩
      · go_wp2_with fail
        refine (C k (k) _ e (by omega) (by omega) _).mono ?_
        rintro r w' ⟨rfl, rfl⟩
        go_wp2_with fail
        simp only [jumps]
        go_ret
        exact ⟨HF.out _ ((d.symm).trans (h1.trans HB.out.symm)), rfl⟩
      · go_wp2_with fail
        refine (C k (k) _ e (by omega) (by omega) _).mono ?_
        rintro r w' ⟨rfl, rfl⟩
        go_wp2_with fail
        simp only [jumps]
        go_ret
        exact ⟨HF.out _ ((d.symm).trans (h1.trans HB.out.symm)), rfl⟩
      · go_wp2_with fail
        refine (C k (k) _ e (by omega) (by omega) _).mono ?_
        rintro r w' ⟨rfl, rfl⟩
        go_wp2_with fail
        simp only [jumps]
        go_ret
        exact ⟨HF.out _ ((d.symm).trans (h1.trans HB.out.symm)), rfl⟩
      · go_wp2_with fail
        refine (C k (k) _ e (by omega) (by omega) _).mono ?_
        rintro r w' ⟨rfl, rfl⟩
        go_wp2_with fail
        simp only [jumps]
        go_ret
        exact ⟨HF.out _ ((d.symm).trans (h1.trans HB.out.symm)), rfl⟩
      · go_wp2_with fail
        refine (C k (k) _ e (by omega) (by omega) _).mono ?_
        rintro r w' ⟨rfl, rfl⟩
        go_wp2_with fail
        simp only [jumps]
        go_ret
        exact ⟨HF.out _ ((d.symm).trans (h1.trans HB.out.symm)), rfl⟩
    · refine ⟨_, rfl, ?_⟩
      have h1 : M.mPlain (s.data.toList.drop (k + 1)) = M.mDot s.data.toList := hat
      clear hat
      rcases S (k + 1) with ⟨e, hl, d, p, q⟩ | ⟨e, hl, d, p, q⟩ | ⟨e, hl, d, p, q⟩ | ⟨e, hl, d, p, q⟩ | ⟨e, hl, d, p, q⟩ | ⟨e, hl, d, p, q⟩ <;> clear S
      · go_wp2_with fail
        refine (C ((k : Int) + 1) (k + 1) _ e (by omega) (by omega) _).mono ?_
        rintro r w' ⟨rfl, rfl⟩
        go_wp2_with fail
        go_step3
        refine ⟨⟨rfl, _, k + 1, _, _, _, _, _, _, _, _, _, _, _, _, _, _, _, _, _, _, _, _, _, _, _, _, _, _, _, _, _, _, _, _, rfl, by omega, by omega, ?_⟩, ?_⟩
        · exact (p.symm).trans h1
        · simp [placeOf, intOf]; omega
      · go_wp2_with fail
        refine (C ((k : Int) + 1) (k + 1) _ e (by omega) (by omega) _).mono ?_
        rintro r w' ⟨rfl, rfl⟩
        go_wp2_with fail
        go_step3
        refine ⟨⟨rfl, _, k + 1, _, _, _, _, _, _, _, _, _, _, _, _, _, _, _, _, _, _, _, _, _, _, _, _, _, _, _, _, _, _, _, _, rfl, by omega, by omega, ?_⟩, ?_⟩
        · exact (p.symm).trans h1
        · simp [placeOf, intOf]; omega
      · go_wp2_with fail
        refine (C ((k : Int) + 1) (k + 1) _ e (by omega) (by omega) _).mono ?_
        rintro r w' ⟨rfl, rfl⟩
        have hlt : ((k : Int) + 1) + 1 < (s.size : Int) := by omega
        go_wp2_with fail
        go_step3
        refine ⟨⟨rfl, _, k + 1 + 1, _, _, _, _, _, _, _, _, _, _, _, _, _, _, _, _, _, _, _, _, _, _, _, _, _, _, _, _, _, _, _, _, rfl, by omega, by omega, ?_⟩, ?_⟩
        · exact (p.symm).trans h1
        · simp [placeOf, intOf]; omega
      · go_wp2_with fail
        refine (C ((k : Int) + 1) (k + 1) _ e (by omega) (by omega) _).mono ?_
        rintro r w' ⟨rfl, rfl⟩
        have hlt : ¬ ((k : Int) + 1) + 1 < (s.size : Int) := by omega
        go_wp2_with fail
        simp only [jumps]
        go_ret
        exact ⟨HF.out _ ((p.symm).trans (h1.trans HB.out.symm)), rfl⟩
      · go_wp2_with fail
        refine (C ((k : Int) + 1) (k + 1) _ e (by omega) (by omega) _).mono ?_
        rintro r w' ⟨rfl, rfl⟩
        go_wp2_with fail
        simp only [jumps]
        go_ret
        exact ⟨HF.out _ ((p.symm).trans (h1.trans HB.out.symm)), rfl⟩
      · go_wp2_with fail
        refine (C ((k : Int) + 1) (k + 1) _ e (by omega) (by omega) _).mono ?_
        rintro r w' ⟨rfl, rfl⟩
        go_wp2_with fail
        simp only [jumps]
        go_ret
        exact ⟨HF.out _ ((p.symm).trans (h1.trans HB.out.symm)), rfl⟩
    · refine ⟨_, rfl, ?_⟩
      have h1 : M.mDash (s.data.toList.drop (k + 1)) = M.mDot s.data.toList := hat
      clear hat
      rcases S (k + 1) with ⟨e, hl, d, p, q⟩ | ⟨e, hl, d, p, q⟩ | ⟨e, hl, d, p, q⟩ | ⟨e, hl, d, p, q⟩ | ⟨e, hl, d, p, q⟩ | ⟨e, hl, d, p, q⟩ <;> clear S
      · go_wp2_with fail
        refine (C ((k : Int) + 1) (k + 1) _ e (by omega) (by omega) _).mono ?_
        rintro r w' ⟨rfl, rfl⟩
        go_wp2_with fail
        go_step3
        refine ⟨⟨rfl, _, k + 1, _, _, _, _, _, _, _, _, _, _, _, _, _, _, _, _, _, _, _, _, _, _, _, _, _, _, _, _, _, _, _, _, rfl, by omega, by omega, ?_⟩, ?_⟩
        · exact (q.symm).trans h1
        · simp [placeOf, intOf]; omega
      · go_wp2_with fail
        refine (C ((k : Int) + 1) (k + 1) _ e (by omega) (by omega) _).mono ?_
        rintro r w' ⟨rfl, rfl⟩
        go_wp2_with fail
        go_step3
        refine ⟨⟨rfl, _, k + 1, _, _, _, _, _, _, _, _, _, _, _, _, _, _, _, _, _, _, _, _, _, _, _, _, _, _, _, _, _, _, _, _, rfl, by omega, by omega, ?_⟩, ?_⟩
        · exact (q.symm).trans h1
        · simp [placeOf, intOf]; omega
      · go_wp2_with fail
        refine (C ((k : Int) + 1) (k + 1) _ e (by omega) (by omega) _).mono ?_
        rintro r w' ⟨rfl, rfl⟩
        go_wp2_with fail
        simp only [jumps]
        go_ret
        exact ⟨HF.out _ ((q.symm).trans (h1.trans HB.out.symm)), rfl⟩
      · go_wp2_with fail
        refine (C ((k : Int) + 1) (k + 1) _ e (by omega) (by omega) _).mono ?_
        rintro r w' ⟨rfl, rfl⟩
        go_wp2_with fail
        simp only [jumps]
        go_ret
        exact ⟨HF.out _ ((q.symm).trans (h1.trans HB.out.symm)), rfl⟩
      · go_wp2_with fail
        refine (C ((k : Int) + 1) (k + 1) _ e (by omega) (by omega) _).mono ?_
        rintro r w' ⟨rfl, rfl⟩
        go_wp2_with fail
        simp only [jumps]
        go_ret
        exact ⟨HF.out _ ((q.symm).trans (h1.trans HB.out.symm)), rfl⟩
      · go_wp2_with fail
        refine (C ((k : Int) + 1) (k + 1) _ e (by omega) (by omega) _).mono ?_
        rintro r w' ⟨rfl, rfl⟩
        go_wp2_with fail
        simp only [jumps]
        go_ret
        exact ⟨HF.out _ ((q.symm).trans (h1.trans HB.out.symm)), rfl⟩
    · exact hat.elim
end Go.Proofs.YtlodhleihnlchaaGreatDoor
namespace Go.Proofs.YtlodhleihnlchaaGreatDoor
open Go.RowKit

def OwnK (k : IntKind) (w : World) (B : Nat) (v : Value) (zs : List Int) : Prop := Own w B 1 v zs.length (zs.map (Value.int k))
def Grew (k : IntKind) (B : Nat) (v : Value) (zs : List Int) (w : World) (r : Ending) (w' : World) : Prop := ∃ v', r = .returned v' ∧ OwnK k w' B v' zs ∧ w.grownBy w' v.ownBlock
theorem Own.grown {W w w' : World} {B size : Nat} {v : Value} {n : Nat} {xs : List Value} (h : Own w B size v n xs) (hb : Below B W w) (hB : B ≤ w.heap.size) (hg : w.grownBy w' v.ownBlock) : Below B W w' :=
  hb.grown hg hB fun k hk => (h.lt k hk).1

theorem u8_info : (Tryz.prog.info? 5).map (fun i => (i.zero, i.size, i.bytes)) = some (some (.int .u8 0), 1, 1) := by kernel_rfl

theorem i64_info : (Tryz.prog.info? 2).map (fun i => (i.zero, i.size, i.bytes)) = some (some (.int .i64 0), 1, 8) := by kernel_rfl

theorem src_new {P : Program} (w : World) (vs : List Value) (m c : Nat) (t tx e' : TypeId) (hk : P.underlying tx = some (.slice e')) (hm : vs.length = m) (h1 : ∀ u ∈ vs, u.oneCell' = true) :
    Go.Src P 1 tx (.slice (some ⟨w.heap.size, 0, none⟩) m c) m vs (w.alloc (.cells vs.toArray t)) := by
  refine Src.ofSlice _ hk _ _ _ _ (by omega) (fun j u hu => ?_) h1
  have e1 : (w.alloc (.cells vs.toArray t)).heap[w.heap.size]? = some (.cells vs.toArray t) := (MapKept.heap_alloc w _).1
  rw [Addr.add_lit, Nat.zero_add]
  unfold World.cell?
  rw [e1]
  simpa using hu
theorem grown_alloc {w w' : World} {o : Obj} {row : Option Nat} (h : (w.alloc o).grownBy w' row) : w.grownBy w' row :=
  ⟨h.os, h.tape, h.output, Nat.le_trans (by simp) h.size, fun k hk hne => (h.block k (by simp; omega) hne).trans (Below.heap_alloc w o k hk)⟩
theorem grown_trans {w w1 w2 : World} {r1 r2 row : Option Nat} (h : w.grownBy w1 r1) (k : w1.grownBy w2 r2) (h1 : ∀ g, r1 = some g → w.heap.size ≤ g ∨ row = some g) (h2 : ∀ g, r2 = some g → w.heap.size ≤ g ∨ row = some g) : w.grownBy w2 row :=
  ⟨k.os.trans h.os, k.tape.trans h.tape, k.output.trans h.output, Nat.le_trans h.size k.size, fun i hi hne =>
    (k.block i (Nat.lt_of_lt_of_le hi h.size) (fun e => by rcases h2 i e.symm with h | h; · omega
                                                           · exact hne h.symm)).trans
      (h.block i hi (fun e => by rcases h1 i e.symm with h | h; · omega
                                 · exact hne h.symm))⟩

theorem appendTwo_any (v : Value) (n : Int) (B : Nat) (zs : List Int) (w : World) (ho : OwnK .u8 w B v zs) (hB : B ≤ w.heap.size) (hn : M.sumB n = true) (hl : zs.length ≤ 1000000) :
    Calls Tryz.prog 209 #[v, .int .i64 n] w (Grew .u8 B v (zs ++ M.two n) w) := by
  obtain ⟨i0, hi0, hz0, hz1, hz2⟩ := info_parts u8_info
  have hn' := hn
  simp only [M.sumB, decide_eq_true_eq] at hn'
  obtain ⟨n0, n1⟩ := hn'
  clear hn
  go_enter Tryz.func209, Tryz.ntmps209
  go_wp2_with (at_builtin; refine wpList_append_src _ rfl (.tmp 5) (.tmp 11) 22 22 rfl B 5 i0 (.int .u8 0) 1 1 Tryz.underlying22 hi0 hz0 hz1 hz2 rfl v zs.length (zs.map (Value.int .u8)) rfl (ho.alloc _) _ 2 [.int .u8 (n / 256), .int .u8 (n % 256)] rfl (src_new w _ 2 2 _ _ _ Tryz.underlying22 rfl (ints_oneCell .u8 [n / 256, n % 256])) (by simp only [maxLen]; omega) (by omega) (by simp; omega) ?_; intro v' w' hown hgrow hat)
  go_ret
  exact ⟨v', rfl, by unfold OwnK; simpa [M.two] using hown, grown_alloc hgrow⟩

def Two (n : Int) (w : World) (r : Ending) (w' : World) : Prop := r = .returned (.slice (some ⟨w.heap.size, 0, none⟩) 2 2) ∧ w' = w.alloc (.cells #[.int .u8 (n / 256), .int .u8 (n % 256)] 5)
theorem l1Two_any (n : Int) (w : World) (hn : M.sumB n = true) : Calls Tryz.prog 188 #[.int .i64 n] w (Two n w) := by
  have hn' := hn
  simp only [M.sumB, decide_eq_true_eq] at hn'
  obtain ⟨n0, n1⟩ := hn'
  clear hn
  go_enter Tryz.func188, Tryz.ntmps188
  go_wp2_with fail
  go_ret
  exact ⟨rfl, rfl⟩

theorem src_at {P : Program} {w : World} (g : Nat) (vs : List Value) (m c : Nat) (t tx e' : TypeId) (hk : P.underlying tx = some (.slice e')) (hm : vs.length = m) (h1 : ∀ u ∈ vs, u.oneCell' = true)
    (hg : w.heap[g]? = some (.cells vs.toArray t)) : Go.Src P 1 tx (.slice (some ⟨g, 0, none⟩) m c) m vs w := by
  refine Src.ofSlice _ hk _ _ _ _ (by omega) (fun j u hu => ?_) h1
  rw [Addr.add_lit, Nat.zero_add]
  unfold World.cell?
  rw [hg]
  simpa using hu
abbrev textObj (w : World) (s : ByteArray) (e : TypeId) : Obj := .cells (bytesRow s (grownCap w s.size 0 e)) e ((bytesRow s (grownCap w s.size 0 e)).size, (bytesRow s (grownCap w s.size 0 e)).size + 1)
theorem own_text (w : World) (s : ByteArray) (e : TypeId) (hs : s.size ≤ maxLen) :
    Own (w.alloc (textObj w s e)) w.heap.size 1 (.slice (some ⟨w.heap.size, 0, none⟩) s.size (grownCap w s.size 0 e)) s.size ((M.textL s).map (Value.int .u8)) := by
  have hge := grownCap_ge w s.size 0 e
  refine Own.bytes w _ e _ _ (Nat.le_refl _) hge (grownCap_le_maxLen w s.size 0 e hs) ?_ (by simp [M.textL]) ?_ _
  · simp only [bytesRow, Array.size_append, Array.size_map, Array.size_replicate]
    show s.size + _ = _
    omega
  · simp only [bytesRow, Array.toList_append, M.textL, Array.toList_map]
    rw [List.take_append_of_le_length (by simp)]
    rw [List.take_of_length_le (by simp)]
    simp [List.map_map, Function.comp_def]
theorem tag_start {W : World} (w : World) (s : ByteArray) (e : TypeId) (o : Obj) (hs : s.size ≤ maxLen) (hW : W = ((w.alloc (textObj w s e)).alloc o).drew) :
    Own W w.heap.size 1 (.slice (some ⟨w.heap.size, 0, none⟩) s.size (grownCap w s.size 0 e)) s.size ((M.textL s).map (Value.int .u8)) := by
  subst hW; exact ((own_text w s e hs).alloc o).drew
theorem tag_src {P : Program} (w : World) (o : Obj) (tx e' t : TypeId) (hk : P.underlying tx = some (.slice e')) :
    Go.Src P 1 tx (.slice (some ⟨w.heap.size + 1, 0, none⟩) 1 1) 1 [.int .u8 0] ((w.alloc o).alloc (.cells #[.int .u8 0] t)).drew := by
  refine src_at (w.heap.size + 1) [.int .u8 0] 1 1 t tx e' hk rfl (ints_oneCell .u8 [0]) ?_
  have := (MapKept.heap_alloc (w.alloc o) (.cells #[.int .u8 0] t)).1
  rw [show (w.alloc o).heap.size = w.heap.size + 1 by simp] at this
  exact this
theorem tag_first {w w1 : World} {s : ByteArray} {e : TypeId} {o : Obj} {v : Value} (hs : s.size ≤ maxLen)
    (hown : Own w1 w.heap.size 1 v (s.size + 1) ((M.textL s).map (Value.int .u8) ++ [.int .u8 0])) (hg : ((w.alloc (textObj w s e)).alloc o).drew.grownBy w1 (Value.ownBlock (.slice (some ⟨w.heap.size, 0, none⟩) s.size (grownCap w s.size 0 e)))) :
    OwnK .u8 w1 w.heap.size v (M.tagBytes s []) ∧ Below w.heap.size w w1 := by
  refine ⟨?_, (tag_start w s e o hs rfl).grown ?_ (by simp; omega) hg⟩
  · unfold OwnK
    rw [M.tagBytes_nil]
    simpa [M.textL_length] using hown
  · exact (bal (bal (Below.refl _ w) _) _).drew

def TagRel (w : World) (s : ByteArray) (zs : List Int) (k : Nat) (v : Value) (wr : World) : Prop := OwnK .u8 wr w.heap.size v (M.tagBytes s (zs.take k)) ∧ Below w.heap.size w wr
theorem TagRel.step {w w1 w2 : World} {s : ByteArray} {zs : List Int} {k : Nat} {v v' : Value} (h : TagRel w s zs k v w1) (hk : k < zs.length) (ho : OwnK .u8 w2 w.heap.size v' (M.tagBytes s (zs.take k) ++ M.two (zs[k]?.getD 0))) (hg : w1.grownBy w2 v.ownBlock) : TagRel w s zs (k + 1) v' w2 :=
  ⟨by rw [← M.tagBytes_take s zs k hk]; exact ho, h.1.grown h.2 h.2.size hg⟩
theorem byte_wf {b : Int} (h : M.byteB b) : (Lit.int .u8 b).wf = true := by
  unfold M.byteB at h
  simp [Lit.wf, IntKind.min, IntKind.max, IntKind.signed, IntKind.bits]; omega
theorem TagRel.row {w w1 : World} {s : ByteArray} {zs : List Int} {v : Value} (h : TagRel w s zs zs.length v w1) (hz : zs.all M.sumB = true) :
    ∃ a n c, v = .slice a n c ∧ Row .u8 w1 w1.heap.size a n c (M.tagBytes s zs) := by
  obtain ⟨ho, _⟩ := h
  rw [List.take_length] at ho
  obtain ⟨a, c, rfl, _⟩ := ho.form
  exact ⟨a, _, c, rfl, Own.row ho fun b hb => byte_wf (M.tagBytes_byte s zs (fun z hz' => List.all_eq_true.1 hz z hz') b hb)⟩

theorem sumTagged_any (s : ByteArray) (a : Option Addr) (len cap B : Nat) (zs : List Int) (w : World) (hs : s.size ≤ 12) (hR : Row .i64 w B a len cap zs) (hB : B ≤ w.heap.size) (hz : zs.all M.sumB = true) (hl : len ≤ 40) :
    Calls Tryz.prog 204 #[.string s, .slice a len cap] w fun e w' => e = .returned (.int .u32 (M.tagL s zs)) ∧ Below w.heap.size w w' := by
  obtain ⟨i0, hi0, hz0, hz1, hz2⟩ := info_parts u8_info
  have hcv := fun (W : World) => run_bytes_of_string (P := Tryz.prog) W 9 22 5 s Tryz.underlying9 Tryz.underlying22 Tryz.underlying5
  have hL := Lib.hid hR.length
  have HZ := Lib.hid hz
  have hs' : s.size ≤ maxLen := by simp only [maxLen]; omega
  clear hz
  go_enter Tryz.func204, Tryz.ntmps204
  go_wp2_with (at_builtin; refine wpList_append_src _ rfl (.tmp 9) (.tmp 10) 22 22 rfl w.heap.size 5 i0 (.int .u8 0) 1 1 Tryz.underlying22 hi0 hz0 hz1 hz2 rfl _ s.size _ rfl (tag_start w s 5 _ hs' rfl) _ 1 [.int .u8 0] rfl (tag_src w _ _ _ _ Tryz.underlying22) (by simp only [maxLen]; omega) (by omega) (by simp; omega) ?_; intro v w1 hown hgrow hat)
  obtain ⟨ho1, hb1⟩ := tag_first hs' hown hgrow
  clear hown hgrow hat hcv
  have T1 : TagRel w s zs 0 v w1 := ⟨ho1, hb1⟩
  clear ho1 hb1
  go_wp2_with fail
  go_loopw [5, 14] (fun v i wr => ∃ k : Nat, k ≤ len ∧ i = .int .i64 k ∧ TagRel w s zs k v wr) (fun _ i _ => len - (intOf i).toNat)
  case atStart => exact ⟨0, Nat.zero_le _, rfl, T1⟩
  case round =>
    obtain ⟨k, hk, rfl, hT⟩ := hrel
    by_cases hlt : k < len
    · obtain ⟨b, off, ha, hb, hc⟩ := hR.cells (by omega)
      have hcell := (hT.2.cell (p := ⟨b, off + k, none⟩) (by show b < _; omega)).trans (hc k hlt)
      simp only [List.getD_eq_getElem?_getD] at hcell
      clear hc
      have hzk : M.sumB (zs[k]?.getD 0) = true := List.all_eq_true.1 HZ.out _ (by simp [show k < zs.length by rw [hL.out]; exact hlt])
      have HK := Lib.hid hzk
      have hlen : (M.tagBytes s (zs.take k)).length ≤ 1000000 := by rw [M.tagBytes_length]; simp; omega
      subst ha
      clear hzk
      go_wp2_with fail
      refine (appendTwo_any _ _ _ _ _ hT.1 hT.2.size HK.out hlen).mono ?_
      rintro r w2 ⟨v2, rfl, ho2, hg2⟩
      have T2 := hT.step (by rw [hL.out]; exact hlt) ho2 hg2
      clear ho2 hg2 hT hcell HK hlen
      go_wp2_with fail
      go_roundw
      case rel => exact ⟨k + 1, by omega, by go_num, T2⟩
      case measure => simp [intOf]; omega
    · obtain rfl : k = len := by omega
      have hT' := hT
      rw [← hL.out] at hT'
      obtain ⟨a', n', c', hv, hrow⟩ := hT'.row HZ.out
      have hb := Lib.hid hT.2
      clear hT hT'
      subst hv
      go_wp2_with fail
      refine (sumBytes_any _ _ _ _ _ _ hrow).mono ?_
      rintro r w' ⟨rfl, rfl⟩
      clear hrow
      go_wp2_with fail
      go_ret
      exact ⟨rfl, hb.out⟩

theorem l2Tag_any (s : ByteArray) (a : Option Addr) (len cap B : Nat) (zs : List Int) (w : World) (hs : s.size ≤ 12) (hR : Row .i64 w B a len cap zs) (hB : B ≤ w.heap.size) (hz : zs.all M.sumB = true) (hl : len ≤ 40) :
    Calls Tryz.prog 254 #[.string s, .slice a len cap] w fun e w' => e = .returned (.int .i64 (M.tagL s zs)) ∧ Below w.heap.size w w' := by
  obtain ⟨i0, hi0, hz0, hz1, hz2⟩ := info_parts u8_info
  have hcv := fun (W : World) => run_bytes_of_string (P := Tryz.prog) W 9 22 5 s Tryz.underlying9 Tryz.underlying22 Tryz.underlying5
  have hL := Lib.hid hR.length
  have HZ := Lib.hid hz
  have hs' : s.size ≤ maxLen := by simp only [maxLen]; omega
  clear hz
  go_enter Tryz.func254, Tryz.ntmps254
  go_wp2_with (at_builtin; refine wpList_append_src _ rfl (.tmp 8) (.tmp 9) 22 22 rfl w.heap.size 5 i0 (.int .u8 0) 1 1 Tryz.underlying22 hi0 hz0 hz1 hz2 rfl _ s.size _ rfl (tag_start w s 5 _ hs' rfl) _ 1 [.int .u8 0] rfl (tag_src w _ _ _ _ Tryz.underlying22) (by simp only [maxLen]; omega) (by omega) (by simp; omega) ?_; intro v w1 hown hgrow hat)
  obtain ⟨ho1, hb1⟩ := tag_first hs' hown hgrow
  clear hown hgrow hat hcv
  have T1 : TagRel w s zs 0 v w1 := ⟨ho1, hb1⟩
  clear ho1 hb1
  go_wp2_with fail
  go_loopw [5, 6] (fun v i wr => ∃ k : Nat, k ≤ len ∧ i = .int .i64 k ∧ TagRel w s zs k v wr) (fun _ i _ => len - (intOf i).toNat)
  case atStart => exact ⟨0, Nat.zero_le _, rfl, T1⟩
  case round =>
    obtain ⟨k, hk, rfl, hT⟩ := hrel
    by_cases hlt : k < len
    · obtain ⟨b, off, ha, hb, hc⟩ := hR.cells (by omega)
      have hcell := (hT.2.cell (p := ⟨b, off + k, none⟩) (by show b < _; omega)).trans (hc k hlt)
      simp only [List.getD_eq_getElem?_getD] at hcell
      clear hc
      have hzk : M.sumB (zs[k]?.getD 0) = true := List.all_eq_true.1 HZ.out _ (by simp [show k < zs.length by rw [hL.out]; exact hlt])
      have HK := Lib.hid hzk
      have hlen : (M.tagBytes s (zs.take k)).length ≤ 1000000 := by rw [M.tagBytes_length]; simp; omega
      have hsz := hT.2.size
      subst ha
      clear hzk
      go_wp2_with fail
      refine (l1Two_any _ _ HK.out).mono ?_
      rintro r w2 ⟨rfl, hw2⟩
      subst hw2
      go_wp2_with (at_builtin; refine wpList_append_src _ rfl (.tmp 17) (.tmp 22) 22 22 rfl w.heap.size 5 i0 (.int .u8 0) 1 1 Tryz.underlying22 hi0 hz0 hz1 hz2 rfl _ _ _ rfl (hT.1.alloc _) _ 2 [.int .u8 (zs[k]?.getD 0 / 256), .int .u8 (zs[k]?.getD 0 % 256)] rfl (src_new wr _ 2 2 _ _ _ Tryz.underlying22 rfl (ints_oneCell .u8 [zs[k]?.getD 0 / 256, zs[k]?.getD 0 % 256])) (by simp only [maxLen]; omega) (by omega) (by simp; omega) ?_; intro v2 w2 hown hgrow hat)
      have T2 := hT.step (v' := v2) (w2 := w2) (by rw [hL.out]; exact hlt) (by unfold OwnK; simpa [M.two] using hown) (grown_alloc hgrow)
      clear hown hgrow hat hT hcell HK hlen
      go_wp2_with fail
      go_roundw
      case rel => exact ⟨k + 1, by omega, by go_num, T2⟩
      case measure => simp [intOf]; omega
    · obtain rfl : k = len := by omega
      have hT' := hT
      rw [← hL.out] at hT'
      obtain ⟨a', n', c', hv, hrow⟩ := hT'.row HZ.out
      have hb := Lib.hid hT.2
      clear hT hT'
      subst hv
      go_wp2_with fail
      refine (l2Sum_any _ _ _ _ _ _ hrow).mono ?_
      rintro r w' ⟨rfl, rfl⟩
      clear hrow
      go_wp2_with fail
      go_ret
      exact ⟨rfl, hb.out⟩

end Go.Proofs.YtlodhleihnlchaaGreatDoor
namespace Go.Proofs.YtlodhleihnlchaaGreatDoor
open Go.RowKit

theorem l1Pow_any (a : Int) (e : Nat) (m : Int) (w : World) (h1 : 1 ≤ m) (h2 : m ≤ 1000000) (ha0 : 0 ≤ a) (ha1 : a < m) (he : e ≤ 1000000000) :
    Calls Tryz.prog 293 #[.int .i64 a, .int .i64 e, .int .i64 m] w fun r w' => r = .returned (.int .i64 (M.pw a e m)) ∧ w = w' := by
  obtain ⟨o0, o1⟩ := M.mod_bd 1 h1
  go_enter Tryz.func293, Tryz.ntmps293
  go_wp2_with fail
  go_loop [0, 1, 7] (fun x y z => ∃ (b n : Int) (k : Nat), x = .int .i64 b ∧ y = .int .i64 k ∧ z = .int .i64 n ∧ 0 ≤ b ∧ b < m ∧ 0 ≤ n ∧ n < m ∧ k ≤ 1000000000 ∧ M.Keep a e m n b k) (fun _ y _ => (intOf y).toNat)
  case atStart => exact ⟨a, 1 % m, e, rfl, rfl, rfl, ha0, ha1, o0, o1, he, M.keep_start a e m⟩
  case round =>
    obtain ⟨b, n, k, rfl, rfl, rfl, b0, b1, n0, n1, hk, hkeep⟩ := hrel
    obtain ⟨p0, p1⟩ := M.mul_bd b0 b1 b0 b1 h2
    obtain ⟨q0, q1⟩ := M.mul_bd n0 n1 b0 b1 h2
    obtain ⟨r0, r1⟩ := M.mod_bd (b * b) h1
    obtain ⟨s0, s1⟩ := M.mod_bd (n * b) h1
    by_cases hz : 0 < k
    · by_cases ho : k % 2 = 1
      · have H1 := Lib.hid (M.keep_odd hkeep ho)
        have ht : ((k : Int) % 2 == 1) = true := by rw [beq_iff_eq]; omega
        clear ho hkeep
        go_wp2_with fail
        go_round
        case rel => exact ⟨b * b % m, n * b % m, k / 2, rfl, by go_num, rfl, r0, r1, s0, s1, by omega, H1.out⟩
        case measure => simp [intOf]; omega
      · have H1 := Lib.hid (M.keep_even hkeep (by omega))
        have ht : ((k : Int) % 2 == 1) = false := by rw [beq_eq_false_iff_ne]; omega
        clear ho hkeep
        go_wp2_with fail
        go_round
        case rel => exact ⟨b * b % m, n, k / 2, rfl, by go_num, rfl, r0, r1, n0, n1, by omega, H1.out⟩
        case measure => simp [intOf]; omega
    · obtain rfl : k = 0 := by omega
      have H1 := Lib.hid (M.keep_end hkeep n0 n1)
      clear hkeep
      go_wp2_with fail
      go_ret
      exact ⟨by rw [← H1.out]; rfl, rfl⟩

theorem l1Pow_int (a e m : Int) (w : World) (h1 : 1 ≤ m) (h2 : m ≤ 1000000) (ha0 : 0 ≤ a) (ha1 : a < m) (he0 : 0 ≤ e) (he1 : e ≤ 1000000000) :
    Calls Tryz.prog 293 #[.int .i64 a, .int .i64 e, .int .i64 m] w fun r w' => r = .returned (.int .i64 (M.pw a e.toNat m)) ∧ w = w' := by
  obtain ⟨n, rfl⟩ := Int.eq_ofNat_of_zero_le he0
  exact l1Pow_any a n m w h1 h2 ha0 ha1 (by omega)

theorem l1Raise_int (a e : Int) (w : World) (ha0 : 0 ≤ a) (ha1 : a < 2879) (he0 : 0 ≤ e) (he1 : e ≤ 1000000000) :
    Calls Tryz.prog 251 #[.int .i64 a, .int .i64 e] w fun r w' => r = .returned (.int .i64 (M.pw a e.toNat 2879)) ∧ w = w' := by
  go_enter Tryz.func251, Tryz.ntmps251
  go_wp2_with fail
  refine (l1Pow_int _ _ _ _ (by omega) (by omega) ha0 ha1 he0 he1).mono ?_
  rintro r w' ⟨rfl, rfl⟩
  go_wp2_with fail
  go_ret
  simp

abbrev I2 (c v : Int) : Value := .agg #[.int .i64 c, .int .i64 v]

theorem fld1 (a b : Int) (w : World) : Sem.run Tryz.prog (Instr.field 49 (.agg #[.int .i64 a, .int .i64 b]) 1) w = .ok (.int .i64 b) w := by kernel_rfl

end Go.Proofs.YtlodhleihnlchaaGreatDoor
namespace Go.Proofs.YtlodhleihnlchaaGreatDoor
open Go.RowKit

theorem Row.alloc {k : IntKind} {w : World} {B : Nat} {a : Option Addr} {len cap : Nat} {zs : List Int} (h : Row k w B a len cap zs) (hB : B ≤ w.heap.size) (o : Obj) : Row k (w.alloc o) B a len cap zs :=
  h.below ((Below.refl B w).alloc hB o)

theorem Row.on {k : IntKind} {w w' : World} {a : Option Addr} {len cap : Nat} {zs : List Int} (h : Row k w w.heap.size a len cap zs) (hb : Below w.heap.size w w') : Row k w' w'.heap.size a len cap zs := (h.below hb).more hb.size

structure Fill (k : IntKind) (w : World) (n : Nat) (zs : List Int) (j : Nat) (wr : World) : Prop where
  bel : Below w.heap.size w wr
  lt : w.heap.size < wr.heap.size
  room : ∀ i, i < n → (∃ u, wr.cell? ⟨w.heap.size, i, none⟩ = some u) ∧ wr.frozen? ⟨w.heap.size, i, none⟩ = false
  told : ∀ i, i < j → wr.cell? ⟨w.heap.size, i, none⟩ = some (.int k (zs.getD i 0))
theorem Fill.new (k : IntKind) (w : World) (n : Nat) (zs : List Int) (cur : Array Value) (e : TypeId) (hs : cur.size = n) : Fill k w n zs 0 (w.alloc (.cells cur e)) := by
  have e1 : (w.alloc (.cells cur e)).heap[w.heap.size]? = some (.cells cur e) := (MapKept.heap_alloc w _).1
  refine ⟨bal (Below.refl _ _) _, by simp, fun i hi => ?_, fun i hi => absurd hi (by omega)⟩
  unfold World.cell? World.frozen?
  rw [e1]
  simp [show i < cur.size by omega]
theorem Fill.step {k : IntKind} {w : World} {n : Nat} {zs : List Int} {j : Nat} {wr : World} (h : Fill k w n zs j wr) (hj : j < n) : Fill k w n zs (j + 1) (wr.setCell ⟨w.heap.size, j, none⟩ (.int k (zs[j]?.getD 0))) := by
  refine ⟨h.bel.setCell (Nat.le_refl _) _, by simpa [World.setCell] using h.lt, fun i hi => ?_, fun i hi => ?_⟩
  · obtain ⟨⟨u, hu⟩, hf⟩ := h.room i hi
    refine ⟨?_, by rw [World.frozen?_setCell]; exact hf⟩
    obtain ⟨v, hv⟩ := cell?_setCell_some (w := wr) (p := ⟨w.heap.size, j, none⟩) (x := .int k (zs[j]?.getD 0)) (q := ⟨w.heap.size, i, none⟩) (v := u) hu
    exact ⟨v, hv⟩
  · rcases Nat.lt_or_ge i j with hlt | hge
    · rw [World.cell?_setCell_other _ _ _ _ (fun e => by injection e with _ e2; omega)]
      exact h.told i hlt
    · obtain rfl : i = j := by omega
      obtain ⟨⟨u, hu⟩, _⟩ := h.room i hj
      rw [World.cell?_setCell_same _ _ _ (by rw [hu])]
      simp [List.getD]
theorem Fill.own {k : IntKind} {w : World} {zs : List Int} {wr : World} {n : Nat} (hn : zs.length = n) (h : Fill k w n zs n wr) (hm : n ≤ maxLen) : OwnK k wr w.heap.size (.slice (some ⟨w.heap.size, 0, none⟩) n n) zs := by
  subst hn
  refine ⟨by simp, .inr ⟨w.heap.size, _, rfl, Nat.le_refl _, h.lt, Nat.le_refl _, hm, fun j u hu => ?_, fun j hj => ?_⟩⟩
  · have hj := (List.getElem?_eq_some_iff.1 hu).1
    simp at hj
    rw [h.told j hj]
    rw [← hu]
    simp [List.getD, hj]
  · obtain ⟨⟨u, hu⟩, hf⟩ := h.room j (by omega)
    exact ⟨by rw [hu]; rfl, hf⟩

theorem implSumOf_any (a : Option Addr) (len cap B : Nat) (zs : List Int) (w : World) (hR : Row .u8 w B a len cap zs) (hB : B ≤ w.heap.size) :
    Calls Tryz.prog 112 #[.slice a len cap] w fun r w' => r = .returned (I2 (M.sumR zs).1 (M.sumR zs).2) ∧ Below w.heap.size w w' := by
  have hlen := hR.fits
  have hmost := hR.most
  unfold maxLen at hmost
  have hL := hR.length
  by_cases h : 1000 < len
  · have E : M.sumR zs = (2, 0) := by simp [M.sumR, hL, h]
    rw [E]; clear E hL
    go_enter Tryz.func112, Tryz.ntmps112
    go_wp2_with fail
    exact bodyPost_ret (v := I2 2 0) (by simp [results, Tryz.results112, go_sem]) rfl ⟨rfl, bal (Below.refl _ _) _⟩
  · have E : M.sumR zs = (0, M.sumL zs) := by simp [M.sumR, hL, h]
    rw [E]; clear E hL
    obtain ⟨s0, s1⟩ := M.sumL_bd zs
    go_enter Tryz.func112, Tryz.ntmps112
    go_wp2_with fail
    refine (sumBytes_any _ _ _ _ _ _ (hR.alloc hB _)).mono ?_
    rintro r w' ⟨rfl, rfl⟩
    go_wp2_with fail
    exact bodyPost_ret (v := I2 0 (M.sumL zs)) (by simp [results, Tryz.results112, go_sem]) rfl ⟨rfl, bal (Below.refl _ _) _⟩

theorem implTagSum_any (s : ByteArray) (a : Option Addr) (len cap B : Nat) (zs : List Int) (w : World) (hs : s.size ≤ maxLen) (hR : Row .i64 w B a len cap zs) (hB : B ≤ w.heap.size) :
    Calls Tryz.prog 113 #[.string s, .slice a len cap] w fun r w' => r = .returned (I2 (M.tagR s zs).1 (M.tagR s zs).2) ∧ Below w.heap.size w w' := by
  have hlen := hR.fits
  have hmost := hR.most
  unfold maxLen at hmost
  have hL := Lib.hid hR.length
  cases hS : M.labB s
  · have E : M.tagR s zs = (5, 0) := by simp [M.tagR, hS]
    rw [E]; clear E
    go_enter Tryz.func113, Tryz.ntmps113
    go_wp2_with fail
    refine (isLabel_any _ _ hs).mono ?_
    rintro r w' ⟨rfl, rfl⟩
    go_wp2_with fail
    exact bodyPost_ret (v := I2 5 0) (by simp [results, Tryz.results113, go_sem]) rfl ⟨rfl, bal (Below.refl _ _) _⟩
  obtain ⟨s0, s1⟩ := M.labB_size hS
  by_cases h : 40 < len
  · have E : M.tagR s zs = (2, 0) := by simp [M.tagR, hS, hL.out, h]
    rw [E]; clear E
    go_enter Tryz.func113, Tryz.ntmps113
    go_wp2_with fail
    refine (isLabel_any _ _ hs).mono ?_
    rintro r w' ⟨rfl, rfl⟩
    go_wp2_with fail
    exact bodyPost_ret (v := I2 2 0) (by simp [results, Tryz.results113, go_sem]) rfl ⟨rfl, bal (Below.refl _ _) _⟩
  cases hA : zs.all M.sumB
  · have E : M.tagR s zs = (3, 0) := by simp only [M.tagR, hS, hL.out, h, hA, if_false, Bool.false_eq_true]; simp
    rw [E]; clear E
    have HA := Lib.hid hA
    clear hA
    go_enter Tryz.func113, Tryz.ntmps113
    go_wp2_with fail
    refine (isLabel_any _ _ hs).mono ?_
    rintro r w' ⟨rfl, rfl⟩
    go_wp2_with fail
    go_loop [17] (fun i => ∃ k : Nat, k ≤ len ∧ i = .int .i64 k ∧ Hid ((zs.take k).all M.sumB = true)) (fun i => len - (intOf i).toNat)
    case atStart => exact ⟨0, Nat.zero_le _, rfl, Lib.hid (by simp)⟩
    case round =>
      obtain ⟨k, hk, rfl, hT⟩ := hrel
      by_cases hlt : k < len
      · obtain ⟨b, off, ha, hb, hc⟩ := (hR.alloc hB (.cells #[.int .i64 0, .int .i64 0] 49)).cells (by omega)
        have hcell := hc k hlt
        simp only [List.getD_eq_getElem?_getD] at hcell
        clear hc hR
        subst ha
        cases hv : M.sumB (zs[k]?.getD 0)
        · go_wp2_with fail
          refine (isSum_any _ _).mono ?_
          rintro r w' ⟨rfl, rfl⟩
          go_wp2_with fail
          exact bodyPost_ret (v := I2 3 0) (by simp [results, Tryz.results113, go_sem]) rfl ⟨rfl, bal (Below.refl _ _) _⟩
        · have T2 := Lib.hid (M.all_take M.sumB zs k (by rw [hL.out]; exact hlt) hT.out hv)
          clear hT
          go_wp2_with fail
          refine (isSum_any _ _).mono ?_
          rintro r w' ⟨rfl, rfl⟩
          go_wp2_with fail
          go_round
          case rel => exact ⟨k + 1, by omega, by go_num, T2⟩
          case measure => simp [intOf]; omega
      · have e := hT.out
        rw [List.take_of_length_le (by rw [hL.out]; omega), HA.out] at e
        cases e
  · have E : M.tagR s zs = (0, M.tagL s zs) := by simp only [M.tagR, hS, hL.out, h, hA, if_false, if_true, Bool.true_eq_false]
    rw [E]; clear E
    have HA := Lib.hid hA
    clear hA
    obtain ⟨t0, t1⟩ := M.tagL_bd s zs
    go_enter Tryz.func113, Tryz.ntmps113
    go_wp2_with fail
    refine (isLabel_any _ _ hs).mono ?_
    rintro r w' ⟨rfl, rfl⟩
    go_wp2_with fail
    go_loop [17] (fun i => ∃ k : Nat, k ≤ len ∧ i = .int .i64 k) (fun i => len - (intOf i).toNat)
    case atStart => exact ⟨0, Nat.zero_le _, rfl⟩
    case round =>
      obtain ⟨k, hk, rfl⟩ := hrel
      by_cases hlt : k < len
      · obtain ⟨b, off, ha, hb, hc⟩ := (hR.alloc hB (.cells #[.int .i64 0, .int .i64 0] 49)).cells (by omega)
        have hcell := hc k hlt
        simp only [List.getD_eq_getElem?_getD] at hcell
        clear hc
        subst ha
        have hv : M.sumB (zs[k]?.getD 0) = true := List.all_eq_true.1 HA.out _ (by simp [show k < zs.length by rw [hL.out]; exact hlt])
        go_wp2_with fail
        refine (isSum_any _ _).mono ?_
        rintro r w' ⟨rfl, rfl⟩
        go_wp2_with fail
        go_round
        case rel => exact ⟨k + 1, by omega, by go_num⟩
        case measure => simp [intOf]; omega
      · go_wp2_with fail
        refine (sumTagged_any _ _ _ _ _ _ _ s1 (hR.alloc hB _) (by simp; omega) HA.out (by omega)).mono ?_
        rintro r w1 ⟨rfl, hb_w1⟩
        obtain ⟨hc_w1, hf_w1⟩ := bcell hb_w1
        have hz_w1 := hb_w1.size
        (try simp at hz_w1)
        go_wp2_with fail
        exact bodyPost_ret (v := I2 0 (M.tagL s zs)) (by simp [results, Tryz.results113, go_sem, hc_w1]) rfl ⟨rfl, bset (bset (btr (bal (Below.refl _ _) _) hb_w1) (Nat.le_refl _) _) (Nat.le_refl _) _⟩

end Go.Proofs.YtlodhleihnlchaaGreatDoor
namespace Go.Proofs.YtlodhleihnlchaaGreatDoor
open Go.RowKit
set_option maxRecDepth 100000
set_option linter.unusedVariables false

theorem l5Sign_any (b : UInt8) (w : World) :
    Calls Tryz.prog 290 #[.int .u8 (b.toNat : Int)] w fun e w' => e = .returned (.bool (M.signB b)) ∧ w = w' := by
  have HS := Lib.hid (M.signB_eq b)
  go_enter Tryz.func290, Tryz.ntmps290
  go_wp2_with fail
  all_goals
    go_ret
    refine ⟨ret_bool ?_, rfl⟩
    rw [HS.out]
    (try simp only [beq_iff_eq, beq_eq_false_iff_ne, ne_eq] at *)
    first | (symm; rw [decide_eq_true_iff]; omega) | (symm; rw [decide_eq_false_iff_not]; omega) | (rw [Bool.eq_iff_iff]; simp only [beq_iff_eq, decide_eq_true_eq, Bool.or_eq_true]; omega)

theorem implNameFault_any (s : ByteArray) (w : World) (hs : s.size ≤ maxLen) :
    Calls Tryz.prog 132 #[.string s] w fun e w' => e = .returned (.int .i64 (M.nameF s.data.toList)) ∧ w = w' := by
  have hL : s.data.toList.length = s.size := by simp
  unfold maxLen at hs
  by_cases h : 20 < s.size
  · have HE := Lib.hid (M.nameF_long (l := s.data.toList) (by omega))
    have h' : (20 : Int) < s.size := by omega
    go_enter Tryz.func132, Tryz.ntmps132
    go_wp2_with fail
    go_ret
    exact ⟨ret_int HE.out.symm, rfl⟩
  have h' : ¬ (20 : Int) < s.size := by omega
  have F := fun w => hasParts_any s w (by omega)
  cases hm : M.mDot s.data.toList
  · have HE := Lib.hid (M.nameF_no (l := s.data.toList) (by omega) hm)
    simp only [hm] at F
    clear hm
    go_enter Tryz.func132, Tryz.ntmps132
    go_wp2_with fail
    refine (F _).mono ?_
    rintro r w' ⟨rfl, rfl⟩
    go_wp2_with fail
    go_ret
    exact ⟨ret_int HE.out.symm, rfl⟩
  · have HE := Lib.hid (M.nameF_yes (l := s.data.toList) (by omega) hm)
    simp only [hm] at F
    clear hm
    go_enter Tryz.func132, Tryz.ntmps132
    go_wp2_with fail
    refine (F _).mono ?_
    rintro r w' ⟨rfl, rfl⟩
    go_wp2_with fail
    go_ret
    exact ⟨ret_int HE.out.symm, rfl⟩

theorem l5Part_any (s : ByteArray) (w : World) (hs : s.size ≤ maxLen) :
    Calls Tryz.prog 241 #[.string s] w fun e w' => e = .returned (.bool (M.partB s.data.toList)) ∧ w = w' := by
  unfold maxLen at hs
  go_enter Tryz.func241, Tryz.ntmps241
  go_wp2_with fail
  go_loop [3] (fun i => ∃ k : Nat, k ≤ s.size ∧ i = .int .i64 k ∧ Hid (M.signTo s k = true)) (fun i => s.size - (intOf i).toNat)
  case atStart => exact ⟨0, Nat.zero_le _, rfl, Lib.hid (M.signTo_zero s)⟩
  case round =>
    obtain ⟨k, hk, rfl, hlow⟩ := hrel
    by_cases hlt : k < s.size
    · have F := fun w => l5Sign_any s[k] w
      cases hb : M.signB s[k]
      · have HS := Lib.hid (M.partB_stop s k hlt hb)
        simp only [hb] at F
        clear hb
        go_wp2_with fail
        refine (F _).mono ?_
        rintro r w' ⟨rfl, rfl⟩
        go_wp2_with fail
        go_ret
        exact ⟨ret_bool HS.out.symm, rfl⟩
      · have HN := Lib.hid (M.signTo_next s k hlt hlow.out hb)
        simp only [hb] at F
        clear hb
        go_wp2_with fail
        refine (F _).mono ?_
        rintro r w' ⟨rfl, rfl⟩
        go_wp2_with fail
        go_round
        case rel => exact ⟨k + 1, by omega, by go_num, HN⟩
        case measure => simp [intOf]; omega
    · obtain rfl : k = s.size := by omega
      by_cases h1 : s.size < 1
      · have HS := Lib.hid (M.partB_short s h1)
        have h1' : ¬ 1 ≤ (s.size : Int) := by omega
        go_wp2_with fail
        go_ret
        exact ⟨ret_bool HS.out.symm, rfl⟩
      · obtain ⟨n, hn⟩ : ∃ n, s.size = n + 1 := ⟨s.size - 1, by omega⟩
        have HS := Lib.hid (M.partB_ends s n hn hlow.out)
        have h1' : 1 ≤ (s.size : Int) := by omega
        go_wp2_with fail
        all_goals
          go_ret
          refine ⟨ret_bool ?_, rfl⟩
          rw [HS.out]
          unfold M.dashB
          rcases Classical.em ((s[0].toNat : Int) = 45) with q0 | q0 <;> rcases Classical.em ((s[n].toNat : Int) = 45) with q1 | q1 <;> simp [q0, q1] at * <;> simp [bne, q0, q1]

theorem l5Bare_any (s : ByteArray) (w : World) (hs : s.size ≤ maxLen) :
    Calls Tryz.prog 240 #[.string s] w fun e w' => e = .returned (.string (M.bs (M.bare s.data.toList))) ∧ w = w' := by
  unfold maxLen at hs
  by_cases h1 : s.size ≤ 1
  · have h1' : ¬ 1 < (s.size : Int) := by omega
    rw [M.bare_one s h1]
    go_enter Tryz.func240, Tryz.ntmps240
    go_wp2_with fail
    go_ret
    simp
  obtain ⟨n, hn⟩ : ∃ n, s.size = n + 2 := ⟨s.size - 2, by omega⟩
  cases hd : M.dotB (s[n + 1]'(by omega))
  · rw [M.bare_not s n hn hd]
    have hd' : ((s[n + 1]'(by omega)).toNat : Int) ≠ 46 := by simpa [M.dotB] using hd
    go_enter Tryz.func240, Tryz.ntmps240
    go_wp2_with fail
    go_ret
    exact ⟨rfl, rfl⟩
  · rw [M.bare_dot s n hn hd]
    have hd' : ((s[n + 1]'(by omega)).toNat : Int) = 46 := by simpa [M.dotB] using hd
    go_enter Tryz.func240, Tryz.ntmps240
    go_wp2_with fail
    go_ret
    exact ⟨rfl, rfl⟩
end Go.Proofs.YtlodhleihnlchaaGreatDoor
namespace Go.Proofs.YtlodhleihnlchaaGreatDoor
open Go.RowKit

theorem row_at {k : IntKind} {w : World} (g n : Nat) (zs : List Int) (t : TypeId) (hg : w.heap[g]? = some (.cells (zs.map (Value.int k)).toArray t)) (hn : zs.length = n) (hm : n ≤ maxLen) (hw : ∀ z ∈ zs, (Lit.int k z).wf = true) :
    Row k w (g + 1) (some ⟨g, 0, none⟩) n n zs :=
  ⟨hn, hw, Nat.le_refl _, hm, fun _ => ⟨g, 0, rfl, by omega, fun j hj => by
    rw [Nat.zero_add]
    unfold World.cell?
    rw [hg]
    simp [List.getD, show j < zs.length by omega]⟩⟩
theorem sum_wf {z : Int} (h : M.sumB z = true) : (Lit.int .i64 z).wf = true := by
  simp only [M.sumB, decide_eq_true_eq] at h
  simp [Lit.wf, IntKind.min, IntKind.max, IntKind.signed, IntKind.bits]; omega
end Go.Proofs.YtlodhleihnlchaaGreatDoor
namespace Go.Proofs.YtlodhleihnlchaaGreatDoor
open Go.RowKit
set_option maxRecDepth 100000

structure Labels (w : World) : Prop where
  streamW : w.cell? ⟨1, 0, none⟩ = some (.string M.streamS)
  heardW : w.cell? ⟨1, 1, none⟩ = some (.string M.heardS)
  nonceW : w.cell? ⟨1, 2, none⟩ = some (.string M.nonceS)
  signW : w.cell? ⟨1, 3, none⟩ = some (.string M.signS)
  macW : w.cell? ⟨1, 4, none⟩ = some (.string M.macS)
  sealW : w.cell? ⟨1, 5, none⟩ = some (.string M.sealS)
  spkiW : w.cell? ⟨1, 6, none⟩ = some (.string M.spkiS)
  rollW : w.cell? ⟨1, 7, none⟩ = some (.string M.rollS)
  masterW : w.cell? ⟨1, 8, none⟩ = some (.string M.masterS)
  verifyW : w.cell? ⟨1, 9, none⟩ = some (.string M.verifyS)
  finishW : w.cell? ⟨1, 10, none⟩ = some (.string M.finishS)
  upW : w.cell? ⟨1, 11, none⟩ = some (.string M.upS)
  downW : w.cell? ⟨1, 12, none⟩ = some (.string M.downS)
theorem Labels.on {w w' : World} (h : Labels w) (hb : Below w.heap.size w w') : Labels w' := ⟨cell_keep hb h.streamW, cell_keep hb h.heardW, cell_keep hb h.nonceW, cell_keep hb h.signW, cell_keep hb h.macW, cell_keep hb h.sealW, cell_keep hb h.spkiW, cell_keep hb h.rollW, cell_keep hb h.masterW, cell_keep hb h.verifyW, cell_keep hb h.finishW, cell_keep hb h.upW, cell_keep hb h.downW⟩

theorem Labels.grew {w w' : World} {row : Option Nat} (h : Labels w) (hg : w.grownBy w' row) (hr : ∀ k, row = some k → 1 < k) : Labels w' := by
  have hn : ∀ i, some (Addr.block ⟨1, i, none⟩) ≠ row := fun i e => by have := hr _ e.symm; exact absurd this (Nat.lt_irrefl _)
  exact ⟨hg.cell h.streamW (hn 0), hg.cell h.heardW (hn 1), hg.cell h.nonceW (hn 2), hg.cell h.signW (hn 3), hg.cell h.macW (hn 4), hg.cell h.sealW (hn 5), hg.cell h.spkiW (hn 6), hg.cell h.rollW (hn 7), hg.cell h.masterW (hn 8), hg.cell h.verifyW (hn 9), hg.cell h.finishW (hn 10), hg.cell h.upW (hn 11), hg.cell h.downW (hn 12)⟩
theorem Labels.keep {w w' : World} (h : Labels w) (hb : w'.heap[1]? = w.heap[1]?) : Labels w' := ⟨(World.cell?_of_block (w := w) (a := ⟨1, 0, none⟩) hb).trans h.streamW, (World.cell?_of_block (w := w) (a := ⟨1, 1, none⟩) hb).trans h.heardW, (World.cell?_of_block (w := w) (a := ⟨1, 2, none⟩) hb).trans h.nonceW, (World.cell?_of_block (w := w) (a := ⟨1, 3, none⟩) hb).trans h.signW, (World.cell?_of_block (w := w) (a := ⟨1, 4, none⟩) hb).trans h.macW, (World.cell?_of_block (w := w) (a := ⟨1, 5, none⟩) hb).trans h.sealW, (World.cell?_of_block (w := w) (a := ⟨1, 6, none⟩) hb).trans h.spkiW, (World.cell?_of_block (w := w) (a := ⟨1, 7, none⟩) hb).trans h.rollW, (World.cell?_of_block (w := w) (a := ⟨1, 8, none⟩) hb).trans h.masterW, (World.cell?_of_block (w := w) (a := ⟨1, 9, none⟩) hb).trans h.verifyW, (World.cell?_of_block (w := w) (a := ⟨1, 10, none⟩) hb).trans h.finishW, (World.cell?_of_block (w := w) (a := ⟨1, 11, none⟩) hb).trans h.upW, (World.cell?_of_block (w := w) (a := ⟨1, 12, none⟩) hb).trans h.downW⟩
theorem Labels.lt {w : World} (h : Labels w) : 1 < w.heap.size := cell_lt h.streamW

def BytesRes (c : Int) (zs : List Int) (w : World) (r : Ending) (w' : World) : Prop :=
  ∃ a len cap, r = .returned (.agg #[.int .i64 c, .slice a len cap]) ∧ OwnK .u8 w' w.heap.size (.slice a len cap) zs ∧ Below w.heap.size w w'

theorem row_three {w : World} (x y z : Int) (t : TypeId) (hx : M.sumB x = true) (hy : M.sumB y = true) (hz : M.sumB z = true) : Row .i64 (w.alloc (.cells #[.int .i64 x, .int .i64 y, .int .i64 z] t)) (w.heap.size + 1) (some ⟨w.heap.size, 0, none⟩) 3 3 [x, y, z] :=
  row_at w.heap.size 3 [x, y, z] t (MapKept.heap_alloc w _).1 rfl (by simp only [maxLen]; omega) (fun u hu => by
    simp at hu
    rcases hu with rfl | rfl | rfl
    · exact sum_wf hx
    · exact sum_wf hy
    · exact sum_wf hz)

def StreamRel (W : World) (key seq : Int) (k : Nat) (v : Value) (wr : World) : Prop := OwnK .u8 wr W.heap.size v (M.streamL key seq k) ∧ Below W.heap.size W wr
theorem StreamRel.step {W wr w1 w2 : World} {key seq : Int} {k : Nat} {v v' : Value} {o o' : Obj} (h : StreamRel W key seq k v wr) (hb : Below (wr.alloc o).heap.size (wr.alloc o) w1)
    (ho : Own w2 W.heap.size 1 v' ((M.streamL key seq k).length + 1) ((M.streamL key seq k).map (Value.int .u8) ++ [.int .u8 (M.streamB key seq k)])) (hg : (w1.alloc o').grownBy w2 v.ownBlock) : StreamRel W key seq (k + 1) v' w2 := by
  refine ⟨?_, ?_⟩
  · unfold OwnK
    rw [M.streamL_succ]
    simpa using ho
  · have h1 : Below W.heap.size W (w1.alloc o') := bal (btr (bal h.2 o) hb) o'
    have h2 : Own (w1.alloc o') W.heap.size 1 v _ _ := ((h.1.alloc o).below hb).alloc o'
    exact h2.grown h1 h1.size hg

theorem own_empty (w : World) (e : TypeId) : Own (w.alloc (.cells #[] e)) w.heap.size 1 (.slice (some ⟨w.heap.size, 0, none⟩) 0 0) 0 [] :=
  Own.made w #[] e 0 (Nat.le_refl _) (Nat.zero_le _) rfl

end Go.Proofs.YtlodhleihnlchaaGreatDoor
namespace Go.Proofs.YtlodhleihnlchaaGreatDoor
open Go.RowKit
set_option maxRecDepth 100000
set_option linter.unusedVariables false

theorem str_info : (Tryz.prog.info? 9).map (fun i => (i.zero, i.size, i.bytes)) = some (some (.string ByteArray.empty), 1, 16) := by kernel_rfl

def OwnS (w : World) (B : Nat) (v : Value) (ps : List (List UInt8)) : Prop := Own w B 1 v ps.length (ps.map fun p => Value.string (M.bs p))
inductive CutRel (W : World) (s : ByteArray) (v fv : Value) (k : Nat) (wr : World) : Prop
  | on (done : List (List UInt8)) (f : Nat) : fv = .int .i64 f → M.CutAt s.data.toList done f k → OwnS wr W.heap.size v done → Below W.heap.size W wr → CutRel W s v fv k wr
  | off (f : Nat) : fv = .int .i64 f → k = s.size + 1 → OwnS wr W.heap.size v (M.cutL [] s.data.toList) → Below W.heap.size W wr → CutRel W s v fv k wr

theorem own_more {W wr w2 : World} {v v2 : Value} {done : List (List UInt8)} {p : List UInt8} {x : ByteArray} {o : Obj} (ho : OwnS wr W.heap.size v done) (hb : Below W.heap.size W wr) (hx : x = M.bs p)
    (hown : Own w2 W.heap.size 1 v2 (done.length + 1) (done.map (fun p => Value.string (M.bs p)) ++ [.string x])) (hg : (wr.alloc o).grownBy w2 v.ownBlock) : OwnS w2 W.heap.size v2 (done ++ [p]) ∧ Below W.heap.size W w2 := by
  have hsz := hb.size
  refine ⟨?_, (Own.alloc ho o).grown (bal hb o) (by simp; omega) hg⟩
  unfold OwnS
  rw [hx] at hown
  simpa using hown

def CutMade (s : ByteArray) (w : World) (r : Ending) (w' : World) : Prop := ∃ a n c, r = .returned (.slice a n c) ∧ OwnS w' w.heap.size (.slice a n c) (M.cutL [] s.data.toList) ∧ Below w.heap.size w w'

theorem l1Cut_any (s : ByteArray) (w : World) (hs : s.size ≤ 20) :
    Calls Tryz.prog 239 #[.string s, .int .u8 46] w (CutMade s w) := by
  obtain ⟨i0, hi0, hz0, hz1, hz2⟩ := info_parts str_info
  have hL : s.data.toList.length = s.size := by simp
  have T0 : CutRel w s (.slice (some ⟨w.heap.size, 0, none⟩) 0 0) (.int .i64 0) 0 (w.alloc (.cells #[] 9)) :=
    .on [] 0 rfl (M.CutAt.zero _) (own_empty w 9) (bal (Below.refl _ _) _)
  have h1 : ∀ x : ByteArray, ∀ u ∈ [Value.string x], u.oneCell' = true := fun x u hu => by simp at hu; subst hu; rfl
  go_enter Tryz.func239, Tryz.ntmps239
  go_wp2_with fail
  generalize w.alloc (.cells #[] 9) = W1 at *
  go_loopw [5, 6, 7] (fun v f i wr => ∃ k : Nat, k ≤ s.size + 1 ∧ i = .int .i64 k ∧ CutRel w s v f k wr) (fun _ _ i _ => s.size + 1 - (intOf i).toNat)
  case atStart => exact ⟨0, Nat.zero_le _, rfl, T0⟩
  case round =>
    obtain ⟨k, hk, rfl, hT⟩ := hrel
    rcases hT with ⟨done, f, rfl, hc, ho, hb⟩ | ⟨f, rfl, rfl, ho, hb⟩
    · have hfk := hc.1
      have hkl := hc.2.1
      rw [hL] at hkl
      have hdl := hc.done_le
      rw [hL] at hdl
      have hsz := hb.size
      by_cases hlt : k < s.size
      · have hbyte : s.data.toList[k]? = some s[k] := Lib.data_getElem? s k hlt
        have hne : ((k : Int) == (s.size : Int)) = false := by simp; omega
        cases hd : M.dotB s[k]
        · have hq := Lib.hid (hc.next hbyte hd)
          have hd' : ((s[k].toNat : Int) == 46) = false := by simpa [M.dotB] using hd
          clear hbyte hd hc hL
          have HO := Lib.hid (And.intro ho hb)
          clear ho hb
          go_wp2_with fail
          go_roundw
          case rel => exact ⟨k + 1, by omega, by go_num, .on done f rfl hq.out HO.out.1 HO.out.2⟩
          case measure => simp [intOf]; omega
        · have hq := Lib.hid (hc.cut hbyte hd)
          have hd' : ((s[k].toNat : Int) == 46) = true := by simpa [M.dotB] using hd
          clear hbyte hd hc hL
          go_wp2_with (at_builtin; refine wpList_append_src _ rfl (.tmp 26) (.tmp 31) 305 305 rfl w.heap.size 9 i0 (.string ByteArray.empty) 1 16 Tryz.underlying305 hi0 hz0 hz1 hz2 rfl _ _ _ rfl (Own.alloc ho _) _ 1 [.string (s.extract f k)] rfl (src_new wr _ 1 1 _ _ _ Tryz.underlying305 rfl (h1 _)) (by simp only [maxLen]; omega) (by omega) (by simp; omega) ?_; intro v2 w2 hown hgrow hat)
          have T3 := own_more ho hb (M.bs_extract s f k) hown hgrow
          clear hown hgrow hat ho hb
          go_wp2_with fail
          go_roundw
          case rel => exact ⟨k + 1, by omega, by go_num, .on _ (k + 1) (by go_num) hq.out T3.1 T3.2⟩
          case measure => simp [intOf]; omega
      · obtain rfl : k = s.size := by omega
        have hq := hc
        rw [← hL] at hq
        have HQ := Lib.hid hq.last
        clear hc hL hq
        go_wp2_with (at_builtin; refine wpList_append_src _ rfl (.tmp 26) (.tmp 31) 305 305 rfl w.heap.size 9 i0 (.string ByteArray.empty) 1 16 Tryz.underlying305 hi0 hz0 hz1 hz2 rfl _ _ _ rfl (Own.alloc ho _) _ 1 [.string (s.extract f s.size)] rfl (src_new wr _ 1 1 _ _ _ Tryz.underlying305 rfl (h1 _)) (by simp only [maxLen]; omega) (by omega) (by simp; omega) ?_; intro v2 w2 hown hgrow hat)
        have T3 := own_more ho hb (M.bs_extract s f s.size) hown hgrow
        clear hown hgrow hat ho hb
        go_wp2_with fail
        go_roundw
        case rel => exact ⟨s.size + 1, by omega, by go_num, .off (s.size + 1) (by go_num) rfl (by rw [HQ.out]; simpa using T3.1) T3.2⟩
        case measure => simp [intOf]
    · obtain ⟨a, c, hv, -⟩ := Own.form ho
      subst hv
      go_wp2_with fail
      go_ret
      exact ⟨_, _, _, rfl, ho, hb⟩

theorem OwnS.at {w : World} {B : Nat} {a : Option Addr} {n c : Nat} {ps : List (List UInt8)} (h : OwnS w B (.slice a n c) ps) {j : Nat} {p : List UInt8} (hp : ps[j]? = some p) :
    n = ps.length ∧ n ≤ c ∧ c ≤ maxLen ∧ ∃ g, a = some ⟨g, 0, none⟩ ∧ w.cell? ⟨g, j, none⟩ = some (.string (M.bs p)) := by
  have hj := (List.getElem?_eq_some_iff.1 hp).1
  rcases h.2 with ⟨e, h0⟩ | ⟨g, c', e, hB, hg, h1, h2, hc, hr⟩
  · omega
  · injection e with e1 e2 e3
    subst e1
    subst e3
    refine ⟨e2, by omega, h2, g, rfl, hc j _ ?_⟩
    rw [List.getElem?_map, hp]
    rfl
theorem OwnS.len {w : World} {B : Nat} {a : Option Addr} {n c : Nat} {ps : List (List UInt8)} (h : OwnS w B (.slice a n c) ps) : n = ps.length := by
  rcases h.2 with ⟨e, h0⟩ | ⟨g, c', e, _⟩
  · injection e with e1 e2 e3
    omega
  · injection e

theorem l5Fault_any (s : ByteArray) (w : World) (hs : s.size ≤ maxLen) :
    Calls Tryz.prog 148 #[.string s] w fun e w' => e = .returned (.int .i64 (M.nameF s.data.toList)) ∧ Below w.heap.size w w' := by
  have hL : s.data.toList.length = s.size := by simp
  have hm := hs
  unfold maxLen at hs
  by_cases h : 20 < s.size
  · have HE := Lib.hid (M.nameF_long (l := s.data.toList) (by omega))
    have h' : (20 : Int) < s.size := by omega
    go_enter Tryz.func148, Tryz.ntmps148
    go_wp2_with fail
    go_ret
    exact ⟨ret_int HE.out.symm, Below.refl _ _⟩
  have h' : ¬ (20 : Int) < s.size := by omega
  have hbl := M.bare_length s.data.toList
  have C1 : ∀ w, Calls Tryz.prog 239 #[.string (M.bs (M.bare s.data.toList)), .int .u8 46] w fun r w' => ∃ a n c, r = .returned (.slice a n c) ∧ OwnS w' w.heap.size (.slice a n c) (M.cutL [] (M.bare s.data.toList)) ∧ Below w.heap.size w w' :=
    fun w => (l1Cut_any (M.bs (M.bare s.data.toList)) w (by rw [M.bs_size]; omega)).mono fun r w' h => by
      unfold CutMade at h
      rwa [M.bs_list] at h
  have HE := Lib.hid (show M.nameF s.data.toList = if (M.cutL [] (M.bare s.data.toList)).all M.partB then 0 else 5 by
    unfold M.nameF
    rw [if_neg (by omega), M.hasP_eq])
  have HP := Lib.hid (M.cutL_part (M.bare s.data.toList) [])
  have hn0 := M.cutL_length (M.bare s.data.toList) []
  obtain ⟨ps, hps⟩ : ∃ ps, ps = M.cutL [] (M.bare s.data.toList) := ⟨_, rfl⟩
  simp only [← hps] at C1 HE HP hn0
  clear hps
  go_enter Tryz.func148, Tryz.ntmps148
  go_wp2_with fail
  refine (l5Bare_any s _ hm).mono ?_
  rintro r w' ⟨rfl, rfl⟩
  go_wp2_with fail
  refine (C1 _).mono ?_
  rintro r w1 ⟨a, n, c, rfl, ho, hb⟩
  clear C1
  obtain rfl := ho.len
  go_wp2_with fail
  go_loop [4] (fun i => ∃ k : Nat, k ≤ ps.length ∧ i = .int .i64 k ∧ Hid ((ps.take k).all M.partB = true)) (fun i => ps.length - (intOf i).toNat)
  case atStart => exact ⟨0, Nat.zero_le _, rfl, Lib.hid (by simp)⟩
  case round =>
    obtain ⟨k, hk, rfl, hall⟩ := hrel
    by_cases hlt : k < ps.length
    · obtain ⟨p, hp⟩ : ∃ p, ps[k]? = some p := ⟨ps[k], by simp [hlt]⟩
      obtain ⟨-, hnc, hcm, g, rfl, hcell⟩ := ho.at hp
      have hpl := HP.out p (List.mem_of_getElem? hp)
      have F := fun w => l5Part_any (M.bs p) w (by rw [M.bs_size]; simp only [maxLen]; simp at hpl; omega)
      simp only [M.bs_list] at F
      unfold maxLen at hcm
      cases hb2 : M.partB p
      · have HN : Hid (ps.all M.partB = false) := Lib.hid (by
          rw [List.all_eq_false]
          exact ⟨p, List.mem_of_getElem? hp, by simp [hb2]⟩)
        simp only [hb2] at F
        clear hp hpl
        go_wp2_with fail
        refine (F _).mono ?_
        rintro r w' ⟨rfl, rfl⟩
        go_wp2_with fail
        go_ret
        exact ⟨ret_int (by rw [HE.out, HN.out]; rfl), hb⟩
      · have HN : Hid ((ps.take (k + 1)).all M.partB = true) := Lib.hid (by
          rw [List.take_add_one, hp, List.all_append, hall.out]
          simp [hb2])
        simp only [hb2] at F
        clear hp hpl
        go_wp2_with fail
        refine (F _).mono ?_
        rintro r w' ⟨rfl, rfl⟩
        go_wp2_with fail
        go_round
        case rel => exact ⟨k + 1, by omega, by go_num, HN⟩
        case measure => simp [intOf]; omega
    · obtain rfl : k = ps.length := by omega
      go_wp2_with fail
      go_ret
      exact ⟨ret_int (by rw [HE.out, show ps.all M.partB = true by have := hall.out; rwa [List.take_length] at this]; rfl), hb⟩
end Go.Proofs.YtlodhleihnlchaaGreatDoor
