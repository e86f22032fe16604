/- Contracts of the laws' marks: a text made of digits. Conditions: as each theorem states. -/
import Derived.Test.YtcolecidbalmhaaDoorL7
import Derived.Deep.DeepCutAuto
namespace Go.Proofs.YtcolecidbalmhaaDoor
open Go.RowKit
set_option maxRecDepth 100000
set_option linter.unusedVariables false

/-- The digits of k, ahead of out. -/
def digs : Nat → Nat → ByteArray → ByteArray
  | 0, _, out => out
  | f + 1, k, out => if k = 0 then out else digs f (k / 10) ((⟨#[UInt8.ofNat (48 + k % 10)]⟩ : ByteArray) ++ out)
theorem digs_zero (f : Nat) (out : ByteArray) : digs f 0 out = out := by cases f <;> rfl
theorem digs_fuel : ∀ (f g k : Nat) (out : ByteArray), k ≤ f → k ≤ g → digs f k out = digs g k out
  | 0, g, k, out, h1, _ => by
    obtain rfl : k = 0 := by omega
    rw [digs_zero, digs_zero]
  | f + 1, 0, k, out, _, h2 => by
    obtain rfl : k = 0 := by omega
    rw [digs_zero, digs_zero]
  | f + 1, g + 1, k, out, h1, h2 => by
    unfold digs
    by_cases h : k = 0
    · rw [if_pos h, if_pos h]
    · rw [if_neg h, if_neg h]
      exact digs_fuel f g (k / 10) _ (by omega) (by omega)
def markT (k : Nat) : ByteArray := (⟨#[109]⟩ : ByteArray) ++ digs k k ⟨#[]⟩
theorem digs_step {k : Nat} (h : k ≠ 0) (out : ByteArray) : digs k k out = digs (k / 10) (k / 10) ((⟨#[UInt8.ofNat (48 + k % 10)]⟩ : ByteArray) ++ out) := by
  obtain ⟨f, rfl⟩ : ∃ f, k = f + 1 := ⟨k - 1, by omega⟩
  rw [digs, if_neg h]
  exact digs_fuel _ _ _ _ (by omega) (by omega)
theorem markText_any (k : Nat) (w : World) (h0 : 0 < k) (h1 : k ≤ 1000000000) :
    Calls Tryd.prog 39 #[.int .i64 k] w fun e w' => e = .returned (.string (markT k)) ∧ Below w.heap.size w w' := by
  have hk : ¬ (k : Int) ≤ 0 := by omega
  go_enter Tryd.func39, Tryd.ntmps39
  go_wp2_with fail
  go_loopw [0, 3] (fun kv ov wr => ∃ (j : Nat) (o : ByteArray), kv = .int .i64 j ∧ ov = .string o ∧ digs j j o = digs k k ⟨#[]⟩ ∧ o.size + j ≤ k ∧ Below w.heap.size w wr) (fun kv _ _ => (intOf kv).toNat)
  case atStart => exact ⟨k, ⟨#[]⟩, rfl, rfl, rfl, by show 0 + k ≤ k; omega, Below.refl _ _⟩
  case round =>
    obtain ⟨j, o, rfl, rfl, hd, hs, hb⟩ := hrel
    by_cases hj : 0 < j
    · have hj0 : (0 : Int) < j := by omega
      have hlt : j % 10 < 10 := Nat.mod_lt _ (by omega)
      have hst := digs_step (k := j) (by omega) o
      rw [hd] at hst
      have hO := own_lit (k := .u8) wr [48 + (j : Int) % 10] 1 5 (B := wr.heap.size) (Nat.le_refl _) rfl (by simp only [maxLen]; omega)
      have hrow := Own.row hO (by intro z hz; simp at hz; subst hz; exact byte_wf (show M.byteB _ by unfold M.byteB; omega))
      have es : strOf [48 + (j : Int) % 10] = (⟨#[UInt8.ofNat (48 + j % 10)]⟩ : ByteArray) := by
        show (⟨#[UInt8.ofNat (48 + (j : Int) % 10).toNat]⟩ : ByteArray) = _
        rw [show (48 + (j : Int) % 10).toNat = 48 + j % 10 by omega]
      have cv : (convert 83 9 (.slice (some ⟨wr.heap.size, 0, none⟩) 1 1)).run Tryd.prog (wr.alloc (.cells #[.int .u8 (48 + (j : Int) % 10)] 5)) = .ok (.string (⟨#[UInt8.ofNat (48 + j % 10)]⟩ : ByteArray)) (wr.alloc (.cells #[.int .u8 (48 + (j : Int) % 10)] 5)) := by rw [← es]; exact conv_row hrow
      have HS := Lib.hid hst
      have b2 := bal hb (.cells #[.int .u8 (48 + (j : Int) % 10)] 5)
      have hs2 : ((⟨#[UInt8.ofNat (48 + j % 10)]⟩ : ByteArray) ++ o).size + j / 10 ≤ k := by
        have : ((⟨#[UInt8.ofNat (48 + j % 10)]⟩ : ByteArray) ++ o).size = 1 + o.size := by simp [ByteArray.size_append]; rfl
        omega
      have hsz : (⟨#[UInt8.ofNat (48 + j % 10)]⟩ : ByteArray).size = 1 := rfl
      have HS2 := Lib.hid hs2
      have HB2 := Lib.hid b2
      clear hst hO hrow es hd hs2 b2
      generalize (⟨#[UInt8.ofNat (48 + j % 10)]⟩ : ByteArray) = ch at *
      have hsum : ch.size + o.size ≤ 9223372036854775807 := by omega
      have hadd := fun (W : World) => run_string_add_sum (P := Tryd.prog) W ch o hsum
      go_wp2_with fail
      go_roundw
      case rel => exact ⟨j / 10, ch ++ o, by go_num, rfl, HS.out.symm, HS2.out, HB2.out⟩
      case measure => simp [intOf]; omega
    · obtain rfl : j = 0 := by omega
      rw [digs_zero] at hd
      have em : markT k = (⟨#[109]⟩ : ByteArray) ++ o := by unfold markT; rw [← hd]
      have hsum : (⟨#[109]⟩ : ByteArray).size + o.size ≤ 9223372036854775807 := by show 1 + o.size ≤ _; omega
      have hadd := fun (W : World) => run_string_add_sum (P := Tryd.prog) W ⟨#[109]⟩ o hsum
      have HM := Lib.hid em
      clear em hd
      go_wp2_with fail
      go_ret
      exact ⟨by rw [HM.out]; rfl, hb⟩

theorem gset1 {w w1 : World} {g : Nat} (h : w.grownBy w1 (some g)) (i : Nat) (v : Value) : w.grownBy (w1.setCell ⟨g, i, none⟩ v) (some g) :=
  ⟨h.os, h.tape, h.output, by simpa [World.setCell] using h.size, fun k hk hne => (Below.heap_setCell w1 ⟨g, i, none⟩ v k (fun e => hne (by rw [e]))).trans (h.block k hk hne)⟩
theorem gbe1 {w w1 w2 : World} {g : Nat} (h : w.grownBy w1 (some g)) (k : Below w1.heap.size w1 w2) : w.grownBy w2 (some g) :=
  ⟨k.os.trans h.os, k.tape.trans h.tape, k.output.trans h.output, Nat.le_trans h.size k.size, fun i hi hne => (k.block i (Nat.lt_of_lt_of_le hi h.size)).trans (h.block i hi hne)⟩
theorem digs_size : ∀ (f k : Nat) (out : ByteArray), (digs f k out).size ≤ out.size + f
  | 0, k, out => by unfold digs; omega
  | f + 1, k, out => by
    unfold digs
    split
    · omega
    · have h1 := digs_size f (k / 10) ((⟨#[UInt8.ofNat (48 + k % 10)]⟩ : ByteArray) ++ out)
      have h2 : ((⟨#[UInt8.ofNat (48 + k % 10)]⟩ : ByteArray) ++ out).size = 1 + out.size := by simp [ByteArray.size_append]; rfl
      omega
theorem markT_size (k : Nat) : (markT k).size ≤ k + 1 := by
  unfold markT
  have h1 := digs_size k k ⟨#[]⟩
  have h2 : (⟨#[]⟩ : ByteArray).size = 0 := rfl
  have h3 : ((⟨#[109]⟩ : ByteArray) ++ digs k k ⟨#[]⟩).size = 1 + (digs k k ⟨#[]⟩).size := by simp [ByteArray.size_append]; rfl
  omega
end Go.Proofs.YtcolecidbalmhaaDoor
