/- Contracts of chapter 2's small functions: sums of bytes, labels, tagged sums. Conditions: as each theorem states. -/
import Derived.Test.YtmdknbgpddnplaaDoorOwn
import Derived.Test.YtmdknbgpddnplaaDoorMath2
import Derived.Test.YtmdknbgpddnplaaDoorC1a
import Derived.Lib.SlBytesConst
namespace Go.Proofs.YtmdknbgpddnplaaDoor
open Go.RowKit

theorem ret_int {k : IntKind} {a b : Int} (h : a = b) : Ending.returned (.int k a) = .returned (.int k b) := by rw [h]
theorem ret_bool {a b : Bool} (h : a = b) : Ending.returned (.bool a) = .returned (.bool b) := by rw [h]

theorem l2Sum_any (a : Option Addr) (len cap B : Nat) (zs : List Int) (w : World) (hR : Row .u8 w B a len cap zs) :
    Calls Tryd.prog 32 #[.slice a len cap] w fun e w' => e = .returned (.int .i64 (M.sumL zs)) ∧ w = w' := by
  have hlen := hR.fits
  have hmost := hR.most
  unfold maxLen at hmost
  have hL := Lib.hid hR.length
  rcases Nat.eq_zero_or_pos len with h0 | h0
  · subst h0
    obtain rfl : zs = [] := List.eq_nil_of_length_eq_zero hL.out
    go_enter Tryd.func32, Tryd.ntmps32
    go_wp2_with fail
    refine wp_loop_rounds 1 ?_
    rw [rounds_succ]; go_wp2_with fail
    go_ret
    exact ⟨rfl, rfl⟩
  · obtain ⟨b, off, rfl, hb, hc⟩ := hR.cells h0
    have Hc := Lib.hid hc
    have HB := Lib.hid hR.byte
    clear hc hR
    go_enter Tryd.func32, Tryd.ntmps32
    go_wp2_with fail
    go_loop [3, 4] (fun n i => ∃ k : Nat, k ≤ len ∧ i = .int .i64 k ∧ n = .int .i64 (M.sumL (zs.take k))) (fun _ i => len - (intOf i).toNat)
    case atStart => exact ⟨0, Nat.zero_le _, rfl, rfl⟩
    case round =>
      obtain ⟨k, hk, rfl, rfl⟩ := hrel
      obtain ⟨s0, s1⟩ := M.sumL_bd (zs.take k)
      by_cases hlt : k < len
      · have hcell := Hc.out k hlt
        obtain ⟨z0, z1⟩ := HB.out k
        simp only [List.getD_eq_getElem?_getD] at hcell z0 z1
        have H := Lib.hid (M.sumL_take zs k (by rw [hL.out]; exact hlt))
        go_wp2_with fail
        go_round
        case rel => exact ⟨k + 1, by omega, by go_num, by rw [H.out]⟩
        case measure => simp [intOf]; omega
      · go_wp2_with fail
        go_ret
        exact ⟨ret_int (by rw [List.take_of_length_le (by rw [hL.out]; omega)]), rfl⟩

theorem sumBytes_any (a : Option Addr) (len cap B : Nat) (zs : List Int) (w : World) (hR : Row .u8 w B a len cap zs) :
    Calls Tryd.prog 35 #[.slice a len cap] w fun e w' => e = .returned (.int .u32 (M.sumL zs)) ∧ w = w' := by
  have hlen := hR.fits
  have hmost := hR.most
  unfold maxLen at hmost
  have hL := Lib.hid hR.length
  rcases Nat.eq_zero_or_pos len with h0 | h0
  · subst h0
    obtain rfl : zs = [] := List.eq_nil_of_length_eq_zero hL.out
    go_enter Tryd.func35, Tryd.ntmps35
    go_wp2_with fail
    refine wp_loop_rounds 1 ?_
    rw [rounds_succ]; go_wp2_with fail
    go_ret
    exact ⟨rfl, rfl⟩
  · obtain ⟨b, off, rfl, hb, hc⟩ := hR.cells h0
    have Hc := Lib.hid hc
    have HB := Lib.hid hR.byte
    clear hc hR
    go_enter Tryd.func35, Tryd.ntmps35
    go_wp2_with fail
    go_loop [3, 8] (fun n i => ∃ k : Nat, k ≤ len ∧ i = .int .i64 k ∧ n = .int .u32 (M.sumL (zs.take k))) (fun _ i => len - (intOf i).toNat)
    case atStart => exact ⟨0, Nat.zero_le _, rfl, rfl⟩
    case round =>
      obtain ⟨k, hk, rfl, rfl⟩ := hrel
      obtain ⟨s0, s1⟩ := M.sumL_bd (zs.take k)
      by_cases hlt : k < len
      · have hcell := Hc.out k hlt
        obtain ⟨z0, z1⟩ := HB.out k
        simp only [List.getD_eq_getElem?_getD] at hcell z0 z1
        have H := Lib.hid (M.sumL_take zs k (by rw [hL.out]; exact hlt))
        go_wp2_with fail
        go_round
        case rel => exact ⟨k + 1, by omega, by go_num, by rw [H.out]⟩
        case measure => simp [intOf]; omega
      · go_wp2_with fail
        go_ret
        exact ⟨ret_int (by rw [List.take_of_length_le (by rw [hL.out]; omega)]), rfl⟩

end Go.Proofs.YtmdknbgpddnplaaDoor
