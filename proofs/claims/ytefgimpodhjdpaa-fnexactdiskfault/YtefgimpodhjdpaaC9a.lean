/- Contracts of what is wrong with a disk, by the program and by its model. Conditions: as each theorem states. -/
import Derived.Test.YtefgimpodhjdpaaMath9a
import Derived.Test.YtefgimpodhjdpaaC2f
import Derived.Test.YtefgimpodhjdpaaG2
namespace Go.Proofs.Ytefgimpodhjdpaa
open Go.RowKit
set_option maxRecDepth 100000
set_option linter.unusedVariables false

theorem long_no {rs : List (List Int)} (h : rs.any longR = false) {k : Nat} (hk : k < rs.length) : (rs[k]?.getD []).length ≤ 40 :=
  long_of h _ (by rw [List.getElem?_eq_getElem hk]; exact List.getElem_mem hk)
theorem any_next {rs : List (List Int)} {k : Nat} (hk : k < rs.length) (h : (rs.take k).any longR = false) (hl : ¬ 40 < (rs[k]?.getD []).length) : (rs.take (k + 1)).any longR = false :=
  M.any_take longR rs [] k hk h (by simpa [longR] using hl)

set_option maxHeartbeats 1000000 in
theorem implDiskFault_any (a : Option Addr) (n c B : Nat) (rs : List (List Int)) (s : Int) (w : World) (hG : Grid w B a n c rs) (hB : B ≤ w.heap.size) :
    Calls Try.prog 7 #[.agg #[.slice a n c, .int .i64 s]] w fun r w' => r = .returned (.int .i64 (diskF ⟨rs, s⟩)) ∧ Below w.heap.size w w' := by
  have hlen := hG.fits
  have hmost := hG.most
  unfold maxLen at hmost
  have hL := Lib.hid hG.length
  have b0 := bal (Below.refl _ w) (.cells #[.slice a n c, .int .i64 s] 27)
  by_cases h : 12 < n
  · have E : diskF ⟨rs, s⟩ = 2 := diskF_many (by show 12 < rs.length; rw [hL.out]; exact h)
    rw [E]; clear E hG
    have h' : (12 : Int) < n := by omega
    go_enter Try.func7, Try.ntmps7
    go_wp2_with fail
    go_ret
    exact ⟨rfl, b0⟩
  have h' : ¬ (12 : Int) < n := by omega
  have hG1 := hG.below (b0.mono hB)
  clear hG
  cases hA : rs.any longR
  · have E0 : ¬ (0 ≤ s ∧ s ≤ n) → diskF ⟨rs, s⟩ = 3 := fun q => diskF_safe (by show ¬ 12 < rs.length; rw [hL.out]; omega) hA (by show ¬ (0 ≤ s ∧ s ≤ rs.length); rw [hL.out]; exact q)
    have E1 : 0 ≤ s ∧ s ≤ n → diskF ⟨rs, s⟩ = 0 := fun q => diskF_yes (by show ¬ 12 < rs.length; rw [hL.out]; omega) hA (by show 0 ≤ s ∧ s ≤ rs.length; rw [hL.out]; exact q)
    have HA := Lib.hid hA
    have H0 := Lib.hid E0
    have H1 := Lib.hid E1
    clear hA E0 E1
    generalize diskF ⟨rs, s⟩ = D at *
    go_enter Try.func7, Try.ntmps7
    go_wp2_with fail
    go_loop [12] (fun i => ∃ k : Nat, k ≤ n ∧ i = .int .i64 k) (fun i => n - (intOf i).toNat)
    case atStart => exact ⟨0, Nat.zero_le _, rfl⟩
    case round =>
      obtain ⟨k, hk, rfl⟩ := hrel
      by_cases hlt : k < n
      · obtain ⟨b, off, ha, hb, hc⟩ := hG1.cells (by omega)
        obtain ⟨a', n', c', hcell, hrow⟩ := hc k hlt
        have hle : ¬ (40 : Int) < n' := by
          have := long_no HA.out (k := k) (by rw [hL.out]; exact hlt)
          rw [hrow.length] at this
          omega
        clear hc hrow hG1
        subst ha
        go_wp2_with fail
        go_round
        case rel => exact ⟨k + 1, by omega, by go_num⟩
        case measure => simp [intOf]; omega
      · have hkn : ¬ (k : Int) < n := by omega
        by_cases q0 : s < 0
        · have e := H0.out (by omega)
          subst e
          clear hG1
          go_wp2_with fail
          go_ret
          exact ⟨rfl, b0⟩
        · by_cases q1 : (n : Int) < s
          · have e := H0.out (by omega)
            subst e
            clear hG1
            go_wp2_with fail
            go_ret
            exact ⟨rfl, b0⟩
          · have e := H1.out (by omega)
            subst e
            clear hG1
            go_wp2_with fail
            go_ret
            exact ⟨rfl, b0⟩
  · have E : diskF ⟨rs, s⟩ = 2 := diskF_long (by show ¬ 12 < rs.length; rw [hL.out]; omega) hA
    rw [E]; clear E
    have HA := Lib.hid hA
    clear hA
    go_enter Try.func7, Try.ntmps7
    go_wp2_with fail
    go_loop [12] (fun i => ∃ k : Nat, k ≤ n ∧ i = .int .i64 k ∧ Hid ((rs.take k).any longR = false)) (fun i => n - (intOf i).toNat)
    case atStart => exact ⟨0, Nat.zero_le _, rfl, Lib.hid (by simp)⟩
    case round =>
      obtain ⟨k, hk, rfl, hT⟩ := hrel
      by_cases hlt : k < n
      · obtain ⟨b, off, ha, hb, hc⟩ := hG1.cells (by omega)
        obtain ⟨a', n', c', hcell, hrow⟩ := hc k hlt
        have hrl := Lib.hid hrow.length
        clear hc hrow
        subst ha
        by_cases hle : (40 : Int) < n'
        · go_wp2_with fail
          go_ret
          exact ⟨rfl, b0⟩
        · have T2 := Lib.hid (any_next (by rw [hL.out]; exact hlt) hT.out (by rw [hrl.out]; omega))
          clear hT
          go_wp2_with fail
          go_round
          case rel => exact ⟨k + 1, by omega, by go_num, T2⟩
          case measure => simp [intOf]; omega
      · exfalso
        have e := hT.out
        rw [List.take_of_length_le (by rw [hL.out]; omega), HA.out] at e
        cases e
set_option maxHeartbeats 1000000 in
theorem l9Disk_any (g : Nat) (a : Option Addr) (n c B : Nat) (rs : List (List Int)) (s : Int) (o : Nat) (w : World) (c0 : w.cell? ⟨g, o, none⟩ = some (.slice a n c)) (c1 : w.cell? ⟨g, o + 1, none⟩ = some (.int .i64 s)) (hG : Grid w B a n c rs) (hB : B ≤ w.heap.size) :
    Calls Try.prog 10 #[.pointer (some ⟨g, o, none⟩)] w fun r w' => r = .returned (.int .i64 (diskF ⟨rs, s⟩)) ∧ Below w.heap.size w w' := by
  have hlen := hG.fits
  have hmost := hG.most
  unfold maxLen at hmost
  have hL := Lib.hid hG.length
  by_cases h : 12 < n
  · have E : diskF ⟨rs, s⟩ = 2 := diskF_many (by show 12 < rs.length; rw [hL.out]; exact h)
    rw [E]; clear E hG
    have h' : (12 : Int) < n := by omega
    go_enter Try.func10, Try.ntmps10
    go_wp2_with fail
    go_ret
    exact ⟨rfl, Below.refl _ _⟩
  have h' : ¬ (12 : Int) < n := by omega
  cases hA : rs.any longR
  · have EE : diskF ⟨rs, s⟩ = if inB s 0 n then 0 else 3 := by
      by_cases q : 0 ≤ s ∧ s ≤ n
      · rw [show inB s 0 n = true by simp [inB, q], if_pos rfl]
        exact diskF_yes (by show ¬ 12 < rs.length; rw [hL.out]; omega) hA (by show 0 ≤ s ∧ s ≤ rs.length; rw [hL.out]; exact q)
      · rw [show inB s 0 n = false by simp only [inB, decide_eq_false_iff_not]; exact q]
        exact diskF_safe (by show ¬ 12 < rs.length; rw [hL.out]; omega) hA (by show ¬ (0 ≤ s ∧ s ≤ rs.length); rw [hL.out]; exact q)
    rw [EE]
    have HA := Lib.hid hA
    have LI := fun w => (l1In_any s 0 n w).mono (R' := fun e w' => e = .returned (.bool (inB s 0 n)) ∧ ∃ m, w' = w.drewN m) (by rintro e w' ⟨h, rfl⟩; exact ⟨h, 0, rfl⟩)
    generalize inB s 0 n = q at *
    clear hA EE
    go_enter Try.func10, Try.ntmps10
    go_wp2_with fail
    go_loop [3] (fun i => ∃ k : Nat, k ≤ n ∧ i = .int .i64 k) (fun i => n - (intOf i).toNat)
    case atStart => exact ⟨0, Nat.zero_le _, rfl⟩
    case round =>
      obtain ⟨k, hk, rfl⟩ := hrel
      by_cases hlt : k < n
      · obtain ⟨b, off, ha, hb, hc⟩ := hG.cells (by omega)
        obtain ⟨a', n', c', hcell, hrow⟩ := hc k hlt
        have hle : ¬ (40 : Int) < n' := by
          have := long_no HA.out (k := k) (by rw [hL.out]; exact hlt)
          rw [hrow.length] at this
          omega
        clear hc hrow hG
        subst ha
        go_wp2_with fail
        go_round
        case rel => exact ⟨k + 1, by omega, by go_num⟩
        case measure => simp [intOf]; omega
      · have hkn : ¬ (k : Int) < n := by omega
        clear hG
        cases q
        · go_wp2_with fail
          go_quiet ((go_at_call 14; exact Calls.quiet_of (LI _)))
          go_wp2_with fail
          go_ret
          exact ⟨rfl, bdrewN (Below.refl _ _) _⟩
        · go_wp2_with fail
          go_quiet ((go_at_call 14; exact Calls.quiet_of (LI _)))
          go_wp2_with fail
          go_ret
          exact ⟨rfl, bdrewN (Below.refl _ _) _⟩
  · have E : diskF ⟨rs, s⟩ = 2 := diskF_long (by show ¬ 12 < rs.length; rw [hL.out]; omega) hA
    rw [E]; clear E
    have HA := Lib.hid hA
    clear hA
    go_enter Try.func10, Try.ntmps10
    go_wp2_with fail
    go_loop [3] (fun i => ∃ k : Nat, k ≤ n ∧ i = .int .i64 k ∧ Hid ((rs.take k).any longR = false)) (fun i => n - (intOf i).toNat)
    case atStart => exact ⟨0, Nat.zero_le _, rfl, Lib.hid (by simp)⟩
    case round =>
      obtain ⟨k, hk, rfl, hT⟩ := hrel
      by_cases hlt : k < n
      · obtain ⟨b, off, ha, hb, hc⟩ := hG.cells (by omega)
        obtain ⟨a', n', c', hcell, hrow⟩ := hc k hlt
        have hrl := Lib.hid hrow.length
        clear hc hrow
        subst ha
        by_cases hle : (40 : Int) < n'
        · go_wp2_with fail
          go_ret
          exact ⟨rfl, Below.refl _ _⟩
        · have T2 := Lib.hid (any_next (by rw [hL.out]; exact hlt) hT.out (by rw [hrl.out]; omega))
          clear hT
          go_wp2_with fail
          go_round
          case rel => exact ⟨k + 1, by omega, by go_num, T2⟩
          case measure => simp [intOf]; omega
      · exfalso
        have e := hT.out
        rw [List.take_of_length_le (by rw [hL.out]; omega), HA.out] at e
        cases e
theorem specDiskFault_any (a : Option Addr) (n c B : Nat) (rs : List (List Int)) (s : Int) (w : World) (hG : Grid w B a n c rs) (hB : B ≤ w.heap.size) :
    Calls Try.prog 5 #[.agg #[.slice a n c, .int .i64 s]] w fun r w' => r = .returned (.int .i64 (diskF ⟨rs, s⟩)) ∧ Below w.heap.size w w' := by
  have b0 := bal (Below.refl _ w) (.cells #[.slice a n c, .int .i64 s] 27)
  have A := At.new w [.slice a n c, .int .i64 s] 27
  have F := l9Disk_any w.heap.size a n c B rs s 0 _ (A.cell 0 _ rfl) (A.cell 1 _ rfl) (hG.below (b0.mono hB)) (Nat.le_trans hB b0.size)
  clear hG A
  go_enter Try.func5, Try.ntmps5
  go_wp2_with fail
  refine F.mono ?_
  rintro r u1 ⟨rfl, b1⟩
  have b2 := btr b0 b1
  clear b1 F b0
  go_wp2_with fail
  go_ret
  exact ⟨rfl, b2⟩
end Go.Proofs.Ytefgimpodhjdpaa
