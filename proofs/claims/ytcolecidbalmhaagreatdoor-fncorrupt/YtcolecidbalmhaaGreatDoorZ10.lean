/- Texts of this seat that several laws rest on, laid into one. Conditions: as each theorem states. -/
import Derived.Test.YtcolecidbalmhaaGreatDoorZ0
import Derived.Test.YtcolecidbalmhaaGreatDoorZ2
import Derived.Test.YtcolecidbalmhaaGreatDoorZ3
import Derived.Test.YtcolecidbalmhaaGreatDoorZ4
import Derived.Test.YtcolecidbalmhaaGreatDoorZ5
import Derived.Test.YtcolecidbalmhaaGreatDoorZ9
import Derived.Deep.WholeRow
import Derived.Deep.DeepCutAuto
namespace Go.Proofs.YtcolecidbalmhaaGreatDoor
open Go.RowKit
set_option maxRecDepth 100000
set_option linter.unusedVariables false

theorem long_no {rs : List (List Int)} (h : rs.any longR = false) {k : Nat} (hk : k < rs.length) : (rs[k]?.getD []).length ≤ 40 :=
  long_of h _ (by rw [List.getElem?_eq_getElem hk]; exact List.getElem_mem hk)
theorem any_next {rs : List (List Int)} {k : Nat} (hk : k < rs.length) (h : (rs.take k).any longR = false) (hl : ¬ 40 < (rs[k]?.getD []).length) : (rs.take (k + 1)).any longR = false :=
  M.any_take longR rs [] k hk h (by simpa [longR] using hl)

set_option maxHeartbeats 1000000 in
theorem implDiskFault_any (a : Option Addr) (n c B : Nat) (rs : List (List Int)) (s : Int) (w : World) (hG : Grid w B a n c rs) (hB : B ≤ w.heap.size) :
    Calls Tryz.prog 28 #[.agg #[.slice a n c, .int .i64 s]] w fun r w' => r = .returned (.int .i64 (diskF ⟨rs, s⟩)) ∧ Below w.heap.size w w' := by
  have hlen := hG.fits
  have hmost := hG.most
  unfold maxLen at hmost
  have hL := Lib.hid hG.length
  have b0 := bal (Below.refl _ w) (.cells #[.slice a n c, .int .i64 s] 27)
  by_cases h : 12 < n
  · have E : diskF ⟨rs, s⟩ = 2 := diskF_many (by show 12 < rs.length; rw [hL.out]; exact h)
    rw [E]; clear E hG
    have h' : (12 : Int) < n := by omega
    go_enter Tryz.func28, Tryz.ntmps28
    go_wp2_with fail
    go_ret
    exact ⟨rfl, b0⟩
  have h' : ¬ (12 : Int) < n := by omega
  have hG1 := hG.below (b0.mono hB)
  clear hG
  cases hA : rs.any longR
  · have E0 : ¬ (0 ≤ s ∧ s ≤ n) → diskF ⟨rs, s⟩ = 3 := fun q => diskF_safe (by show ¬ 12 < rs.length; rw [hL.out]; omega) hA (by show ¬ (0 ≤ s ∧ s ≤ rs.length); rw [hL.out]; exact q)
    have E1 : 0 ≤ s ∧ s ≤ n → diskF ⟨rs, s⟩ = 0 := fun q => diskF_yes (by show ¬ 12 < rs.length; rw [hL.out]; omega) hA (by show 0 ≤ s ∧ s ≤ rs.length; rw [hL.out]; exact q)
    have HA := Lib.hid hA
    have H0 := Lib.hid E0
    have H1 := Lib.hid E1
    clear hA E0 E1
    generalize diskF ⟨rs, s⟩ = D at *
    go_enter Tryz.func28, Tryz.ntmps28
    go_wp2_with fail
    go_loop [12] (fun i => ∃ k : Nat, k ≤ n ∧ i = .int .i64 k) (fun i => n - (intOf i).toNat)
    case atStart => exact ⟨0, Nat.zero_le _, rfl⟩
    case round =>
      obtain ⟨k, hk, rfl⟩ := hrel
      by_cases hlt : k < n
      · obtain ⟨b, off, ha, hb, hc⟩ := hG1.cells (by omega)
        obtain ⟨a', n', c', hcell, hrow⟩ := hc k hlt
        have hle : ¬ (40 : Int) < n' := by
          have := long_no HA.out (k := k) (by rw [hL.out]; exact hlt)
          rw [hrow.length] at this
          omega
        clear hc hrow hG1
        subst ha
        go_wp2_with fail
        go_round
        case rel => exact ⟨k + 1, by omega, by go_num⟩
        case measure => simp [intOf]; omega
      · have hkn : ¬ (k : Int) < n := by omega
        by_cases q0 : s < 0
        · have e := H0.out (by omega)
          subst e
          clear hG1
          go_wp2_with fail
          go_ret
          exact ⟨rfl, b0⟩
        · by_cases q1 : (n : Int) < s
          · have e := H0.out (by omega)
            subst e
            clear hG1
            go_wp2_with fail
            go_ret
            exact ⟨rfl, b0⟩
          · have e := H1.out (by omega)
            subst e
            clear hG1
            go_wp2_with fail
            go_ret
            exact ⟨rfl, b0⟩
  · have E : diskF ⟨rs, s⟩ = 2 := diskF_long (by show ¬ 12 < rs.length; rw [hL.out]; omega) hA
    rw [E]; clear E
    have HA := Lib.hid hA
    clear hA
    go_enter Tryz.func28, Tryz.ntmps28
    go_wp2_with fail
    go_loop [12] (fun i => ∃ k : Nat, k ≤ n ∧ i = .int .i64 k ∧ Hid ((rs.take k).any longR = false)) (fun i => n - (intOf i).toNat)
    case atStart => exact ⟨0, Nat.zero_le _, rfl, Lib.hid (by simp)⟩
    case round =>
      obtain ⟨k, hk, rfl, hT⟩ := hrel
      by_cases hlt : k < n
      · obtain ⟨b, off, ha, hb, hc⟩ := hG1.cells (by omega)
        obtain ⟨a', n', c', hcell, hrow⟩ := hc k hlt
        have hrl := Lib.hid hrow.length
        clear hc hrow
        subst ha
        by_cases hle : (40 : Int) < n'
        · go_wp2_with fail
          go_ret
          exact ⟨rfl, b0⟩
        · have T2 := Lib.hid (any_next (by rw [hL.out]; exact hlt) hT.out (by rw [hrl.out]; omega))
          clear hT
          go_wp2_with fail
          go_round
          case rel => exact ⟨k + 1, by omega, by go_num, T2⟩
          case measure => simp [intOf]; omega
      · exfalso
        have e := hT.out
        rw [List.take_of_length_le (by rw [hL.out]; omega), HA.out] at e
        cases e
set_option maxHeartbeats 1000000 in
theorem l9Disk_any (g : Nat) (a : Option Addr) (n c B : Nat) (rs : List (List Int)) (s : Int) (o : Nat) (w : World) (c0 : w.cell? ⟨g, o, none⟩ = some (.slice a n c)) (c1 : w.cell? ⟨g, o + 1, none⟩ = some (.int .i64 s)) (hG : Grid w B a n c rs) (hB : B ≤ w.heap.size) :
    Calls Tryz.prog 93 #[.pointer (some ⟨g, o, none⟩)] w fun r w' => r = .returned (.int .i64 (diskF ⟨rs, s⟩)) ∧ Below w.heap.size w w' := by
  have hlen := hG.fits
  have hmost := hG.most
  unfold maxLen at hmost
  have hL := Lib.hid hG.length
  by_cases h : 12 < n
  · have E : diskF ⟨rs, s⟩ = 2 := diskF_many (by show 12 < rs.length; rw [hL.out]; exact h)
    rw [E]; clear E hG
    have h' : (12 : Int) < n := by omega
    go_enter Tryz.func93, Tryz.ntmps93
    go_wp2_with fail
    go_ret
    exact ⟨rfl, Below.refl _ _⟩
  have h' : ¬ (12 : Int) < n := by omega
  cases hA : rs.any longR
  · have EE : diskF ⟨rs, s⟩ = if inB s 0 n then 0 else 3 := by
      by_cases q : 0 ≤ s ∧ s ≤ n
      · rw [show inB s 0 n = true by simp [inB, q], if_pos rfl]
        exact diskF_yes (by show ¬ 12 < rs.length; rw [hL.out]; omega) hA (by show 0 ≤ s ∧ s ≤ rs.length; rw [hL.out]; exact q)
      · rw [show inB s 0 n = false by simp only [inB, decide_eq_false_iff_not]; exact q]
        exact diskF_safe (by show ¬ 12 < rs.length; rw [hL.out]; omega) hA (by show ¬ (0 ≤ s ∧ s ≤ rs.length); rw [hL.out]; exact q)
    rw [EE]
    have HA := Lib.hid hA
    have LI := fun w => (l1In_any s 0 n w).mono (R' := fun e w' => e = .returned (.bool (inB s 0 n)) ∧ ∃ m, w' = w.drewN m) (by rintro e w' ⟨h, rfl⟩; exact ⟨h, 0, rfl⟩)
    generalize inB s 0 n = q at *
    clear hA EE
    go_enter Tryz.func93, Tryz.ntmps93
    go_wp2_with fail
    go_loop [3] (fun i => ∃ k : Nat, k ≤ n ∧ i = .int .i64 k) (fun i => n - (intOf i).toNat)
    case atStart => exact ⟨0, Nat.zero_le _, rfl⟩
    case round =>
      obtain ⟨k, hk, rfl⟩ := hrel
      by_cases hlt : k < n
      · obtain ⟨b, off, ha, hb, hc⟩ := hG.cells (by omega)
        obtain ⟨a', n', c', hcell, hrow⟩ := hc k hlt
        have hle : ¬ (40 : Int) < n' := by
          have := long_no HA.out (k := k) (by rw [hL.out]; exact hlt)
          rw [hrow.length] at this
          omega
        clear hc hrow hG
        subst ha
        go_wp2_with fail
        go_round
        case rel => exact ⟨k + 1, by omega, by go_num⟩
        case measure => simp [intOf]; omega
      · have hkn : ¬ (k : Int) < n := by omega
        clear hG
        cases q
        · go_wp2_with fail
          go_quiet ((go_at_call 108; exact Calls.quiet_of (LI _)))
          go_wp2_with fail
          go_ret
          exact ⟨rfl, bdrewN (Below.refl _ _) _⟩
        · go_wp2_with fail
          go_quiet ((go_at_call 108; exact Calls.quiet_of (LI _)))
          go_wp2_with fail
          go_ret
          exact ⟨rfl, bdrewN (Below.refl _ _) _⟩
  · have E : diskF ⟨rs, s⟩ = 2 := diskF_long (by show ¬ 12 < rs.length; rw [hL.out]; omega) hA
    rw [E]; clear E
    have HA := Lib.hid hA
    clear hA
    go_enter Tryz.func93, Tryz.ntmps93
    go_wp2_with fail
    go_loop [3] (fun i => ∃ k : Nat, k ≤ n ∧ i = .int .i64 k ∧ Hid ((rs.take k).any longR = false)) (fun i => n - (intOf i).toNat)
    case atStart => exact ⟨0, Nat.zero_le _, rfl, Lib.hid (by simp)⟩
    case round =>
      obtain ⟨k, hk, rfl, hT⟩ := hrel
      by_cases hlt : k < n
      · obtain ⟨b, off, ha, hb, hc⟩ := hG.cells (by omega)
        obtain ⟨a', n', c', hcell, hrow⟩ := hc k hlt
        have hrl := Lib.hid hrow.length
        clear hc hrow
        subst ha
        by_cases hle : (40 : Int) < n'
        · go_wp2_with fail
          go_ret
          exact ⟨rfl, Below.refl _ _⟩
        · have T2 := Lib.hid (any_next (by rw [hL.out]; exact hlt) hT.out (by rw [hrl.out]; omega))
          clear hT
          go_wp2_with fail
          go_round
          case rel => exact ⟨k + 1, by omega, by go_num, T2⟩
          case measure => simp [intOf]; omega
      · exfalso
        have e := hT.out
        rw [List.take_of_length_le (by rw [hL.out]; omega), HA.out] at e
        cases e
end Go.Proofs.YtcolecidbalmhaaGreatDoor
namespace Go.Proofs.YtcolecidbalmhaaGreatDoor.M

def kindB (v : Int) : Bool := decide (1 ≤ v ∧ v ≤ 9)
def recB (s k t : Int) : Bool := sumB s && kindB k && sumB t
/-- What is wrong with a record whose data has n bytes. -/
def recF (s k t : Int) (n : Nat) : Int := if recB s k t then (if 60 < n then 2 else 0) else 3
/-- A record's bytes. -/
def packR (s k : Int) (zs : List Int) (t : Int) : List Int := two s ++ [k, (zs.length : Int)] ++ zs ++ two t
def packRL (s k : Int) (zs : List Int) (t : Int) : List Int := if recF s k t zs.length = 0 then packR s k zs t else []
/-- The number at place i. -/
def at2 (zs : List Int) (i : Nat) : Int := 256 * zs.getD i 0 + zs.getD (i + 1) 0
def rdD (zs : List Int) : List Int := (zs.drop 4).take (zs.length - 6)
def rdL (zs : List Int) : Bool := decide (6 ≤ zs.length) && decide ((zs.length : Int) = 6 + zs.getD 3 0)
/-- These are the bytes of a record. -/
def rdB (zs : List Int) : Bool := rdL zs && decide (recF (at2 zs 0) (zs.getD 2 0) (at2 zs (zs.length - 2)) (zs.length - 6) = 0)
/-- Two records are one. -/
def sameR (s k : Int) (zs : List Int) (t : Int) (s' k' : Int) (zs' : List Int) (t' : Int) : Bool := (s == s') && (k == k') && (t == t') && decide (zs = zs')
end Go.Proofs.YtcolecidbalmhaaGreatDoor.M
namespace Go.Proofs.YtcolecidbalmhaaGreatDoor
open Go.RowKit
set_option maxRecDepth 100000
set_option linter.unusedVariables false

abbrev R4 (s k : Int) (a : Option Addr) (n c : Nat) (t : Int) : Value := .agg #[.int .i64 s, .int .i64 k, .slice a n c, .int .i64 t]
abbrev R5 (e s k : Int) (a : Option Addr) (n c : Nat) (t : Int) : Value := .agg #[.int .i64 e, .int .i64 s, .int .i64 k, .slice a n c, .int .i64 t]
abbrev L4 (s k : Int) (a : Option Addr) (n c : Nat) (t : Int) : List Value := [.int .i64 s, .int .i64 k, .slice a n c, .int .i64 t]
abbrev L5 (e s k : Int) (a : Option Addr) (n c : Nat) (t : Int) : List Value := [.int .i64 e, .int .i64 s, .int .i64 k, .slice a n c, .int .i64 t]

/-- A record whose data lies in new memory. -/
def RecMade (s k : Int) (n : Nat) (zs : List Int) (t : Int) (w : World) (r : Ending) (w' : World) : Prop :=
  ∃ a c, r = .returned (R4 s k a n c t) ∧ OwnK .u8 w' w.heap.size (.slice a n c) zs ∧ Below w.heap.size w w'

end Go.Proofs.YtcolecidbalmhaaGreatDoor
namespace Go.Proofs.YtcolecidbalmhaaGreatDoor
open Go.RowKit
set_option maxRecDepth 100000
set_option linter.unusedVariables false

theorem u8_size : (Tryz.prog.info? 5).map (·.size) = some 1 := by kernel_rfl
theorem copyBytes_any (a : Option Addr) (len cap B : Nat) (zs : List Int) (w : World) (hR : Row .u8 w B a len cap zs) (hB : B ≤ w.heap.size) (hl : len ≤ 1048576) :
    Calls Tryz.prog 138 #[.slice a len cap] w (Copied .u8 len zs w) := by
  obtain ⟨i0, hi0, hz0, hz1, hz2⟩ := info_parts u8_info
  have hmk : ∀ W : World, (Instr.makeSlice 22 (.int .i64 (len : Int)) (.int .i64 (len : Int))).run Tryz.prog W = .ok (.slice (some ⟨W.heap.size, 0, none⟩) len len) (W.alloc (.cells (madeCells #[.int .u8 0] len) 5)) := by
    intro W
    have := run_make (P := Tryz.prog) W 22 5 i0 (.int .u8 0) Tryz.underlying22 hi0 hz0 .i64 .i64 len len (by omega) (by omega) (by rw [hz2]; omega) (by omega)
    simpa [hz1, Value.cells] using this
  have hL := Lib.hid hR.length
  clear hi0 hz0 hz1 hz2
  have b0 := bal (Below.refl _ w) (.cells (madeCells #[.int .u8 0] len) 5)
  have R1 := hR.below (b0.mono hB)
  have eM : madeCells #[Value.int .u8 0] len = (List.replicate len (Value.int .u8 0)).toArray := by
    apply Array.ext'
    rw [toList_madeCells_one]
  have hg : (w.alloc (.cells (madeCells #[.int .u8 0] len) 5)).heap[w.heap.size]? = some (.cells (List.replicate len (Value.int .u8 0)).toArray 5 (0, 0)) := by
    rw [eM]; exact (MapKept.heap_alloc w _).1
  obtain ⟨X, hX⟩ : ∃ X, X = zs.map (Value.int .u8) := ⟨_, rfl⟩
  have hXl : X.length = len := by rw [hX]; simpa using hR.length
  have h1 : ∀ v ∈ X, v.oneCell' = true := by rw [hX]; exact ints_oneCell .u8 zs
  have hsrc : 0 < X.length → (some ⟨w.heap.size, 0, none⟩ : Option Addr) = some ⟨w.heap.size, 0, none⟩ ∧ ∃ ad, a = some ad ∧ ∀ j v, X[j]? = some v → (w.alloc (.cells (madeCells #[.int .u8 0] len) 5)).cell? (ad.add j) = some v := by
    intro hp
    obtain ⟨b, off, rfl, hb, hc⟩ := R1.cells (by omega)
    refine ⟨rfl, _, rfl, fun j v hv => ?_⟩
    have hj := (List.getElem?_eq_some_iff.1 hv).1
    rw [hXl] at hj
    rw [Addr.add_lit, hc j hj, ← hv, hX]
    simp [List.getD, show j < zs.length by rw [hR.length]; exact hj]
  have HX := Lib.hid hX
  have HXl := Lib.hid hXl
  have HG := Lib.hid hg
  have HS := Lib.hid hsrc
  clear hX hXl hg hsrc eM R1 hR
  go_enter Tryz.func138, Tryz.ntmps138
  go_wp2_with (with_reducible refine wpList_copy_splice rfl (.tmp 7) (.tmp 8) 22 22 rfl 5 Tryz.underlying22 u8_size _ _ len len len cap rfl rfl w.heap.size 0 (List.replicate len (Value.int .u8 0)) 5 HG.out X (by rw [HXl.out]; simp) HS.out (by rw [HXl.out]; simp) h1 w.heap.size w b0 (Nat.le_refl _) ?_; intro w2 HG2 b2)
  have hG2 := HG2.out
  have eS : splice (List.replicate len (Value.int .u8 0)) 0 X = zs.map (Value.int .u8) := by
    rw [← HX.out]
    simp [splice, HXl.out]
  rw [eS] at hG2
  have F := Lib.hid (And.intro (own_blk (B := w.heap.size) hG2 (Nat.le_refl _) hL.out (by simp only [maxLen]; omega)) b2)
  clear HG2 hG2 eS b2
  go_ret
  exact ⟨rfl, F.out.1, F.out.2⟩

theorem l1Copy_any (a : Option Addr) (len cap B : Nat) (zs : List Int) (w : World) (hR : Row .u8 w B a len cap zs) (hB : B ≤ w.heap.size) (hl : len ≤ 1048576) :
    Calls Tryz.prog 161 #[.slice a len cap] w (Made zs w) := by
  obtain ⟨i0, hi0, hz0, hz1, hz2⟩ := info_parts u8_info
  have R1 := hR.alloc hB (.cells #[] 5)
  have hs := R1.src (P := Tryz.prog) (tx := 22) Tryz.underlying22
  have b0 := bal (Below.refl _ w) (.cells #[] 5)
  have hL := Lib.hid hR.length
  clear hR R1
  go_enter Tryz.func161, Tryz.ntmps161
  go_wp2_with (at_builtin; refine wpList_append_src _ rfl (.tmp 3) (.tmp 4) 22 22 rfl w.heap.size 5 i0 (.int .u8 0) 1 1 Tryz.underlying22 hi0 hz0 hz1 hz2 rfl _ 0 [] rfl (own_empty w 5) _ len _ rfl hs (by simp only [maxLen]; omega) (by omega) (by simp) ?_; intro v w2 hown hgrow hat)
  have O2 : OwnK .u8 w2 w.heap.size v zs := by
    unfold OwnK
    rw [hL.out]
    simpa using hown
  have b2 : Below w.heap.size w w2 := (own_empty w 5).grown b0 (by simp) hgrow
  obtain ⟨a', cap', hv, -⟩ := O2.form
  have F := Lib.hid (And.intro O2 b2)
  clear hown hgrow hat O2 b2 hs b0
  subst hv
  go_wp2_with fail
  go_ret
  exact ⟨_, _, _, rfl, F.out.1, F.out.2⟩

end Go.Proofs.YtcolecidbalmhaaGreatDoor
namespace Go.Proofs.YtcolecidbalmhaaGreatDoor
open Go.RowKit
set_option maxRecDepth 100000
set_option linter.unusedVariables false

/-- A journal's cells: twelve records of at most forty bytes, how long each is; how many they are; how many are safe. -/
def jget (rs : List (List Int)) (n s : Int) (i : Nat) : Value :=
  if i = 492 then .int .i64 n else if i = 493 then .int .i64 s else if i % 41 = 40 then .int .i64 (((rs[i / 41]?.getD []).length : Nat) : Int) else .int .u8 ((rs[i / 41]?.getD []).getD (i % 41) 0)
def jour (rs : List (List Int)) (n s : Int) : List Value := (List.range 494).map (jget rs n s)
section
variable (rs : List (List Int)) (n s : Int)
theorem jour_len : (jour rs n s).length = 494 := by simp [jour]
theorem jour_at {i : Nat} (h : i < 494) : (jour rs n s)[i]? = some (jget rs n s i) := by simp [jour, h]
theorem jget_one (i : Nat) : (jget rs n s i).oneCell' = true := by
  unfold jget
  repeat' split
  all_goals rfl
theorem jour_one : ∀ v ∈ jour rs n s, v.oneCell' = true := by
  intro v hv
  simp only [jour, List.mem_map] at hv
  obtain ⟨i, _, rfl⟩ := hv
  exact jget_one rs n s i
theorem jour_all : (jour rs n s).toArray.all (·.oneCell') = true := all_oneCell_toArray (jour_one rs n s)
theorem jour_count : (jour rs n s)[492]? = some (.int .i64 n) := by rw [jour_at rs n s (by omega)]; rfl
theorem jour_safe : (jour rs n s)[493]? = some (.int .i64 s) := by rw [jour_at rs n s (by omega)]; rfl
theorem jour_size {k : Nat} (hk : k < 12) : (jour rs n s)[41 * k + 40]? = some (.int .i64 (((rs[k]?.getD []).length : Nat) : Int)) := by
  rw [jour_at rs n s (by omega), jget, if_neg (by omega), if_neg (by omega), if_pos (by omega), show (41 * k + 40) / 41 = k by omega]
theorem jour_byte {k i : Nat} (hk : k < 12) (hi : i < 40) : (jour rs n s)[41 * k + i]? = some (.int .u8 ((rs[k]?.getD []).getD i 0)) := by
  rw [jour_at rs n s (by omega), jget, if_neg (by omega), if_neg (by omega), if_neg (by omega), show (41 * k + i) / 41 = k by omega, show (41 * k + i) % 41 = i by omega]
theorem list_ext {xs ys : List Value} (hl : xs.length = ys.length) (h : ∀ i, i < xs.length → xs[i]? = ys[i]?) : xs = ys := by
  apply List.ext_getElem? 
  intro i
  rcases Nat.lt_or_ge i xs.length with hi | hi
  · exact h i hi
  · rw [List.getElem?_eq_none hi, List.getElem?_eq_none (by omega)]
theorem jour_mark (k : Int) : (jour rs n s).set 493 (.int .i64 k) = jour rs n k := by
  refine list_ext (by simp [jour]) fun i hi => ?_
  have hi' : i < 494 := by simpa [jour] using hi
  rw [jour_at rs n k hi']
  by_cases h1 : i = 493
  · subst h1; simp [jour, jget]
  · rw [List.getElem?_set_ne (by omega), jour_at rs n s hi']
    unfold jget
    rw [if_neg h1, if_neg h1]
theorem jour_with (zs : List Int) (hk : rs.length < 12) (hz : zs.length ≤ 40) :
    ((splice (jour rs n s) (41 * rs.length) (zs.map (Value.int .u8))).set (41 * rs.length + 40) (.int .i64 (zs.length : Int))).set 492 (.int .i64 (n + 1)) = jour (rs ++ [zs]) (n + 1) s := by
  have hsl : (splice (jour rs n s) (41 * rs.length) (zs.map (Value.int .u8))).length = 494 := by
    rw [length_splice _ _ _ (by rw [jour_len]; simp; omega), jour_len]
  refine list_ext (by rw [List.length_set, List.length_set, hsl, jour_len]) fun i hi => ?_
  have hi' : i < 494 := by rwa [List.length_set, List.length_set, hsl] at hi
  rw [jour_at _ _ _ hi']
  by_cases h1 : i = 492
  · subst h1
    rw [List.getElem?_set_self (by simp [hsl])]
    rfl
  rw [List.getElem?_set_ne (by omega)]
  by_cases h2 : i = 41 * rs.length + 40
  · subst h2
    rw [List.getElem?_set_self (by rw [hsl]; omega), jget, if_neg (by omega), if_neg (by omega), if_pos (by omega), show (41 * rs.length + 40) / 41 = rs.length by omega]
    simp
  rw [List.getElem?_set_ne (by omega)]
  unfold splice
  by_cases h3 : i < 41 * rs.length
  · rw [List.getElem?_append_left (by simp [jour]; omega), List.getElem?_take_of_lt h3, jour_at rs n s hi']
    unfold jget
    have hd : i / 41 < rs.length := by omega
    rw [if_neg h1, if_neg h1]
    by_cases h4 : i = 493
    · omega
    rw [if_neg h4, if_neg h4, List.getElem?_append_left hd]
  · have hlt : ((jour rs n s).take (41 * rs.length)).length = 41 * rs.length := by simp [jour]; omega
    rw [List.getElem?_append_right (by omega), hlt]
    by_cases h5 : i < 41 * rs.length + zs.length
    · rw [List.getElem?_append_left (by simp; omega)]
      have e1 : i / 41 = rs.length := by omega
      have e2 : i % 41 = i - 41 * rs.length := by omega
      have h40 : i - 41 * rs.length < 40 := by omega
      rw [jget, if_neg h1, if_neg (by omega), if_neg (by omega), e1, e2]
      simp [show i - 41 * rs.length < zs.length by omega]
    · rw [List.getElem?_append_right (by simp; omega), List.getElem?_drop]
      simp only [List.length_map]
      rw [show 41 * rs.length + zs.length + (i - 41 * rs.length - zs.length) = i by omega, jour_at rs n s hi']
      unfold jget
      rw [if_neg h1, if_neg h1]
      by_cases h4 : i = 493
      · rw [if_pos h4, if_pos h4]
      rw [if_neg h4, if_neg h4]
      by_cases h6 : i / 41 = rs.length
      · rw [h6]
        have e2 : i % 41 = i - 41 * rs.length := by omega
        rw [List.getElem?_append_right (Nat.le_refl _), Nat.sub_self, List.getElem?_eq_none (Nat.le_refl _)]
        rw [if_neg (by omega), if_neg (by omega), e2]
        simp [show zs.length ≤ i - 41 * rs.length by omega]
      · rw [List.getElem?_eq_none (by omega), List.getElem?_eq_none (by simp; omega)]
end
/-- Block g is a journal's. -/
def JB (g : Nat) (cs : List Value) (w : World) : Prop := w.heap[g]? = some (.cells cs.toArray 114)
section
variable {g : Nat} {cs : List Value} {w w' : World}
theorem JB.new (w : World) (cs : List Value) : JB w.heap.size cs (w.alloc (.cells cs.toArray 114)) := (MapKept.heap_alloc w _).1
theorem JB.lt (h : JB g cs w) : g < w.heap.size := (Array.getElem?_eq_some_iff.1 h).1
theorem JB.on (h : JB g cs w) (hb : Below w.heap.size w w') : JB g cs w' := (hb.block g h.lt).trans h
theorem JB.cell (h : JB g cs w) (i : Nat) : w.cell? ⟨g, i, none⟩ = cs[i]? := by
  have := blk_cell h i
  simpa using this
theorem JB.free (h : JB g cs w) (i : Nat) : w.frozen? ⟨g, i, none⟩ = false := blk_free h i
theorem JB.set (h : JB g cs w) (i : Nat) (v : Value) : JB g (cs.set i v) (w.setCell ⟨g, i, none⟩ v) := by
  unfold JB at *
  rw [setCell_eq_setRow w g i _ _ _ v h, setRow_heap w g _ _ _ _ h]
  simp
theorem JB.setB (h : JB g cs w) {p : Addr} (hp : g ≠ p.block) (v : Value) : JB g cs (w.setCell p v) := (Below.heap_setCell w p v g hp).trans h
theorem JB.row (h : JB g cs w) (cs' : List Value) : JB g cs' (w.setRow g cs'.toArray) := setRow_heap w g _ _ _ _ h
theorem JB.rowB (h : JB g cs w) {g' : Nat} (hp : g ≠ g') (cs' : Array Value) : JB g cs (w.setRow g' cs') := (setRow_other w g' g cs' hp).trans h
theorem brow {W w1 : World} (h : Below W.heap.size W w1) {g : Nat} (hg : W.heap.size ≤ g) (cs : Array Value) : Below W.heap.size W (w1.setRow g cs) :=
  h.trans ⟨rfl, rfl, rfl, by simp, fun k hk => setRow_other w1 g k cs (by omega)⟩
end
theorem jour_info : (Tryz.prog.info? 114).map (fun i => (i.zero, i.size)) = some (some (.agg (jour [] 0 0).toArray), 494) := by kernel_rfl
theorem jour_built : Tryz.prog.built 114 [] = some (jour [] 0 0).toArray := by kernel_rfl
theorem JB.at {g : Nat} {cs : List Value} {w : World} (h : JB g cs w) {i : Nat} {v : Value} (hv : cs[i]? = some v) : w.cell? ⟨g, i, none⟩ = some v := (h.cell i).trans hv
theorem jour_fit (rs : List (List Int)) (n s : Int) : (Tryz.prog.info? 114).map (·.size) = some (jour rs n s).toArray.size := by
  rw [(zero_of_info jour_info).2]
  simp [jour]
section
variable {ops : Array Oper} {rest : List Oper} {o : Oper} {a : Act} {w : World} {Q : Exit → Act → World → Prop}
theorem load_jour (cs : List Value) (hgd : o.guard = none) (x : Operand) (ho : o.op = .load 114 x) (g : Nat) (hx : a.eval x = .pointer (some ⟨g, 0, none⟩)) (hg : JB g cs w)
    (hi : (Tryz.prog.info? 114).map (·.size) = some cs.toArray.size) (h : wpList Tryz.prog ops Q rest (a.put o.dst (.agg cs.toArray)) w) : wpList Tryz.prog ops Q (o :: rest) a w :=
  wpList_load_row hgd 114 x ho g hx 114 cs.toArray (0, 0) _ hg Tryz.underlying114 rfl hi h
theorem store_jour (cs old : List Value) (hgd : o.guard = none) (x y : Operand) (ho : o.op = .store 114 x y) (g : Nat) (hx : a.eval x = .pointer (some ⟨g, 0, none⟩)) (hy : a.eval y = .agg cs.toArray) (hg : JB g old w)
    (hi : (Tryz.prog.info? 114).map (·.size) = some cs.toArray.size) (hold : old.toArray.size = cs.toArray.size) (h1 : cs.toArray.all (·.oneCell') = true)
    (h : wpList Tryz.prog ops Q rest (a.put o.dst undef) (w.setRow g cs.toArray)) : wpList Tryz.prog ops Q (o :: rest) a w :=
  wpList_store_row hgd 114 x y ho g cs.toArray hx hy 114 old.toArray hg hi hold h1 h
end
theorem jour_old (rs qs : List (List Int)) (n s m t : Int) : (jour rs n s).toArray.size = (jour qs m t).toArray.size := by simp [jour]
theorem jour_with' (rs : List (List Int)) (n s : Int) (zs : List Int) (hk : rs.length < 12) (hz : zs.length ≤ 40) :
    ((splice (jour rs n s) (rs.length * 41) (zs.map (Value.int .u8))).set (rs.length * 41 + 40) (.int .i64 (zs.length : Int))).set 492 (.int .i64 (n + 1)) = jour (rs ++ [zs]) (n + 1) s := by
  rw [Nat.mul_comm]; exact jour_with rs n s zs hk hz
attribute [irreducible] jour
theorem only_row (w : World) (g : Nat) (cs : Array Value) : Only g w (w.setRow g cs) := ⟨rfl, rfl, rfl, by simp, fun k hk => setRow_other w g k cs hk⟩
/-- A copy turns one block alone. -/
theorem wpList_copy_only {P : Program} {w : World} {ops : Array Oper} {rest : List Oper} {o : Oper} {a : Act} {Q : Exit → Act → World → Prop} (hgd : o.guard = none) (d s : Operand) (dT sT : TypeId)
    (ho : o.op = .call { callee := .builtin .copy, args := #[d, s], argTypes := #[dT, sT] }) (elem : TypeId) (hu : P.underlying dT = some (.slice elem)) (hsz : (P.info? elem).map (·.size) = some 1)
    (dp sp : Option Addr) (dLen dCap sLen sCap : Nat) (hd : a.eval d = .slice dp dLen dCap) (hs : a.eval s = .slice sp sLen sCap)
    (g off : Nat) (cur : List Value) (t : TypeId) (hg : w.heap[g]? = some (.cells cur.toArray t (0, 0))) (cs : List Value) (hn : cs.length = Nat.min sLen dLen)
    (hpos : 0 < cs.length → dp = some ⟨g, off, none⟩ ∧ ∃ ad, sp = some ad ∧ ∀ j v, cs[j]? = some v → w.cell? (ad.add j) = some v)
    (hfit : off + cs.length ≤ cur.length) (h1 : ∀ v ∈ cs, v.oneCell' = true)
    (h : ∀ w', w'.heap[g]? = some (.cells (splice cur off cs).toArray t (0, 0)) → Only g w w' → wpList P ops Q rest (a.put o.dst (goInt cs.length)) w') :
    wpList P ops Q (o :: rest) a w := by
  by_cases h0 : cs.length = 0
  · obtain rfl : cs = [] := List.eq_nil_of_length_eq_zero h0
    refine wpList_copy_nothing hgd d s dT sT ho elem hu hsz dp sp dLen dCap sLen sCap hd hs (by simpa using hn.symm) ?_
    exact h w (by simpa [splice] using hg) (Only.refl _ _)
  · obtain ⟨rfl, ad, rfl, hsrc⟩ := hpos (by omega)
    refine wpList_copy_own hgd d s dT sT ho elem hu hsz g off dLen dCap ad sLen sCap hd hs cur.toArray t hg cs hn hsrc (by simpa using hfit) h1 ?_
    refine h _ ?_ (only_row w g _)
    rw [setRow_heap w g _ _ _ _ hg]
    rfl
theorem splice_at {α : Type} (L : List α) (off : Nat) (cs : List α) {i : Nat} (h : off + cs.length ≤ i) (hf : off ≤ L.length) : (splice L off cs)[i]? = L[i]? := by
  unfold splice
  rw [List.getElem?_append_right (by simp; omega), List.getElem?_append_right (by simp; omega), List.getElem?_drop]
  congr 1
  simp
  omega
theorem JB.only {g g' : Nat} {cs : List Value} {w w' : World} (h : JB g cs w) (ho : Only g' w w') (hg : g ≠ g') : JB g cs w' := (ho.block g hg).trans h
theorem bonly {W w w' : World} {g : Nat} (h : Below W.heap.size W w) (ho : Only g w w') (hg : W.heap.size ≤ g) : Below W.heap.size W w' :=
  h.trans (ho.below hg)
theorem with_any (rs : List (List Int)) (s : Int) (zs : List Int) (a : Option Addr) (len cap B : Nat) (w : World) (hR : Row .u8 w B a len cap zs) (hB : B ≤ w.heap.size) (hn : rs.length < 12) (hl : len ≤ 40) :
    Calls Tryz.prog 69 #[.agg (jour rs rs.length s).toArray, .slice a len cap] w fun r w' => r = .returned (.agg (jour (rs ++ [zs]) (rs.length + 1) s).toArray) ∧ Below w.heap.size w w' := by
  have hz := (zero_of_info jour_info).1
  have hzl := hR.length
  have HI := Lib.hid (jour_fit (rs ++ [zs]) (rs.length + 1) s)
  have HE := Lib.hid (jour_with' rs rs.length s zs hn (by omega))
  have HS := Lib.hid (jour_old [] (rs ++ [zs]) 0 0 (rs.length + 1) s)
  have HA := Lib.hid (jour_all (rs ++ [zs]) (rs.length + 1) s)
  have c0 := jour_count rs rs.length s
  have c1 := jour_byte rs rs.length s (k := rs.length) (i := 0) hn (by omega)
  rw [Nat.add_zero, Nat.mul_comm] at c1
  have c2 := jour_size rs rs.length s (k := rs.length) hn
  rw [Nat.mul_comm] at c2
  have HJL := Lib.hid (jour_len rs rs.length s)
  have b0 := bal (bal (Below.refl _ w) (.cells (jour rs rs.length s).toArray 114)) (.cells (jour [] 0 0).toArray 114)
  have Q0 := (JB.new w (jour rs rs.length s)).on (bal (Below.refl _ _) (.cells (jour [] 0 0).toArray 114))
  have R0 := JB.new (w.alloc (.cells (jour rs rs.length s).toArray 114)) (jour [] 0 0)
  rw [World.size_alloc] at R0
  have d0 := Q0.at c0
  have f0 := Q0.free 492
  have e0 := Q0.at c1
  have R1 := hR.below (b0.mono hB)
  obtain ⟨X, hX⟩ : ∃ X, X = zs.map (Value.int .u8) := ⟨_, rfl⟩
  have hXl : X.length = len := by rw [hX]; simpa using hR.length
  have h1 : ∀ v ∈ X, v.oneCell' = true := by rw [hX]; exact ints_oneCell .u8 zs
  rw [← hX] at HE
  generalize (rs[rs.length]?.getD []).getD 0 0 = v0 at *
  generalize ((rs[rs.length]?.getD []).length : Nat) = v4 at *
  generalize rs.length = n at *
  clear c1
  generalize jour [] 0 0 = J0 at *
  generalize jour rs n s = J at *
  generalize jour (rs ++ [zs]) (n + 1) s = K at *
  have hsrc : 0 < X.length → (some ⟨w.heap.size, n * 41, none⟩ : Option Addr) = some ⟨w.heap.size, n * 41, none⟩ ∧ ∃ ad, a = some ad ∧ ∀ j v, X[j]? = some v → ((w.alloc (.cells J.toArray 114)).alloc (.cells J0.toArray 114)).cell? (ad.add j) = some v := by
    intro hp
    obtain ⟨b, off, rfl, hb, hc⟩ := R1.cells (by omega)
    refine ⟨rfl, _, rfl, fun j v hv => ?_⟩
    have hj := (List.getElem?_eq_some_iff.1 hv).1
    rw [hXl] at hj
    rw [Addr.add_lit, hc j hj, ← hv, hX]
    simp [List.getD, show j < zs.length by rw [hzl]; exact hj]
  obtain ⟨v1, hv1⟩ : ∃ v, (splice J (n * 41) X)[n * 41]? = some v := ⟨_, List.getElem?_eq_getElem (by rw [length_splice _ _ _ (by rw [HJL.out]; omega), HJL.out]; omega)⟩
  have hv2 := (splice_at J (n * 41) X (i := 492) (by omega) (by rw [HJL.out]; omega)).trans c0
  have hv3 := (splice_at J (n * 41) X (i := n * 41 + 40) (by omega) (by rw [HJL.out]; omega)).trans c2
  have HV2 := Lib.hid hv2
  have AT := Lib.hid (fun (w2 : World) (h : JB w.heap.size (splice J (n * 41) X) w2) => And.intro (h.at hv1) (And.intro (h.at hv2) (And.intro (h.at hv3) (And.intro (h.free 492) (h.free (n * 41 + 40))))))
  clear hv1 hv2 hv3
  have HSR := Lib.hid hsrc
  have HXl := Lib.hid hXl
  have H1 := Lib.hid h1
  have HQ := Lib.hid Q0
  have HR := Lib.hid R0
  have HB := Lib.hid b0
  have HZ := Lib.hid hzl
  clear Q0 R0 b0 R1 hR c0 c2 hzl hX hXl h1 hsrc
  go_enter Tryz.func69, Tryz.ntmps69
  go_upto_region 1 with fail
  generalize (w.alloc (.cells J.toArray 114)).alloc (.cells J0.toArray 114) = W0 at *
  go_upto_region 2 with fail
  go_upto_region 3 with (refine wpList_copy_only rfl (.tmp 14) (.tmp 15) 22 22 rfl 5 Tryz.underlying22 u8_size _ _ 40 40 len cap rfl rfl w.heap.size (n * 41) J 114 HQ.out X (by rw [HXl.out]; exact (Nat.min_eq_left hl).symm) HSR.out (by rw [HXl.out, HJL.out]; omega) H1.out ?_; intro w2 HG2 b2; obtain ⟨g1, g2, g3, g4, g5⟩ := AT.out w2 HG2; have HG := Lib.hid HG2; have HO := Lib.hid b2; clear HG2 b2 d0 f0 e0)
  rw [HXl.out]
  have HE2 := HE.out
  rw [HZ.out] at HE2
  have Q3 := JB.set HG.out (n * 41 + 40) (.int .i64 len)
  have R3 := (HR.out.only HO.out (by omega)).setB (p := ⟨w.heap.size, n * 41 + 40, none⟩) (by simp) (.int .i64 len)
  have B3 : Below w.heap.size w (w2.setCell ⟨w.heap.size, n * 41 + 40, none⟩ (.int .i64 len)) := (by (iterate 1 (refine bset ?_ (by dsimp only; omega) _)); exact (bonly HB.out HO.out (Nat.le_refl _)))
  generalize w2.setCell ⟨w.heap.size, n * 41 + 40, none⟩ (.int .i64 len) = W3 at *
  have d0 := Q3.at (i := 492) (by rw [List.getElem?_set_ne (by omega)]; exact HV2.out)
  have f0 := Q3.free 492
  have HQ3 := Lib.hid Q3
  have HR3 := Lib.hid R3
  have HB3 := Lib.hid B3
  have HE3 := Lib.hid HE2
  clear Q3 R3 B3 HE2 HE HG HO g1 g2 g3 g4 g5 AT HSR HQ HR HB HV2
  go_upto_region 4 with fail
  have Q4 := HQ3.out.set 492 (.int .i64 (n + 1))
  rw [HE3.out] at Q4
  have R4 := HR3.out.setB (p := ⟨w.heap.size, 492, none⟩) (by simp) (.int .i64 (n + 1))
  have B4 : Below w.heap.size w (W3.setCell ⟨w.heap.size, 492, none⟩ (.int .i64 (n + 1))) := (by (iterate 1 (refine bset ?_ (by dsimp only; omega) _)); exact HB3.out)
  have HQ4 := Lib.hid Q4
  have HR4 := Lib.hid R4
  have HB4 := Lib.hid B4
  clear Q4 R4 B4 HQ3 HR3 HB3 HE3 d0 f0 hz
  generalize W3.setCell ⟨w.heap.size, 492, none⟩ (.int .i64 (n + 1)) = W4 at *
  go_wp2_with (first | (refine load_jour K rfl (.tmp 2) rfl w.heap.size rfl HQ4.out HI.out ?_) | (refine store_jour K J0 rfl (.tmp 4) (.tmp 23) rfl (w.heap.size + 1) rfl rfl HR4.out HI.out HS.out HA.out ?_))
  simp only [Act.put, List.setIfInBounds_toArray, List.set_cons_zero, List.set_cons_succ]
  exact bodyPost_ret (v := .agg K.toArray) (results_cell_row Tryz.results69 _ _ (w.heap.size + 1) 114 K.toArray (0, 0) _ rfl (HR4.out.row K) Tryz.underlying114 rfl HI.out) rfl ⟨rfl, brow HB4.out (by omega) _⟩
end Go.Proofs.YtcolecidbalmhaaGreatDoor
namespace Go.Proofs.YtcolecidbalmhaaGreatDoor
open Go.RowKit
set_option maxRecDepth 100000
set_option linter.unusedVariables false

/-- A journal that has all of rs. -/
def jall (rs : List (List Int)) (s : Int) : List Value := jour rs (rs.length : Nat) s
theorem jall_nil : jall [] 0 = jour [] 0 0 := rfl
theorem jall_len (rs : List (List Int)) (s : Int) : (jall rs s).length = 494 := jour_len _ _ _
theorem jall_fit (rs : List (List Int)) (s : Int) : (Tryz.prog.info? 114).map (·.size) = some (jall rs s).toArray.size := jour_fit _ _ _
theorem jall_one (rs : List (List Int)) (s : Int) : (jall rs s).toArray.all (·.oneCell') = true := jour_all _ _ _
theorem jall_old (rs qs : List (List Int)) (s t : Int) : (jall rs s).toArray.size = (jall qs t).toArray.size := jour_old _ _ _ _ _ _
theorem jall_safe (rs : List (List Int)) (s : Int) : (jall rs s)[493]? = some (.int .i64 s) := jour_safe _ _ _
theorem jall_mark (rs : List (List Int)) (s t : Int) : (jall rs s).set 493 (.int .i64 t) = jall rs t := jour_mark _ _ _ _
theorem withAll_any (rs : List (List Int)) (s : Int) (zs : List Int) (a : Option Addr) (len cap B : Nat) (w : World) (hR : Row .u8 w B a len cap zs) (hB : B ≤ w.heap.size) (hn : rs.length < 12) (hl : len ≤ 40) :
    Calls Tryz.prog 69 #[.agg (jall rs s).toArray, .slice a len cap] w fun r w' => r = .returned (.agg (jall (rs ++ [zs]) s).toArray) ∧ Below w.heap.size w w' := by
  have h := with_any rs s zs a len cap B w hR hB hn hl
  have e : jour (rs ++ [zs]) (rs.length + 1) s = jall (rs ++ [zs]) s := by
    unfold jall
    congr 1
    simp
  rw [e] at h
  exact h
theorem jall_def (rs : List (List Int)) (s : Int) : jall rs s = jour rs (rs.length : Nat) s := rfl
attribute [irreducible] jall
/-- A disk, a journal and a result, each in a block of its own. -/
structure JSt (W : World) (d r j : Nat) (dv : List Value) (J0 J : List Value) (wr : World) : Prop where
  D : At d dv wr
  R : JB r J0 wr
  J : JB j J wr
  B : Below W.heap.size W wr
section
variable {W wr wr' : World} {d r j : Nat} {dv J0 J : List Value}
theorem JSt.on (h : JSt W d r j dv J0 J wr) (hb : Below wr.heap.size wr wr') : JSt W d r j dv J0 J wr' := ⟨h.D.on hb, h.R.on hb, h.J.on hb, btr h.B hb⟩
theorem JSt.row (h : JSt W d r j dv J0 J wr) (K : List Value) (h1 : d ≠ j) (h2 : r ≠ j) (h3 : W.heap.size ≤ j) : JSt W d r j dv J0 K (wr.setRow j K.toArray) :=
  ⟨h.D.keep fun _ => setRow_other wr j d _ h1, h.R.rowB h2 _, h.J.row K, brow h.B h3 _⟩
theorem JSt.cell (h : JSt W d r j dv J0 J wr) {i : Nat} (v : Value) (h1 : d ≠ j) (h2 : r ≠ j) (h3 : W.heap.size ≤ j) : JSt W d r j dv J0 (J.set i v) (wr.setCell ⟨j, i, none⟩ v) :=
  ⟨h.D.setB h1 v, h.R.setB h2 v, h.J.set i v, bset h.B h3 v⟩
end
set_option maxHeartbeats 1000000 in
theorem journalOf_any (a : Option Addr) (n c B : Nat) (rs : List (List Int)) (s : Int) (w : World) (hG : Grid w B a n c rs) (hB : B ≤ w.heap.size) (hn : rs.length ≤ 12) (hl : rs.any longR = false) :
    Calls Tryz.prog 67 #[.agg #[.slice a n c, .int .i64 s]] w fun r w' => r = .returned (.agg (jall rs s).toArray) ∧ Below w.heap.size w w' := by
  have hz := (zero_of_info jour_info).1
  have hbu := jour_built
  rw [← jall_nil] at hz hbu
  have HL := Lib.hid hG.length
  have HN := Lib.hid (show n ≤ 12 by rw [← hG.length]; exact hn)
  have HLL := Lib.hid hl
  have hlen := hG.fits
  have hmost := hG.most
  unfold maxLen at hmost
  have b0 := bal (bal (Below.refl _ w) (.cells #[.slice a n c, .int .i64 s] 27)) (.cells (jall [] 0).toArray 114)
  have A0 : At w.heap.size [.slice a n c, .int .i64 s] ((w.alloc (.cells #[.slice a n c, .int .i64 s] 27)).alloc (.cells (jall [] 0).toArray 114)) := (At.new w [.slice a n c, .int .i64 s] 27).alloc _
  have R0 := JB.new (w.alloc (.cells #[.slice a n c, .int .i64 s] 27)) (jall [] 0)
  rw [World.size_alloc] at R0
  have sz0 : ((w.alloc (.cells #[.slice a n c, .int .i64 s] 27)).alloc (.cells (jall [] 0).toArray 114)).heap.size = w.heap.size + 2 := by simp
  have HG := Lib.hid (fun (w' : World) (h : Below w.heap.size w w') => hG.below (h.mono hB))
  have HJ := Lib.hid (jall_len [] 0)
  have HF := Lib.hid jall_fit
  have HO := Lib.hid jall_one
  have HOL := Lib.hid jall_old
  clear hG hn hl
  generalize hE : jall [] 0 = E at *
  go_enter Tryz.func67, Tryz.ntmps67
  go_upto_region 1 with fail
  generalize (w.alloc (.cells #[.slice a n c, .int .i64 s] 27)).alloc (.cells E.toArray 114) = W0 at *
  have HA0 := Lib.hid A0
  have HR0 := Lib.hid R0
  have HB0 := Lib.hid b0
  clear A0 R0 b0
  have HZ0 := Lib.hid sz0
  clear sz0
  go_upto_region 2 with (first | (refine wpList_build rfl 114 #[] rfl (by rw [show ((#[] : Array (Nat × Operand)).map fun (i, x) => (i, Act.eval _ x)).toList = [] from rfl, hbu]; rfl) ?_) | (refine store_jour E E rfl (.tmp 3) (.tmp 6) rfl _ rfl rfl (JB.new W0 E) (by rw [← hE]; exact HF.out [] 0) rfl (by rw [← hE]; exact HO.out [] 0) ?_))
  have S1 := (JSt.mk (W := w) (HA0.out.alloc (.cells E.toArray 114)) (HR0.out.on (bal (Below.refl _ W0) _)) (JB.new W0 E) (bal HB0.out _)).row E (by have := HZ0.out; omega) (by have := HZ0.out; omega) (by have := HZ0.out; omega)
  generalize (W0.alloc (.cells E.toArray 114)).setRow W0.heap.size E.toArray = W1 at *
  have hj1 : w.heap.size ≠ W0.heap.size := by have := HZ0.out; omega
  have hj2 : w.heap.size + 1 ≠ W0.heap.size := by have := HZ0.out; omega
  have hj3 : w.heap.size ≤ W0.heap.size := by have := HZ0.out; omega
  generalize W0.heap.size = j at *
  have d0 := S1.D.cell 0 _ rfl
  have HS1 := Lib.hid S1
  clear S1 HA0 HR0 HB0 HZ0 hz hbu
  go_wp2_with fail
  go_loopw [10] (fun i wr => ∃ k : Nat, k ≤ n ∧ i = .int .i64 k ∧ JSt w w.heap.size (w.heap.size + 1) j [.slice a n c, .int .i64 s] E (jall (rs.take k) 0) wr) (fun i _ => n - (intOf i).toNat)
  case atStart => exact ⟨0, Nat.zero_le _, rfl, by rw [List.take_zero, hE]; exact HS1.out⟩
  case round =>
    obtain ⟨k, hk, rfl, hT⟩ := hrel
    clear HS1 d0
    by_cases hlt : k < n
    · obtain ⟨b, off, ha, hb, hc⟩ := (HG.out wr hT.B).cells (by omega)
      obtain ⟨a', n', c', hcell, hrow⟩ := hc k hlt
      have hl2 : k < rs.length := by rw [HL.out]; exact hlt
      have hl40 : n' ≤ 40 := by rw [← hrow.length]; exact long_no HLL.out hl2
      have htk := M.take_snoc rs [] k hl2
      have WA := withAll_any (rs.take k) 0 (rs[k]?.getD []) a' n' c' B wr hrow (Nat.le_trans hB hT.B.size) (by have := HN.out; simp; omega) hl40
      rw [← htk] at WA
      have HT := Lib.hid hT
      have HJK := Lib.hid hT.J
      clear hc hrow hT htk hl2
      subst ha
      go_wp2_with (refine load_jour (jall (rs.take k) 0) rfl (.tmp 3) rfl j rfl HJK.out (HF.out _ _) ?_)
      refine WA.mono ?_
      rintro r w2 ⟨rfl, b2⟩
      have T2 := HT.out.on b2
      have HJ2 := Lib.hid T2.J
      have T3 := Lib.hid (T2.row (jall (rs.take (k + 1)) 0) hj1 hj2 hj3)
      clear T2 HT HJK b2 WA hcell
      go_wp2_with (refine store_jour (jall (rs.take (k + 1)) 0) (jall (rs.take k) 0) rfl (.tmp 3) (.tmp 16) rfl j rfl rfl HJ2.out (HF.out _ _) (HOL.out _ _ _ _) (HO.out _ _) ?_)
      go_roundw
      case rel => exact ⟨k + 1, by omega, by go_num, T3.out⟩
      case measure => simp [intOf]; omega
    · obtain rfl : k = n := by omega
      rw [List.take_of_length_le (by rw [HL.out]; omega)] at hT
      have d0 := hT.D.cell 0 _ rfl
      have d1 := hT.D.cell 1 _ rfl
      have f1 := hT.J.free 493
      have e1 := hT.J.at (jall_safe rs 0)
      have HT := Lib.hid hT
      clear hT
      go_upto_region 8 with fail
      have S8 := HT.out.cell (i := 493) (.int .i64 s) hj1 hj2 hj3
      rw [jall_mark] at S8
      have HS8 := Lib.hid S8
      clear S8 HT d0 d1 f1 e1
      generalize wr.setCell ⟨j, 493, none⟩ (.int .i64 s) = W8 at *
      go_wp2_with (first | (refine load_jour (jall rs s) rfl (.tmp 3) rfl j rfl HS8.out.J (HF.out _ _) ?_) | (refine store_jour (jall rs s) E rfl (.tmp 2) (.tmp 21) rfl (w.heap.size + 1) rfl rfl HS8.out.R (HF.out _ _) (by rw [← hE]; exact HOL.out _ _ _ _) (HO.out _ _) ?_))
      simp only [Act.put, List.setIfInBounds_toArray, List.set_cons_zero, List.set_cons_succ]
      exact bodyPost_ret (v := .agg (jall rs s).toArray) (results_cell_row Tryz.results67 _ _ (w.heap.size + 1) 114 (jall rs s).toArray (0, 0) _ rfl (HS8.out.R.row (jall rs s)) Tryz.underlying114 rfl (HF.out _ _)) rfl ⟨rfl, brow HS8.out.B (by omega) _⟩
end Go.Proofs.YtcolecidbalmhaaGreatDoor
namespace Go.Proofs.YtcolecidbalmhaaGreatDoor
open Go.RowKit
set_option maxRecDepth 100000
set_option linter.unusedVariables false

/-- Nothing that was there has turned but blocks from lo on, ahead of hi. -/
structure Inn (lo hi : Nat) (w w' : World) : Prop where
  os : w'.os = w.os
  tape : w'.tape = w.tape
  output : w'.output = w.output
  size : w.heap.size ≤ w'.heap.size
  block : ∀ k, k < w.heap.size → k < lo ∨ hi ≤ k → w'.heap[k]? = w.heap[k]?
section
variable {lo hi : Nat} {w w' w2 : World}
theorem Inn.refl (lo hi : Nat) (w : World) : Inn lo hi w w := ⟨rfl, rfl, rfl, Nat.le_refl _, fun _ _ _ => rfl⟩
theorem Inn.trans (h : Inn lo hi w w') (k : Inn lo hi w' w2) : Inn lo hi w w2 :=
  ⟨k.os.trans h.os, k.tape.trans h.tape, k.output.trans h.output, Nat.le_trans h.size k.size, fun i hl ho => (k.block i (Nat.lt_of_lt_of_le hl h.size) ho).trans (h.block i hl ho)⟩
/-- What lies ahead of all that has turned. -/
theorem Inn.below {W : World} (hb : Below W.heap.size W w) (h : Inn lo hi w w') (hl : W.heap.size ≤ lo) : Below W.heap.size W w' :=
  ⟨h.os.trans hb.os, h.tape.trans hb.tape, h.output.trans hb.output, Nat.le_trans hb.size h.size, fun k hk => (h.block k (by have := hb.size; omega) (by omega)).trans (hb.block k hk)⟩
theorem Inn.ahead (h : Inn lo hi w w') (hl : lo ≤ w.heap.size) : Below lo w w' := ⟨h.os, h.tape, h.output, h.size, fun k hk => h.block k (by omega) (by omega)⟩
end

/-- The two lie in no one block. -/
def ApartV (v1 v2 : Value) : Prop := ∀ k, v1.ownBlock = some k → v2.ownBlock ≠ some k
/-- A slice of slices of bytes that a call made: all of it lies from block lo on, ahead of block hi, no two slices in one block. -/
structure OwnG (w : World) (lo hi : Nat) (v : Value) (zss : List (List Int)) (xs : List Value) : Prop where
  own : Own w lo 1 v zss.length xs
  top : hi ≤ w.heap.size
  lt : ∀ k, v.ownBlock = some k → k < hi
  row : ∀ (j : Nat) (u : Value), xs[j]? = some u → OwnK .u8 w lo u (zss[j]?.getD []) ∧ (∀ k, u.ownBlock = some k → k < hi) ∧ ApartV u v
  sep : ∀ (i j : Nat) (u1 u2 : Value), i ≠ j → xs[i]? = some u1 → xs[j]? = some u2 → ApartV u1 u2
section
variable {w w' : World} {lo hi : Nat} {v : Value} {zss : List (List Int)} {xs : List Value}
theorem OwnG.len (h : OwnG w lo hi v zss xs) : xs.length = zss.length := by have := h.own.1; omega
theorem OwnG.nil (w : World) (lo hi : Nat) (h : hi ≤ w.heap.size) : OwnG w lo hi (.slice none 0 0) [] [] :=
  ⟨Own.nil w lo 1, h, fun k hk => by simp [Value.ownBlock] at hk, fun j u hu => by simp at hu, fun i j u1 u2 _ hu => by simp at hu⟩
theorem OwnG.less {lo' : Nat} (h : OwnG w lo hi v zss xs) (hl : lo' ≤ lo) : OwnG w lo' hi v zss xs :=
  ⟨h.own.less hl, h.top, h.lt, fun j u hu => by obtain ⟨a, b, c⟩ := h.row j u hu; exact ⟨Own.less a hl, b, c⟩, h.sep⟩
theorem OwnG.more {hi' : Nat} (h : OwnG w lo hi v zss xs) (h1 : hi ≤ hi') (h2 : hi' ≤ w.heap.size) : OwnG w lo hi' v zss xs :=
  ⟨h.own, h2, fun k hk => by have := h.lt k hk; omega, fun j u hu => by
    obtain ⟨a, b, c⟩ := h.row j u hu
    exact ⟨a, fun k hk => by have := b k hk; omega, c⟩, h.sep⟩
theorem OwnG.keep (h : OwnG w lo hi v zss xs) (hs : w.heap.size ≤ w'.heap.size) (hk : ∀ k, lo ≤ k → k < hi → w'.heap[k]? = w.heap[k]?) : OwnG w' lo hi v zss xs :=
  ⟨h.own.keep hs fun k e => hk k (h.own.lt k e).1 (h.lt k e), Nat.le_trans h.top hs, h.lt, fun j u hu => by
    obtain ⟨a, b, c⟩ := h.row j u hu
    exact ⟨Own.keep a hs fun k e => hk k (Own.lt a k e).1 (b k e), b, c⟩, h.sep⟩
theorem OwnG.keepP (h : OwnG w lo hi v zss xs) (hs : w.heap.size ≤ w'.heap.size) (hv : ∀ k, v.ownBlock = some k → w'.heap[k]? = w.heap[k]?) (hx : ∀ (i : Nat) (u : Value) (k : Nat), xs[i]? = some u → u.ownBlock = some k → w'.heap[k]? = w.heap[k]?) : OwnG w' lo hi v zss xs :=
  ⟨h.own.keep hs hv, Nat.le_trans h.top hs, h.lt, fun j u hu => by
    obtain ⟨a, b, c⟩ := h.row j u hu
    exact ⟨Own.keep a hs fun k e => hx j u k hu e, b, c⟩, h.sep⟩
theorem OwnG.below (h : OwnG w lo hi v zss xs) (hb : Below w.heap.size w w') : OwnG w' lo hi v zss xs :=
  h.keep hb.size fun k _ h2 => hb.block k (by have := h.top; omega)
theorem OwnG.alloc (h : OwnG w lo hi v zss xs) (o : Obj) : OwnG (w.alloc o) lo hi v zss xs := h.below (bal (Below.refl _ _) o)
theorem OwnG.setCell (h : OwnG w lo hi v zss xs) {p : Addr} (hp : p.block < lo ∨ hi ≤ p.block) (u : Value) : OwnG (w.setCell p u) lo hi v zss xs :=
  h.keep (by simp [World.setCell]) fun k h1 h2 => Below.heap_setCell w p u k (by omega)
theorem OwnG.form (h : OwnG w lo hi v zss xs) : ∃ a cap, v = .slice a zss.length cap ∧ zss.length ≤ cap ∧ cap ≤ maxLen ∧ (a = none → zss.length = 0 ∧ cap = 0) := h.own.form
/-- It can be read. -/
theorem OwnG.grid {a : Option Addr} {len cap : Nat} (h : OwnG w lo hi (.slice a len cap) zss xs) (hw : ∀ zs ∈ zss, ∀ z ∈ zs, (Lit.int .u8 z).wf = true) : Grid w w.heap.size a len cap zss := by
  have hl := h.len
  rcases h.own.2 with ⟨e, h0⟩ | ⟨g, c, e, hb, hg, h1, h2, hc, _⟩
  · injection e with e1 e2 e3
    subst e1; subst e2; subst e3
    obtain rfl : zss = [] := List.eq_nil_of_length_eq_zero h0
    exact Grid.nil _ _
  · injection e with e1 e2 e3
    subst e1; subst e2; subst e3
    refine ⟨rfl, h1, h2, fun hp => ⟨g, 0, rfl, hg, fun j hj => ?_⟩⟩
    have hj2 : j < xs.length := by omega
    have hu : xs[j]? = some xs[j] := List.getElem?_eq_getElem hj2
    obtain ⟨hrow, hlt, _⟩ := h.row j _ hu
    obtain ⟨a', c', ev, _⟩ := Own.form hrow
    refine ⟨a', _, c', by rw [Nat.zero_add, hc j _ hu, ev], ?_⟩
    rw [ev] at hrow
    exact Own.row hrow fun z hz => hw _ (by
      have : j < zss.length := by omega
      rw [List.getElem?_eq_getElem this]
      exact List.getElem_mem this) z hz
theorem OwnG.len' {a : Option Addr} {len cap : Nat} (h : OwnG w lo hi (.slice a len cap) zss xs) : len = zss.length := by
  obtain ⟨a', c', e, _⟩ := h.form
  injection e
/-- One more slice of new memory is appended. -/
theorem OwnG.app {w1 w2 : World} {v' u : Value} {zs : List Int} (h : OwnG w lo w.heap.size v zss xs) (hlow : lo ≤ w.heap.size) (hb : Below w.heap.size w w1) (hu : OwnK .u8 w1 w.heap.size u zs)
    (ho : Own w2 lo 1 v' (zss.length + 1) (xs ++ [u])) (hg : w1.grownBy w2 v.ownBlock) (hat : v'.ownBlock = v.ownBlock ∨ v'.ownBlock = some w1.heap.size) : OwnG w2 lo w2.heap.size v' (zss ++ [zs]) (xs ++ [u]) := by
  have hl := h.len
  have old : ∀ j x, xs[j]? = some x → OwnK .u8 w2 lo x (zss[j]?.getD []) ∧ (∀ k, x.ownBlock = some k → k < w.heap.size) ∧ ApartV x v := fun j x hx => by
    obtain ⟨a, b, c⟩ := h.row j x hx
    exact ⟨Own.keep (Own.below a hb) hg.size fun k e => hg.block k (by have := b k e; have := hb.size; omega) (fun e2 => c k e e2.symm), b, c⟩
  have hsz := hb.size
  have hsz2 := hg.size
  have hv := fun k e => h.lt k e
  have new : OwnK .u8 w2 w.heap.size u zs := Own.keep hu hg.size fun k e => hg.block k (Own.lt hu k e).2 (fun e2 => by have := hv k e2.symm; have := (Own.lt hu k e).1; omega)
  have nlt := fun k e => Own.lt hu k e
  refine ⟨by simpa using ho, Nat.le_refl _, fun k e => (ho.lt k e).2, fun j x hx => ?_, fun i j u1 u2 hij h1 h2 => ?_⟩
  · rcases Nat.lt_or_ge j xs.length with hj | hj
    · rw [List.getElem?_append_left hj] at hx
      obtain ⟨a, b, c⟩ := old j x hx
      refine ⟨by rw [List.getElem?_append_left (by omega)]; exact a, fun k e => by have := b k e; omega, fun k e e2 => ?_⟩
      rcases hat with ha | ha
      · rw [ha] at e2; exact c k e e2
      · rw [ha] at e2
        injection e2 with e2
        have := b k e
        omega
    · have hj2 : j = xs.length := by
        have := (List.getElem?_eq_some_iff.1 hx).1
        simp at this
        omega
      subst hj2
      rw [List.getElem?_append_right (Nat.le_refl _), Nat.sub_self] at hx
      simp at hx
      subst hx
      refine ⟨?_, fun k e => by have := (nlt k e).2; omega, fun k e e2 => ?_⟩
      · rw [hl, List.getElem?_append_right (Nat.le_refl _), Nat.sub_self]
        exact Own.less new hlow
      · rcases hat with ha | ha
        · rw [ha] at e2
          have := hv k e2
          have := (nlt k e).1
          omega
        · rw [ha] at e2
          injection e2 with e2
          have := (nlt k e).2
          omega
  · have key : ∀ i x, (xs ++ [u])[i]? = some x → (i < xs.length ∧ xs[i]? = some x) ∨ (i = xs.length ∧ x = u) := fun i x hx => by
      rcases Nat.lt_or_ge i xs.length with hj | hj
      · rw [List.getElem?_append_left hj] at hx
        exact .inl ⟨hj, hx⟩
      · have hj2 : i = xs.length := by
          have := (List.getElem?_eq_some_iff.1 hx).1
          simp at this
          omega
        subst hj2
        rw [List.getElem?_append_right (Nat.le_refl _), Nat.sub_self] at hx
        simp at hx
        exact .inr ⟨rfl, hx.symm⟩
    rcases key i u1 h1 with ⟨a1, a2⟩ | ⟨a1, a2⟩ <;> rcases key j u2 h2 with ⟨b1, b2⟩ | ⟨b1, b2⟩
    · exact h.sep i j u1 u2 hij a2 b2
    · subst b2
      intro k e e2
      have := (old i u1 a2).2.1 k e
      have := (nlt k e2).1
      omega
    · subst a2
      intro k e e2
      have := (old j u2 b2).2.1 k e2
      have := (nlt k e).1
      omega
    · omega
end
end Go.Proofs.YtcolecidbalmhaaGreatDoor
namespace Go.Proofs.YtcolecidbalmhaaGreatDoor
open Go.RowKit
set_option maxRecDepth 100000
set_option linter.unusedVariables false

/-- A store that is read: its pins, its records; it lies below block B. -/
structure SRow (w : World) (B : Nat) (a1 : Option Addr) (n1 c1 : Nat) (a2 : Option Addr) (n2 c2 : Nat) (s : StoreD) : Prop where
  ps : PRow w B a1 n1 c1 s.ps
  rs : Grid w B a2 n2 c2 s.d.rs
  wf : ∀ zs ∈ s.d.rs, ∀ z ∈ zs, (Lit.int .u8 z).wf = true
section
variable {w w' : World} {B B' : Nat} {a1 a2 : Option Addr} {n1 c1 n2 c2 : Nat} {s : StoreD}
theorem SRow.below (h : SRow w B a1 n1 c1 a2 n2 c2 s) (hb : Below B w w') : SRow w' B a1 n1 c1 a2 n2 c2 s := ⟨h.ps.below hb, h.rs.below hb, h.wf⟩
theorem SRow.more (h : SRow w B a1 n1 c1 a2 n2 c2 s) (hB : B ≤ B') : SRow w B' a1 n1 c1 a2 n2 c2 s := ⟨h.ps.more hB, h.rs.more hB, h.wf⟩
theorem SRow.on (h : SRow w w.heap.size a1 n1 c1 a2 n2 c2 s) (hb : Below w.heap.size w w') : SRow w' w'.heap.size a1 n1 c1 a2 n2 c2 s := (h.below hb).more hb.size
theorem SRow.nil (w : World) (B : Nat) : SRow w B none 0 0 none 0 0 store0 := ⟨PRow.nil w B, Grid.nil w B, fun _ h => by cases h⟩
end
/-- A store that a call made: its pins lie from block lo on, its records behind them, all of it ahead of block hi. -/
def SOwn (w : World) (lo hi : Nat) (v1 v2 : Value) (s : StoreD) : Prop :=
  ∃ mid xs, lo ≤ mid ∧ mid ≤ hi ∧ OwnP w lo v1 s.ps ∧ (∀ k, v1.ownBlock = some k → k < mid) ∧ OwnG w mid hi v2 s.d.rs xs ∧ (∀ p ∈ s.ps, p.n.size ≤ maxLen) ∧ ∀ zs ∈ s.d.rs, ∀ z ∈ zs, (Lit.int .u8 z).wf = true
section
variable {w w' : World} {lo hi : Nat} {v1 v2 : Value} {s : StoreD}
theorem SOwn.keep (h : SOwn w lo hi v1 v2 s) (hs : w.heap.size ≤ w'.heap.size) (hk : ∀ k, lo ≤ k → k < hi → w'.heap[k]? = w.heap[k]?) : SOwn w' lo hi v1 v2 s := by
  obtain ⟨mid, xs, h1, h2, h3, h4, h5, h6⟩ := h
  exact ⟨mid, xs, h1, h2, Own.keep h3 hs (fun k e => hk k (Own.lt h3 k e).1 (by have := h4 k e; omega)), h4, h5.keep hs (fun k e1 e2 => hk k (by omega) e2), h6⟩
theorem SOwn.top (h : SOwn w lo hi v1 v2 s) : lo ≤ hi ∧ hi ≤ w.heap.size := by
  obtain ⟨mid, xs, h1, h2, h3, h4, h5, h6⟩ := h
  exact ⟨by omega, h5.top⟩
theorem SOwn.below (h : SOwn w lo hi v1 v2 s) (hb : Below w.heap.size w w') : SOwn w' lo hi v1 v2 s := h.keep hb.size fun k _ h2 => hb.block k (by have := h.top; omega)
theorem SOwn.setCell (h : SOwn w lo hi v1 v2 s) {p : Addr} (hp : p.block < lo ∨ hi ≤ p.block) (u : Value) : SOwn (w.setCell p u) lo hi v1 v2 s := h.keep (by simp [World.setCell]) fun k h1 h2 => Below.heap_setCell w p u k (by omega)
theorem SOwn.less {lo' : Nat} (h : SOwn w lo hi v1 v2 s) (hl : lo' ≤ lo) : SOwn w lo' hi v1 v2 s := by
  obtain ⟨mid, xs, h1, h2, h3, h4, h5, h6⟩ := h
  exact ⟨mid, xs, by omega, h2, OwnP.less h3 hl, h4, h5, h6⟩
theorem SOwn.more {hi' : Nat} (h : SOwn w lo hi v1 v2 s) (h1 : hi ≤ hi') (h2 : hi' ≤ w.heap.size) : SOwn w lo hi' v1 v2 s := by
  obtain ⟨mid, xs, q1, q2, h3, h4, h5, h6⟩ := h
  exact ⟨mid, xs, q1, by omega, h3, h4, h5.more h1 h2, h6⟩
theorem SOwn.nil (w : World) (lo : Nat) (hl : lo ≤ w.heap.size) : SOwn w lo w.heap.size (.slice none 0 0) (.slice none 0 0) store0 :=
  ⟨lo, [], Nat.le_refl _, hl, OwnP.nil _ _, fun k hk => by simp [Value.ownBlock] at hk, OwnG.nil _ _ _ (Nat.le_refl _), (fun _ h => by cases h), fun _ h => by cases h⟩
theorem SOwn.row {a1 a2 : Option Addr} {n1 c1 n2 c2 : Nat} (h : SOwn w lo hi (.slice a1 n1 c1) (.slice a2 n2 c2) s) : SRow w w.heap.size a1 n1 c1 a2 n2 c2 s := by
  obtain ⟨mid, xs, h1, h2, h3, h4, h5, h6, h7⟩ := h
  exact ⟨OwnP.row h3 h6, h5.grid h7, h7⟩
theorem SOwn.len {a1 a2 : Option Addr} {n1 c1 n2 c2 : Nat} (h : SOwn w lo hi (.slice a1 n1 c1) (.slice a2 n2 c2) s) : n1 = s.ps.length ∧ n2 = s.d.rs.length := by
  have := h.row
  exact ⟨this.ps.length.symm, this.rs.length.symm⟩
/-- Pins and records, each of a call's own, one behind the other. -/
theorem SOwn.mk' {W : World} {v1 v2 : Value} {ps : List PinD} {rs : List (List Int)} {x : Int} {xs : List Value} {mid : Nat} (h1 : OwnP w lo v1 ps) (hm : lo ≤ mid) (h2 : ∀ k, v1.ownBlock = some k → k < mid) (h3 : OwnG w mid hi v2 rs xs) (hh : mid ≤ hi) (h4 : ∀ p ∈ ps, p.n.size ≤ maxLen) (h5 : ∀ zs ∈ rs, ∀ z ∈ zs, (Lit.int .u8 z).wf = true) : SOwn w lo hi v1 v2 ⟨ps, ⟨rs, x⟩⟩ := ⟨mid, xs, hm, hh, h1, h2, h3, h4, h5⟩
end
/-- A store's value. -/
abbrev S3 (a1 : Option Addr) (n1 c1 : Nat) (a2 : Option Addr) (n2 c2 : Nat) (x : Int) : Value := .agg #[.slice a1 n1 c1, .slice a2 n2 c2, .int .i64 x]
def S3L (a1 : Option Addr) (n1 c1 : Nat) (a2 : Option Addr) (n2 c2 : Nat) (x : Int) : List Value := [.slice a1 n1 c1, .slice a2 n2 c2, .int .i64 x]
/-- A store's value in a result. -/
abbrev V4 (c : Int) (a1 : Option Addr) (n1 c1 : Nat) (a2 : Option Addr) (n2 c2 : Nat) (x : Int) : Value := .agg #[.int .i64 c, .slice a1 n1 c1, .slice a2 n2 c2, .int .i64 x]
/-- A code and a store of new memory were answered. -/
def StoreRes (c : Int) (s : StoreD) (w : World) (e : Ending) (w' : World) : Prop :=
  ∃ a1 n1 c1 a2 n2 c2, e = .returned (V4 c a1 n1 c1 a2 n2 c2 s.d.s) ∧ SOwn w' w.heap.size w'.heap.size (.slice a1 n1 c1) (.slice a2 n2 c2) s ∧ Below w.heap.size w w'
end Go.Proofs.YtcolecidbalmhaaGreatDoor
