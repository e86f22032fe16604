/- Contracts of copies and comparisons of bytes and records, by the program and by its model. Conditions: as each theorem states. -/
import Derived.Test.YtjlhldndomaknaaDoorC4a
namespace Go.Proofs.YtjlhldndomaknaaDoor
open Go.RowKit
set_option maxRecDepth 100000
set_option linter.unusedVariables false

theorem u8_size : (Tryd.prog.info? 5).map (·.size) = some 1 := by kernel_rfl
theorem copyBytes_any (a : Option Addr) (len cap B : Nat) (zs : List Int) (w : World) (hR : Row .u8 w B a len cap zs) (hB : B ≤ w.heap.size) (hl : len ≤ 1048576) :
    Calls Tryd.prog 121 #[.slice a len cap] w (Copied .u8 len zs w) := by
  obtain ⟨i0, hi0, hz0, hz1, hz2⟩ := info_parts u8_info
  have hmk : ∀ W : World, (Instr.makeSlice 22 (.int .i64 (len : Int)) (.int .i64 (len : Int))).run Tryd.prog W = .ok (.slice (some ⟨W.heap.size, 0, none⟩) len len) (W.alloc (.cells (madeCells #[.int .u8 0] len) 5)) := by
    intro W
    have := run_make (P := Tryd.prog) W 22 5 i0 (.int .u8 0) Tryd.underlying22 hi0 hz0 .i64 .i64 len len (by omega) (by omega) (by rw [hz2]; omega) (by omega)
    simpa [hz1, Value.cells] using this
  have hL := Lib.hid hR.length
  clear hi0 hz0 hz1 hz2
  have b0 := bal (Below.refl _ w) (.cells (madeCells #[.int .u8 0] len) 5)
  have R1 := hR.below (b0.mono hB)
  have eM : madeCells #[Value.int .u8 0] len = (List.replicate len (Value.int .u8 0)).toArray := by
    apply Array.ext'
    rw [toList_madeCells_one]
  have hg : (w.alloc (.cells (madeCells #[.int .u8 0] len) 5)).heap[w.heap.size]? = some (.cells (List.replicate len (Value.int .u8 0)).toArray 5 (0, 0)) := by
    rw [eM]; exact (MapKept.heap_alloc w _).1
  obtain ⟨X, hX⟩ : ∃ X, X = zs.map (Value.int .u8) := ⟨_, rfl⟩
  have hXl : X.length = len := by rw [hX]; simpa using hR.length
  have h1 : ∀ v ∈ X, v.oneCell' = true := by rw [hX]; exact ints_oneCell .u8 zs
  have hsrc : 0 < X.length → (some ⟨w.heap.size, 0, none⟩ : Option Addr) = some ⟨w.heap.size, 0, none⟩ ∧ ∃ ad, a = some ad ∧ ∀ j v, X[j]? = some v → (w.alloc (.cells (madeCells #[.int .u8 0] len) 5)).cell? (ad.add j) = some v := by
    intro hp
    obtain ⟨b, off, rfl, hb, hc⟩ := R1.cells (by omega)
    refine ⟨rfl, _, rfl, fun j v hv => ?_⟩
    have hj := (List.getElem?_eq_some_iff.1 hv).1
    rw [hXl] at hj
    rw [Addr.add_lit, hc j hj, ← hv, hX]
    simp [List.getD, show j < zs.length by rw [hR.length]; exact hj]
  have HX := Lib.hid hX
  have HXl := Lib.hid hXl
  have HG := Lib.hid hg
  have HS := Lib.hid hsrc
  clear hX hXl hg hsrc eM R1 hR
  go_enter Tryd.func121, Tryd.ntmps121
  go_wp2_with (with_reducible refine wpList_copy_splice rfl (.tmp 7) (.tmp 8) 22 22 rfl 5 Tryd.underlying22 u8_size _ _ len len len cap rfl rfl w.heap.size 0 (List.replicate len (Value.int .u8 0)) 5 HG.out X (by rw [HXl.out]; simp) HS.out (by rw [HXl.out]; simp) h1 w.heap.size w b0 (Nat.le_refl _) ?_; intro w2 HG2 b2)
  have hG2 := HG2.out
  have eS : splice (List.replicate len (Value.int .u8 0)) 0 X = zs.map (Value.int .u8) := by
    rw [← HX.out]
    simp [splice, HXl.out]
  rw [eS] at hG2
  have F := Lib.hid (And.intro (own_blk (B := w.heap.size) hG2 (Nat.le_refl _) hL.out (by simp only [maxLen]; omega)) b2)
  clear HG2 hG2 eS b2
  go_ret
  exact ⟨rfl, F.out.1, F.out.2⟩

theorem l1Copy_any (a : Option Addr) (len cap B : Nat) (zs : List Int) (w : World) (hR : Row .u8 w B a len cap zs) (hB : B ≤ w.heap.size) (hl : len ≤ 1048576) :
    Calls Tryd.prog 143 #[.slice a len cap] w (Made zs w) := by
  obtain ⟨i0, hi0, hz0, hz1, hz2⟩ := info_parts u8_info
  have R1 := hR.alloc hB (.cells #[] 5)
  have hs := R1.src (P := Tryd.prog) (tx := 22) Tryd.underlying22
  have b0 := bal (Below.refl _ w) (.cells #[] 5)
  have hL := Lib.hid hR.length
  clear hR R1
  go_enter Tryd.func143, Tryd.ntmps143
  go_wp2_with (at_builtin; refine wpList_append_src _ rfl (.tmp 3) (.tmp 4) 22 22 rfl w.heap.size 5 i0 (.int .u8 0) 1 1 Tryd.underlying22 hi0 hz0 hz1 hz2 rfl _ 0 [] rfl (own_empty w 5) _ len _ rfl hs (by simp only [maxLen]; omega) (by omega) (by simp) ?_; intro v w2 hown hgrow hat)
  have O2 : OwnK .u8 w2 w.heap.size v zs := by
    unfold OwnK
    rw [hL.out]
    simpa using hown
  have b2 : Below w.heap.size w w2 := (own_empty w 5).grown b0 (by simp) hgrow
  obtain ⟨a', cap', hv, -⟩ := O2.form
  have F := Lib.hid (And.intro O2 b2)
  clear hown hgrow hat O2 b2 hs b0
  subst hv
  go_wp2_with fail
  go_ret
  exact ⟨_, _, _, rfl, F.out.1, F.out.2⟩

theorem bytesEqual_any {B : Nat} {a b : Option Addr} {n1 n2 c1 c2 : Nat} {xs ys : List Int} {w : World} (hR : Row .u8 w B a n1 c1 xs) (hQ : Row .u8 w B b n2 c2 ys) :
    Calls Tryd.prog 127 #[.slice a n1 c1, .slice b n2 c2] w fun r w' => r = .returned (.bool (decide (xs = ys))) ∧ w = w' := by
  have k1 := conv_row hR
  have k2 := conv_row hQ
  have k3 := strOf_beq hR.bytes hQ.bytes
  generalize decide (xs = ys) = b at *
  clear hR hQ
  generalize strOf xs = S at *
  generalize strOf ys = T at *
  go_enter Tryd.func127, Tryd.ntmps127
  go_wp2_with fail
  go_ret
  simp
theorem implSameRecords_any (s k : Int) (a1 : Option Addr) (n1 c1 : Nat) (t : Int) (s' k' : Int) (a2 : Option Addr) (n2 c2 : Nat) (t' : Int) (B : Nat) (xs ys : List Int) (w : World) (hR : Row .u8 w B a1 n1 c1 xs) (hQ : Row .u8 w B a2 n2 c2 ys) (hB : B ≤ w.heap.size) :
    Calls Tryd.prog 58 #[R4 s k a1 n1 c1 t, R4 s' k' a2 n2 c2 t'] w fun e w' => e = .returned (.bool (M.sameR s k xs t s' k' ys t')) ∧ Below w.heap.size w w' := by
  have b0 := bal (bal (Below.refl _ w) (.cells #[.int .i64 s, .int .i64 k, .slice a1 n1 c1, .int .i64 t] 66)) (.cells #[.int .i64 s', .int .i64 k', .slice a2 n2 c2, .int .i64 t'] 66)
  have R2 := hR.below (b0.mono hB)
  have Q2 := hQ.below (b0.mono hB)
  have k1 := conv_row R2
  have k2 := conv_row Q2
  have k3 := strOf_beq hR.bytes hQ.bytes
  have F := bytesEqual_any R2 Q2
  clear hR hQ R2 Q2
  cases h0 : (s == s')
  · have E : M.sameR s k xs t s' k' ys t' = false := by simp [M.sameR, h0]
    rw [E]; clear E k1 k2 k3 F
    go_enter Tryd.func58, Tryd.ntmps58
    go_wp2_with fail
    go_ret
    exact ⟨rfl, b0⟩
  cases h1 : (k == k')
  · have E : M.sameR s k xs t s' k' ys t' = false := by simp [M.sameR, h1]
    rw [E]; clear E k1 k2 k3 F
    go_enter Tryd.func58, Tryd.ntmps58
    go_wp2_with fail
    go_ret
    exact ⟨rfl, b0⟩
  cases h2 : (t == t')
  · have E : M.sameR s k xs t s' k' ys t' = false := by simp [M.sameR, h2]
    rw [E]; clear E k1 k2 k3 F
    go_enter Tryd.func58, Tryd.ntmps58
    go_wp2_with fail
    go_ret
    exact ⟨rfl, b0⟩
  have E : M.sameR s k xs t s' k' ys t' = decide (xs = ys) := by simp [M.sameR, h0, h1, h2]
  rw [E]; clear E
  generalize decide (xs = ys) = b at *
  generalize strOf xs = S at *
  generalize strOf ys = T at *
  go_enter Tryd.func58, Tryd.ntmps58
  go_wp2_with fail
  refine (F).mono ?_
  rintro r w' ⟨rfl, rfl⟩
  go_wp2_with fail
  go_ret
  exact ⟨rfl, b0⟩

end Go.Proofs.YtjlhldndomaknaaDoor
