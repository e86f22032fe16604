/- Contracts of the streams of chapter 2, and of their model's. Conditions: as each theorem states. -/
import Derived.Test.YtjlhldndomaknaaDoorC2d
namespace Go.Proofs.YtjlhldndomaknaaDoor
open Go.RowKit
set_option maxRecDepth 100000

/-- The program's table of labels holds these words. -/
structure Labels (w : World) : Prop where
  streamW : w.cell? ⟨0, 0, none⟩ = some (.string M.streamS)
  heardW : w.cell? ⟨0, 1, none⟩ = some (.string M.heardS)
  nonceW : w.cell? ⟨0, 2, none⟩ = some (.string M.nonceS)
  signW : w.cell? ⟨0, 3, none⟩ = some (.string M.signS)
  macW : w.cell? ⟨0, 4, none⟩ = some (.string M.macS)
  sealW : w.cell? ⟨0, 5, none⟩ = some (.string M.sealS)
  spkiW : w.cell? ⟨0, 6, none⟩ = some (.string M.spkiS)
theorem Labels.on {w w' : World} (h : Labels w) (hb : Below w.heap.size w w') : Labels w' := ⟨cell_keep hb h.streamW, cell_keep hb h.heardW, cell_keep hb h.nonceW, cell_keep hb h.signW, cell_keep hb h.macW, cell_keep hb h.sealW, cell_keep hb h.spkiW⟩

theorem Labels.grew {w w' : World} {row : Option Nat} (h : Labels w) (hg : w.grownBy w' row) (hr : ∀ k, row = some k → 0 < k) : Labels w' := by
  have hn : ∀ i, some (Addr.block ⟨0, i, none⟩) ≠ row := fun i e => by have := hr _ e.symm; exact absurd this (Nat.lt_irrefl _)
  exact ⟨hg.cell h.streamW (hn 0), hg.cell h.heardW (hn 1), hg.cell h.nonceW (hn 2), hg.cell h.signW (hn 3), hg.cell h.macW (hn 4), hg.cell h.sealW (hn 5), hg.cell h.spkiW (hn 6)⟩
theorem Labels.keep {w w' : World} (h : Labels w) (hb : w'.heap[0]? = w.heap[0]?) : Labels w' := ⟨(World.cell?_of_block (w := w) (a := ⟨0, 0, none⟩) hb).trans h.streamW, (World.cell?_of_block (w := w) (a := ⟨0, 1, none⟩) hb).trans h.heardW, (World.cell?_of_block (w := w) (a := ⟨0, 2, none⟩) hb).trans h.nonceW, (World.cell?_of_block (w := w) (a := ⟨0, 3, none⟩) hb).trans h.signW, (World.cell?_of_block (w := w) (a := ⟨0, 4, none⟩) hb).trans h.macW, (World.cell?_of_block (w := w) (a := ⟨0, 5, none⟩) hb).trans h.sealW, (World.cell?_of_block (w := w) (a := ⟨0, 6, none⟩) hb).trans h.spkiW⟩
theorem Labels.lt {w : World} (h : Labels w) : 0 < w.heap.size := cell_lt h.streamW

/-- A code and bytes in new memory. -/
def BytesRes (c : Int) (zs : List Int) (w : World) (r : Ending) (w' : World) : Prop :=
  ∃ a len cap, r = .returned (.agg #[.int .i64 c, .slice a len cap]) ∧ OwnK .u8 w' w.heap.size (.slice a len cap) zs ∧ Below w.heap.size w w'

theorem row_three {w : World} (x y z : Int) (t : TypeId) (hx : M.sumB x = true) (hy : M.sumB y = true) (hz : M.sumB z = true) : Row .i64 (w.alloc (.cells #[.int .i64 x, .int .i64 y, .int .i64 z] t)) (w.heap.size + 1) (some ⟨w.heap.size, 0, none⟩) 3 3 [x, y, z] :=
  row_at w.heap.size 3 [x, y, z] t (MapKept.heap_alloc w _).1 rfl (by simp only [maxLen]; omega) (fun u hu => by
    simp at hu
    rcases hu with rfl | rfl | rfl
    · exact sum_wf hx
    · exact sum_wf hy
    · exact sum_wf hz)

def StreamRel (W : World) (key seq : Int) (k : Nat) (v : Value) (wr : World) : Prop := OwnK .u8 wr W.heap.size v (M.streamL key seq k) ∧ Below W.heap.size W wr
theorem StreamRel.step {W wr w1 w2 : World} {key seq : Int} {k : Nat} {v v' : Value} {o o' : Obj} (h : StreamRel W key seq k v wr) (hb : Below (wr.alloc o).heap.size (wr.alloc o) w1)
    (ho : Own w2 W.heap.size 1 v' ((M.streamL key seq k).length + 1) ((M.streamL key seq k).map (Value.int .u8) ++ [.int .u8 (M.streamB key seq k)])) (hg : (w1.alloc o').grownBy w2 v.ownBlock) : StreamRel W key seq (k + 1) v' w2 := by
  refine ⟨?_, ?_⟩
  · unfold OwnK
    rw [M.streamL_succ]
    simpa using ho
  · have h1 : Below W.heap.size W (w1.alloc o') := bal (btr (bal h.2 o) hb) o'
    have h2 : Own (w1.alloc o') W.heap.size 1 v _ _ := ((h.1.alloc o).below hb).alloc o'
    exact h2.grown h1 h1.size hg

theorem StreamRel.step1 {W wr w1 w2 : World} {key seq : Int} {k : Nat} {v v' : Value} {o' : Obj} (h : StreamRel W key seq k v wr) (hb : Below wr.heap.size wr w1)
    (ho : Own w2 W.heap.size 1 v' ((M.streamL key seq k).length + 1) ((M.streamL key seq k).map (Value.int .u8) ++ [.int .u8 (M.streamB key seq k)])) (hg : (w1.alloc o').grownBy w2 v.ownBlock) : StreamRel W key seq (k + 1) v' w2 := by
  refine ⟨?_, ?_⟩
  · unfold OwnK
    rw [M.streamL_succ]
    simpa using ho
  · have h1 : Below W.heap.size W (w1.alloc o') := bal (btr h.2 hb) o'
    have h2 : Own (w1.alloc o') W.heap.size 1 v _ _ := (h.1.below hb).alloc o'
    exact h2.grown h1 h1.size hg

theorem streamByte_any (key seq : Int) (k : Nat) (w : World) (hL : Labels w) (hk : M.sumB key = true) (hs : M.sumB seq = true) (hn : k ≤ 65520) :
    Calls Tryd.prog 93 #[.int .i64 key, .int .i64 seq, .int .i64 k] w fun r w' => r = .returned (.int .u8 (M.streamB key seq k)) ∧ Below w.heap.size w w' := by
  have hlab := hL.streamW
  have hlt := hL.lt
  have hkk : M.sumB (k : Int) = true := by simp only [M.sumB, decide_eq_true_eq]; omega
  have hR := row_three (w := w) key seq k 2 hk hs hkk
  have HA := Lib.hid (show [key, seq, (k : Int)].all M.sumB = true by simp [hk, hs, hkk])
  obtain ⟨t0, t1⟩ := M.tagL_bd M.streamS [key, seq, (k : Int)]
  unfold M.streamB
  clear hL hk hs hkk
  go_enter Tryd.func93, Tryd.ntmps93
  go_wp2_with fail
  refine (sumTagged_any _ _ _ _ _ _ _ (by decide) hR (by simp) HA.out (by omega)).mono ?_
  rintro r w2 ⟨rfl, hb2⟩
  have hb := btr (bal (Below.refl _ _) _) hb2
  clear hb2 hR hlab HA
  go_wp2_with fail
  go_ret
  exact ⟨rfl, hb⟩

theorem implStreamOf_no (key seq n : Int) (w : World) (h : M.strB key seq n = false) :
    Calls Tryd.prog 31 #[.int .i64 key, .int .i64 seq, .int .i64 n] w (BytesRes 3 [] w) := by
  have fin : BytesRes 3 [] w (.returned (.agg #[.int .i64 3, .slice none 0 0])) (w.alloc (.cells #[.int .i64 3, .slice none 0 0] 44)) :=
    ⟨none, 0, 0, rfl, Own.nil _ _ _, bal (Below.refl _ _) _⟩
  have F := Lib.hid fin
  clear fin
  cases hk : M.sumB key
  · clear h
    go_enter Tryd.func31, Tryd.ntmps31
    go_wp2_with fail
    refine (isSum_any _ _).mono ?_
    rintro r w' ⟨rfl, rfl⟩
    go_wp2_with fail
    exact bodyPost_ret (v := .agg #[.int .i64 3, .slice none 0 0]) (by simp [results, Tryd.results31, go_sem]) rfl F.out
  cases hs : M.sumB seq
  · clear h
    go_enter Tryd.func31, Tryd.ntmps31
    go_wp2_with fail
    refine (isSum_any _ _).mono ?_
    rintro r w' ⟨rfl, rfl⟩
    go_wp2_with fail
    refine (isSum_any _ _).mono ?_
    rintro r w' ⟨rfl, rfl⟩
    go_wp2_with fail
    exact bodyPost_ret (v := .agg #[.int .i64 3, .slice none 0 0]) (by simp [results, Tryd.results31, go_sem]) rfl F.out
  by_cases h0 : n < 0
  · clear h
    go_enter Tryd.func31, Tryd.ntmps31
    go_wp2_with fail
    refine (isSum_any _ _).mono ?_
    rintro r w' ⟨rfl, rfl⟩
    go_wp2_with fail
    refine (isSum_any _ _).mono ?_
    rintro r w' ⟨rfl, rfl⟩
    go_wp2_with fail
    exact bodyPost_ret (v := .agg #[.int .i64 3, .slice none 0 0]) (by simp [results, Tryd.results31, go_sem]) rfl F.out
  have h1 : 200 < n := by
    simp only [M.strB, hk, hs, Bool.and_self, Bool.true_and, decide_eq_false_iff_not] at h
    omega
  clear h
  go_enter Tryd.func31, Tryd.ntmps31
  go_wp2_with fail
  refine (isSum_any _ _).mono ?_
  rintro r w' ⟨rfl, rfl⟩
  go_wp2_with fail
  refine (isSum_any _ _).mono ?_
  rintro r w' ⟨rfl, rfl⟩
  go_wp2_with fail
  exact bodyPost_ret (v := .agg #[.int .i64 3, .slice none 0 0]) (by simp [results, Tryd.results31, go_sem]) rfl F.out

theorem implStreamOf_yes (key seq : Int) (n : Nat) (w : World) (hL : Labels w) (hk : M.sumB key = true) (hs : M.sumB seq = true) (hn : n ≤ 200) :
    Calls Tryd.prog 31 #[.int .i64 key, .int .i64 seq, .int .i64 n] w (BytesRes 0 (M.streamL key seq n) w) := by
  obtain ⟨i0, hi0, hz0, hz1, hz2⟩ := info_parts u8_info
  have hmk : ∀ W : World, (Instr.makeSlice 22 (.int .i64 0) (.int .i64 (n : Int))).run Tryd.prog W = .ok (.slice (some ⟨W.heap.size, 0, none⟩) 0 n) (W.alloc (.cells (madeCells #[.int .u8 0] n) 5)) := by
    intro W
    have := run_make (P := Tryd.prog) W 22 5 i0 (.int .u8 0) Tryd.underlying22 hi0 hz0 .i64 .i64 0 n (by omega) (by omega) (by rw [hz2]; omega) (by omega)
    simpa [hz1, Value.cells] using this
  go_enter Tryd.func31, Tryd.ntmps31
  go_wp2_with fail
  refine (isSum_any _ _).mono ?_
  rintro r w' ⟨rfl, rfl⟩
  go_wp2_with fail
  refine (isSum_any _ _).mono ?_
  rintro r w' ⟨rfl, rfl⟩
  have T0 : StreamRel (w.alloc (.cells #[.int .i64 0, .slice none 0 0] 44)) key seq 0 (.slice (some ⟨w.heap.size + 1, 0, none⟩) 0 n) ((w.alloc (.cells #[.int .i64 0, .slice none 0 0] 44)).alloc (.cells (madeCells #[.int .u8 0] n) 5)) := by
    refine ⟨?_, bal (Below.refl _ _) _⟩
    have := Own.made (size := 1) (B := w.heap.size + 1) (w.alloc (.cells #[.int .i64 0, .slice none 0 0] 44)) (madeCells #[.int .u8 0] n) 5 n (by simp) (by simp only [maxLen]; omega) (by rw [size_madeCells]; omega)
    simpa [OwnK, M.streamL] using this
  have hL1 := hL.on (bal (Below.refl _ _) (.cells #[.int .i64 0, .slice none 0 0] 44))
  have r0 : (w.alloc (.cells #[.int .i64 0, .slice none 0 0] 44)).cell? ⟨w.heap.size, 0, none⟩ = some (.int .i64 0) := by go_simp
  have r1 : (w.alloc (.cells #[.int .i64 0, .slice none 0 0] 44)).cell? ⟨w.heap.size, 1, none⟩ = some (.slice none 0 0) := by go_simp
  have f0 : (w.alloc (.cells #[.int .i64 0, .slice none 0 0] 44)).frozen? ⟨w.heap.size, 0, none⟩ = false := by go_simp
  have f1 : (w.alloc (.cells #[.int .i64 0, .slice none 0 0] 44)).frozen? ⟨w.heap.size, 1, none⟩ = false := by go_simp
  have hb0 := bal (Below.refl _ w) (.cells #[.int .i64 0, .slice none 0 0] 44)
  have hlt : w.heap.size < (w.alloc (.cells #[.int .i64 0, .slice none 0 0] 44)).heap.size := by simp
  go_wp2_with fail
  generalize w.alloc (.cells #[.int .i64 0, .slice none 0 0] 44) = W at *
  generalize W.alloc (.cells (madeCells #[.int .u8 0] n) 5) = W1 at *
  go_loopw [7, 29] (fun v i wr => ∃ k : Nat, k ≤ n ∧ i = .int .i64 k ∧ StreamRel W key seq k v wr) (fun _ i _ => n - (intOf i).toNat)
  case atStart => exact ⟨0, Nat.zero_le _, rfl, T0⟩
  case round =>
    obtain ⟨k, hkn, rfl, hT⟩ := hrel
    by_cases hlt2 : k < n
    · have hlab := hL1.on hT.2
      have hlen := Lib.hid (M.streamL_length key seq k)
      have hsz := hT.2.size
      go_wp2_with fail
      refine (streamByte_any key seq k _ hlab hk hs (by omega)).mono ?_
      rintro r w2 ⟨rfl, hb2⟩
      have hO2 := hT.1.below hb2
      have hsz2 : W.heap.size ≤ w2.heap.size := by have := hb2.size; omega
      have hbb := Lib.hid hb2
      clear hb2 hlab
      go_wp2_with (at_builtin; refine wpList_append_src _ rfl (.tmp 32) (.tmp 37) 22 22 rfl W.heap.size 5 i0 (.int .u8 0) 1 1 Tryd.underlying22 hi0 hz0 hz1 hz2 rfl _ _ _ rfl (hO2.alloc _) _ 1 [.int .u8 (M.streamB key seq k)] rfl (src_new w2 _ 1 1 _ _ _ Tryd.underlying22 rfl (ints_oneCell .u8 [M.streamB key seq k])) (by rw [hlen.out]; simp only [maxLen]; omega) (by rw [hlen.out]; omega) (by simp; omega) ?_; intro v3 w3 hown hgrow hat)
      have T2 := hT.step1 hbb.out hown hgrow
      clear hown hgrow hat hT hbb hO2
      go_wp2_with fail
      go_roundw
      case rel => exact ⟨k + 1, by omega, by go_num, T2⟩
      case measure => simp [intOf]; omega
    · obtain rfl : k = n := by omega
      have q0 := hT.2.cell (p := ⟨w.heap.size, 0, none⟩) hlt |>.trans r0
      have q1 := hT.2.cell (p := ⟨w.heap.size, 1, none⟩) hlt |>.trans r1
      have p0 := hT.2.frozen (p := ⟨w.heap.size, 0, none⟩) hlt |>.trans f0
      have p1 := hT.2.frozen (p := ⟨w.heap.size, 1, none⟩) hlt |>.trans f1
      obtain ⟨a, cap, hv, -⟩ := hT.1.form
      have hne := fun g hg => (hT.1.lt g hg).1
      have HT := Lib.hid hT
      clear hT
      subst hv
      go_wp2_with fail
      refine bodyPost_ret (v := .agg #[.int .i64 0, .slice a (M.streamL key seq k).length cap]) (by simp [results, Tryd.results31, go_sem, q0, q1]) rfl ?_
      refine ⟨a, _, cap, rfl, ?_, ?_⟩
      · exact ((HT.out.1.less (by omega)).setCell (fun g hg => by have := hne g hg; show g ≠ w.heap.size; omega) _).setCell (fun g hg => by have := hne g hg; show g ≠ w.heap.size; omega) _
      · exact bset (bset (hb0.trans (HT.out.2.mono (by omega))) (Nat.le_refl _) _) (Nat.le_refl _) _

def StreamOwn (key seq : Int) (n : Nat) (w : World) (r : Ending) (w' : World) : Prop := ∃ a len cap, r = .returned (.slice a len cap) ∧ OwnK .u8 w' w.heap.size (.slice a len cap) (M.streamL key seq n) ∧ Below w.heap.size w w'
theorem own_empty (w : World) (e : TypeId) : Own (w.alloc (.cells #[] e)) w.heap.size 1 (.slice (some ⟨w.heap.size, 0, none⟩) 0 0) 0 [] :=
  Own.made w #[] e 0 (Nat.le_refl _) (Nat.zero_le _) rfl

theorem l2Stream_any (key seq : Int) (n : Nat) (w : World) (hk : M.sumB key = true) (hs : M.sumB seq = true) (hn : n ≤ 200) :
    Calls Tryd.prog 95 #[.int .i64 key, .int .i64 seq, .int .i64 n] w (StreamOwn key seq n w) := by
  obtain ⟨i0, hi0, hz0, hz1, hz2⟩ := info_parts u8_info
  have T0 : StreamRel w key seq 0 (.slice (some ⟨w.heap.size, 0, none⟩) 0 0) (w.alloc (.cells #[] 5)) := ⟨own_empty w 5, bal (Below.refl _ _) _⟩
  go_enter Tryd.func95, Tryd.ntmps95
  go_wp2_with fail
  generalize w.alloc (.cells #[] 5) = W1 at *
  go_loopw [7, 8] (fun v i wr => ∃ k : Nat, k ≤ n ∧ i = .int .i64 k ∧ StreamRel w key seq k v wr) (fun _ i _ => n - (intOf i).toNat)
  case atStart => exact ⟨0, Nat.zero_le _, rfl, T0⟩
  case round =>
    obtain ⟨k, hkn, rfl, hT⟩ := hrel
    by_cases hlt2 : k < n
    · have hR := row_three (w := wr) key seq k 2 hk hs (by simp [M.sumB]; omega)
      have hA : [key, seq, (k : Int)].all M.sumB = true := by simp [hk, hs]; simp [M.sumB]; omega
      have HA := Lib.hid hA
      obtain ⟨t0, t1⟩ := M.tagL_bd M.streamS [key, seq, (k : Int)]
      have hlen := Lib.hid (M.streamL_length key seq k)
      have hsz := hT.2.size
      clear hA
      go_wp2_with fail
      refine (l2Tag_any M.streamS _ _ _ _ _ _ (by decide) hR (by simp) HA.out (by omega)).mono ?_
      rintro r w2 ⟨rfl, hb2⟩
      have hO2 := (hT.1.alloc (.cells #[.int .i64 key, .int .i64 seq, .int .i64 (k : Int)] 2)).below hb2
      have hsz2 : w.heap.size ≤ w2.heap.size := by have := hb2.size; simp at this; omega
      have hbb := Lib.hid hb2
      clear hb2 hR
      go_wp2_with (at_builtin; refine wpList_append_src _ rfl (.tmp 15) (.tmp 23) 22 22 rfl w.heap.size 5 i0 (.int .u8 0) 1 1 Tryd.underlying22 hi0 hz0 hz1 hz2 rfl _ _ _ rfl (hO2.alloc _) _ 1 [.int .u8 (M.streamB key seq k)] rfl (src_new w2 _ 1 1 _ _ _ Tryd.underlying22 rfl (ints_oneCell .u8 [M.streamB key seq k])) (by rw [hlen.out]; simp only [maxLen]; omega) (by rw [hlen.out]; omega) (by simp; omega) ?_; intro v3 w3 hown hgrow hat)
      have T2 := hT.step hbb.out hown hgrow
      clear hown hgrow hat hT hbb hO2 HA
      go_wp2_with fail
      go_roundw
      case rel => exact ⟨k + 1, by omega, by go_num, T2⟩
      case measure => simp [intOf]; omega
    · obtain rfl : k = n := by omega
      obtain ⟨a, cap, hv, -⟩ := hT.1.form
      have HT := Lib.hid hT
      clear hT
      subst hv
      go_wp2_with fail
      go_ret
      exact ⟨a, _, cap, rfl, HT.out.1, HT.out.2⟩

theorem specStreamOf_no (key seq n : Int) (w : World) (h : M.strB key seq n = false) :
    Calls Tryd.prog 32 #[.int .i64 key, .int .i64 seq, .int .i64 n] w (BytesRes 3 [] w) := by
  have fin : BytesRes 3 [] w (.returned (.agg #[.int .i64 3, .slice none 0 0])) (w.alloc (.cells #[.int .i64 3, .slice none 0 0] 44)) :=
    ⟨none, 0, 0, rfl, Own.nil _ _ _, bal (Below.refl _ _) _⟩
  have F := Lib.hid fin
  clear fin
  cases hk : M.sumB key
  · clear h
    go_enter Tryd.func32, Tryd.ntmps32
    go_wp2_with fail
    refine (l2Is_any _ _).mono ?_
    rintro r w' ⟨rfl, rfl⟩
    go_wp2_with fail
    exact bodyPost_ret (v := .agg #[.int .i64 3, .slice none 0 0]) (by simp [results, Tryd.results32, go_sem]) rfl F.out
  cases hs : M.sumB seq
  · clear h
    go_enter Tryd.func32, Tryd.ntmps32
    go_wp2_with fail
    refine (l2Is_any _ _).mono ?_
    rintro r w' ⟨rfl, rfl⟩
    go_wp2_with fail
    refine (l2Is_any _ _).mono ?_
    rintro r w' ⟨rfl, rfl⟩
    go_wp2_with fail
    exact bodyPost_ret (v := .agg #[.int .i64 3, .slice none 0 0]) (by simp [results, Tryd.results32, go_sem]) rfl F.out
  have h1 : inB n 0 200 = false := by
    simp only [M.strB, hk, hs, Bool.and_self, Bool.true_and] at h
    exact h
  clear h
  go_enter Tryd.func32, Tryd.ntmps32
  go_wp2_with fail
  refine (l2Is_any _ _).mono ?_
  rintro r w' ⟨rfl, rfl⟩
  go_wp2_with fail
  refine (l2Is_any _ _).mono ?_
  rintro r w' ⟨rfl, rfl⟩
  go_wp2_with fail
  refine (l1In_any _ _ _ _).mono ?_
  rintro r w' ⟨rfl, rfl⟩
  go_wp2_with fail
  exact bodyPost_ret (v := .agg #[.int .i64 3, .slice none 0 0]) (by simp [results, Tryd.results32, go_sem]) rfl F.out

theorem specStreamOf_yes (key seq : Int) (n : Nat) (w : World) (hk : M.sumB key = true) (hs : M.sumB seq = true) (hn : n ≤ 200) :
    Calls Tryd.prog 32 #[.int .i64 key, .int .i64 seq, .int .i64 n] w (BytesRes 0 (M.streamL key seq n) w) := by
  have h1 : inB n 0 200 = true := by simp [inB]; omega
  go_enter Tryd.func32, Tryd.ntmps32
  go_wp2_with fail
  refine (l2Is_any _ _).mono ?_
  rintro r w' ⟨rfl, rfl⟩
  go_wp2_with fail
  refine (l2Is_any _ _).mono ?_
  rintro r w' ⟨rfl, rfl⟩
  go_wp2_with fail
  refine (l1In_any _ _ _ _).mono ?_
  rintro r w' ⟨rfl, rfl⟩
  go_wp2_with fail
  refine (l2Stream_any _ _ _ _ hk hs hn).mono ?_
  rintro r w1 ⟨a, len, cap, rfl, hO, hb⟩
  have q0 : w1.cell? ⟨w.heap.size, 0, none⟩ = some (.int .i64 0) := cell_keep hb (by go_simp)
  have q1 : w1.cell? ⟨w.heap.size, 1, none⟩ = some (.slice none 0 0) := cell_keep hb (by go_simp)
  obtain ⟨hc, hf⟩ := bcell hb
  have hne := fun g hg => (hO.lt g hg).1
  have HO := Lib.hid hO
  have HB := Lib.hid (btr (bal (Below.refl _ w) _) hb)
  clear hO hb
  go_wp2_with fail
  refine bodyPost_ret (v := .agg #[.int .i64 0, .slice a len cap]) (by simp [results, Tryd.results32, go_sem, q0, q1]) rfl ?_
  refine ⟨a, len, cap, rfl, ?_, bset (bset HB.out (Nat.le_refl _) _) (Nat.le_refl _) _⟩
  exact ((HO.out.less (by simp)).setCell (fun g hg => by have := hne g hg; simp at this; show g ≠ w.heap.size; omega) _).setCell (fun g hg => by have := hne g hg; simp at this; show g ≠ w.heap.size; omega) _

theorem strB_yes {key seq n : Int} (h : M.strB key seq n = true) : M.sumB key = true ∧ M.sumB seq = true ∧ 0 ≤ n ∧ n ≤ 200 := by
  simp only [M.strB, Bool.and_eq_true, decide_eq_true_eq] at h
  exact ⟨h.1.1, h.1.2, h.2.1, h.2.2⟩
theorem implStreamOf_any (key seq n : Int) (w : World) (hL : Labels w) :
    Calls Tryd.prog 31 #[.int .i64 key, .int .i64 seq, .int .i64 n] w (BytesRes (M.strC key seq n) (M.strL key seq n) w) := by
  cases h : M.strB key seq n
  · have := implStreamOf_no key seq n w h
    simpa [M.strC, M.strL, h] using this
  · obtain ⟨hk, hs, h0, h1⟩ := strB_yes h
    obtain ⟨m, rfl⟩ := Int.eq_ofNat_of_zero_le h0
    have := implStreamOf_yes key seq m w hL hk hs (by omega)
    simpa [M.strC, M.strL, h] using this
theorem specStreamOf_any (key seq n : Int) (w : World) :
    Calls Tryd.prog 32 #[.int .i64 key, .int .i64 seq, .int .i64 n] w (BytesRes (M.strC key seq n) (M.strL key seq n) w) := by
  cases h : M.strB key seq n
  · have := specStreamOf_no key seq n w h
    simpa [M.strC, M.strL, h] using this
  · obtain ⟨hk, hs, h0, h1⟩ := strB_yes h
    obtain ⟨m, rfl⟩ := Int.eq_ofNat_of_zero_le h0
    have := specStreamOf_yes key seq m w hk hs (by omega)
    simpa [M.strC, M.strL, h] using this

end Go.Proofs.YtjlhldndomaknaaDoor
