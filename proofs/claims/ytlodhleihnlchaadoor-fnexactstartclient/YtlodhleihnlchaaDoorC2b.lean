/- Contracts of chapter 2: numbers in two bytes, tagged sums. Conditions: as each theorem states. -/
import Derived.Test.YtlodhleihnlchaaDoorC2a
namespace Go.Proofs.YtlodhleihnlchaaDoor
open Go.RowKit

/-- A slice of whole numbers that the call made. -/
def OwnK (k : IntKind) (w : World) (B : Nat) (v : Value) (zs : List Int) : Prop := Own w B 1 v zs.length (zs.map (Value.int k))
/-- A slice that has been appended to. -/
def Grew (k : IntKind) (B : Nat) (v : Value) (zs : List Int) (w : World) (r : Ending) (w' : World) : Prop := ∃ v', r = .returned v' ∧ OwnK k w' B v' zs ∧ w.grownBy w' v.ownBlock
theorem Own.grown {W w w' : World} {B size : Nat} {v : Value} {n : Nat} {xs : List Value} (h : Own w B size v n xs) (hb : Below B W w) (hB : B ≤ w.heap.size) (hg : w.grownBy w' v.ownBlock) : Below B W w' :=
  hb.grown hg hB fun k hk => (h.lt k hk).1

theorem u8_info : (Tryd.prog.info? 5).map (fun i => (i.zero, i.size, i.bytes)) = some (some (.int .u8 0), 1, 1) := by kernel_rfl

theorem i64_info : (Tryd.prog.info? 2).map (fun i => (i.zero, i.size, i.bytes)) = some (some (.int .i64 0), 1, 8) := by kernel_rfl

/-- What is appended lies in the block that was just made. -/
theorem src_new {P : Program} (w : World) (vs : List Value) (m c : Nat) (t tx e' : TypeId) (hk : P.underlying tx = some (.slice e')) (hm : vs.length = m) (h1 : ∀ u ∈ vs, u.oneCell' = true) :
    Src P 1 tx (.slice (some ⟨w.heap.size, 0, none⟩) m c) m vs (w.alloc (.cells vs.toArray t)) := by
  refine Src.ofSlice _ hk _ _ _ _ (by omega) (fun j u hu => ?_) h1
  have e1 : (w.alloc (.cells vs.toArray t)).heap[w.heap.size]? = some (.cells vs.toArray t) := (MapKept.heap_alloc w _).1
  rw [Addr.add_lit, Nat.zero_add]
  unfold World.cell?
  rw [e1]
  simpa using hu
theorem grown_alloc {w w' : World} {o : Obj} {row : Option Nat} (h : (w.alloc o).grownBy w' row) : w.grownBy w' row :=
  ⟨h.os, h.tape, h.output, Nat.le_trans (by simp) h.size, fun k hk hne => (h.block k (by simp; omega) hne).trans (Below.heap_alloc w o k hk)⟩
theorem grown_trans {w w1 w2 : World} {r1 r2 row : Option Nat} (h : w.grownBy w1 r1) (k : w1.grownBy w2 r2) (h1 : ∀ g, r1 = some g → w.heap.size ≤ g ∨ row = some g) (h2 : ∀ g, r2 = some g → w.heap.size ≤ g ∨ row = some g) : w.grownBy w2 row :=
  ⟨k.os.trans h.os, k.tape.trans h.tape, k.output.trans h.output, Nat.le_trans h.size k.size, fun i hi hne =>
    (k.block i (Nat.lt_of_lt_of_le hi h.size) (fun e => by rcases h2 i e.symm with h | h; · omega
                                                           · exact hne h.symm)).trans
      (h.block i hi (fun e => by rcases h1 i e.symm with h | h; · omega
                                 · exact hne h.symm))⟩

theorem appendTwo_any (v : Value) (n : Int) (B : Nat) (zs : List Int) (w : World) (ho : OwnK .u8 w B v zs) (hB : B ≤ w.heap.size) (hn : M.sumB n = true) (hl : zs.length ≤ 1000000) :
    Calls Tryd.prog 68 #[v, .int .i64 n] w (Grew .u8 B v (zs ++ M.two n) w) := by
  obtain ⟨i0, hi0, hz0, hz1, hz2⟩ := info_parts u8_info
  have hn' := hn
  simp only [M.sumB, decide_eq_true_eq] at hn'
  obtain ⟨n0, n1⟩ := hn'
  clear hn
  go_enter Tryd.func68, Tryd.ntmps68
  go_wp2_with (at_builtin; refine wpList_append_src _ rfl (.tmp 5) (.tmp 11) 96 96 rfl B 5 i0 (.int .u8 0) 1 1 Tryd.underlying96 hi0 hz0 hz1 hz2 rfl v zs.length (zs.map (Value.int .u8)) rfl (ho.alloc _) _ 2 [.int .u8 (n / 256), .int .u8 (n % 256)] rfl (src_new w _ 2 2 _ _ _ Tryd.underlying96 rfl (ints_oneCell .u8 [n / 256, n % 256])) (by simp only [maxLen]; omega) (by omega) (by simp; omega) ?_; intro v' w' hown hgrow hat)
  go_ret
  exact ⟨v', rfl, by unfold OwnK; simpa [M.two] using hown, grown_alloc hgrow⟩

def Two (n : Int) (w : World) (r : Ending) (w' : World) : Prop := r = .returned (.slice (some ⟨w.heap.size, 0, none⟩) 2 2) ∧ w' = w.alloc (.cells #[.int .u8 (n / 256), .int .u8 (n % 256)] 5)
theorem l1Two_any (n : Int) (w : World) (hn : M.sumB n = true) : Calls Tryd.prog 66 #[.int .i64 n] w (Two n w) := by
  have hn' := hn
  simp only [M.sumB, decide_eq_true_eq] at hn'
  obtain ⟨n0, n1⟩ := hn'
  clear hn
  go_enter Tryd.func66, Tryd.ntmps66
  go_wp2_with fail
  go_ret
  exact ⟨rfl, rfl⟩

/-- What is appended lies in a block that is known whole. -/
theorem src_at {P : Program} {w : World} (g : Nat) (vs : List Value) (m c : Nat) (t tx e' : TypeId) (hk : P.underlying tx = some (.slice e')) (hm : vs.length = m) (h1 : ∀ u ∈ vs, u.oneCell' = true)
    (hg : w.heap[g]? = some (.cells vs.toArray t)) : Src P 1 tx (.slice (some ⟨g, 0, none⟩) m c) m vs w := by
  refine Src.ofSlice _ hk _ _ _ _ (by omega) (fun j u hu => ?_) h1
  rw [Addr.add_lit, Nat.zero_add]
  unfold World.cell?
  rw [hg]
  simpa using hu
abbrev textObj (w : World) (s : ByteArray) (e : TypeId) : Obj := .cells (bytesRow s (grownCap w s.size 0 e)) e ((bytesRow s (grownCap w s.size 0 e)).size, (bytesRow s (grownCap w s.size 0 e)).size + 1)
theorem own_text (w : World) (s : ByteArray) (e : TypeId) (hs : s.size ≤ maxLen) :
    Own (w.alloc (textObj w s e)) w.heap.size 1 (.slice (some ⟨w.heap.size, 0, none⟩) s.size (grownCap w s.size 0 e)) s.size ((M.textL s).map (Value.int .u8)) := by
  have hge := grownCap_ge w s.size 0 e
  refine Own.bytes w _ e _ _ (Nat.le_refl _) hge (grownCap_le_maxLen w s.size 0 e hs) ?_ (by simp [M.textL]) ?_ _
  · simp only [bytesRow, Array.size_append, Array.size_map, Array.size_replicate]
    show s.size + _ = _
    omega
  · simp only [bytesRow, Array.toList_append, M.textL, Array.toList_map]
    rw [List.take_append_of_le_length (by simp)]
    rw [List.take_of_length_le (by simp)]
    simp [List.map_map, Function.comp_def]
theorem tag_start {W : World} (w : World) (s : ByteArray) (e : TypeId) (o : Obj) (hs : s.size ≤ maxLen) (hW : W = ((w.alloc (textObj w s e)).alloc o).drew) :
    Own W w.heap.size 1 (.slice (some ⟨w.heap.size, 0, none⟩) s.size (grownCap w s.size 0 e)) s.size ((M.textL s).map (Value.int .u8)) := by
  subst hW; exact ((own_text w s e hs).alloc o).drew
theorem tag_src {P : Program} (w : World) (o : Obj) (tx e' t : TypeId) (hk : P.underlying tx = some (.slice e')) :
    Src P 1 tx (.slice (some ⟨w.heap.size + 1, 0, none⟩) 1 1) 1 [.int .u8 0] ((w.alloc o).alloc (.cells #[.int .u8 0] t)).drew := by
  refine src_at (w.heap.size + 1) [.int .u8 0] 1 1 t tx e' hk rfl (ints_oneCell .u8 [0]) ?_
  have := (MapKept.heap_alloc (w.alloc o) (.cells #[.int .u8 0] t)).1
  rw [show (w.alloc o).heap.size = w.heap.size + 1 by simp] at this
  exact this
theorem tag_first {w w1 : World} {s : ByteArray} {e : TypeId} {o : Obj} {v : Value} (hs : s.size ≤ maxLen)
    (hown : Own w1 w.heap.size 1 v (s.size + 1) ((M.textL s).map (Value.int .u8) ++ [.int .u8 0])) (hg : ((w.alloc (textObj w s e)).alloc o).drew.grownBy w1 (Value.ownBlock (.slice (some ⟨w.heap.size, 0, none⟩) s.size (grownCap w s.size 0 e)))) :
    OwnK .u8 w1 w.heap.size v (M.tagBytes s []) ∧ Below w.heap.size w w1 := by
  refine ⟨?_, (tag_start w s e o hs rfl).grown ?_ (by simp; omega) hg⟩
  · unfold OwnK
    rw [M.tagBytes_nil]
    simpa [M.textL_length] using hown
  · exact (bal (bal (Below.refl _ w) _) _).drew

def TagRel (w : World) (s : ByteArray) (zs : List Int) (k : Nat) (v : Value) (wr : World) : Prop := OwnK .u8 wr w.heap.size v (M.tagBytes s (zs.take k)) ∧ Below w.heap.size w wr
theorem TagRel.step {w w1 w2 : World} {s : ByteArray} {zs : List Int} {k : Nat} {v v' : Value} (h : TagRel w s zs k v w1) (hk : k < zs.length) (ho : OwnK .u8 w2 w.heap.size v' (M.tagBytes s (zs.take k) ++ M.two (zs[k]?.getD 0))) (hg : w1.grownBy w2 v.ownBlock) : TagRel w s zs (k + 1) v' w2 :=
  ⟨by rw [← M.tagBytes_take s zs k hk]; exact ho, h.1.grown h.2 h.2.size hg⟩
theorem byte_wf {b : Int} (h : M.byteB b) : (Lit.int .u8 b).wf = true := by
  unfold M.byteB at h
  simp [Lit.wf, IntKind.min, IntKind.max, IntKind.signed, IntKind.bits]; omega
theorem TagRel.row {w w1 : World} {s : ByteArray} {zs : List Int} {v : Value} (h : TagRel w s zs zs.length v w1) (hz : zs.all M.sumB = true) :
    ∃ a n c, v = .slice a n c ∧ Row .u8 w1 w1.heap.size a n c (M.tagBytes s zs) := by
  obtain ⟨ho, _⟩ := h
  rw [List.take_length] at ho
  obtain ⟨a, c, rfl, _⟩ := ho.form
  exact ⟨a, _, c, rfl, Own.row ho fun b hb => byte_wf (M.tagBytes_byte s zs (fun z hz' => List.all_eq_true.1 hz z hz') b hb)⟩

theorem sumTagged_any (s : ByteArray) (a : Option Addr) (len cap B : Nat) (zs : List Int) (w : World) (hs : s.size ≤ 12) (hR : Row .i64 w B a len cap zs) (hB : B ≤ w.heap.size) (hz : zs.all M.sumB = true) (hl : len ≤ 40) :
    Calls Tryd.prog 56 #[.string s, .slice a len cap] w fun e w' => e = .returned (.int .u32 (M.tagL s zs)) ∧ Below w.heap.size w w' := by
  obtain ⟨i0, hi0, hz0, hz1, hz2⟩ := info_parts u8_info
  have hcv := fun (W : World) => run_bytes_of_string (P := Tryd.prog) W 9 96 5 s Tryd.underlying9 Tryd.underlying96 Tryd.underlying5
  have hL := Lib.hid hR.length
  have HZ := Lib.hid hz
  have hs' : s.size ≤ maxLen := by simp only [maxLen]; omega
  clear hz
  go_enter Tryd.func56, Tryd.ntmps56
  go_wp2_with (at_builtin; refine wpList_append_src _ rfl (.tmp 9) (.tmp 10) 96 96 rfl w.heap.size 5 i0 (.int .u8 0) 1 1 Tryd.underlying96 hi0 hz0 hz1 hz2 rfl _ s.size _ rfl (tag_start w s 5 _ hs' rfl) _ 1 [.int .u8 0] rfl (tag_src w _ _ _ _ Tryd.underlying96) (by simp only [maxLen]; omega) (by omega) (by simp; omega) ?_; intro v w1 hown hgrow hat)
  obtain ⟨ho1, hb1⟩ := tag_first hs' hown hgrow
  clear hown hgrow hat hcv
  have T1 : TagRel w s zs 0 v w1 := ⟨ho1, hb1⟩
  clear ho1 hb1
  go_wp2_with fail
  go_loopw [5, 14] (fun v i wr => ∃ k : Nat, k ≤ len ∧ i = .int .i64 k ∧ TagRel w s zs k v wr) (fun _ i _ => len - (intOf i).toNat)
  case atStart => exact ⟨0, Nat.zero_le _, rfl, T1⟩
  case round =>
    obtain ⟨k, hk, rfl, hT⟩ := hrel
    by_cases hlt : k < len
    · obtain ⟨b, off, ha, hb, hc⟩ := hR.cells (by omega)
      have hcell := (hT.2.cell (p := ⟨b, off + k, none⟩) (by show b < _; omega)).trans (hc k hlt)
      simp only [List.getD_eq_getElem?_getD] at hcell
      clear hc
      have hzk : M.sumB (zs[k]?.getD 0) = true := List.all_eq_true.1 HZ.out _ (by simp [show k < zs.length by rw [hL.out]; exact hlt])
      have HK := Lib.hid hzk
      have hlen : (M.tagBytes s (zs.take k)).length ≤ 1000000 := by rw [M.tagBytes_length]; simp; omega
      subst ha
      clear hzk
      go_wp2_with fail
      refine (appendTwo_any _ _ _ _ _ hT.1 hT.2.size HK.out hlen).mono ?_
      rintro r w2 ⟨v2, rfl, ho2, hg2⟩
      have T2 := hT.step (by rw [hL.out]; exact hlt) ho2 hg2
      clear ho2 hg2 hT hcell HK hlen
      go_wp2_with fail
      go_roundw
      case rel => exact ⟨k + 1, by omega, by go_num, T2⟩
      case measure => simp [intOf]; omega
    · obtain rfl : k = len := by omega
      have hT' := hT
      rw [← hL.out] at hT'
      obtain ⟨a', n', c', hv, hrow⟩ := hT'.row HZ.out
      have hb := Lib.hid hT.2
      clear hT hT'
      subst hv
      go_wp2_with fail
      refine (sumBytes_any _ _ _ _ _ _ hrow).mono ?_
      rintro r w' ⟨rfl, rfl⟩
      clear hrow
      go_wp2_with fail
      go_ret
      exact ⟨rfl, hb.out⟩

theorem l2Tag_any (s : ByteArray) (a : Option Addr) (len cap B : Nat) (zs : List Int) (w : World) (hs : s.size ≤ 12) (hR : Row .i64 w B a len cap zs) (hB : B ≤ w.heap.size) (hz : zs.all M.sumB = true) (hl : len ≤ 40) :
    Calls Tryd.prog 55 #[.string s, .slice a len cap] w fun e w' => e = .returned (.int .i64 (M.tagL s zs)) ∧ Below w.heap.size w w' := by
  obtain ⟨i0, hi0, hz0, hz1, hz2⟩ := info_parts u8_info
  have hcv := fun (W : World) => run_bytes_of_string (P := Tryd.prog) W 9 96 5 s Tryd.underlying9 Tryd.underlying96 Tryd.underlying5
  have hL := Lib.hid hR.length
  have HZ := Lib.hid hz
  have hs' : s.size ≤ maxLen := by simp only [maxLen]; omega
  clear hz
  go_enter Tryd.func55, Tryd.ntmps55
  go_wp2_with (at_builtin; refine wpList_append_src _ rfl (.tmp 8) (.tmp 9) 96 96 rfl w.heap.size 5 i0 (.int .u8 0) 1 1 Tryd.underlying96 hi0 hz0 hz1 hz2 rfl _ s.size _ rfl (tag_start w s 5 _ hs' rfl) _ 1 [.int .u8 0] rfl (tag_src w _ _ _ _ Tryd.underlying96) (by simp only [maxLen]; omega) (by omega) (by simp; omega) ?_; intro v w1 hown hgrow hat)
  obtain ⟨ho1, hb1⟩ := tag_first hs' hown hgrow
  clear hown hgrow hat hcv
  have T1 : TagRel w s zs 0 v w1 := ⟨ho1, hb1⟩
  clear ho1 hb1
  go_wp2_with fail
  go_loopw [5, 6] (fun v i wr => ∃ k : Nat, k ≤ len ∧ i = .int .i64 k ∧ TagRel w s zs k v wr) (fun _ i _ => len - (intOf i).toNat)
  case atStart => exact ⟨0, Nat.zero_le _, rfl, T1⟩
  case round =>
    obtain ⟨k, hk, rfl, hT⟩ := hrel
    by_cases hlt : k < len
    · obtain ⟨b, off, ha, hb, hc⟩ := hR.cells (by omega)
      have hcell := (hT.2.cell (p := ⟨b, off + k, none⟩) (by show b < _; omega)).trans (hc k hlt)
      simp only [List.getD_eq_getElem?_getD] at hcell
      clear hc
      have hzk : M.sumB (zs[k]?.getD 0) = true := List.all_eq_true.1 HZ.out _ (by simp [show k < zs.length by rw [hL.out]; exact hlt])
      have HK := Lib.hid hzk
      have hlen : (M.tagBytes s (zs.take k)).length ≤ 1000000 := by rw [M.tagBytes_length]; simp; omega
      have hsz := hT.2.size
      subst ha
      clear hzk
      go_wp2_with fail
      refine (l1Two_any _ _ HK.out).mono ?_
      rintro r w2 ⟨rfl, hw2⟩
      subst hw2
      go_wp2_with (at_builtin; refine wpList_append_src _ rfl (.tmp 17) (.tmp 22) 96 96 rfl w.heap.size 5 i0 (.int .u8 0) 1 1 Tryd.underlying96 hi0 hz0 hz1 hz2 rfl _ _ _ rfl (hT.1.alloc _) _ 2 [.int .u8 (zs[k]?.getD 0 / 256), .int .u8 (zs[k]?.getD 0 % 256)] rfl (src_new wr _ 2 2 _ _ _ Tryd.underlying96 rfl (ints_oneCell .u8 [zs[k]?.getD 0 / 256, zs[k]?.getD 0 % 256])) (by simp only [maxLen]; omega) (by omega) (by simp; omega) ?_; intro v2 w2 hown hgrow hat)
      have T2 := hT.step (v' := v2) (w2 := w2) (by rw [hL.out]; exact hlt) (by unfold OwnK; simpa [M.two] using hown) (grown_alloc hgrow)
      clear hown hgrow hat hT hcell HK hlen
      go_wp2_with fail
      go_roundw
      case rel => exact ⟨k + 1, by omega, by go_num, T2⟩
      case measure => simp [intOf]; omega
    · obtain rfl : k = len := by omega
      have hT' := hT
      rw [← hL.out] at hT'
      obtain ⟨a', n', c', hv, hrow⟩ := hT'.row HZ.out
      have hb := Lib.hid hT.2
      clear hT hT'
      subst hv
      go_wp2_with fail
      refine (l2Sum_any _ _ _ _ _ _ hrow).mono ?_
      rintro r w' ⟨rfl, rfl⟩
      clear hrow
      go_wp2_with fail
      go_ret
      exact ⟨rfl, hb.out⟩

end Go.Proofs.YtlodhleihnlchaaDoor
