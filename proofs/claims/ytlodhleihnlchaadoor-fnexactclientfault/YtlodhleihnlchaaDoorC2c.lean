/- Contracts of chapter 2's exported functions and of their model's, and of the copies and comparisons of slices of numbers that the laws make. Conditions: as each theorem states. -/
import Derived.Test.YtlodhleihnlchaaDoorC2b
import Derived.Test.YtlodhleihnlchaaDoorC1b
namespace Go.Proofs.YtlodhleihnlchaaDoor
open Go.RowKit

theorem Row.alloc {k : IntKind} {w : World} {B : Nat} {a : Option Addr} {len cap : Nat} {zs : List Int} (h : Row k w B a len cap zs) (hB : B ≤ w.heap.size) (o : Obj) : Row k (w.alloc o) B a len cap zs :=
  h.below ((Below.refl B w).alloc hB o)

theorem Row.on {k : IntKind} {w w' : World} {a : Option Addr} {len cap : Nat} {zs : List Int} (h : Row k w w.heap.size a len cap zs) (hb : Below w.heap.size w w') : Row k w' w'.heap.size a len cap zs := (h.below hb).more hb.size

/-- The first j of n cells of the block that w's next one is are told. -/
structure Fill (k : IntKind) (w : World) (n : Nat) (zs : List Int) (j : Nat) (wr : World) : Prop where
  bel : Below w.heap.size w wr
  lt : w.heap.size < wr.heap.size
  room : ∀ i, i < n → (∃ u, wr.cell? ⟨w.heap.size, i, none⟩ = some u) ∧ wr.frozen? ⟨w.heap.size, i, none⟩ = false
  told : ∀ i, i < j → wr.cell? ⟨w.heap.size, i, none⟩ = some (.int k (zs.getD i 0))
theorem Fill.new (k : IntKind) (w : World) (n : Nat) (zs : List Int) (cur : Array Value) (e : TypeId) (hs : cur.size = n) : Fill k w n zs 0 (w.alloc (.cells cur e)) := by
  have e1 : (w.alloc (.cells cur e)).heap[w.heap.size]? = some (.cells cur e) := (MapKept.heap_alloc w _).1
  refine ⟨bal (Below.refl _ _) _, by simp, fun i hi => ?_, fun i hi => absurd hi (by omega)⟩
  unfold World.cell? World.frozen?
  rw [e1]
  simp [show i < cur.size by omega]
theorem Fill.step {k : IntKind} {w : World} {n : Nat} {zs : List Int} {j : Nat} {wr : World} (h : Fill k w n zs j wr) (hj : j < n) : Fill k w n zs (j + 1) (wr.setCell ⟨w.heap.size, j, none⟩ (.int k (zs[j]?.getD 0))) := by
  refine ⟨h.bel.setCell (Nat.le_refl _) _, by simpa [World.setCell] using h.lt, fun i hi => ?_, fun i hi => ?_⟩
  · obtain ⟨⟨u, hu⟩, hf⟩ := h.room i hi
    refine ⟨?_, by rw [World.frozen?_setCell]; exact hf⟩
    obtain ⟨v, hv⟩ := cell?_setCell_some (w := wr) (p := ⟨w.heap.size, j, none⟩) (x := .int k (zs[j]?.getD 0)) (q := ⟨w.heap.size, i, none⟩) (v := u) hu
    exact ⟨v, hv⟩
  · rcases Nat.lt_or_ge i j with hlt | hge
    · rw [World.cell?_setCell_other _ _ _ _ (fun e => by injection e with _ e2; omega)]
      exact h.told i hlt
    · obtain rfl : i = j := by omega
      obtain ⟨⟨u, hu⟩, _⟩ := h.room i hj
      rw [World.cell?_setCell_same _ _ _ (by rw [hu])]
      simp [List.getD]
theorem Fill.own {k : IntKind} {w : World} {zs : List Int} {wr : World} {n : Nat} (hn : zs.length = n) (h : Fill k w n zs n wr) (hm : n ≤ maxLen) : OwnK k wr w.heap.size (.slice (some ⟨w.heap.size, 0, none⟩) n n) zs := by
  subst hn
  refine ⟨by simp, .inr ⟨w.heap.size, _, rfl, Nat.le_refl _, h.lt, Nat.le_refl _, hm, fun j u hu => ?_, fun j hj => ?_⟩⟩
  · have hj := (List.getElem?_eq_some_iff.1 hu).1
    simp at hj
    rw [h.told j hj]
    rw [← hu]
    simp [List.getD, hj]
  · obtain ⟨⟨u, hu⟩, hf⟩ := h.room j (by omega)
    exact ⟨by rw [hu]; rfl, hf⟩

/-- A slice of numbers was copied. -/
def Copied (k : IntKind) (n : Nat) (zs : List Int) (w : World) (r : Ending) (w' : World) : Prop :=
  r = .returned (.slice (some ⟨w.heap.size, 0, none⟩) n n) ∧ OwnK k w' w.heap.size (.slice (some ⟨w.heap.size, 0, none⟩) n n) zs ∧ Below w.heap.size w w'

theorem implTagSum_any (s : ByteArray) (a : Option Addr) (len cap B : Nat) (zs : List Int) (w : World) (hs : s.size ≤ maxLen) (hR : Row .i64 w B a len cap zs) (hB : B ≤ w.heap.size) :
    Calls Tryd.prog 70 #[.string s, .slice a len cap] w fun r w' => r = .returned (I2 (M.tagR s zs).1 (M.tagR s zs).2) ∧ Below w.heap.size w w' := by
  have hlen := hR.fits
  have hmost := hR.most
  unfold maxLen at hmost
  have hL := Lib.hid hR.length
  cases hS : M.labB s
  · have E : M.tagR s zs = (5, 0) := by simp [M.tagR, hS]
    rw [E]; clear E
    go_enter Tryd.func70, Tryd.ntmps70
    go_wp2_with fail
    refine (isLabel_any _ _ hs).mono ?_
    rintro r w' ⟨rfl, rfl⟩
    go_wp2_with fail
    exact bodyPost_ret (v := I2 5 0) (by simp [results, Tryd.results70, go_sem]) rfl ⟨rfl, bal (Below.refl _ _) _⟩
  obtain ⟨s0, s1⟩ := M.labB_size hS
  by_cases h : 40 < len
  · have E : M.tagR s zs = (2, 0) := by simp [M.tagR, hS, hL.out, h]
    rw [E]; clear E
    go_enter Tryd.func70, Tryd.ntmps70
    go_wp2_with fail
    refine (isLabel_any _ _ hs).mono ?_
    rintro r w' ⟨rfl, rfl⟩
    go_wp2_with fail
    exact bodyPost_ret (v := I2 2 0) (by simp [results, Tryd.results70, go_sem]) rfl ⟨rfl, bal (Below.refl _ _) _⟩
  cases hA : zs.all M.sumB
  · have E : M.tagR s zs = (3, 0) := by simp only [M.tagR, hS, hL.out, h, hA, if_false, Bool.false_eq_true]; simp
    rw [E]; clear E
    have HA := Lib.hid hA
    clear hA
    go_enter Tryd.func70, Tryd.ntmps70
    go_wp2_with fail
    refine (isLabel_any _ _ hs).mono ?_
    rintro r w' ⟨rfl, rfl⟩
    go_wp2_with fail
    go_loop [17] (fun i => ∃ k : Nat, k ≤ len ∧ i = .int .i64 k ∧ Hid ((zs.take k).all M.sumB = true)) (fun i => len - (intOf i).toNat)
    case atStart => exact ⟨0, Nat.zero_le _, rfl, Lib.hid (by simp)⟩
    case round =>
      obtain ⟨k, hk, rfl, hT⟩ := hrel
      by_cases hlt : k < len
      · obtain ⟨b, off, ha, hb, hc⟩ := (hR.alloc hB (.cells #[.int .i64 0, .int .i64 0] 50)).cells (by omega)
        have hcell := hc k hlt
        simp only [List.getD_eq_getElem?_getD] at hcell
        clear hc hR
        subst ha
        cases hv : M.sumB (zs[k]?.getD 0)
        · go_wp2_with fail
          refine (isSum_any _ _).mono ?_
          rintro r w' ⟨rfl, rfl⟩
          go_wp2_with fail
          exact bodyPost_ret (v := I2 3 0) (by simp [results, Tryd.results70, go_sem]) rfl ⟨rfl, bal (Below.refl _ _) _⟩
        · have T2 := Lib.hid (M.all_take M.sumB zs k (by rw [hL.out]; exact hlt) hT.out hv)
          clear hT
          go_wp2_with fail
          refine (isSum_any _ _).mono ?_
          rintro r w' ⟨rfl, rfl⟩
          go_wp2_with fail
          go_round
          case rel => exact ⟨k + 1, by omega, by go_num, T2⟩
          case measure => simp [intOf]; omega
      · have e := hT.out
        rw [List.take_of_length_le (by rw [hL.out]; omega), HA.out] at e
        cases e
  · have E : M.tagR s zs = (0, M.tagL s zs) := by simp only [M.tagR, hS, hL.out, h, hA, if_false, if_true, Bool.true_eq_false]
    rw [E]; clear E
    have HA := Lib.hid hA
    clear hA
    obtain ⟨t0, t1⟩ := M.tagL_bd s zs
    go_enter Tryd.func70, Tryd.ntmps70
    go_wp2_with fail
    refine (isLabel_any _ _ hs).mono ?_
    rintro r w' ⟨rfl, rfl⟩
    go_wp2_with fail
    go_loop [17] (fun i => ∃ k : Nat, k ≤ len ∧ i = .int .i64 k) (fun i => len - (intOf i).toNat)
    case atStart => exact ⟨0, Nat.zero_le _, rfl⟩
    case round =>
      obtain ⟨k, hk, rfl⟩ := hrel
      by_cases hlt : k < len
      · obtain ⟨b, off, ha, hb, hc⟩ := (hR.alloc hB (.cells #[.int .i64 0, .int .i64 0] 50)).cells (by omega)
        have hcell := hc k hlt
        simp only [List.getD_eq_getElem?_getD] at hcell
        clear hc
        subst ha
        have hv : M.sumB (zs[k]?.getD 0) = true := List.all_eq_true.1 HA.out _ (by simp [show k < zs.length by rw [hL.out]; exact hlt])
        go_wp2_with fail
        refine (isSum_any _ _).mono ?_
        rintro r w' ⟨rfl, rfl⟩
        go_wp2_with fail
        go_round
        case rel => exact ⟨k + 1, by omega, by go_num⟩
        case measure => simp [intOf]; omega
      · go_wp2_with fail
        refine (sumTagged_any _ _ _ _ _ _ _ s1 (hR.alloc hB _) (by simp; omega) HA.out (by omega)).mono ?_
        rintro r w1 ⟨rfl, hb_w1⟩
        obtain ⟨hc_w1, hf_w1⟩ := bcell hb_w1
        have hz_w1 := hb_w1.size
        (try simp at hz_w1)
        go_wp2_with fail
        exact bodyPost_ret (v := I2 0 (M.tagL s zs)) (by simp [results, Tryd.results70, go_sem, hc_w1]) rfl ⟨rfl, bset (bset (btr (bal (Below.refl _ _) _) hb_w1) (Nat.le_refl _) _) (Nat.le_refl _) _⟩

end Go.Proofs.YtlodhleihnlchaaDoor
