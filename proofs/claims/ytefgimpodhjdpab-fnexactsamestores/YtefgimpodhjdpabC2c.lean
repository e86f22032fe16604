/- Contracts of chapter 2's exported functions and of their model's, and of the copies and comparisons of slices of numbers that the laws make. Conditions: as each theorem states. -/
import Derived.Test.YtefgimpodhjdpabC2b
import Derived.Test.YtefgimpodhjdpabC1b
namespace Go.Proofs.Ytefgimpodhjdpab
open Go.RowKit

theorem Row.alloc {k : IntKind} {w : World} {B : Nat} {a : Option Addr} {len cap : Nat} {zs : List Int} (h : Row k w B a len cap zs) (hB : B ≤ w.heap.size) (o : Obj) : Row k (w.alloc o) B a len cap zs :=
  h.below ((Below.refl B w).alloc hB o)

theorem Row.on {k : IntKind} {w w' : World} {a : Option Addr} {len cap : Nat} {zs : List Int} (h : Row k w w.heap.size a len cap zs) (hb : Below w.heap.size w w') : Row k w' w'.heap.size a len cap zs := (h.below hb).more hb.size

/-- The first j of n cells of the block that w's next one is are told. -/
structure Fill (k : IntKind) (w : World) (n : Nat) (zs : List Int) (j : Nat) (wr : World) : Prop where
  bel : Below w.heap.size w wr
  lt : w.heap.size < wr.heap.size
  room : ∀ i, i < n → (∃ u, wr.cell? ⟨w.heap.size, i, none⟩ = some u) ∧ wr.frozen? ⟨w.heap.size, i, none⟩ = false
  told : ∀ i, i < j → wr.cell? ⟨w.heap.size, i, none⟩ = some (.int k (zs.getD i 0))
theorem Fill.new (k : IntKind) (w : World) (n : Nat) (zs : List Int) (cur : Array Value) (e : TypeId) (hs : cur.size = n) : Fill k w n zs 0 (w.alloc (.cells cur e)) := by
  have e1 : (w.alloc (.cells cur e)).heap[w.heap.size]? = some (.cells cur e) := (MapKept.heap_alloc w _).1
  refine ⟨bal (Below.refl _ _) _, by simp, fun i hi => ?_, fun i hi => absurd hi (by omega)⟩
  unfold World.cell? World.frozen?
  rw [e1]
  simp [show i < cur.size by omega]
theorem Fill.step {k : IntKind} {w : World} {n : Nat} {zs : List Int} {j : Nat} {wr : World} (h : Fill k w n zs j wr) (hj : j < n) : Fill k w n zs (j + 1) (wr.setCell ⟨w.heap.size, j, none⟩ (.int k (zs[j]?.getD 0))) := by
  refine ⟨h.bel.setCell (Nat.le_refl _) _, by simpa [World.setCell] using h.lt, fun i hi => ?_, fun i hi => ?_⟩
  · obtain ⟨⟨u, hu⟩, hf⟩ := h.room i hi
    refine ⟨?_, by rw [World.frozen?_setCell]; exact hf⟩
    obtain ⟨v, hv⟩ := cell?_setCell_some (w := wr) (p := ⟨w.heap.size, j, none⟩) (x := .int k (zs[j]?.getD 0)) (q := ⟨w.heap.size, i, none⟩) (v := u) hu
    exact ⟨v, hv⟩
  · rcases Nat.lt_or_ge i j with hlt | hge
    · rw [World.cell?_setCell_other _ _ _ _ (fun e => by injection e with _ e2; omega)]
      exact h.told i hlt
    · obtain rfl : i = j := by omega
      obtain ⟨⟨u, hu⟩, _⟩ := h.room i hj
      rw [World.cell?_setCell_same _ _ _ (by rw [hu])]
      simp [List.getD]
theorem Fill.own {k : IntKind} {w : World} {zs : List Int} {wr : World} {n : Nat} (hn : zs.length = n) (h : Fill k w n zs n wr) (hm : n ≤ maxLen) : OwnK k wr w.heap.size (.slice (some ⟨w.heap.size, 0, none⟩) n n) zs := by
  subst hn
  refine ⟨by simp, .inr ⟨w.heap.size, _, rfl, Nat.le_refl _, h.lt, Nat.le_refl _, hm, fun j u hu => ?_, fun j hj => ?_⟩⟩
  · have hj := (List.getElem?_eq_some_iff.1 hu).1
    simp at hj
    rw [h.told j hj]
    rw [← hu]
    simp [List.getD, hj]
  · obtain ⟨⟨u, hu⟩, hf⟩ := h.room j (by omega)
    exact ⟨by rw [hu]; rfl, hf⟩

/-- A slice of numbers was copied. -/
def Copied (k : IntKind) (n : Nat) (zs : List Int) (w : World) (r : Ending) (w' : World) : Prop :=
  r = .returned (.slice (some ⟨w.heap.size, 0, none⟩) n n) ∧ OwnK k w' w.heap.size (.slice (some ⟨w.heap.size, 0, none⟩) n n) zs ∧ Below w.heap.size w w'

theorem toByteS_any (a : Option Addr) (len cap B : Nat) (zs : List Int) (w : World) (hR : Row .u8 w B a len cap zs) (hB : B ≤ w.heap.size) (hl : len ≤ 1048576) :
    Calls Try.prog 27 #[.slice a len cap] w (Copied .u8 len zs w) := by
  obtain ⟨i0, hi0, hz0, hz1, hz2⟩ := info_parts u8_info
  have hmk : ∀ W : World, (Instr.makeSlice 39 (.int .i64 (len : Int)) (.int .i64 (len : Int))).run Try.prog W = .ok (.slice (some ⟨W.heap.size, 0, none⟩) len len) (W.alloc (.cells (madeCells #[.int .u8 0] len) 5)) := by
    intro W
    have := run_make (P := Try.prog) W 39 5 i0 (.int .u8 0) Try.underlying39 hi0 hz0 .i64 .i64 len len (by omega) (by omega) (by rw [hz2]; omega) (by omega)
    simpa [hz1, Value.cells] using this
  have hL := Lib.hid hR.length
  clear hi0 hz0 hz1 hz2
  have T0 := Fill.new .u8 w len zs (madeCells #[.int .u8 0] len) 5 (size_madeCells _ _)
  go_enter Try.func27, Try.ntmps27
  go_wp2_with fail
  generalize w.alloc (.cells (madeCells #[.int .u8 0] len) 5) = w1 at *
  go_loopw [4] (fun i wr => ∃ k : Nat, k ≤ len ∧ i = .int .i64 k ∧ Fill .u8 w len zs k wr) (fun i _ => len - (intOf i).toNat)
  case atStart => exact ⟨0, Nat.zero_le _, rfl, T0⟩
  case round =>
    obtain ⟨k, hk, rfl, hT⟩ := hrel
    by_cases hlt : k < len
    · obtain ⟨b, off, ha, hb, hc⟩ := hR.cells (by omega)
      have hcell := (hT.bel.cell (p := ⟨b, off + k, none⟩) (by show b < _; omega)).trans (hc k hlt)
      simp only [List.getD_eq_getElem?_getD] at hcell
      obtain ⟨⟨u, hu⟩, hf⟩ := hT.room k hlt
      have T2 := hT.step hlt
      clear hc hT
      subst ha
      go_wp2_with fail
      go_roundw
      case rel => exact ⟨k + 1, by omega, by go_num, T2⟩
      case measure => simp [intOf]; omega
    · obtain rfl : k = len := by omega
      have T2 := hT.own hL.out (by simp only [maxLen]; omega)
      have hb := Lib.hid hT.bel
      clear hT
      go_wp2_with fail
      go_ret
      exact ⟨rfl, T2, hb.out⟩

theorem eqByteS_any (a b : Option Addr) (len c1 c2 B : Nat) (zs : List Int) (w : World) (hR : Row .u8 w B a len c1 zs) (hQ : Row .u8 w B b len c2 zs) (hB : B ≤ w.heap.size) :
    Calls Try.prog 28 #[.slice a len c1, .slice b len c2] w fun e w' => e = .returned (.bool true) ∧ Below w.heap.size w w' := by
  have hlen := hR.fits
  have hmost := hR.most
  unfold maxLen at hmost
  have hL := Lib.hid hR.length
  go_enter Try.func28, Try.ntmps28
  go_wp2_with fail
  go_loopw [5] (fun i wr => ∃ k : Nat, k ≤ len ∧ i = .int .i64 k ∧ Below w.heap.size w wr) (fun i _ => len - (intOf i).toNat)
  case atStart => exact ⟨0, Nat.zero_le _, rfl, Below.refl _ _⟩
  case round =>
    obtain ⟨k, hk, rfl, hb⟩ := hrel
    by_cases hlt : k < len
    · obtain ⟨b1, o1, ha1, hb1, hc1⟩ := hR.cells (by omega)
      obtain ⟨b2, o2, ha2, hb2, hc2⟩ := hQ.cells (by omega)
      have g1 := (hb.cell (p := ⟨b1, o1 + k, none⟩) (by show b1 < _; omega)).trans (hc1 k hlt)
      have g2 := (hb.cell (p := ⟨b2, o2 + k, none⟩) (by show b2 < _; omega)).trans (hc2 k hlt)
      simp only [List.getD_eq_getElem?_getD] at g1 g2
      have HB := Lib.hid hb
      clear hc1 hc2 hb hR hQ
      subst ha1
      subst ha2
      go_wp2_with fail
      go_quiet (fail)
      go_wp2_with fail
      go_roundw
      case rel => exact ⟨k + 1, by omega, by go_num, bdrewN HB.out _⟩
      case measure => simp [intOf]; omega
    · go_wp2_with fail
      go_ret
      exact ⟨rfl, hb⟩

end Go.Proofs.Ytefgimpodhjdpab
