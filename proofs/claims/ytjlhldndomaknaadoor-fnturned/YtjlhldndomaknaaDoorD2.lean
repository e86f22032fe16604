/- Contracts of the draws that the laws of chapter 2 choose their inputs by. Conditions: as each theorem states. -/
import Derived.Test.YtjlhldndomaknaaDoorD1
import Derived.Test.YtjlhldndomaknaaDoorOwn2
namespace Go.Proofs.YtjlhldndomaknaaDoor
open Go.RowKit
set_option maxRecDepth 100000

theorem Own.only {g : Nat} {w w' : World} {B size : Nat} {v : Value} {n : Nat} {xs : List Value} (h : Own w B size v n xs) (hO : Only g w w') (hg : g < B) : Own w' B size v n xs :=
  h.keep (by rw [hO.size]; exact Nat.le_refl _) fun k hk => hO.block k (by have := (h.lt k hk).1; omega)
theorem Only.grown {g : Nat} {w w' : World} (h : Only g w w') : w.grownBy w' (some g) := ⟨h.os, h.tape, h.output, by rw [h.size]; exact Nat.le_refl _, fun k _ hne => h.block k (fun e => hne (by rw [e]))⟩
section
variable {w0 : World} {a : Option Addr} {len cap : Nat} {zs : List Int} {p : Nat} {w w' : World}
theorem Draw.lt (h : Draw w0 a len cap zs p w) : w0.heap.size < w.heap.size := h.src.lt
theorem Draw.grown {row : Option Nat} (h : Draw w0 a len cap zs p w) (hg : w.grownBy w' row) (hr : ∀ k, row = some k → w0.heap.size < k) : Draw w0 a len cap zs p w' :=
  ⟨h.src.keep (hg.block _ h.lt (fun e => by have := hr _ e.symm; omega)),
   h.row.keep (fun i hi => hg.block i (by have := h.lt; omega) (fun e => by have := hr _ e.symm; omega)),
   h.bel.grown hg h.bel.size (fun k hk => by have := hr k hk; omega)⟩
end

/-- Bytes that were drawn, in new memory. -/
def DSome (w0 : World) (a : Option Addr) (len cap : Nat) (zs : List Int) (p n : Nat) (w : World) (r : Ending) (w' : World) : Prop :=
  ∃ a' c' zs', r = .returned (.slice a' n c') ∧ OwnK .u8 w' w.heap.size (.slice a' n c') zs' ∧ (∀ z ∈ zs', (Lit.int .u8 z).wf = true) ∧ Draw w0 a len cap zs (p + n) w' ∧ w.grownBy w' (some w0.heap.size)
structure SomeRel (w0 : World) (a : Option Addr) (len cap : Nat) (zs : List Int) (p : Nat) (w : World) (k : Nat) (v : Value) (wr : World) : Prop where
  own : ∃ zs', zs'.length = k ∧ OwnK .u8 wr w.heap.size v zs' ∧ ∀ z ∈ zs', (Lit.int .u8 z).wf = true
  draw : Draw w0 a len cap zs (p + k) wr
  grew : w.grownBy wr (some w0.heap.size)
theorem u8_wf {x : Int} (h0 : 0 ≤ x) (h1 : x < 256) : (Lit.int .u8 x).wf = true := byte_wf ⟨h0, by omega⟩

theorem dsome {w0 : World} {a : Option Addr} {len cap : Nat} {zs : List Int} {p : Nat} (n : Nat) {w : World} (D : Draw w0 a len cap zs p w) (hp : p ≤ 1000) (hn : n ≤ 2000) :
    Calls Tryd.prog 86 #[.pointer (some ⟨w0.heap.size, 0, none⟩), .int .i64 n] w (DSome w0 a len cap zs p n w) := by
  obtain ⟨i0, hi0, hz0, hz1, hz2⟩ := info_parts u8_info
  have hlt0 := D.lt
  have T0 : SomeRel w0 a len cap zs p w 0 (.slice (some ⟨w.heap.size, 0, none⟩) 0 0) (w.alloc (.cells #[] 5)) :=
    ⟨⟨[], rfl, own_empty w 5, (fun _ h => by cases h)⟩, D.alloc _, World.grownBy_alloc w _ _⟩
  clear D
  go_enter Tryd.func86, Tryd.ntmps86
  go_wp2_with fail
  generalize w.alloc (.cells #[] 5) = W1 at *
  go_loopw [1, 5] (fun q v wr => ∃ k : Nat, k ≤ n ∧ q = .int .i64 ((n : Int) - k) ∧ SomeRel w0 a len cap zs p w k v wr) (fun q _ _ => (intOf q).toNat)
  case atStart => exact ⟨0, Nat.zero_le _, by go_num, T0⟩
  case round =>
    obtain ⟨k, hk, rfl, hT⟩ := hrel
    obtain ⟨zs', hzl, hO, hwf⟩ := hT.own
    have HT := Lib.hid hT
    have HZ := Lib.hid hzl
    have HWF := Lib.hid hwf
    have D := hT.draw
    clear hT hzl hwf
    by_cases hlt : k < n
    · have hpos : 0 < (n : Int) - k := by omega
      have hszr := HT.out.grew.size
      go_wp2_with fail
      refine (dnext _ D (by omega)).mono ?_
      rintro r w2 ⟨x, x0, x1, rfl, D2, O2⟩
      have x2 : x < 256 := by omega
      have hO2 := hO.only O2 hlt0
      have hs2 := O2.size
      have HS2 := Lib.hid hs2
      have hle2 : w.heap.size ≤ w2.heap.size := by omega
      have hlen : zs'.length ≤ 2000 := by have := HZ.out; omega
      have HG2 := Lib.hid (grown_trans HT.out.grew O2.grown (row := some w0.heap.size) (fun g hg => .inr hg) (fun g hg => .inr hg))
      clear x1 D O2 hs2 hO
      go_wp2_with (at_builtin; refine wpList_append_src _ rfl (.tmp 11) (.tmp 15) 22 22 rfl w.heap.size 5 i0 (.int .u8 0) 1 1 Tryd.underlying22 hi0 hz0 hz1 hz2 rfl _ _ _ rfl (hO2.alloc _) _ 1 [.int .u8 x] rfl (src_new w2 _ 1 1 _ _ _ Tryd.underlying22 rfl (ints_oneCell .u8 [x])) (by simp only [maxLen]; omega) (by omega) (by simp; omega) ?_; intro v3 w3 hown hgrow hat)
      have T2 : SomeRel w0 a len cap zs p w (k + 1) v3 w3 := by
        refine ⟨⟨zs' ++ [x], by simp [HZ.out], by unfold OwnK; simpa using hown, fun z hz => ?_⟩, ?_, ?_⟩
        · rcases List.mem_append.1 hz with hz | hz
          · exact HWF.out z hz
          · simp at hz; subst hz; exact u8_wf x0 x2
        · exact (D2.alloc _).grown hgrow (fun g hg => by have := (hO2.lt g hg).1; omega)
        · exact grown_trans HG2.out (grown_alloc hgrow) (row := some w0.heap.size) (fun g hg => .inr hg) (fun g hg => .inl (hO2.lt g hg).1)
      clear hown hgrow hat hO2 D2 hlen
      go_wp2_with fail
      go_roundw
      case rel => exact ⟨k + 1, by omega, by go_num, T2⟩
      case measure => simp [intOf]; omega
    · obtain rfl : k = n := by omega
      obtain ⟨a', c', hv, -⟩ := hO.form
      rw [HZ.out] at hv
      have HO := Lib.hid hO
      clear hO D
      subst hv
      go_wp2_with fail
      go_ret
      exact ⟨a', c', zs', rfl, HO.out, HWF.out, HT.out.draw, HT.out.grew⟩

abbrev labS : List ByteArray := [{ data := #[107, 101, 121] }, { data := #[105, 118] }, { data := #[97] }, { data := #[] }, { data := #[116, 104, 105, 114, 116, 101, 101, 110, 99, 104, 97, 114, 115] }, { data := #[75] }, { data := #[116, 119, 101, 108, 118, 101, 99, 104, 97, 114, 115, 115] }]
theorem labS_size (k : Nat) : ((labS.getD k ByteArray.empty).size) ≤ 13 := by
  rcases Nat.lt_or_ge k 7 with h | h
  · have : ∀ j : Fin 7, ((labS.getD j.val ByteArray.empty).size) ≤ 13 := by decide
    exact this ⟨k, h⟩
  · have : labS.getD k ByteArray.empty = ByteArray.empty := by simp [List.getD, h]
    rw [this]; decide
def DLabel (w0 : World) (a : Option Addr) (len cap : Nat) (zs : List Int) (p : Nat) (w : World) (r : Ending) (w' : World) : Prop :=
  ∃ s : ByteArray, s.size ≤ 13 ∧ r = .returned (.string s) ∧ Draw w0 a len cap zs (p + 1) w' ∧ w.grownBy w' (some w0.heap.size)
theorem dlabel {w0 : World} {a : Option Addr} {len cap : Nat} {zs : List Int} {p : Nat} {w : World} (D : Draw w0 a len cap zs p w) (hp : p ≤ 1000000) :
    Calls Tryd.prog 82 #[.pointer (some ⟨w0.heap.size, 0, none⟩)] w (DLabel w0 a len cap zs p w) := by
  have hlt := D.lt
  have D1 := D.alloc (.cells (labS.map Value.string).toArray 9)
  go_enter Tryd.func82, Tryd.ntmps82
  go_wp2_with fail
  refine (dnext _ D1 hp).mono ?_
  rintro r w2 ⟨x, x0, x1, rfl, D2, O2⟩
  obtain ⟨k, rfl⟩ := Int.eq_ofNat_of_zero_le x0
  have hk : k < 7 := by omega
  have hcell : w2.cell? ⟨w.heap.size, k, none⟩ = some (.string (labS.getD k ByteArray.empty)) := by
    have e1 : (w.alloc (.cells (labS.map Value.string).toArray 9)).heap[w.heap.size]? = some (.cells (labS.map Value.string).toArray 9) := (MapKept.heap_alloc w _).1
    have e2 := O2.block w.heap.size (by omega)
    unfold World.cell?
    rw [e2, e1]
    have : k < labS.length := hk
    simp only [Option.isSome_none, Bool.false_eq_true, if_false, List.getElem?_toArray, List.getElem?_map]
    rw [List.getElem?_eq_getElem this]
    simp [List.getD, List.getElem?_eq_getElem this]
  have hsz := labS_size k
  generalize labS.getD k ByteArray.empty = s at hcell hsz
  have HF := Lib.hid (And.intro D2 (grown_alloc O2.grown))
  clear D D1 D2 O2 x0 x1
  go_wp2_with fail
  go_ret
  exact ⟨s, hsz, rfl, HF.out.1, HF.out.2⟩

def DrawnKL (w : World) (r : Ending) (w' : World) : Prop := ∃ (k : Int) (s : ByteArray), r = .returned (.tuple #[.int .i64 k, .string s]) ∧ s.size ≤ 13 ∧ Below w.heap.size w w'
def DrawnRow (w : World) (r : Ending) (w' : World) : Prop := ∃ a n c zs, r = .returned (.slice a n c) ∧ Row .u8 w' w'.heap.size a n c zs ∧ Below w.heap.size w w'
def DrawnGrid (w : World) (r : Ending) (w' : World) : Prop := ∃ a n c zss, r = .returned (.slice a n c) ∧ Grid w' w'.heap.size a n c zss ∧ Below w.heap.size w w'
def DrawnSI (w : World) (r : Ending) (w' : World) : Prop := ∃ (s : ByteArray) (a : Option Addr) (n c : Nat) (zs : List Int), r = .returned (.tuple #[.string s, .slice a n c]) ∧ s.size ≤ 13 ∧ Row .i64 w' w'.heap.size a n c zs ∧ Below w.heap.size w w'

theorem DrawDeriveKey_any {a : Option Addr} {len cap : Nat} {zs : List Int} {w : World} (hR : Row .u8 w w.heap.size a len cap zs) :
    Calls Tryd.prog 15 #[.slice a len cap] w (DrawnKL w) := by
  go_enter Tryd.func15, Tryd.ntmps15
  go_wp2_with fail
  refine (dsource hR).mono ?_
  rintro r w1 ⟨rfl, D⟩
  go_wp2_with fail
  refine (dnext _ D (by omega)).mono ?_
  rintro r w2 ⟨x, x0, x1, rfl, D2, O2⟩
  go_wp2_with fail
  refine (dpick [x, 65520, 65521, -1] 4 D2 (by omega) (by omega) (by omega) rfl 2).mono ?_
  rintro r w3 ⟨m, hm, rfl, D3, O3⟩
  have HM := Lib.hid hm
  clear hm D D2 O2 O3 x0 x1
  go_wp2_with fail
  refine (dlabel D3 (by omega)).mono ?_
  rintro r w4 ⟨s, hs, rfl, D4, G4⟩
  have HD := Lib.hid D4.bel
  clear D3 D4 G4
  go_wp2_with fail
  go_ret2
  exact ⟨_, _, rfl, hs, HD.out⟩

theorem DrawSameSum_any {a : Option Addr} {len cap : Nat} {zs : List Int} {w : World} (hR : Row .u8 w w.heap.size a len cap zs) :
    Calls Tryd.prog 21 #[.slice a len cap] w (Drawn2 w) := by
  go_enter Tryd.func21, Tryd.ntmps21
  go_wp2_with fail
  refine (dsource hR).mono ?_
  rintro r w1 ⟨rfl, D⟩
  go_wp2_with fail
  refine (dpick [5, 0, 65520, 65521, -1] 5 D (by omega) (by omega) (by omega) rfl 2).mono ?_
  rintro r w2 ⟨x, hx, rfl, D2, O2⟩
  have HX := Lib.hid hx
  clear hx D O2
  go_wp2_with fail
  refine (dpick [x, x, 5] 3 D2 (by omega) (by omega) (by omega) rfl 2).mono ?_
  rintro r w3 ⟨y, hy, rfl, D3, O3⟩
  have HD := Lib.hid D3.bel
  clear hy D2 D3 O3
  go_wp2_with fail
  go_ret2
  exact ⟨_, _, rfl, HD.out⟩

theorem DrawStreamOf_any {a : Option Addr} {len cap : Nat} {zs : List Int} {w : World} (hR : Row .u8 w w.heap.size a len cap zs) :
    Calls Tryd.prog 30 #[.slice a len cap] w (Drawn3 w) := by
  go_enter Tryd.func30, Tryd.ntmps30
  go_wp2_with fail
  refine (dsource hR).mono ?_
  rintro r w1 ⟨rfl, D⟩
  go_wp2_with fail
  refine (dnext _ D (by omega)).mono ?_
  rintro r w2 ⟨x, x0, x1, rfl, D2, O2⟩
  go_wp2_with fail
  refine (dpick [x, 65521] 2 D2 (by omega) (by omega) (by omega) rfl 2).mono ?_
  rintro r w3 ⟨k, hk, rfl, D3, O3⟩
  have HK := Lib.hid hk
  clear hk D D2 O2 O3 x0 x1
  go_wp2_with fail
  refine (dpick [0, 1, 65520, 65521] 4 D3 (by omega) (by omega) (by omega) rfl 2).mono ?_
  rintro r w4 ⟨y, hy, rfl, D4, O4⟩
  have HY := Lib.hid hy
  clear hy D3 O4
  go_wp2_with fail
  refine (dpick [0, 3, 200, 201, -1] 5 D4 (by omega) (by omega) (by omega) rfl 2).mono ?_
  rintro r w5 ⟨z, hz, rfl, D5, O5⟩
  have HD := Lib.hid D5.bel
  clear hz D4 D5 O5
  go_wp2_with fail
  go_ret3
  exact ⟨_, _, _, rfl, HD.out⟩

theorem DrawSumOf_any {a : Option Addr} {len cap : Nat} {zs : List Int} {w : World} (hR : Row .u8 w w.heap.size a len cap zs) :
    Calls Tryd.prog 20 #[.slice a len cap] w (DrawnRow w) := by
  go_enter Tryd.func20, Tryd.ntmps20
  go_wp2_with fail
  refine (dsource hR).mono ?_
  rintro r w1 ⟨rfl, D⟩
  go_wp2_with fail
  refine (dnext _ D (by omega)).mono ?_
  rintro r w2 ⟨x, x0, x1, rfl, D2, O2⟩
  go_wp2_with fail
  refine (dpick [x, 0, 1000, 1001] 4 D2 (by omega) (by omega) (by omega) rfl 2).mono ?_
  rintro r w3 ⟨m, hm, rfl, D3, O3⟩
  have hm2 : 0 ≤ m ∧ m ≤ 2000 := by simp at hm; omega
  obtain ⟨m0, m1⟩ := hm2
  obtain ⟨q, rfl⟩ := Int.eq_ofNat_of_zero_le m0
  clear hm D D2 O2 O3 x0 x1
  go_wp2_with fail
  refine (dsome q D3 (by omega) (by omega)).mono ?_
  rintro r w4 ⟨a', c', zs', rfl, hO, hwf, D4, G4⟩
  have HR := Lib.hid (Own.row hO hwf)
  have HD := Lib.hid D4.bel
  clear D3 D4 G4 hO hwf
  go_wp2_with fail
  go_ret
  exact ⟨a', _, c', zs', rfl, HR.out, HD.out⟩

end Go.Proofs.YtjlhldndomaknaaDoor
