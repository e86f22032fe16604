/- Draws of names and supplied keys. Conditions: as each theorem states. -/
import Derived.Test.YtdkgiiikcapjcaaDoorC5h
import Derived.Test.YtdkgiiikcapjcaaDoorC5j
import Derived.Test.YtdkgiiikcapjcaaDoorD2
namespace Go.Proofs.YtdkgiiikcapjcaaDoor
open Go.RowKit
set_option maxRecDepth 100000
set_option linter.unusedVariables false

abbrev bentN : List ByteArray := [{ data := #[97, 46, 98] }, { data := #[65, 46, 66, 46] }, { data := #[109, 97, 105, 108, 46, 120] }, { data := #[45, 97] }, { data := #[97, 45] }, { data := #[97, 46, 46, 98] }, { data := #[46] }, { data := #[] }, { data := #[97, 95, 98] }, { data := #[97, 98, 99, 100, 101, 102, 103, 104, 105, 106, 46, 97, 98, 99, 100, 101, 102, 103, 104, 105] }, { data := #[97, 98, 99, 100, 101, 102, 103, 104, 105, 106, 46, 97, 98, 99, 100, 101, 102, 103, 104, 105, 106] }, { data := #[122, 46] }]
abbrev drawN : List ByteArray := [{ data := #[97, 46, 98] }, { data := #[109, 97, 105, 108, 46, 120] }, { data := #[104, 111, 115, 116, 45, 49] }, { data := #[122] }]
theorem bentN_size (k : Nat) : ((bentN.getD k ByteArray.empty).size) ≤ 21 := by
  rcases Nat.lt_or_ge k 12 with h | h
  · have : ∀ j : Fin 12, ((bentN.getD j.val ByteArray.empty).size) ≤ 21 := by decide
    exact this ⟨k, h⟩
  · have : bentN.getD k ByteArray.empty = ByteArray.empty := by simp [List.getD, h]
    rw [this]; decide
theorem drawN_size (k : Nat) : ((drawN.getD k ByteArray.empty).size) ≤ 20 := by
  rcases Nat.lt_or_ge k 4 with h | h
  · have : ∀ j : Fin 4, ((drawN.getD j.val ByteArray.empty).size) ≤ 20 := by decide
    exact this ⟨k, h⟩
  · have : drawN.getD k ByteArray.empty = ByteArray.empty := by simp [List.getD, h]
    rw [this]; decide
theorem drawN_norm (k : Nat) (h : k < 4) : M.normF (drawN.getD k ByteArray.empty).data.toList = 0 := by
  have : ∀ j : Fin 4, M.normF (drawN.getD j.val ByteArray.empty).data.toList = 0 := by decide +kernel
  exact this ⟨k, h⟩

theorem gtr {w w1 w2 : World} {g : Nat} (h : w.grownBy w1 (some g)) (k : w1.grownBy w2 (some g)) : w.grownBy w2 (some g) := grown_trans h k (fun _ e => .inr e) (fun _ e => .inr e)
theorem gal {w w1 : World} {g : Nat} (h : w.grownBy w1 (some g)) (o : Obj) : w.grownBy (w1.alloc o) (some g) :=
  ⟨h.os, h.tape, h.output, Nat.le_trans h.size (by simp), fun k hk hne => (Below.heap_alloc w1 o k (Nat.lt_of_lt_of_le hk h.size)).trans (h.block k hk hne)⟩
theorem gbe {w w1 w2 : World} {g : Nat} (h : w.grownBy w1 (some g)) (k : Below w1.heap.size w1 w2) : w.grownBy w2 (some g) :=
  ⟨k.os.trans h.os, k.tape.trans h.tape, k.output.trans h.output, Nat.le_trans h.size k.size, fun i hi hne => (k.block i (Nat.lt_of_lt_of_le hi h.size)).trans (h.block i hi hne)⟩
theorem gset {w w1 : World} {g : Nat} (h : w.grownBy w1 (some g)) {p : Addr} (hp : w.heap.size ≤ p.block) (v : Value) : w.grownBy (w1.setCell p v) (some g) :=
  ⟨h.os, h.tape, h.output, by simpa [World.setCell] using h.size, fun k hk hne => (Below.heap_setCell w1 p v k (by omega)).trans (h.block k hk hne)⟩

theorem Draw.put {w0 : World} {a : Option Addr} {len cap : Nat} {zs : List Int} {p : Nat} {w : World} {x : Addr} (h : Draw w0 a len cap zs p w) (hx : w0.heap.size < x.block) (u : Value) : Draw w0 a len cap zs p (w.setCell x u) :=
  h.grown (row := some x.block) ⟨rfl, rfl, rfl, by simp [World.setCell], fun k hk hne => Below.heap_setCell w x u k (fun e => hne (by rw [e]))⟩ (fun k e => by injection e with e; omega)
theorem At.only5 {g g0 : Nat} {cs : List Value} {w w' : World} (h : At g cs w) (hO : Only g0 w w') (hg : g ≠ g0) : At g cs w' := h.keep fun _ => hO.block g hg
/-- A text was drawn. -/
def DText (Q : ByteArray → Prop) (w0 : World) (a : Option Addr) (len cap : Nat) (zs : List Int) (p : Nat) (w : World) (r : Ending) (w' : World) : Prop :=
  ∃ s : ByteArray, Q s ∧ r = .returned (.string s) ∧ Draw w0 a len cap zs (p + 1) w' ∧ w.grownBy w' (some w0.heap.size)
theorem dl5Bent {w0 : World} {a : Option Addr} {len cap : Nat} {zs : List Int} {p : Nat} {w : World} (D : Draw w0 a len cap zs p w) (hp : p ≤ 1000000) :
    Calls Tryd.prog 40 #[.pointer (some ⟨w0.heap.size, 0, none⟩)] w (DText (fun s => s.size ≤ 21) w0 a len cap zs p w) := by
  have hlt := D.lt
  have D1 := D.alloc (.cells (bentN.map Value.string).toArray 9)
  go_enter Tryd.func40, Tryd.ntmps40
  go_wp2_with fail
  refine (dnext _ D1 hp).mono ?_
  rintro r w2 ⟨x, x0, x1, rfl, D2, O2⟩
  obtain ⟨k, rfl⟩ := Int.eq_ofNat_of_zero_le x0
  have hk : k < 12 := by omega
  have hcell : w2.cell? ⟨w.heap.size, k, none⟩ = some (.string (bentN.getD k ByteArray.empty)) := by
    have e1 : (w.alloc (.cells (bentN.map Value.string).toArray 9)).heap[w.heap.size]? = some (.cells (bentN.map Value.string).toArray 9) := (MapKept.heap_alloc w _).1
    have e2 := O2.block w.heap.size (by omega)
    unfold World.cell?
    rw [e2, e1]
    have : k < bentN.length := hk
    simp only [Option.isSome_none, Bool.false_eq_true, if_false, List.getElem?_toArray, List.getElem?_map]
    rw [List.getElem?_eq_getElem this]
    simp [List.getD, List.getElem?_eq_getElem this]
  have hsz := bentN_size k
  generalize bentN.getD k ByteArray.empty = s at hcell hsz
  have HF := Lib.hid (And.intro D2 (grown_alloc O2.grown))
  have HS := Lib.hid hsz
  clear D D1 D2 O2 x0 x1 hsz
  go_wp2_with fail
  go_ret
  exact ⟨s, HS.out, rfl, HF.out.1, HF.out.2⟩

theorem dl5DrawName {w0 : World} {a : Option Addr} {len cap : Nat} {zs : List Int} {p : Nat} {w : World} (D : Draw w0 a len cap zs p w) (hp : p ≤ 1000000) :
    Calls Tryd.prog 70 #[.pointer (some ⟨w0.heap.size, 0, none⟩)] w (DText (fun s => s.size ≤ 20 ∧ M.normF s.data.toList = 0) w0 a len cap zs p w) := by
  have hlt := D.lt
  have D1 := D.alloc (.cells (drawN.map Value.string).toArray 9)
  go_enter Tryd.func70, Tryd.ntmps70
  go_wp2_with fail
  refine (dnext _ D1 hp).mono ?_
  rintro r w2 ⟨x, x0, x1, rfl, D2, O2⟩
  obtain ⟨k, rfl⟩ := Int.eq_ofNat_of_zero_le x0
  have hk : k < 4 := by omega
  have hcell : w2.cell? ⟨w.heap.size, k, none⟩ = some (.string (drawN.getD k ByteArray.empty)) := by
    have e1 : (w.alloc (.cells (drawN.map Value.string).toArray 9)).heap[w.heap.size]? = some (.cells (drawN.map Value.string).toArray 9) := (MapKept.heap_alloc w _).1
    have e2 := O2.block w.heap.size (by omega)
    unfold World.cell?
    rw [e2, e1]
    have : k < drawN.length := hk
    simp only [Option.isSome_none, Bool.false_eq_true, if_false, List.getElem?_toArray, List.getElem?_map]
    rw [List.getElem?_eq_getElem this]
    simp [List.getD, List.getElem?_eq_getElem this]
  have hsz := And.intro (drawN_size k) (drawN_norm k hk)
  generalize drawN.getD k ByteArray.empty = s at hcell hsz
  have HF := Lib.hid (And.intro D2 (grown_alloc O2.grown))
  have HS := Lib.hid hsz
  clear D D1 D2 O2 x0 x1 hsz
  go_wp2_with fail
  go_ret
  exact ⟨s, HS.out, rfl, HF.out.1, HF.out.2⟩

theorem key1 (a b : Int) (w : World) : Sem.run Tryd.prog (Instr.field 71 (.agg #[.int .i64 a, .int .i64 b]) 1) w = .ok (.int .i64 b) w := by kernel_rfl
theorem base_sum (n : Nat) : M.sumB (M.pw 4 n 2879) = true := by
  obtain ⟨h0, h1⟩ := M.pw_bd 4 n (m := 2879) (by omega)
  simp only [M.sumB, decide_eq_true_eq]
  omega
/-- A supplied key was drawn. -/
def DTlsa (K : Nat) (Q : ByteArray → Int → Int → Int → Prop) (w0 : World) (a : Option Addr) (len cap : Nat) (zs : List Int) (w : World) (r : Ending) (w' : World) : Prop :=
  ∃ (n : ByteArray) (u m v : Int) (p : Nat), Q n u m v ∧ p ≤ K ∧ r = .returned (T4 n u m v) ∧ Draw w0 a len cap zs p w' ∧ w.grownBy w' (some w0.heap.size)
theorem dl5DrawTlsa {w0 : World} {a : Option Addr} {len cap : Nat} {zs : List Int} {w : World} (D : Draw w0 a len cap zs 0 w) :
    Calls Tryd.prog 43 #[.pointer (some ⟨w0.heap.size, 0, none⟩)] w (DTlsa 4 (fun n u m v => M.tlsaF n.data.toList u m v = 0) w0 a len cap zs w) := by
  have g1 := key1
  have hlt := D.lt
  have D0 := D.alloc (.cells #[.string { data := #[] }, .int .i64 0, .int .i64 0, .int .i64 0] 30)
  have A0 := At.new w (TL4 { data := #[] } 0 0 0) 30
  have G0 := gal (World.grownBy.refl w (some w0.heap.size)) (.cells #[.string { data := #[] }, .int .i64 0, .int .i64 0, .int .i64 0] 30)
  go_enter Tryd.func43, Tryd.ntmps43
  go_wp2_with fail
  generalize w.alloc (.cells #[.string { data := #[] }, .int .i64 0, .int .i64 0, .int .i64 0] 30) = W0 at *
  refine (dnext 2 D0 (by omega)).mono ?_
  rintro r w1 ⟨m, m0, m1, rfl, D1, O1⟩
  have hm1 : m < 2 := by omega
  have G1 := gtr G0 O1.grown
  have A1 := A0.only5 O1 (by omega)
  clear D D0 O1 m1 A0 G0
  go_wp2_with fail
  refine (dl5DrawName D1 (by omega)).mono ?_
  rintro r w2 ⟨n, hn, rfl, D2, g2⟩
  have HN := Lib.hid hn
  have G2 := gtr G1 g2
  have A2 := A1.kept g2 (fun e => by injection e with e; omega)
  clear D1 hn g2 A1 G1
  go_wp2_with fail
  refine (dpick [3, 3, 3, 1] 4 D2 (by omega) (by omega) (by omega) rfl 2).mono ?_
  rintro r w3 ⟨u, hu, rfl, D3, O3⟩
  have HU := Lib.hid (show 0 ≤ u ∧ u ≤ 3 by simp at hu; omega)
  have G3 := gtr (gal G2 (.cells #[.int .i64 3, .int .i64 3, .int .i64 3, .int .i64 1] 2)) O3.grown
  have A3 := (A2.alloc (.cells #[.int .i64 3, .int .i64 3, .int .i64 3, .int .i64 1] 2)).only5 O3 (by omega)
  clear D2 hu O3 A2 G2
  go_wp2_with fail
  refine (dnext 3 D3 (by omega)).mono ?_
  rintro r w4 ⟨x, x0, x1, rfl, D4, O4⟩
  have G4 := gtr G3 O4.grown
  have A4 := A3.only5 O4 (by omega)
  have hx : x < 3 := by omega
  clear D3 O4 x1 A3 G3
  go_wp2_with fail
  refine (l1Key_any _ _ (by omega) (by omega)).mono ?_
  rintro r w5 ⟨rfl, b5⟩
  have D5 := D4.below b5
  have G5 := gbe G4 b5
  have A5 := A4.on b5
  have hs := base_sum (1 + x).toNat
  have V := fun w => l5Value_any (M.pw 4 (1 + x).toNat 2879) m w hs
  have hv := M.valM_sum (m := m) hs
  generalize M.valM (M.pw 4 (1 + x).toNat 2879) m = v at *
  generalize M.pw 4 (1 + x).toNat 2879 = pp at *
  have HV := Lib.hid hv
  clear D4 b5 hv hs A4 G4
  go_wp2_with fail
  refine (V _).mono ?_
  rintro r w6 ⟨rfl, b6⟩
  have D6 := D5.below b6
  have G6 := gbe G5 b6
  have q0 := (A5.on b6).cell 0 _ rfl
  have q1 := (A5.on b6).cell 1 _ rfl
  have q2 := (A5.on b6).cell 2 _ rfl
  have q3 := (A5.on b6).cell 3 _ rfl
  have z0 := (A5.on b6).free 0 _ rfl
  have z1 := (A5.on b6).free 1 _ rfl
  have z2 := (A5.on b6).free 2 _ rfl
  have z3 := (A5.on b6).free 3 _ rfl
  have lt6 : w.heap.size < w6.heap.size := (A5.on b6).lt (by simp)
  have HD := Lib.hid (And.intro D6 G6)
  clear D5 D6 G5 G6 b6 A5 V
  go_wp2_with fail
  refine bodyPost_ret (v := T4 n u m v) (by simp [results, Tryd.results43, go_sem, q0, q1, q2, q3]) rfl ?_
  refine ⟨n, u, m, v, 4, ?_, Nat.le_refl _, rfl, ?_, ?_⟩
  · exact M.tlsaF_yes HN.out.2 (by
      rw [M.tlsaB_eq, HV.out]
      have := HU.out
      simp [M.useB, M.matB]
      omega)
  · iterate 4 (refine Draw.put ?_ (by dsimp only; omega) _)
    exact HD.out.1
  · iterate 4 (refine gset ?_ (Nat.le_refl _) _)
    exact HD.out.2
end Go.Proofs.YtdkgiiikcapjcaaDoor
