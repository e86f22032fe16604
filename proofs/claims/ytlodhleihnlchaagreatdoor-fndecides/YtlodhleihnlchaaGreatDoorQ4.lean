/- Texts of this seat that several laws rest on, laid into one. Conditions: as each theorem states. -/
import Derived.Test.YtlodhleihnlchaaGreatDoorQ0
import Derived.Test.YtlodhleihnlchaaGreatDoorQ1
import Derived.Test.YtlodhleihnlchaaGreatDoorQ3
namespace Go.Proofs.YtlodhleihnlchaaGreatDoor
open Go.RowKit
set_option maxRecDepth 100000

theorem Own.only {g : Nat} {w w' : World} {B size : Nat} {v : Value} {n : Nat} {xs : List Value} (h : Own w B size v n xs) (hO : Only g w w') (hg : g < B) : Own w' B size v n xs :=
  h.keep (by rw [hO.size]; exact Nat.le_refl _) fun k hk => hO.block k (by have := (h.lt k hk).1; omega)
theorem Only.grown {g : Nat} {w w' : World} (h : Only g w w') : w.grownBy w' (some g) := ⟨h.os, h.tape, h.output, by rw [h.size]; exact Nat.le_refl _, fun k _ hne => h.block k (fun e => hne (by rw [e]))⟩
section
variable {w0 : World} {a : Option Addr} {len cap : Nat} {zs : List Int} {p : Nat} {w w' : World}
theorem Draw.lt (h : Draw w0 a len cap zs p w) : w0.heap.size < w.heap.size := h.src.lt
theorem Draw.grown {row : Option Nat} (h : Draw w0 a len cap zs p w) (hg : w.grownBy w' row) (hr : ∀ k, row = some k → w0.heap.size < k) : Draw w0 a len cap zs p w' :=
  ⟨h.src.keep (hg.block _ h.lt (fun e => by have := hr _ e.symm; omega)),
   h.row.keep (fun i hi => hg.block i (by have := h.lt; omega) (fun e => by have := hr _ e.symm; omega)),
   h.bel.grown hg h.bel.size (fun k hk => by have := hr k hk; omega)⟩
end

end Go.Proofs.YtlodhleihnlchaaGreatDoor
namespace Go.Proofs.YtlodhleihnlchaaGreatDoor
open Go.RowKit
set_option maxRecDepth 100000
set_option linter.unusedVariables false

abbrev bentN : List ByteArray := [{ data := #[97, 46, 98] }, { data := #[65, 46, 66, 46] }, { data := #[109, 97, 105, 108, 46, 120] }, { data := #[45, 97] }, { data := #[97, 45] }, { data := #[97, 46, 46, 98] }, { data := #[46] }, { data := #[] }, { data := #[97, 95, 98] }, { data := #[97, 98, 99, 100, 101, 102, 103, 104, 105, 106, 46, 97, 98, 99, 100, 101, 102, 103, 104, 105] }, { data := #[97, 98, 99, 100, 101, 102, 103, 104, 105, 106, 46, 97, 98, 99, 100, 101, 102, 103, 104, 105, 106] }, { data := #[122, 46] }]
abbrev drawN : List ByteArray := [{ data := #[97, 46, 98] }, { data := #[109, 97, 105, 108, 46, 120] }, { data := #[104, 111, 115, 116, 45, 49] }, { data := #[122] }]
theorem bentN_size (k : Nat) : ((bentN.getD k ByteArray.empty).size) ≤ 21 := by
  rcases Nat.lt_or_ge k 12 with h | h
  · have : ∀ j : Fin 12, ((bentN.getD j.val ByteArray.empty).size) ≤ 21 := by decide
    exact this ⟨k, h⟩
  · have : bentN.getD k ByteArray.empty = ByteArray.empty := by simp [List.getD, h]
    rw [this]; decide
theorem drawN_size (k : Nat) : ((drawN.getD k ByteArray.empty).size) ≤ 20 := by
  rcases Nat.lt_or_ge k 4 with h | h
  · have : ∀ j : Fin 4, ((drawN.getD j.val ByteArray.empty).size) ≤ 20 := by decide
    exact this ⟨k, h⟩
  · have : drawN.getD k ByteArray.empty = ByteArray.empty := by simp [List.getD, h]
    rw [this]; decide
theorem drawN_norm (k : Nat) (h : k < 4) : M.normF (drawN.getD k ByteArray.empty).data.toList = 0 := by
  have : ∀ j : Fin 4, M.normF (drawN.getD j.val ByteArray.empty).data.toList = 0 := by decide +kernel
  exact this ⟨k, h⟩

theorem gtr {w w1 w2 : World} {g : Nat} (h : w.grownBy w1 (some g)) (k : w1.grownBy w2 (some g)) : w.grownBy w2 (some g) := grown_trans h k (fun _ e => .inr e) (fun _ e => .inr e)
theorem gal {w w1 : World} {g : Nat} (h : w.grownBy w1 (some g)) (o : Obj) : w.grownBy (w1.alloc o) (some g) :=
  ⟨h.os, h.tape, h.output, Nat.le_trans h.size (by simp), fun k hk hne => (Below.heap_alloc w1 o k (Nat.lt_of_lt_of_le hk h.size)).trans (h.block k hk hne)⟩
theorem gbe {w w1 w2 : World} {g : Nat} (h : w.grownBy w1 (some g)) (k : Below w1.heap.size w1 w2) : w.grownBy w2 (some g) :=
  ⟨k.os.trans h.os, k.tape.trans h.tape, k.output.trans h.output, Nat.le_trans h.size k.size, fun i hi hne => (k.block i (Nat.lt_of_lt_of_le hi h.size)).trans (h.block i hi hne)⟩
theorem gset {w w1 : World} {g : Nat} (h : w.grownBy w1 (some g)) {p : Addr} (hp : w.heap.size ≤ p.block) (v : Value) : w.grownBy (w1.setCell p v) (some g) :=
  ⟨h.os, h.tape, h.output, by simpa [World.setCell] using h.size, fun k hk hne => (Below.heap_setCell w1 p v k (by omega)).trans (h.block k hk hne)⟩

theorem Draw.put {w0 : World} {a : Option Addr} {len cap : Nat} {zs : List Int} {p : Nat} {w : World} {x : Addr} (h : Draw w0 a len cap zs p w) (hx : w0.heap.size < x.block) (u : Value) : Draw w0 a len cap zs p (w.setCell x u) :=
  h.grown (row := some x.block) ⟨rfl, rfl, rfl, by simp [World.setCell], fun k hk hne => Below.heap_setCell w x u k (fun e => hne (by rw [e]))⟩ (fun k e => by injection e with e; omega)
theorem At.only5 {g g0 : Nat} {cs : List Value} {w w' : World} (h : At g cs w) (hO : Only g0 w w') (hg : g ≠ g0) : At g cs w' := h.keep fun _ => hO.block g hg
def DText (Q : ByteArray → Prop) (w0 : World) (a : Option Addr) (len cap : Nat) (zs : List Int) (p : Nat) (w : World) (r : Ending) (w' : World) : Prop :=
  ∃ s : ByteArray, Q s ∧ r = .returned (.string s) ∧ Draw w0 a len cap zs (p + 1) w' ∧ w.grownBy w' (some w0.heap.size)
theorem dl5Bent {w0 : World} {a : Option Addr} {len cap : Nat} {zs : List Int} {p : Nat} {w : World} (D : Draw w0 a len cap zs p w) (hp : p ≤ 1000000) :
    Calls Tryz.prog 145 #[.pointer (some ⟨w0.heap.size, 0, none⟩)] w (DText (fun s => s.size ≤ 21) w0 a len cap zs p w) := by
  have hlt := D.lt
  have D1 := D.alloc (.cells (bentN.map Value.string).toArray 9)
  go_enter Tryz.func145, Tryz.ntmps145
  go_wp2_with fail
  refine (dnext _ D1 hp).mono ?_
  rintro r w2 ⟨x, x0, x1, rfl, D2, O2⟩
  obtain ⟨k, rfl⟩ := Int.eq_ofNat_of_zero_le x0
  have hk : k < 12 := by omega
  have hcell : w2.cell? ⟨w.heap.size, k, none⟩ = some (.string (bentN.getD k ByteArray.empty)) := by
    have e1 : (w.alloc (.cells (bentN.map Value.string).toArray 9)).heap[w.heap.size]? = some (.cells (bentN.map Value.string).toArray 9) := (MapKept.heap_alloc w _).1
    have e2 := O2.block w.heap.size (by omega)
    unfold World.cell?
    rw [e2, e1]
    have : k < bentN.length := hk
    simp only [Option.isSome_none, Bool.false_eq_true, if_false, List.getElem?_toArray, List.getElem?_map]
    rw [List.getElem?_eq_getElem this]
    simp [List.getD, List.getElem?_eq_getElem this]
  have hsz := bentN_size k
  generalize bentN.getD k ByteArray.empty = s at hcell hsz
  have HF := Lib.hid (And.intro D2 (grown_alloc O2.grown))
  have HS := Lib.hid hsz
  clear D D1 D2 O2 x0 x1 hsz
  go_wp2_with fail
  go_ret
  exact ⟨s, HS.out, rfl, HF.out.1, HF.out.2⟩

theorem dl5DrawName {w0 : World} {a : Option Addr} {len cap : Nat} {zs : List Int} {p : Nat} {w : World} (D : Draw w0 a len cap zs p w) (hp : p ≤ 1000000) :
    Calls Tryz.prog 146 #[.pointer (some ⟨w0.heap.size, 0, none⟩)] w (DText (fun s => s.size ≤ 20 ∧ M.normF s.data.toList = 0) w0 a len cap zs p w) := by
  have hlt := D.lt
  have D1 := D.alloc (.cells (drawN.map Value.string).toArray 9)
  go_enter Tryz.func146, Tryz.ntmps146
  go_wp2_with fail
  refine (dnext _ D1 hp).mono ?_
  rintro r w2 ⟨x, x0, x1, rfl, D2, O2⟩
  obtain ⟨k, rfl⟩ := Int.eq_ofNat_of_zero_le x0
  have hk : k < 4 := by omega
  have hcell : w2.cell? ⟨w.heap.size, k, none⟩ = some (.string (drawN.getD k ByteArray.empty)) := by
    have e1 : (w.alloc (.cells (drawN.map Value.string).toArray 9)).heap[w.heap.size]? = some (.cells (drawN.map Value.string).toArray 9) := (MapKept.heap_alloc w _).1
    have e2 := O2.block w.heap.size (by omega)
    unfold World.cell?
    rw [e2, e1]
    have : k < drawN.length := hk
    simp only [Option.isSome_none, Bool.false_eq_true, if_false, List.getElem?_toArray, List.getElem?_map]
    rw [List.getElem?_eq_getElem this]
    simp [List.getD, List.getElem?_eq_getElem this]
  have hsz := And.intro (drawN_size k) (drawN_norm k hk)
  generalize drawN.getD k ByteArray.empty = s at hcell hsz
  have HF := Lib.hid (And.intro D2 (grown_alloc O2.grown))
  have HS := Lib.hid hsz
  clear D D1 D2 O2 x0 x1 hsz
  go_wp2_with fail
  go_ret
  exact ⟨s, HS.out, rfl, HF.out.1, HF.out.2⟩

theorem key1 (a b : Int) (w : World) : Sem.run Tryz.prog (Instr.field 119 (.agg #[.int .i64 a, .int .i64 b]) 1) w = .ok (.int .i64 b) w := by kernel_rfl
theorem base_sum (n : Nat) : M.sumB (M.pw 4 n 2879) = true := by
  obtain ⟨h0, h1⟩ := M.pw_bd 4 n (m := 2879) (by omega)
  simp only [M.sumB, decide_eq_true_eq]
  omega
def DTlsa (K : Nat) (Q : ByteArray → Int → Int → Int → Prop) (w0 : World) (a : Option Addr) (len cap : Nat) (zs : List Int) (w : World) (r : Ending) (w' : World) : Prop :=
  ∃ (n : ByteArray) (u m v : Int) (p : Nat), Q n u m v ∧ p ≤ K ∧ r = .returned (T4 n u m v) ∧ Draw w0 a len cap zs p w' ∧ w.grownBy w' (some w0.heap.size)
end Go.Proofs.YtlodhleihnlchaaGreatDoor
namespace Go.Proofs.YtlodhleihnlchaaGreatDoor
open Go.RowKit
set_option maxRecDepth 100000
set_option linter.unusedVariables false

theorem dl5DrawTlsaP {w0 : World} {a : Option Addr} {len cap : Nat} {zs : List Int} {p0 : Nat} {w : World} (D : Draw w0 a len cap zs p0 w) (hp0 : p0 ≤ 1000) :
    Calls Tryz.prog 289 #[.pointer (some ⟨w0.heap.size, 0, none⟩)] w (DTlsa (p0 + 4) (fun n u m v => M.tlsaF n.data.toList u m v = 0) w0 a len cap zs w) := by
  have g1 := key1
  have hlt := D.lt
  have D0 := D.alloc (.cells #[.string { data := #[] }, .int .i64 0, .int .i64 0, .int .i64 0] 98)
  have A0 := At.new w (TL4 { data := #[] } 0 0 0) 98
  have G0 := gal (World.grownBy.refl w (some w0.heap.size)) (.cells #[.string { data := #[] }, .int .i64 0, .int .i64 0, .int .i64 0] 98)
  go_enter Tryz.func289, Tryz.ntmps289
  go_wp2_with fail
  generalize w.alloc (.cells #[.string { data := #[] }, .int .i64 0, .int .i64 0, .int .i64 0] 98) = W0 at *
  refine (dnext 2 D0 (by omega)).mono ?_
  rintro r w1 ⟨m, m0, m1, rfl, D1, O1⟩
  have hm1 : m < 2 := by omega
  have G1 := gtr G0 O1.grown
  have A1 := A0.only5 O1 (by omega)
  clear D D0 O1 m1 A0 G0
  go_wp2_with fail
  refine (dl5DrawName D1 (by omega)).mono ?_
  rintro r w2 ⟨n, hn, rfl, D2, g2⟩
  have HN := Lib.hid hn
  have G2 := gtr G1 g2
  have A2 := A1.kept g2 (fun e => by injection e with e; omega)
  clear D1 hn g2 A1 G1
  go_wp2_with fail
  refine (dpick [3, 3, 3, 1] 4 D2 (by omega) (by omega) (by omega) rfl 2).mono ?_
  rintro r w3 ⟨u, hu, rfl, D3, O3⟩
  have HU := Lib.hid (show 0 ≤ u ∧ u ≤ 3 by simp at hu; omega)
  have G3 := gtr (gal G2 (.cells #[.int .i64 3, .int .i64 3, .int .i64 3, .int .i64 1] 2)) O3.grown
  have A3 := (A2.alloc (.cells #[.int .i64 3, .int .i64 3, .int .i64 3, .int .i64 1] 2)).only5 O3 (by omega)
  clear D2 hu O3 A2 G2
  go_wp2_with fail
  refine (dnext 3 D3 (by omega)).mono ?_
  rintro r w4 ⟨x, x0, x1, rfl, D4, O4⟩
  have G4 := gtr G3 O4.grown
  have A4 := A3.only5 O4 (by omega)
  have hx : x < 3 := by omega
  clear D3 O4 x1 A3 G3
  go_wp2_with fail
  refine (l1Key_any _ _ (by omega) (by omega)).mono ?_
  rintro r w5 ⟨rfl, b5⟩
  have D5 := D4.below b5
  have G5 := gbe G4 b5
  have A5 := A4.on b5
  have hs := base_sum (1 + x).toNat
  have V := fun w => l5Value_any (M.pw 4 (1 + x).toNat 2879) m w hs
  have hv := M.valM_sum (m := m) hs
  generalize M.valM (M.pw 4 (1 + x).toNat 2879) m = v at *
  generalize M.pw 4 (1 + x).toNat 2879 = pp at *
  have HV := Lib.hid hv
  clear D4 b5 hv hs A4 G4
  go_wp2_with fail
  refine (V _).mono ?_
  rintro r w6 ⟨rfl, b6⟩
  have D6 := D5.below b6
  have G6 := gbe G5 b6
  have q0 := (A5.on b6).cell 0 _ rfl
  have q1 := (A5.on b6).cell 1 _ rfl
  have q2 := (A5.on b6).cell 2 _ rfl
  have q3 := (A5.on b6).cell 3 _ rfl
  have z0 := (A5.on b6).free 0 _ rfl
  have z1 := (A5.on b6).free 1 _ rfl
  have z2 := (A5.on b6).free 2 _ rfl
  have z3 := (A5.on b6).free 3 _ rfl
  have lt6 : w.heap.size < w6.heap.size := (A5.on b6).lt (by simp)
  have HD := Lib.hid (And.intro D6 G6)
  clear D5 D6 G5 G6 b6 A5 V
  go_wp2_with fail
  refine bodyPost_ret (v := T4 n u m v) (by simp [results, Tryz.results289, go_sem, q0, q1, q2, q3]) rfl ?_
  refine ⟨n, u, m, v, p0 + 1 + 1 + 1 + 1, ?_, Nat.le_refl _, rfl, ?_, ?_⟩
  · exact M.tlsaF_yes HN.out.2 (by
      rw [M.tlsaB_eq, HV.out]
      have := HU.out
      simp [M.useB, M.matB]
      omega)
  · iterate 4 (refine Draw.put ?_ (by dsimp only; omega) _)
    exact HD.out.1
  · iterate 4 (refine gset ?_ (Nat.le_refl _) _)
    exact HD.out.2
structure BentTP (K : Nat) (w0 : World) (a : Option Addr) (len cap : Nat) (zs : List Int) (p : Nat) (w : World) (rb tb : Nat) (n : ByteArray) (u m v : Int) (cur : World) : Prop where
  draw : Draw w0 a len cap zs p cur
  grew : w.grownBy cur (some w0.heap.size)
  res : At rb (TL4 { data := #[] } 0 0 0) cur
  one : At tb (TL4 n u m v) cur
  size : n.size ≤ 21
  few : p ≤ K
section
variable {K : Nat} {w0 : World} {a : Option Addr} {len cap : Nat} {zs : List Int} {p p' : Nat} {w : World} {rb tb : Nat} {n : ByteArray} {u m v : Int} {cur cur' : World}
theorem BentTP.only (h : BentTP K w0 a len cap zs p w rb tb n u m v cur) (hO : Only w0.heap.size cur cur') (D : Draw w0 a len cap zs p' cur') (h1 : rb ≠ w0.heap.size) (h2 : tb ≠ w0.heap.size) (hp : p' ≤ K) : BentTP K w0 a len cap zs p' w rb tb n u m v cur' :=
  ⟨D, gtr h.grew hO.grown, h.res.only5 hO h1, h.one.only5 hO h2, h.size, hp⟩
theorem BentTP.kept (h : BentTP K w0 a len cap zs p w rb tb n u m v cur) (hO : cur.grownBy cur' (some w0.heap.size)) (D : Draw w0 a len cap zs p' cur') (h1 : rb ≠ w0.heap.size) (h2 : tb ≠ w0.heap.size) (hp : p' ≤ K) : BentTP K w0 a len cap zs p' w rb tb n u m v cur' :=
  ⟨D, gtr h.grew hO, h.res.kept hO (fun e => by injection e with e; exact h1 e), h.one.kept hO (fun e => by injection e with e; exact h2 e), h.size, hp⟩
theorem BentTP.alloc (h : BentTP K w0 a len cap zs p w rb tb n u m v cur) (o : Obj) : BentTP K w0 a len cap zs p w rb tb n u m v (cur.alloc o) :=
  ⟨h.draw.alloc o, gal h.grew o, h.res.alloc o, h.one.alloc o, h.size, h.few⟩
theorem BentTP.put {n' : ByteArray} {u' m' v' : Int} (i : Nat) (x : Value) (h : BentTP K w0 a len cap zs p w rb tb n u m v cur) (he : (TL4 n u m v).set i x = TL4 n' u' m' v') (hs : n'.size ≤ 21) (h1 : rb ≠ tb) (h2 : w0.heap.size < tb) (h3 : w.heap.size ≤ tb) : BentTP K w0 a len cap zs p w rb tb n' u' m' v' (cur.setCell ⟨tb, i, none⟩ x) :=
  ⟨h.draw.put h2 x, gset h.grew h3 x, h.res.setB (p := ⟨tb, i, none⟩) h1 x, by have := h.one.set i x; rwa [he] at this, hs, h.few⟩
end
theorem dl5BentTlsaP {w0 : World} {a : Option Addr} {len cap : Nat} {zs : List Int} {p0 : Nat} {w : World} (D : Draw w0 a len cap zs p0 w) (hp0 : p0 ≤ 900) :
    Calls Tryz.prog 237 #[.pointer (some ⟨w0.heap.size, 0, none⟩)] w (DTlsa (p0 + 8) (fun n u m v => n.size ≤ 21) w0 a len cap zs w) := by
  have hlt := D.lt
  have D0 := D.alloc (.cells #[.string { data := #[] }, .int .i64 0, .int .i64 0, .int .i64 0] 98)
  have A0 := At.new w (TL4 { data := #[] } 0 0 0) 98
  have G0 := gal (World.grownBy.refl w (some w0.heap.size)) (.cells #[.string { data := #[] }, .int .i64 0, .int .i64 0, .int .i64 0] 98)
  have lt0 : w.heap.size < (w.alloc (.cells #[.string { data := #[] }, .int .i64 0, .int .i64 0, .int .i64 0] 98)).heap.size := by simp
  go_enter Tryz.func237, Tryz.ntmps237
  go_wp2_with fail
  generalize w.alloc (.cells #[.string { data := #[] }, .int .i64 0, .int .i64 0, .int .i64 0] 98) = W0 at *
  refine (dl5DrawTlsaP D0 (by omega)).mono ?_
  rintro r w1 ⟨n, u, m, v, p, hf, hp, rfl, D1, g1⟩
  have hn := (tlsa_bounds hf).1
  have lt1 : W0.heap.size ≤ w1.heap.size := g1.size
  have B1 : BentTP (p0 + 8) w0 a len cap zs p w w.heap.size w1.heap.size n u m v (w1.alloc (.cells #[.string n, .int .i64 u, .int .i64 m, .int .i64 v] 98)) :=
    ⟨D1.alloc _, gal (gtr G0 g1) _, (A0.kept g1 (fun e => by injection e with e; omega)).alloc _, At.new w1 (TL4 n u m v) 98, by omega, by omega⟩
  clear D D0 A0 G0 D1 g1 hf hn
  go_wp2_with fail
  generalize w1.alloc (.cells #[.string n, .int .i64 u, .int .i64 m, .int .i64 v] 98) = v1 at *
  refine (dnext 8 B1.draw (by omega)).mono ?_
  rintro r w2 ⟨sw, t0, t1, rfl, D2, O2⟩
  have B2 := B1.only O2 D2 (by omega) (by omega) (by omega)
  clear B1 D2 O2 t1
  by_cases e0 : sw = 0
  · subst e0
    go_wp2_with fail
    refine (dl5Bent B2.draw (by omega)).mono ?_
    rintro r w3 ⟨s, hs, rfl, D3, g3⟩
    have B3 := B2.kept g3 D3 (by omega) (by omega) (by omega)
    have B4 := B3.put (n' := s) (u' := u) (m' := m) (v' := v) 0 (.string s) rfl hs (by omega) (by omega) (by omega)
    clear B2 D3 g3
    have q0 := B3.res.cell 0 _ rfl
    have q1 := B3.res.cell 1 _ rfl
    have q2 := B3.res.cell 2 _ rfl
    have q3 := B3.res.cell 3 _ rfl
    have z0 := B3.res.free 0 _ rfl
    have z1 := B3.res.free 1 _ rfl
    have z2 := B3.res.free 2 _ rfl
    have z3 := B3.res.free 3 _ rfl
    have x0 := B3.one.cell 0 _ rfl
    have x1 := B3.one.cell 1 _ rfl
    have x2 := B3.one.cell 2 _ rfl
    have x3 := B3.one.cell 3 _ rfl
    have f0 := B3.one.free 0 _ rfl
    have f1 := B3.one.free 1 _ rfl
    have f2 := B3.one.free 2 _ rfl
    have f3 := B3.one.free 3 _ rfl
    have hrb : w.heap.size ≠ w1.heap.size := by omega
    have HB := Lib.hid B4
    clear B3 B4
    go_wp2_with fail
    refine bodyPost_ret (v := T4 s u m v) (by simp [results, Tryz.results237, go_sem, q0, q1, q2, q3]) rfl ?_
    refine ⟨_, _, _, _, _, HB.out.size, HB.out.few, rfl, ?_, ?_⟩
    · iterate 4 (refine Draw.put ?_ (by dsimp only; omega) _)
      exact HB.out.draw
    · iterate 4 (refine gset ?_ (Nat.le_refl _) _)
      exact HB.out.grew
  by_cases e1 : sw = 1
  · subst e1
    go_wp2_with fail
    refine (dpick [4, -1, 2] 3 B2.draw (by omega) (by omega) (by omega) rfl 2).mono ?_
    rintro r w3 ⟨x, hx, rfl, D3, O3⟩
    have B3 := (B2.alloc (.cells #[.int .i64 4, .int .i64 (-1), .int .i64 2] 2)).only O3 D3 (by omega) (by omega) (by omega)
    have B4 := B3.put (n' := n) (u' := x) (m' := m) (v' := v) 1 (.int .i64 x) rfl B3.size (by omega) (by omega) (by omega)
    clear B2 D3 O3 hx
    have q0 := B3.res.cell 0 _ rfl
    have q1 := B3.res.cell 1 _ rfl
    have q2 := B3.res.cell 2 _ rfl
    have q3 := B3.res.cell 3 _ rfl
    have z0 := B3.res.free 0 _ rfl
    have z1 := B3.res.free 1 _ rfl
    have z2 := B3.res.free 2 _ rfl
    have z3 := B3.res.free 3 _ rfl
    have x0 := B3.one.cell 0 _ rfl
    have x1 := B3.one.cell 1 _ rfl
    have x2 := B3.one.cell 2 _ rfl
    have x3 := B3.one.cell 3 _ rfl
    have f0 := B3.one.free 0 _ rfl
    have f1 := B3.one.free 1 _ rfl
    have f2 := B3.one.free 2 _ rfl
    have f3 := B3.one.free 3 _ rfl
    have hrb : w.heap.size ≠ w1.heap.size := by omega
    have HB := Lib.hid B4
    clear B3 B4
    go_wp2_with fail
    refine bodyPost_ret (v := T4 n x m v) (by simp [results, Tryz.results237, go_sem, q0, q1, q2, q3]) rfl ?_
    refine ⟨_, _, _, _, _, HB.out.size, HB.out.few, rfl, ?_, ?_⟩
    · iterate 4 (refine Draw.put ?_ (by dsimp only; omega) _)
      exact HB.out.draw
    · iterate 4 (refine gset ?_ (Nat.le_refl _) _)
      exact HB.out.grew
  by_cases e2 : sw = 2
  · subst e2
    go_wp2_with fail
    refine (dpick [5, 65521] 2 B2.draw (by omega) (by omega) (by omega) rfl 2).mono ?_
    rintro r w3 ⟨x, hx, rfl, D3, O3⟩
    have B3 := (B2.alloc (.cells #[.int .i64 5, .int .i64 65521] 2)).only O3 D3 (by omega) (by omega) (by omega)
    have B4 := B3.put (n' := n) (u' := u) (m' := m) (v' := x) 3 (.int .i64 x) rfl B3.size (by omega) (by omega) (by omega)
    clear B2 D3 O3 hx
    have q0 := B3.res.cell 0 _ rfl
    have q1 := B3.res.cell 1 _ rfl
    have q2 := B3.res.cell 2 _ rfl
    have q3 := B3.res.cell 3 _ rfl
    have z0 := B3.res.free 0 _ rfl
    have z1 := B3.res.free 1 _ rfl
    have z2 := B3.res.free 2 _ rfl
    have z3 := B3.res.free 3 _ rfl
    have x0 := B3.one.cell 0 _ rfl
    have x1 := B3.one.cell 1 _ rfl
    have x2 := B3.one.cell 2 _ rfl
    have x3 := B3.one.cell 3 _ rfl
    have f0 := B3.one.free 0 _ rfl
    have f1 := B3.one.free 1 _ rfl
    have f2 := B3.one.free 2 _ rfl
    have f3 := B3.one.free 3 _ rfl
    have hrb : w.heap.size ≠ w1.heap.size := by omega
    have HB := Lib.hid B4
    clear B3 B4
    go_wp2_with fail
    refine bodyPost_ret (v := T4 n u m x) (by simp [results, Tryz.results237, go_sem, q0, q1, q2, q3]) rfl ?_
    refine ⟨_, _, _, _, _, HB.out.size, HB.out.few, rfl, ?_, ?_⟩
    · iterate 4 (refine Draw.put ?_ (by dsimp only; omega) _)
      exact HB.out.draw
    · iterate 4 (refine gset ?_ (Nat.le_refl _) _)
      exact HB.out.grew
  · have n0 : (sw == 0) = false := by rw [beq_eq_false_iff_ne]; exact e0
    have n1 : (sw == 1) = false := by rw [beq_eq_false_iff_ne]; exact e1
    have n2 : (sw == 2) = false := by rw [beq_eq_false_iff_ne]; exact e2
    have B4 := B2
    have q0 := B2.res.cell 0 _ rfl
    have q1 := B2.res.cell 1 _ rfl
    have q2 := B2.res.cell 2 _ rfl
    have q3 := B2.res.cell 3 _ rfl
    have z0 := B2.res.free 0 _ rfl
    have z1 := B2.res.free 1 _ rfl
    have z2 := B2.res.free 2 _ rfl
    have z3 := B2.res.free 3 _ rfl
    have x0 := B2.one.cell 0 _ rfl
    have x1 := B2.one.cell 1 _ rfl
    have x2 := B2.one.cell 2 _ rfl
    have x3 := B2.one.cell 3 _ rfl
    have f0 := B2.one.free 0 _ rfl
    have f1 := B2.one.free 1 _ rfl
    have f2 := B2.one.free 2 _ rfl
    have f3 := B2.one.free 3 _ rfl
    have hrb : w.heap.size ≠ w1.heap.size := by omega
    have HB := Lib.hid B4
    clear B2 B4
    go_wp2_with fail
    refine bodyPost_ret (v := T4 n u m v) (by simp [results, Tryz.results237, go_sem, q0, q1, q2, q3]) rfl ?_
    refine ⟨_, _, _, _, _, HB.out.size, HB.out.few, rfl, ?_, ?_⟩
    · iterate 4 (refine Draw.put ?_ (by dsimp only; omega) _)
      exact HB.out.draw
    · iterate 4 (refine gset ?_ (Nat.le_refl _) _)
      exact HB.out.grew

end Go.Proofs.YtlodhleihnlchaaGreatDoor
namespace Go.Proofs.YtlodhleihnlchaaGreatDoor
open Go.RowKit
set_option maxRecDepth 100000
set_option linter.unusedVariables false

structure BentT (w0 : World) (a : Option Addr) (len cap : Nat) (zs : List Int) (p : Nat) (w : World) (rb tb : Nat) (n : ByteArray) (u m v : Int) (cur : World) : Prop where
  draw : Draw w0 a len cap zs p cur
  grew : w.grownBy cur (some w0.heap.size)
  res : At rb (TL4 { data := #[] } 0 0 0) cur
  one : At tb (TL4 n u m v) cur
  size : n.size ≤ 21
  few : p ≤ 10
section
variable {w0 : World} {a : Option Addr} {len cap : Nat} {zs : List Int} {p p' : Nat} {w : World} {rb tb : Nat} {n : ByteArray} {u m v : Int} {cur cur' : World}
theorem BentT.only (h : BentT w0 a len cap zs p w rb tb n u m v cur) (hO : Only w0.heap.size cur cur') (D : Draw w0 a len cap zs p' cur') (h1 : rb ≠ w0.heap.size) (h2 : tb ≠ w0.heap.size) (hp : p' ≤ 10) : BentT w0 a len cap zs p' w rb tb n u m v cur' :=
  ⟨D, gtr h.grew hO.grown, h.res.only5 hO h1, h.one.only5 hO h2, h.size, hp⟩
theorem BentT.kept (h : BentT w0 a len cap zs p w rb tb n u m v cur) (hO : cur.grownBy cur' (some w0.heap.size)) (D : Draw w0 a len cap zs p' cur') (h1 : rb ≠ w0.heap.size) (h2 : tb ≠ w0.heap.size) (hp : p' ≤ 10) : BentT w0 a len cap zs p' w rb tb n u m v cur' :=
  ⟨D, gtr h.grew hO, h.res.kept hO (fun e => by injection e with e; exact h1 e), h.one.kept hO (fun e => by injection e with e; exact h2 e), h.size, hp⟩
theorem BentT.alloc (h : BentT w0 a len cap zs p w rb tb n u m v cur) (o : Obj) : BentT w0 a len cap zs p w rb tb n u m v (cur.alloc o) :=
  ⟨h.draw.alloc o, gal h.grew o, h.res.alloc o, h.one.alloc o, h.size, h.few⟩
theorem BentT.put {n' : ByteArray} {u' m' v' : Int} (i : Nat) (x : Value) (h : BentT w0 a len cap zs p w rb tb n u m v cur) (he : (TL4 n u m v).set i x = TL4 n' u' m' v') (hs : n'.size ≤ 21) (h1 : rb ≠ tb) (h2 : w0.heap.size < tb) (h3 : w.heap.size ≤ tb) : BentT w0 a len cap zs p w rb tb n' u' m' v' (cur.setCell ⟨tb, i, none⟩ x) :=
  ⟨h.draw.put h2 x, gset h.grew h3 x, h.res.setB (p := ⟨tb, i, none⟩) h1 x, by have := h.one.set i x; rwa [he] at this, hs, h.few⟩
end
end Go.Proofs.YtlodhleihnlchaaGreatDoor
namespace Go.Proofs.YtlodhleihnlchaaGreatDoor
open Go.RowKit

def marks (k : Int) (n : Nat) : List Int := (List.range n).map fun i : Nat => (k + (i : Int)) % 256
theorem marks_length (k : Int) (n : Nat) : (marks k n).length = n := by simp [marks]
theorem marks_at (k : Int) (n j : Nat) (h : j < n) : (marks k n)[j]? = some ((k + (j : Int)) % 256) := by simp [marks, h]
structure MarkRel (w : World) (g cap : Nat) (k : Int) (j : Nat) (wr : World) : Prop where
  grew : w.grownBy wr (some g)
  lt : g < wr.heap.size
  room : ∀ i, i < cap → (∃ u, wr.cell? ⟨g, i, none⟩ = some u) ∧ wr.frozen? ⟨g, i, none⟩ = false
  told : ∀ i, i < j → wr.cell? ⟨g, i, none⟩ = some (.int .u8 ((k + (i : Int)) % 256))
theorem MarkRel.own {w : World} {g cap : Nat} {k : Int} {n B : Nat} {wr : World} (h : MarkRel w g cap k n wr) (hB : B ≤ g) (hn : n ≤ cap) (hm : cap ≤ maxLen) : OwnK .u8 wr B (.slice (some ⟨g, 0, none⟩) n cap) (marks k n) := by
  unfold OwnK
  rw [marks_length]
  refine ⟨by simp [marks_length], .inr ⟨g, cap, rfl, hB, h.lt, hn, hm, fun j u hu => ?_, fun j hj => ?_⟩⟩
  · have hj := (List.getElem?_eq_some_iff.1 hu).1
    simp [marks_length] at hj
    rw [h.told j hj, ← hu]
    simp [marks_at k n j hj]
  · obtain ⟨⟨u, hu⟩, hf⟩ := h.room j (by omega)
    exact ⟨by rw [hu]; rfl, hf⟩

theorem OwnK.len {k : IntKind} {w : World} {B : Nat} {a : Option Addr} {len cap : Nat} {zs : List Int} (h : OwnK k w B (.slice a len cap) zs) : len = zs.length := by
  rcases h.2 with ⟨e, h0⟩ | ⟨g, c, e, _⟩
  · injection e with e1 e2 e3
    omega
  · injection e with e1 e2 e3

structure TwoRes (w : World) (c : Int) (zs : List Int) (p1 p2 : Nat) (a1 a2 : Option Addr) (n c1 c2 : Nat) (ms : List Int) (cur : World) : Prop where
  bel : Below w.heap.size w cur
  x0 : cur.cell? ⟨p1, 0, none⟩ = some (.int .i64 c)
  x1 : cur.cell? ⟨p1, 1, none⟩ = some (.slice a1 n c1)
  row : Row .u8 cur p1 a1 n c1 zs
  y0 : cur.cell? ⟨p2, 0, none⟩ = some (.int .i64 c)
  y1 : cur.cell? ⟨p2, 1, none⟩ = some (.slice a2 n c2)
  own : OwnK .u8 cur (p1 + 1) (.slice a2 n c2) ms
  old : w.heap.size ≤ p1
  sep : ∀ k, Value.ownBlock (.slice a2 n c2) = some k → k < p2
  ahead : p1 < p2
section
variable {w : World} {c : Int} {zs : List Int} {p1 p2 : Nat} {a1 a2 : Option Addr} {n c1 c2 : Nat} {ms : List Int} {cur cur' : World}
theorem TwoRes.lt1 (h : TwoRes w c zs p1 p2 a1 a2 n c1 c2 ms cur) : p1 < cur.heap.size := cell_lt h.x0
theorem TwoRes.lt2 (h : TwoRes w c zs p1 p2 a1 a2 n c1 c2 ms cur) : p2 < cur.heap.size := cell_lt h.y0
theorem TwoRes.on (h : TwoRes w c zs p1 p2 a1 a2 n c1 c2 ms cur) (hb : Below cur.heap.size cur cur') : TwoRes w c zs p1 p2 a1 a2 n c1 c2 ms cur' :=
  ⟨btr h.bel hb, cell_keep hb h.x0, cell_keep hb h.x1, h.row.below (hb.mono (by have := h.lt1; omega)), cell_keep hb h.y0, cell_keep hb h.y1, h.own.below hb, h.old, h.sep, h.ahead⟩
theorem TwoRes.grew (h : TwoRes w c zs p1 p2 a1 a2 n c1 c2 ms cur) {ms' : List Int} (ho : OwnK .u8 cur' (p1 + 1) (.slice a2 n c2) ms') (hg : cur.grownBy cur' (Value.ownBlock (.slice a2 n c2))) : TwoRes w c zs p1 p2 a1 a2 n c1 c2 ms' cur' := by
  have hlo := fun k hk => (h.own.lt k hk).1
  have hp1 : some p1 ≠ Value.ownBlock (.slice a2 n c2) := fun e => by have := hlo p1 e.symm; omega
  have hp2 : some p2 ≠ Value.ownBlock (.slice a2 n c2) := fun e => by have := h.sep p2 e.symm; omega
  have l1 := h.lt1
  have hold := h.old
  refine ⟨h.bel.grown hg h.bel.size (fun k hk => by have := hlo k hk; omega), hg.cell h.x0 hp1, hg.cell h.x1 hp1, h.row.keep (fun i hi => hg.block i (by omega) (fun e => by have := hlo i e.symm; omega)), hg.cell h.y0 hp2, hg.cell h.y1 hp2, ho, h.old, h.sep, h.ahead⟩
theorem TwoRes.new {u1 u2 : World} {t : TypeId} (b1 : Below w.heap.size w u1) (O1 : OwnK .u8 u1 w.heap.size (.slice a1 n c1) zs) (hw : ∀ z ∈ zs, (Lit.int .u8 z).wf = true)
    (b2 : Below (u1.alloc (.cells #[.int .i64 c, .slice a1 n c1] t)).heap.size (u1.alloc (.cells #[.int .i64 c, .slice a1 n c1] t)) u2) (O2 : OwnK .u8 u2 (u1.alloc (.cells #[.int .i64 c, .slice a1 n c1] t)).heap.size (.slice a2 n c2) zs) :
    TwoRes w c zs u1.heap.size u2.heap.size a1 a2 n c1 c2 zs (u2.alloc (.cells #[.int .i64 c, .slice a2 n c2] t)) := by
  have hs := b2.size
  simp at hs
  have x0 : (u1.alloc (.cells #[.int .i64 c, .slice a1 n c1] t)).cell? ⟨u1.heap.size, 0, none⟩ = some (.int .i64 c) := by simp
  have x1 : (u1.alloc (.cells #[.int .i64 c, .slice a1 n c1] t)).cell? ⟨u1.heap.size, 1, none⟩ = some (.slice a1 n c1) := by simp
  have b3 := bal b2 (.cells #[.int .i64 c, .slice a2 n c2] t)
  have R1 := Own.row O1 hw
  refine ⟨btr (bal b1 _) b3, cell_keep b3 x0, cell_keep b3 x1, ?_, by simp, by simp, ?_, b1.size, fun k hk => (O2.lt k hk).2, by omega⟩
  · exact (R1.alloc (Nat.le_refl _) _).below (b3.mono (by simp))
  · have := O2.alloc (.cells #[.int .i64 c, .slice a2 n c2] t)
    simpa [OwnK] using this
end

end Go.Proofs.YtlodhleihnlchaaGreatDoor
namespace Go.Proofs.YtlodhleihnlchaaGreatDoor
open Go.RowKit
set_option maxRecDepth 100000
set_option linter.unusedVariables false

theorem l1Chance_any {w0 : World} {a : Option Addr} {len cap : Nat} {zs : List Int} {p : Nat} {w : World} (n : Int) (D : Draw w0 a len cap zs p w) (hp : p ≤ 1000000) :
    Calls Tryz.prog 144 #[.pointer (some ⟨w0.heap.size, 0, none⟩), .int .i64 n] w fun r w' => ∃ b : Bool, r = .returned (.bool b) ∧ Draw w0 a len cap zs (p + 1) w' ∧ Only w0.heap.size w w' := by
  go_enter Tryz.func144, Tryz.ntmps144
  go_wp2_with fail
  refine (dnext n D hp).mono ?_
  rintro r w1 ⟨x, x0, x1, rfl, D1, O1⟩
  have HD := Lib.hid (And.intro D1 O1)
  clear D D1 O1 x0 x1
  go_wp2_with fail
  go_ret
  exact ⟨_, rfl, HD.out.1, HD.out.2⟩

end Go.Proofs.YtlodhleihnlchaaGreatDoor
namespace Go.Proofs.YtlodhleihnlchaaGreatDoor.M

def allB (f : Nat → Bool) : Nat → Bool
  | 0 => true
  | n + 1 => f n && allB f n
theorem allB_out {f : Nat → Bool} {n : Nat} (h : allB f n = true) {k : Nat} (hk : k < n) : f k = true := by
  induction n with
  | zero => omega
  | succ n ih =>
    simp only [allB, Bool.and_eq_true] at h
    rcases Nat.lt_or_ge k n with h1 | h1
    · exact ih h.2 h1
    · obtain rfl : k = n := by omega
      exact h.1

theorem pw_nat (v e m : Nat) : pw v e m = ((v ^ e % m : Nat) : Int) := by
  unfold pw; rw [← Int.natCast_pow, ← Int.natCast_emod]

theorem base_order : pw 4 1439 2879 = 1 := by
  have := pw_nat 4 1439 2879
  have e : 4 ^ 1439 % 2879 = 1 := by decide +kernel
  rw [e] at this; exact this
theorem base_all : allB (fun a => a == 0 || (2 ≤ 4 ^ a % 2879 && 4 ^ a % 2879 ≤ 2878)) 1439 = true := by decide +kernel
theorem base_pub (a : Nat) (h0 : 1 ≤ a) (h1 : a ≤ 1438) : 2 ≤ pw 4 a 2879 ∧ pw 4 a 2879 ≤ 2878 := by
  have h := allB_out base_all (k := a) (by omega)
  simp only [Bool.or_eq_true, beq_iff_eq, Bool.and_eq_true, decide_eq_true_eq] at h
  have := pw_nat 4 a 2879
  rw [show ((4 : Nat) : Int) = 4 from rfl, show ((2879 : Nat) : Int) = 2879 from rfl] at this
  rw [this]
  omega
theorem base_mod (n : Nat) : pw 4 n 2879 = pw 4 (n % 1439) 2879 := by
  have e : n = 1439 * (n / 1439) + n % 1439 := by omega
  have h : pw 4 (1439 * (n / 1439)) 2879 = 1 := by rw [← pw_pw, base_order, pw_one_base]; rfl
  have h2 := pw_add 4 (1439 * (n / 1439)) (n % 1439) 2879
  rw [h, ← e, Int.one_mul] at h2
  rw [← h2]
  have b := pw_bd 4 (n % 1439) (m := 2879) (by omega)
  exact Int.emod_eq_of_lt b.1 b.2
theorem base_raised (n : Nat) : pw (pw 4 n 2879) 1439 2879 = 1 := by
  rw [pw_pw, Nat.mul_comm, ← pw_pw, base_order, pw_one_base]; rfl
end Go.Proofs.YtlodhleihnlchaaGreatDoor.M
namespace Go.Proofs.YtlodhleihnlchaaGreatDoor
open Go.RowKit

theorem pub_base {a : Int} (a0 : 1 ≤ a) (a1 : a ≤ 1438) : pubB (M.pw 4 a.toNat 2879) = true := by
  have h := M.base_pub a.toNat (by omega) (by omega)
  simp only [pubB, inB, Bool.and_eq_true, decide_eq_true_eq, beq_iff_eq]
  exact ⟨h, M.base_raised _⟩
end Go.Proofs.YtlodhleihnlchaaGreatDoor
