/- Contracts of the draws that the laws of chapter 1 choose their inputs by: what is drawn lies in its bounds. Conditions: as each theorem states. -/
import Derived.Test.YtjlhldndomaknaaDoorC1b
namespace Go.Proofs.YtjlhldndomaknaaDoor
open Go.RowKit

/-- Block g is a source of draws over the slice (a, len, cap), read up to place p. -/
def Src (w : World) (g : Nat) (a : Option Addr) (len cap : Nat) (p : Nat) : Prop := w.heap[g]? = some (.cells #[.slice a len cap, .int .i64 p] 148 (0, 0))
theorem Src.lt {w : World} {g : Nat} {a : Option Addr} {len cap p : Nat} (h : Src w g a len cap p) : g < w.heap.size := by
  rcases Nat.lt_or_ge g w.heap.size with h1 | h1
  · exact h1
  · unfold Src at h; rw [Array.getElem?_eq_none h1] at h; cases h
theorem Src.cell0 {w : World} {g : Nat} {a : Option Addr} {len cap p : Nat} (h : Src w g a len cap p) : w.cell? ⟨g, 0, none⟩ = some (.slice a len cap) := by unfold Src at h; simp [World.cell?, h]
theorem Src.cell1 {w : World} {g : Nat} {a : Option Addr} {len cap p : Nat} (h : Src w g a len cap p) : w.cell? ⟨g, 1, none⟩ = some (.int .i64 p) := by unfold Src at h; simp [World.cell?, h]
theorem Src.free {w : World} {g : Nat} {a : Option Addr} {len cap p : Nat} (h : Src w g a len cap p) (i : Nat) : w.frozen? ⟨g, i, none⟩ = false := by unfold Src at h; simp [World.frozen?, h]
theorem Src.keep {w w' : World} {g : Nat} {a : Option Addr} {len cap p : Nat} (h : Src w g a len cap p) (hk : w'.heap[g]? = w.heap[g]?) : Src w' g a len cap p := hk.trans h
theorem Src.step {w : World} {g : Nat} {a : Option Addr} {len cap p : Nat} (h : Src w g a len cap p) : Src (w.setCell ⟨g, 1, none⟩ (.int .i64 (p + 1))) g a len cap (p + 1) := by
  unfold Src at *; simp [World.setCell, Array.getElem?_modify, h]

theorem Src.drewN {w : World} {g : Nat} {a : Option Addr} {len cap p : Nat} (h : Src w g a len cap p) (n : Nat) : Src (w.drewN n) g a len cap p := h

def Nexted (g : Nat) (n : Int) (a : Option Addr) (len cap p : Nat) (w : World) (r : Ending) (w' : World) : Prop :=
  ∃ v : Int, 0 ≤ v ∧ (v < n ∨ n < 1 ∧ v = 0) ∧ r = .returned (.int .i64 v) ∧ Src w' g a len cap (p + 1) ∧ Only g w w'

theorem l1Next_pos (g : Nat) (n : Int) (a : Option Addr) (len cap p B : Nat) (zs : List Int) (w : World) (hS : Src w g a len cap p) (hR : Row .u8 w B a len cap zs) (hB : B ≤ g) (hp : p ≤ 1000000) (hn : 1 ≤ n) (hl : 0 < len) :
    Calls Tryd.prog 81 #[.pointer (some ⟨g, 0, none⟩), .int .i64 n] w (Nexted g n a len cap p w) := by
  have c0 := hS.cell0
  have c1 := hS.cell1
  have f1 := hS.free 1
  have hlen := hR.fits
  have hmost := hR.most
  unfold maxLen at hmost
  obtain ⟨b, off, rfl, hb, hc⟩ := hR.cells hl
  have hbg : b ≠ g := by omega
  have r1 : p % len < len := Nat.mod_lt _ hl
  have r2 : (p + 1) % len < len := Nat.mod_lt _ hl
  have d1 := hc _ r1
  have d2 := hc _ r2
  obtain ⟨z0, z1⟩ := hR.byte (p % len)
  obtain ⟨y0, y1⟩ := hR.byte ((p + 1) % len)
  clear hc
  have q0 : 0 ≤ (p : Int) / len ∧ (p : Int) / len ≤ 1000000 := ⟨Int.ediv_nonneg (by omega) (by omega), by
    have : (p : Int) / len ≤ p := Int.ediv_le_self _ (by omega)
    omega⟩
  obtain ⟨q1, q2⟩ := q0
  have e0 : ((len : Int) == 0) = false := by rw [beq_eq_false_iff_ne]; omega
  simp only [List.getD_eq_getElem?_getD] at z0 z1 y0 y1 d1 d2
  have m1 : 0 ≤ ((p : Int) + 1) % len := Int.emod_nonneg _ (by omega)
  have m2 : ((p : Int) + 1) % len < len := Int.emod_lt_of_pos _ (by omega)
  have m3 : (((p : Int) + 1) % len).toNat = (p + 1) % len := by
    have : ((p : Int) + 1) % len = ((p + 1) % len : Nat) := by simp
    rw [this]; rfl
  have HS := Lib.hid (And.intro hS.step ((Only.refl g w).setCell 1 (.int .i64 (p + 1))))
  by_cases h2 : 200 < n
  · go_enter Tryd.func81, Tryd.ntmps81
    go_wp2_with fail
    go_quiet (fail)
    go_wp2_with fail
    go_quiet (fail)
    go_wp2_with fail
    go_ret
    exact ⟨_, Int.emod_nonneg _ (by omega), .inl (Int.emod_lt_of_pos _ (by omega)), rfl, HS.out.1.drewN _, HS.out.2.drewN _⟩
  · go_enter Tryd.func81, Tryd.ntmps81
    go_wp2_with fail
    go_quiet (fail)
    go_wp2_with fail
    go_ret
    exact ⟨_, Int.emod_nonneg _ (by omega), .inl (Int.emod_lt_of_pos _ (by omega)), rfl, HS.out.1.drewN _, HS.out.2.drewN _⟩

theorem l1Next_any (g : Nat) (n : Int) (a : Option Addr) (len cap p B : Nat) (zs : List Int) (w : World) (hS : Src w g a len cap p) (hR : Row .u8 w B a len cap zs) (hB : B ≤ g) (hp : p ≤ 1000000) :
    Calls Tryd.prog 81 #[.pointer (some ⟨g, 0, none⟩), .int .i64 n] w (Nexted g n a len cap p w) := by
  have c0 := hS.cell0
  have c1 := hS.cell1
  have f1 := hS.free 1
  have HS := Lib.hid (And.intro hS.step ((Only.refl g w).setCell 1 (.int .i64 (p + 1))))
  by_cases hn : n < 1
  · go_enter Tryd.func81, Tryd.ntmps81
    go_wp2_with fail
    go_ret
    exact ⟨0, by omega, .inr ⟨hn, rfl⟩, rfl, HS.out.1, HS.out.2⟩
  · rcases Nat.eq_zero_or_pos len with h0 | h0
    · have e0 : ((len : Int) == 0) = true := by rw [beq_iff_eq]; omega
      clear h0
      go_enter Tryd.func81, Tryd.ntmps81
      go_wp2_with fail
      go_ret
      exact ⟨_, Int.emod_nonneg _ (by omega), .inl (Int.emod_lt_of_pos _ (by omega)), rfl, HS.out.1, HS.out.2⟩
    · exact l1Next_pos g n a len cap p B zs w hS hR hB hp (by omega) h0

theorem l1Source_any (a : Option Addr) (len cap : Nat) (w : World) :
    Calls Tryd.prog 79 #[.slice a len cap] w fun r w' => r = .returned (.pointer (some ⟨w.heap.size, 0, none⟩)) ∧ w' = w.alloc (.cells #[.slice a len cap, .int .i64 0] 148) := by
  go_enter Tryd.func79, Tryd.ntmps79
  go_wp2_with fail
  go_ret
  simp

/-- One of a list is picked: its place is drawn. -/
def Picked (g : Nat) (vs : List Int) (a : Option Addr) (len cap p : Nat) (w : World) (r : Ending) (w' : World) : Prop :=
  ∃ v : Int, v ∈ vs ∧ r = .returned (.int .i64 v) ∧ Src w' g a len cap (p + 1) ∧ Only g w w'

theorem l1Pick_any (g q n : Nat) (vs : List Int) (a : Option Addr) (len cap p B : Nat) (zs : List Int) (w : World) (hS : Src w g a len cap p) (hR : Row .u8 w B a len cap zs) (hB : B ≤ g) (hp : p ≤ 1000000)
    (hq : q ≠ g) (hv : vs.length = n) (hn : 1 ≤ n) (hm : n ≤ 100) (hc : ∀ j, j < n → w.cell? ⟨q, j, none⟩ = some (.int .i64 (vs.getD j 0))) :
    Calls Tryd.prog 80 #[.pointer (some ⟨g, 0, none⟩), .slice (some ⟨q, 0, none⟩) n n] w (Picked g vs a len cap p w) := by
  have Hc := Lib.hid hc
  clear hc
  go_enter Tryd.func80, Tryd.ntmps80
  go_wp2_with fail
  refine (l1Next_any g _ a len cap p B zs _ hS hR hB hp).mono ?_
  rintro r w' ⟨v, v0, v1, rfl, hS', hO⟩
  obtain ⟨k, rfl⟩ := Int.eq_ofNat_of_zero_le v0
  have hk : k < n := by omega
  have hcell : w'.cell? ⟨q, k, none⟩ = some (.int .i64 (vs.getD k 0)) := (World.cell?_of_block (w := w) (hO.block q hq)).trans (Hc.out k hk)
  have hmem : vs.getD k 0 ∈ vs := by
    have : k < vs.length := by omega
    simp [List.getD, this]
  have HE := Lib.hid (And.intro hmem (And.intro hS' hO))
  clear v0 v1 hmem hS' hO
  go_wp2_with fail
  go_ret
  exact ⟨vs.getD k 0, HE.out.1, by simp [List.getD]; rw [List.getElem?_eq_getElem (by omega)]; rfl, HE.out.2.1, HE.out.2.2⟩

def Drawn3 (w : World) (r : Ending) (w' : World) : Prop := ∃ x y z : Int, r = .returned (.tuple #[.int .i64 x, .int .i64 y, .int .i64 z]) ∧ Below w.heap.size w w'
def Drawn2 (w : World) (r : Ending) (w' : World) : Prop := ∃ x y : Int, r = .returned (.tuple #[.int .i64 x, .int .i64 y]) ∧ Below w.heap.size w w'
def Drawn1 (w : World) (r : Ending) (w' : World) : Prop := ∃ x : Int, r = .returned (.int .i64 x) ∧ Below w.heap.size w w'

theorem Src.new (w : World) (a : Option Addr) (len cap p : Nat) : Src (w.alloc (.cells #[.slice a len cap, .int .i64 p] 148)) w.heap.size a len cap p := by
  unfold Src; exact (MapKept.heap_alloc w _).1
theorem Src.alloc {w : World} {g : Nat} {a : Option Addr} {len cap p : Nat} (h : Src w g a len cap p) (o : Obj) : Src (w.alloc o) g a len cap p := h.keep (Below.heap_alloc w o g h.lt)

/-- What stays so while draws are made: the source is the first block behind w0; what was there ahead has not turned. -/
structure Draw (w0 : World) (a : Option Addr) (len cap : Nat) (zs : List Int) (p : Nat) (w : World) : Prop where
  src : Src w w0.heap.size a len cap p
  row : Row .u8 w w0.heap.size a len cap zs
  bel : Below w0.heap.size w0 w
theorem Draw.alloc {w0 : World} {a : Option Addr} {len cap : Nat} {zs : List Int} {p : Nat} {w : World} (h : Draw w0 a len cap zs p w) (o : Obj) : Draw w0 a len cap zs p (w.alloc o) :=
  ⟨h.src.alloc o, h.row.below ((Below.refl _ w).alloc h.bel.size o), h.bel.alloc h.bel.size o⟩
theorem Draw.only {w0 : World} {a : Option Addr} {len cap : Nat} {zs : List Int} {p p' : Nat} {w w' : World} (h : Draw w0 a len cap zs p w) (hS : Src w' w0.heap.size a len cap p') (hO : Only w0.heap.size w w') : Draw w0 a len cap zs p' w' :=
  ⟨hS, h.row.below (hO.below (Nat.le_refl _)), h.bel.trans (hO.below (Nat.le_refl _))⟩
theorem Draw.new {w0 : World} {a : Option Addr} {len cap : Nat} {zs : List Int} (p : Nat) (hR : Row .u8 w0 w0.heap.size a len cap zs) : Draw w0 a len cap zs p (w0.alloc (.cells #[.slice a len cap, .int .i64 p] 148)) :=
  ⟨Src.new w0 a len cap p, hR.below (bal (Below.refl _ _) _), bal (Below.refl _ _) _⟩
theorem Draw.below {w0 : World} {a : Option Addr} {len cap : Nat} {zs : List Int} {p : Nat} {w w' : World} (h : Draw w0 a len cap zs p w) (hb : Below w.heap.size w w') : Draw w0 a len cap zs p w' :=
  ⟨h.src.keep (hb.block _ h.src.lt), h.row.below (hb.mono h.bel.size), h.bel.trans (hb.mono h.bel.size)⟩

def DNext (w0 : World) (a : Option Addr) (len cap : Nat) (zs : List Int) (p : Nat) (n : Int) (w : World) (r : Ending) (w' : World) : Prop :=
  ∃ v : Int, 0 ≤ v ∧ (v < n ∨ n < 1 ∧ v = 0) ∧ r = .returned (.int .i64 v) ∧ Draw w0 a len cap zs (p + 1) w' ∧ Only w0.heap.size w w'
def DPick (w0 : World) (a : Option Addr) (len cap : Nat) (zs : List Int) (p : Nat) (vs : List Int) (w : World) (r : Ending) (w' : World) : Prop :=
  ∃ v : Int, v ∈ vs ∧ r = .returned (.int .i64 v) ∧ Draw w0 a len cap zs (p + 1) w' ∧ Only w0.heap.size w w'

theorem dnext {w0 : World} {a : Option Addr} {len cap : Nat} {zs : List Int} {p : Nat} (n : Int) {w : World} (D : Draw w0 a len cap zs p w) (hp : p ≤ 1000000) :
    Calls Tryd.prog 81 #[.pointer (some ⟨w0.heap.size, 0, none⟩), .int .i64 n] w (DNext w0 a len cap zs p n w) :=
  (l1Next_any w0.heap.size n a len cap p w0.heap.size zs w D.src D.row (Nat.le_refl _) hp).mono fun _ _ ⟨v, h0, h1, hr, hS, hO⟩ => ⟨v, h0, h1, hr, D.only hS hO, hO⟩

theorem cells_new (w : World) (vs : List Int) (t : TypeId) (j : Nat) (hj : j < vs.length) : (w.alloc (.cells (vs.map (Value.int .i64)).toArray t)).cell? ⟨w.heap.size, j, none⟩ = some (.int .i64 (vs.getD j 0)) := by
  have e : (w.alloc (.cells (vs.map (Value.int .i64)).toArray t)).heap[w.heap.size]? = some (.cells (vs.map (Value.int .i64)).toArray t) := (MapKept.heap_alloc w _).1
  unfold World.cell?
  rw [e]
  simp [hj]

theorem dpick {w0 : World} {a : Option Addr} {len cap : Nat} {zs : List Int} {p : Nat} (vs : List Int) (n : Nat) {w : World} (D : Draw w0 a len cap zs p w) (hp : p ≤ 1000000) (hn : 1 ≤ n) (hm : n ≤ 100) (hv : vs.length = n) (t : TypeId) :
    Calls Tryd.prog 80 #[.pointer (some ⟨w0.heap.size, 0, none⟩), .slice (some ⟨w.heap.size, 0, none⟩) n n] (w.alloc (.cells (vs.map (Value.int .i64)).toArray t)) (DPick w0 a len cap zs p vs (w.alloc (.cells (vs.map (Value.int .i64)).toArray t))) :=
  (l1Pick_any w0.heap.size w.heap.size n vs a len cap p w0.heap.size zs _ (D.alloc _).src (D.alloc _).row (Nat.le_refl _) hp (by have := D.src.lt; omega) hv hn hm (fun j hj => cells_new w vs t j (by omega))).mono fun _ _ ⟨v, h0, hr, hS, hO⟩ => ⟨v, h0, hr, (D.alloc _).only hS hO, hO⟩

theorem dsource {a : Option Addr} {len cap : Nat} {zs : List Int} {w : World} (hR : Row .u8 w w.heap.size a len cap zs) :
    Calls Tryd.prog 79 #[.slice a len cap] w fun r w' => r = .returned (.pointer (some ⟨w.heap.size, 0, none⟩)) ∧ Draw w a len cap zs 0 w' :=
  (l1Source_any a len cap w).mono fun _ _ ⟨hr, hw⟩ => ⟨hr, by rw [hw]; exact Draw.new 0 hR⟩
theorem lwBig_any (a : Option Addr) (len cap : Nat) (w : World) (h : len ≤ 9223372036854775807) :
    Calls Tryd.prog 14 #[.slice a len cap] w fun r w' => r = .returned (.bool (decide (1048576 < len))) ∧ w = w' := by
  by_cases hl : 1048576 < len
  · have e : decide (1048576 < len) = true := by simp [hl]
    rw [e]; clear e
    go_enter Tryd.func14, Tryd.ntmps14
    go_wp2_with fail
    go_ret
    simp; omega
  · have e : decide (1048576 < len) = false := by simp [hl]
    rw [e]; clear e
    go_enter Tryd.func14, Tryd.ntmps14
    go_wp2_with fail
    go_ret
    simp; omega

def Ated (n : Int) (w : World) (r : Ending) (w' : World) : Prop := ∃ v : Int, 0 ≤ v ∧ (v < n ∨ n ≤ 1 ∧ v = 0) ∧ r = .returned (.int .i64 v) ∧ Below w.heap.size w w'

theorem lwAt_pos (p : Nat) (n : Int) (a : Option Addr) (len cap B : Nat) (zs : List Int) (w : World) (hR : Row .u8 w B a len cap zs) (hp : p ≤ 1000) (hn : 1 < n) (hl : 0 < len) :
    Calls Tryd.prog 33 #[.slice a len cap, .int .i64 p, .int .i64 n] w (Ated n w) := by
  have hlen := hR.fits
  have hmost := hR.most
  unfold maxLen at hmost
  obtain ⟨b, off, rfl, hb, hc⟩ := hR.cells hl
  have r1 : p % len < len := Nat.mod_lt _ hl
  have r2 : (p + 1) % len < len := Nat.mod_lt _ hl
  have d1 := hc _ r1
  have d2 := hc _ r2
  obtain ⟨z0, z1⟩ := hR.byte (p % len)
  obtain ⟨y0, y1⟩ := hR.byte ((p + 1) % len)
  clear hc
  have q0 : 0 ≤ (p : Int) / len ∧ (p : Int) / len ≤ 1000 := ⟨Int.ediv_nonneg (by omega) (by omega), by
    have : (p : Int) / len ≤ p := Int.ediv_le_self _ (by omega)
    omega⟩
  obtain ⟨q1, q2⟩ := q0
  have e0 : ((len : Int) == 0) = false := by rw [beq_eq_false_iff_ne]; omega
  simp only [List.getD_eq_getElem?_getD] at z0 z1 y0 y1 d1 d2
  have m1 : 0 ≤ ((p : Int) + 1) % len := Int.emod_nonneg _ (by omega)
  have m2 : ((p : Int) + 1) % len < len := Int.emod_lt_of_pos _ (by omega)
  have m3 : (((p : Int) + 1) % len).toNat = (p + 1) % len := by
    have : ((p : Int) + 1) % len = ((p + 1) % len : Nat) := by simp
    rw [this]; rfl
  by_cases h2 : 200 < n
  · go_enter Tryd.func33, Tryd.ntmps33
    go_wp2_with fail
    go_quiet (fail)
    go_wp2_with fail
    go_ret
    exact ⟨_, Int.emod_nonneg _ (by omega), .inl (Int.emod_lt_of_pos _ (by omega)), rfl, bdrewN (Below.refl _ _) _⟩
  · go_enter Tryd.func33, Tryd.ntmps33
    go_wp2_with fail
    go_quiet (fail)
    go_wp2_with fail
    go_ret
    exact ⟨_, Int.emod_nonneg _ (by omega), .inl (Int.emod_lt_of_pos _ (by omega)), rfl, bdrewN (Below.refl _ _) _⟩

theorem lwAt_any (p : Nat) (n : Int) (a : Option Addr) (len cap B : Nat) (zs : List Int) (w : World) (hR : Row .u8 w B a len cap zs) (hp : p ≤ 1000) :
    Calls Tryd.prog 33 #[.slice a len cap, .int .i64 p, .int .i64 n] w (Ated n w) := by
  have hlen := hR.fits
  have hmost := hR.most
  unfold maxLen at hmost
  by_cases hn : n ≤ 1
  · go_enter Tryd.func33, Tryd.ntmps33
    go_wp2_with fail
    go_ret
    exact ⟨0, by omega, .inr ⟨hn, rfl⟩, rfl, Below.refl _ _⟩
  · rcases Nat.eq_zero_or_pos len with h0 | h0
    · have e0 : ((len : Int) == 0) = true := by rw [beq_iff_eq]; omega
      clear h0
      go_enter Tryd.func33, Tryd.ntmps33
      go_wp2_with fail
      go_ret
      exact ⟨_, Int.emod_nonneg _ (by omega), .inl (Int.emod_lt_of_pos _ (by omega)), rfl, Below.refl _ _⟩
    · exact lwAt_pos p n a len cap B zs w hR hp (by omega) h0

end Go.Proofs.YtjlhldndomaknaaDoor
