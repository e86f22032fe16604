/- Texts of this seat that several laws rest on, laid into one. Conditions: as each theorem states. -/
import Derived.Test.YtcolecidbalmhaaGreatDoorS1
import Derived.Test.YtcolecidbalmhaaGreatDoorS3
import Derived.Test.YtcolecidbalmhaaGreatDoorS8
import Derived.Test.YtcolecidbalmhaaGreatDoorS9
import Derived.Test.YtcolecidbalmhaaGreatDoorS12
namespace Go.Proofs.YtcolecidbalmhaaGreatDoor
open Go.RowKit
set_option maxRecDepth 100000
set_option linter.unusedVariables false

theorem At.newN {w : World} (cs : List Value) (t : TypeId) {n : Nat} (h : w.heap.size = n) : At n cs (w.alloc (.cells cs.toArray t)) := h ▸ At.new w cs t
/-- A slice of rollovers that is read: 'ps' are its elements; it lies below block B. -/
structure RRow (w : World) (B : Nat) (a : Option Addr) (len cap : Nat) (ps : List RollD) : Prop where
  length : ps.length = len
  fits : len ≤ cap
  most : cap ≤ maxLen
  names : ∀ p ∈ ps, p.p.n.size ≤ maxLen
  cells : 0 < len → ∃ b off, a = some ⟨b, off, none⟩ ∧ b < B ∧ ∀ j, j < len → ∀ i v, (ps[j]?.getD roll0).vals[i]? = some v → w.cell? ⟨b, off + j * 8 + i, none⟩ = some v
section
variable {w w' : World} {B B' : Nat} {a : Option Addr} {len cap : Nat} {ps : List RollD}
theorem RRow.keep (h : RRow w B a len cap ps) (hk : ∀ i, i < B → w'.heap[i]? = w.heap[i]?) : RRow w' B a len cap ps :=
  ⟨h.length, h.fits, h.most, h.names, fun hp => by
    obtain ⟨b, off, e, hb, hc⟩ := h.cells hp
    exact ⟨b, off, e, hb, fun j hj i v hv => (World.cell?_of_block (w := w) (hk b hb)).trans (hc j hj i v hv)⟩⟩
theorem RRow.below (h : RRow w B a len cap ps) (hb : Below B w w') : RRow w' B a len cap ps := h.keep hb.block
theorem RRow.more (h : RRow w B a len cap ps) (hB : B ≤ B') : RRow w B' a len cap ps :=
  ⟨h.length, h.fits, h.most, h.names, fun hp => by
    obtain ⟨b, off, e, hb, hc⟩ := h.cells hp
    exact ⟨b, off, e, by omega, hc⟩⟩
theorem RRow.on (h : RRow w w.heap.size a len cap ps) (hb : Below w.heap.size w w') : RRow w' w'.heap.size a len cap ps := (h.below hb).more hb.size
theorem RRow.alloc (h : RRow w B a len cap ps) (hB : B ≤ w.heap.size) (o : Obj) : RRow (w.alloc o) B a len cap ps := h.below ((Below.refl B w).alloc hB o)
theorem RRow.nil (w : World) (B : Nat) : RRow w B none 0 0 [] := ⟨rfl, Nat.le_refl _, Nat.zero_le _, by simp, fun h => absurd h (by omega)⟩
/-- Element k's eight cells. -/
theorem RRow.at' (h : RRow w B a len cap ps) {k : Nat} (hk : k < len) : ∃ b off, a = some ⟨b, off, none⟩ ∧ b < B ∧
    w.cell? ⟨b, off + k * 8, none⟩ = some (.string (ps[k]?.getD roll0).p.n) ∧ w.cell? ⟨b, off + k * 8 + 1, none⟩ = some (.int .i64 (ps[k]?.getD roll0).p.a) ∧ w.cell? ⟨b, off + k * 8 + 2, none⟩ = some (.int .i64 (ps[k]?.getD roll0).p.b) ∧
    w.cell? ⟨b, off + k * 8 + 3, none⟩ = some (.int .i64 (ps[k]?.getD roll0).p.e) ∧ w.cell? ⟨b, off + k * 8 + 4, none⟩ = some (.int .i64 (ps[k]?.getD roll0).p.u) ∧
    w.cell? ⟨b, off + k * 8 + 5, none⟩ = some (.int .i64 (ps[k]?.getD roll0).b) ∧ w.cell? ⟨b, off + k * 8 + 6, none⟩ = some (.int .i64 (ps[k]?.getD roll0).x) ∧ w.cell? ⟨b, off + k * 8 + 7, none⟩ = some (.int .i64 (ps[k]?.getD roll0).y) := by
  obtain ⟨b, off, e, hb, hc⟩ := h.cells (by omega)
  exact ⟨b, off, e, hb, hc k hk 0 _ rfl, hc k hk 1 _ rfl, hc k hk 2 _ rfl, hc k hk 3 _ rfl, hc k hk 4 _ rfl, hc k hk 5 _ rfl, hc k hk 6 _ rfl, hc k hk 7 _ rfl⟩
theorem RRow.mem (h : RRow w B a len cap ps) {k : Nat} (hk : k < len) : (ps[k]?.getD roll0) ∈ ps := by
  have := h.length
  rw [List.getElem?_eq_getElem (by omega)]
  exact List.getElem_mem _
theorem RRow.name (h : RRow w B a len cap ps) {k : Nat} (hk : k < len) : (ps[k]?.getD roll0).p.n.size ≤ maxLen := h.names _ (h.mem hk)
/-- A beginning of it. -/
theorem RRow.take (h : RRow w B a len cap ps) {k : Nat} (hk : k ≤ len) : RRow w B a k cap (ps.take k) := by
  have hl := h.length
  refine ⟨by rw [List.length_take]; omega, Nat.le_trans hk h.fits, h.most, fun p hp => h.names p (List.mem_of_mem_take hp), fun hp => ?_⟩
  obtain ⟨b, off, e, hb, hc⟩ := h.cells (by omega)
  refine ⟨b, off, e, hb, fun j hj i v hv => hc j (by omega) i v ?_⟩
  rw [List.getElem?_take_of_lt hj] at hv
  exact hv
end

/-- A slice of rollovers of the call's own. -/
def OwnR (w : World) (B : Nat) (v : Value) (ps : List RollD) : Prop := Own w B 8 v ps.length (flatR ps)
section
variable {w w' : World} {B : Nat} {v : Value} {ps : List RollD}
theorem OwnR.row {a : Option Addr} {len cap : Nat} (h : OwnR w B (.slice a len cap) ps) (hs : ∀ p ∈ ps, p.p.n.size ≤ maxLen) : RRow w w.heap.size a len cap ps := by
  rcases h.2 with ⟨e, h0⟩ | ⟨g, c, e, hb, hg, h1, h2, hc, _⟩
  · injection e with e1 e2 e3
    subst e1; subst e2; subst e3
    obtain rfl : ps = [] := List.eq_nil_of_length_eq_zero h0
    exact RRow.nil _ _
  · injection e with e1 e2 e3
    subst e1; subst e2; subst e3
    exact ⟨rfl, h1, h2, hs, fun hp => ⟨g, 0, rfl, hg, fun j hj i v hv => by
      rw [Nat.zero_add]
      exact hc _ v (flatR_get ps j i v hj hv)⟩⟩
theorem OwnR.nil (w : World) (B : Nat) : OwnR w B (.slice none 0 0) [] := Own.nil w B 8
theorem OwnR.alloc (h : OwnR w B v ps) (o : Obj) : OwnR (w.alloc o) B v ps := Own.alloc h o
theorem OwnR.below (h : OwnR w B v ps) (hb : Below w.heap.size w w') : OwnR w' B v ps := Own.below h hb
theorem OwnR.less {B' : Nat} (h : OwnR w B v ps) (hB : B' ≤ B) : OwnR w B' v ps := Own.less h hB
end
/-- Cells that have been laid so far into a new block, in their order. -/
structure FillC (w : World) (n : Nat) (cs : List Value) (m : Nat) (wr : World) : Prop where
  told : ∀ j, j < m → ∀ v, cs[j]? = some v → wr.cell? ⟨w.heap.size, j, none⟩ = some v
  room : ∀ j, j < n → (∃ u, wr.cell? ⟨w.heap.size, j, none⟩ = some u) ∧ wr.frozen? ⟨w.heap.size, j, none⟩ = false
  lt : w.heap.size < wr.heap.size
  bel : Below w.heap.size w wr
theorem FillC.new (w : World) (n : Nat) (ps : List Value) (cs : Array Value) (t : TypeId) (hs : cs.size = n) : FillC w n ps 0 (w.alloc (.cells cs t)) := by
  have e1 : (w.alloc (.cells cs t)).heap[w.heap.size]? = some (.cells cs t) := (MapKept.heap_alloc w _).1
  refine ⟨fun j hj => absurd hj (by omega), fun j hj => ?_, by simp, bal (Below.refl _ _) _⟩
  unfold World.cell? World.frozen?
  rw [e1]
  exact ⟨⟨cs[j], by simp [show j < cs.size by omega]⟩, by simp⟩
theorem FillC.on {w wr wr' : World} {n : Nat} {ps : List Value} {k : Nat} (h : FillC w n ps k wr) (hb : Below wr.heap.size wr wr') : FillC w n ps k wr' := by
  have e := hb.block w.heap.size h.lt
  refine ⟨fun j hj v hv => cell_keep hb (h.told j hj v hv), fun j hj => ?_, Nat.lt_of_lt_of_le h.lt hb.size, btr h.bel hb⟩
  rw [World.cell?_of_block (w := wr) (a := ⟨w.heap.size, j, none⟩) e, World.frozen?_of_block (w := wr) (a := ⟨w.heap.size, j, none⟩) e]
  exact h.room j hj
theorem FillC.one {w wr : World} {n : Nat} {cs : List Value} {m : Nat} {v : Value} (h : FillC w n cs m wr) (hm : m < n) (hv : cs[m]? = some v) : FillC w n cs (m + 1) (wr.setCell ⟨w.heap.size, m, none⟩ v) := by
  refine ⟨fun i hi u hu => ?_, fun i hi => ?_, by simpa [World.setCell] using h.lt, bset h.bel (Nat.le_refl _) v⟩
  · by_cases e : i = m
    · subst e
      rw [hv] at hu
      injection hu with hu
      subst hu
      obtain ⟨u0, hu0⟩ := (h.room i hm).1
      exact World.cell?_setCell_same _ _ _ (by rw [hu0])
    · rw [World.cell?_setCell_other _ _ _ _ (fun e => by injection e with _ e2; omega)]
      exact h.told i (by omega) u hu
  · obtain ⟨⟨u, hu⟩, hf⟩ := h.room i hi
    exact ⟨cell?_setCell_some (w := wr) (p := ⟨w.heap.size, m, none⟩) (x := v) (q := ⟨w.heap.size, i, none⟩) (v := u) hu, by rw [World.frozen?_setCell]; exact hf⟩
theorem FillC.own {w wr : World} {n : Nat} {ps : List RollD} (h : FillC w (n * 8) (flatR ps) (n * 8) wr) (hl : ps.length = n) (hm : n ≤ maxLen) : OwnR wr w.heap.size (.slice (some ⟨w.heap.size, 0, none⟩) n n) ps := by
  subst hl
  refine ⟨flatR_length ps, .inr ⟨w.heap.size, _, rfl, Nat.le_refl _, h.lt, Nat.le_refl _, hm, fun j u hu => ?_, fun j hj => ?_⟩⟩
  · have hj := (List.getElem?_eq_some_iff.1 hu).1
    rw [flatR_length] at hj
    exact h.told j hj u hu
  · obtain ⟨⟨u, hu⟩, hf⟩ := h.room j hj
    exact ⟨by rw [hu]; rfl, hf⟩
end Go.Proofs.YtcolecidbalmhaaGreatDoor
namespace Go.Proofs.YtcolecidbalmhaaGreatDoor
open Go.RowKit
set_option maxRecDepth 100000

/-! Whole numbers below 2879 as floats, and back. -/
def floatBackB (n : Nat) : Bool := floatToIntVal .f64 (floatOfInt .f64 (n : Int)) .i64 == some (n : Int)
theorem float_all : M.allB floatBackB 2879 = true := by decide +kernel
theorem float_back {n : Int} (h0 : 0 ≤ n) (h1 : n ≤ 2878) : floatToIntVal .f64 (floatOfInt .f64 n) .i64 = some n := by
  obtain ⟨n, rfl⟩ := Int.eq_ofNat_of_zero_le h0
  have h := M.allB_out float_all (k := n) (by omega)
  simp only [floatBackB, beq_iff_eq] at h
  exact h
/-- The two numbers as one complex one. -/
def pairV (p q : Int) : Value := .complex .f64 (floatOfInt .f64 p) (floatOfInt .f64 q)

theorem point_any (p q : Int) (w : World) (h0 : 0 ≤ p) (h1 : p ≤ 2878) :
    Calls Tryz.prog 267 #[pairV p q] w fun r w' => r = .returned (.int .i64 p) ∧ w = w' := by
  have hf := float_back h0 h1
  have hc := fun (w : World) => run_convert_float_int (P := Tryz.prog) w 290 2 .f64 .i64 (floatOfInt .f64 p) p (by kernel_rfl) Tryz.underlying2 hf
  unfold pairV
  go_enter Tryz.func267, Tryz.ntmps267
  go_wp2_with fail
  go_ret
  simp
theorem proof_any (p q : Int) (w : World) (h0 : 0 ≤ q) (h1 : q ≤ 2878) :
    Calls Tryz.prog 268 #[pairV p q] w fun r w' => r = .returned (.int .i64 q) ∧ w = w' := by
  have hf := float_back h0 h1
  have hc := fun (w : World) => run_convert_float_int (P := Tryz.prog) w 290 2 .f64 .i64 (floatOfInt .f64 q) q (by kernel_rfl) Tryz.underlying2 hf
  unfold pairV
  go_enter Tryz.func268, Tryz.ntmps268
  go_wp2_with fail
  go_ret
  simp

/-- An error of what does not fit was answered. -/
def Misfit (w : World) (r : Ending) (w' : World) : Prop := ∃ s, r = .returned (misV 3 s) ∧ Below w.heap.size w w'
theorem pairOf_yes (p q : Int) (w : World) (h : M.sigB p q = true) :
    Calls Tryz.prog 202 #[I2 p q] w fun r w' => r = .returned (.tuple #[pairV p q, .nilIface]) ∧ Below w.heap.size w w' := by
  obtain ⟨p0, p1, q0, q1⟩ := M.sigB_bd h
  have hp : pubB p = true := by simp only [M.sigB, Bool.and_eq_true] at h; exact h.1
  unfold pairV
  clear h
  go_enter Tryz.func202, Tryz.ntmps202
  go_wp2_with fail
  refine (implIsPublic_any _ _).mono ?_
  rintro r w1 ⟨rfl, hb_w1⟩
  obtain ⟨hc_w1, hf_w1⟩ := bcell hb_w1
  have hz_w1 := hb_w1.size
  (try simp at hz_w1)
  go_wp2_with fail
  go_ret2
  exact ⟨rfl, btr (bal (Below.refl _ _) _) hb_w1⟩
def PairNo (w : World) (r : Ending) (w' : World) : Prop := ∃ s v, r = .returned (.tuple #[v, misV 3 s]) ∧ Below w.heap.size w w'
theorem pairOf_no (p q : Int) (w : World) (h : M.sigB p q = false) :
    Calls Tryz.prog 202 #[I2 p q] w (PairNo w) := by
  cases hp : pubB p
  · clear h
    go_enter Tryz.func202, Tryz.ntmps202
    go_wp2_with fail
    refine (implIsPublic_any _ _).mono ?_
    rintro r w1 ⟨rfl, hb_w1⟩
    obtain ⟨hc_w1, hf_w1⟩ := bcell hb_w1
    have hz_w1 := hb_w1.size
    (try simp at hz_w1)
    go_wp2_with fail
    go_ret2
    exact ⟨_, _, rfl, btr (bal (Below.refl _ _) _) hb_w1⟩
  · have hq : ¬ (0 ≤ q ∧ q ≤ 1438) := by
      intro hq
      simp only [M.sigB, hp, inB, hq, and_self, decide_true, Bool.and_self] at h
      cases h
    clear h
    by_cases q0 : q < 0
    · go_enter Tryz.func202, Tryz.ntmps202
      go_wp2_with fail
      refine (implIsPublic_any _ _).mono ?_
      rintro r w1 ⟨rfl, hb_w1⟩
      obtain ⟨hc_w1, hf_w1⟩ := bcell hb_w1
      have hz_w1 := hb_w1.size
      (try simp at hz_w1)
      go_wp2_with fail
      go_ret2
      exact ⟨_, _, rfl, btr (bal (Below.refl _ _) _) hb_w1⟩
    · have q1 : 1438 < q := by omega
      clear hq
      go_enter Tryz.func202, Tryz.ntmps202
      go_wp2_with fail
      refine (implIsPublic_any _ _).mono ?_
      rintro r w1 ⟨rfl, hb_w1⟩
      obtain ⟨hc_w1, hf_w1⟩ := bcell hb_w1
      have hz_w1 := hb_w1.size
      (try simp at hz_w1)
      go_wp2_with fail
      go_ret2
      exact ⟨_, _, rfl, btr (bal (Below.refl _ _) _) hb_w1⟩

theorem challenge_any (p q t : Int) (w : World) (hL : Labels w) (hp : M.sumB p = true) (hq : M.sumB q = true) (ht : M.sumB t = true) :
    Calls Tryz.prog 266 #[.int .i64 p, .int .i64 q, .int .i64 t] w fun r w' => r = .returned (.int .i64 (M.chalN p q t)) ∧ Below w.heap.size w w' := by
  have hlab := hL.signW
  have hlt := hL.lt
  have hR := row_three (w := w) p q t 2 hp hq ht
  have HA := Lib.hid (show [p, q, t].all M.sumB = true by simp [hp, hq, ht])
  obtain ⟨t0, t1⟩ := M.tagL_bd M.signS [p, q, t]
  unfold M.chalN
  clear hL hp hq ht
  go_enter Tryz.func266, Tryz.ntmps266
  go_wp2_with fail
  refine (sumTagged_any _ _ _ _ _ _ _ (by decide) hR (by simp) HA.out (by omega)).mono ?_
  rintro r w2 ⟨rfl, hb2⟩
  have hb := btr (bal (Below.refl _ _) _) hb2
  clear hb2 hR hlab HA
  go_wp2_with fail
  go_ret
  exact ⟨rfl, hb⟩

theorem l3Challenge_any (p q t : Int) (w : World) (hp : M.sumB p = true) (hq : M.sumB q = true) (ht : M.sumB t = true) :
    Calls Tryz.prog 239 #[.int .i64 p, .int .i64 q, .int .i64 t] w fun r w' => r = .returned (.int .i64 (M.chalN p q t)) ∧ Below w.heap.size w w' := by
  have hR := row_three (w := w) p q t 2 hp hq ht
  have HA := Lib.hid (show [p, q, t].all M.sumB = true by simp [hp, hq, ht])
  obtain ⟨t0, t1⟩ := M.tagL_bd M.signS [p, q, t]
  unfold M.chalN
  clear hp hq ht
  go_enter Tryz.func239, Tryz.ntmps239
  go_wp2_with fail
  refine (l2Tag_any M.signS _ _ _ _ _ _ (by decide) hR (by simp) HA.out (by omega)).mono ?_
  rintro r w2 ⟨rfl, hb2⟩
  have hb := btr (bal (Below.refl _ _) _) hb2
  clear hb2 hR HA
  go_wp2_with fail
  go_ret
  exact ⟨rfl, hb⟩

theorem l3Fault_at (g o : Nat) (p q : Int) (w : World) (c0 : w.cell? ⟨g, o, none⟩ = some (.int .i64 p)) (c1 : w.cell? ⟨g, o + 1, none⟩ = some (.int .i64 q)) :
    Calls Tryz.prog 206 #[.pointer (some ⟨g, o, none⟩)] w fun r w' => r = .returned (.int .i64 (M.sigF p q)) ∧ w = w' := by
  cases hp : pubB p
  · have E : M.sigF p q = 3 := by simp [M.sigF, M.sigB, hp]
    rw [E]; clear E
    go_enter Tryz.func206, Tryz.ntmps206
    go_wp2_with fail
    refine (l1Public_any _ _).mono ?_
    rintro r w' ⟨rfl, rfl⟩
    go_wp2_with fail
    go_ret
    simp
  cases hq : inB q 0 1438
  · have E : M.sigF p q = 3 := by simp [M.sigF, M.sigB, hq]
    rw [E]; clear E
    go_enter Tryz.func206, Tryz.ntmps206
    go_wp2_with fail
    refine (l1Public_any _ _).mono ?_
    rintro r w' ⟨rfl, rfl⟩
    go_wp2_with fail
    refine (l1In_any _ _ _ _).mono ?_
    rintro r w' ⟨rfl, rfl⟩
    go_wp2_with fail
    go_ret
    simp
  · have E : M.sigF p q = 0 := by simp [M.sigF, M.sigB, hp, hq]
    rw [E]; clear E
    go_enter Tryz.func206, Tryz.ntmps206
    go_wp2_with fail
    refine (l1Public_any _ _).mono ?_
    rintro r w' ⟨rfl, rfl⟩
    go_wp2_with fail
    refine (l1In_any _ _ _ _).mono ?_
    rintro r w' ⟨rfl, rfl⟩
    go_wp2_with fail
    go_ret
    simp
theorem toSigned_any (p q : Int) (w : World) :
    Calls Tryz.prog 123 #[I2 p q] w fun r w' => r = .returned (I2 p q) ∧ Below w.heap.size w w' := by
  go_enter Tryz.func123, Tryz.ntmps123
  go_wp2_with fail
  exact bodyPost_ret (v := I2 p q) (by simp [results, Tryz.results123, go_sem]) rfl ⟨rfl, bal (bal (bal (Below.refl _ _) _) _) _⟩
end Go.Proofs.YtcolecidbalmhaaGreatDoor
namespace Go.Proofs.YtcolecidbalmhaaGreatDoor
open Go.RowKit
set_option maxRecDepth 100000

end Go.Proofs.YtcolecidbalmhaaGreatDoor
namespace Go.Proofs.YtcolecidbalmhaaGreatDoor
open Go.RowKit
set_option maxRecDepth 100000

theorem checkB_yes {u t p q : Int} (hu : pubB u = true) (ht : M.sumB t = true) (hg : M.sigB p q = true) : M.checkB u t p q = (M.pw 4 q.toNat 2879 == p * M.pw u (M.chalN u p t).toNat 2879 % 2879) := by
  simp only [M.checkB, hu, ht, hg, Bool.and_self, Bool.true_and]

theorem l3Check_at (u t : Int) (g o : Nat) (p q : Int) (w : World) (d0 : w.cell? ⟨g, o, none⟩ = some (.int .i64 p)) (d1 : w.cell? ⟨g, o + 1, none⟩ = some (.int .i64 q)) :
    Calls Tryz.prog 247 #[.int .i64 u, .int .i64 t, .pointer (some ⟨g, o, none⟩)] w fun r w' => r = .returned (.bool (M.checkB u t p q)) ∧ Below w.heap.size w w' := by
  cases hu : pubB u
  · have E : M.checkB u t p q = false := by simp [M.checkB, hu]
    rw [E]; clear E
    go_enter Tryz.func247, Tryz.ntmps247
    go_wp2_with fail
    refine (l1Public_any _ _).mono ?_
    rintro r w' ⟨rfl, rfl⟩
    go_wp2_with fail
    go_ret
    exact ⟨rfl, Below.refl _ _⟩
  cases ht : M.sumB t
  · have E : M.checkB u t p q = false := by simp [M.checkB, ht]
    rw [E]; clear E
    go_enter Tryz.func247, Tryz.ntmps247
    go_wp2_with fail
    refine (l1Public_any _ _).mono ?_
    rintro r w' ⟨rfl, rfl⟩
    go_wp2_with fail
    refine (l2Is_any _ _).mono ?_
    rintro r w' ⟨rfl, rfl⟩
    go_wp2_with fail
    go_ret
    exact ⟨rfl, Below.refl _ _⟩
  cases hg : M.sigB p q
  · have E : M.checkB u t p q = false := by simp [M.checkB, hg]
    have F : M.sigF p q = 3 := by simp [M.sigF, hg]
    rw [E]; clear E
    have F1 := l3Fault_at g o p q w d0 d1
    rw [F] at F1
    go_enter Tryz.func247, Tryz.ntmps247
    go_wp2_with fail
    refine (l1Public_any _ _).mono ?_
    rintro r w' ⟨rfl, rfl⟩
    go_wp2_with fail
    refine (l2Is_any _ _).mono ?_
    rintro r w' ⟨rfl, rfl⟩
    go_wp2_with fail
    refine (F1).mono ?_
    rintro r w' ⟨rfl, rfl⟩
    go_wp2_with fail
    go_ret
    exact ⟨rfl, Below.refl _ _⟩
  rw [checkB_yes hu ht hg]
  have F : M.sigF p q = 0 := by simp [M.sigF, hg]
  have F1 := l3Fault_at g o p q w d0 d1
  rw [F] at F1
  clear F
  obtain ⟨p0, p1, q0, q1⟩ := M.sigB_bd hg
  obtain ⟨u0, u1⟩ := pubB_bd hu
  have hp : pubB p = true := by simp only [M.sigB, Bool.and_eq_true] at hg; exact hg.1
  have C1 := fun w => l3Challenge_any u p t w (M.sum_of_pub hu) (M.sum_of_pub hp) ht
  obtain ⟨c0, c1⟩ := M.chalN_bd u p t
  generalize M.chalN u p t = e at *
  have A1 := fun w => l1Raise_int 4 q w (by omega) (by omega) (by omega) (by omega)
  have A2 := fun w => l1Raise_int u e w (by omega) (by omega) (by omega) (by omega)
  obtain ⟨x0, x1⟩ := M.pw_bd u e.toNat (m := 2879) (by omega)
  obtain ⟨m0, m1⟩ := M.mul_bd (M := 2879) (show 0 ≤ p by omega) (by omega) x0 x1 (by omega)
  generalize M.pw 4 q.toNat 2879 = X at *
  generalize M.pw u e.toNat 2879 = Y at *
  have EW := Lib.hid (show IntKind.i64.wrap (p * Y) = p * Y ∧ (p * Y).tmod 2879 = p * Y % 2879 from ⟨by rw [IntKind.wrap_i64]; omega, Int.tmod_eq_emod_of_nonneg m0⟩)
  go_enter Tryz.func247, Tryz.ntmps247
  go_wp2_with fail
  refine (l1Public_any _ _).mono ?_
  rintro r w' ⟨rfl, rfl⟩
  go_wp2_with fail
  refine (l2Is_any _ _).mono ?_
  rintro r w' ⟨rfl, rfl⟩
  go_wp2_with fail
  refine (F1).mono ?_
  rintro r w' ⟨rfl, rfl⟩
  go_wp2_with fail
  refine (C1 _).mono ?_
  rintro r w1 ⟨rfl, h1⟩
  have k0 : w1.drew.cell? ⟨g, o, none⟩ = some (.int .i64 p) := cell_keep h1 d0
  have k1 : w1.drew.cell? ⟨g, o + 1, none⟩ = some (.int .i64 q) := cell_keep h1 d1
  have hbel : Below w.heap.size w w1.drew := h1.drew
  clear h1 d0 d1 F1
  go_wp2_with fail
  go_region_held3 (fun w' => w'.cell? ⟨g, o, none⟩ = some (.int .i64 p) ∧ w'.cell? ⟨g, o + 1, none⟩ = some (.int .i64 q)) (first | exact ⟨k0, k1⟩) (first | (go_at_call 216; refine (A1 _).mono ?_; rintro r wn ⟨rfl, rfl⟩) | (go_at_call 216; refine (A2 _).mono ?_; rintro r wn ⟨rfl, rfl⟩))
  all_goals
    go_wp2_with fail
    go_ret
    exact ⟨by show Ending.returned (Value.bool (X == (IntKind.i64.wrap (p * Y)).tmod 2879)) = _; rw [EW.out.1, EW.out.2], hbel⟩
theorem implCheckSign_any (u t p q : Int) (w : World) (hL : Labels w) :
    Calls Tryz.prog 245 #[.int .i64 u, .int .i64 t, I2 p q] w fun r w' => r = .returned (.bool (M.checkB u t p q)) ∧ Below w.heap.size w w' := by
  cases hg : M.sigB p q
  · have E : M.checkB u t p q = false := by simp [M.checkB, hg]
    rw [E]; clear E
    go_enter Tryz.func245, Tryz.ntmps245
    go_wp2_with fail
    refine (pairOf_no p q _ hg).mono ?_
    rintro r w1 ⟨s, v, rfl, h1⟩
    go_wp2_with fail
    go_ret
    exact ⟨rfl, btr (bal (Below.refl _ w) _) h1⟩
  cases hu : pubB u
  · have E : M.checkB u t p q = false := by simp [M.checkB, hu]
    rw [E]; clear E
    go_enter Tryz.func245, Tryz.ntmps245
    go_wp2_with fail
    refine (pairOf_yes p q _ hg).mono ?_
    rintro r w1 ⟨rfl, h1⟩
    go_wp2_with fail
    refine (implIsPublic_any _ _).mono ?_
    rintro r w2 ⟨rfl, hb_w2⟩
    obtain ⟨hc_w2, hf_w2⟩ := bcell hb_w2
    have hz_w2 := hb_w2.size
    (try simp at hz_w2)
    go_wp2_with fail
    go_ret
    exact ⟨rfl, btr (btr (bal (Below.refl _ w) _) h1) hb_w2⟩
  cases ht : M.sumB t
  · have E : M.checkB u t p q = false := by simp [M.checkB, ht]
    rw [E]; clear E
    go_enter Tryz.func245, Tryz.ntmps245
    go_wp2_with fail
    refine (pairOf_yes p q _ hg).mono ?_
    rintro r w1 ⟨rfl, h1⟩
    go_wp2_with fail
    refine (implIsPublic_any _ _).mono ?_
    rintro r w2 ⟨rfl, hb_w2⟩
    obtain ⟨hc_w2, hf_w2⟩ := bcell hb_w2
    have hz_w2 := hb_w2.size
    (try simp at hz_w2)
    go_wp2_with fail
    refine (isSum_any _ _).mono ?_
    rintro r w' ⟨rfl, rfl⟩
    go_wp2_with fail
    go_ret
    exact ⟨rfl, btr (btr (bal (Below.refl _ w) _) h1) hb_w2⟩
  rw [checkB_yes hu ht hg]
  obtain ⟨p0, p1, q0, q1⟩ := M.sigB_bd hg
  obtain ⟨u0, u1⟩ := pubB_bd hu
  have hp : pubB p = true := by simp only [M.sigB, Bool.and_eq_true] at hg; exact hg.1
  have C1 := fun w hL => challenge_any u p t w hL (M.sum_of_pub hu) (M.sum_of_pub hp) ht
  have P1 := fun w => point_any p q w (by omega) (by omega)
  have P2 := fun w => proof_any p q w (by omega) (by omega)
  have Y1 := fun w => pairOf_yes p q w hg
  obtain ⟨c0, c1⟩ := M.chalN_bd u p t
  generalize M.chalN u p t = e at *
  have A1 := fun w => power_int 2879 4 q w (by omega) (by omega) (by omega) (by omega) (by omega) (by omega)
  have A2 := fun w => power_int 2879 u e w (by omega) (by omega) (by omega) (by omega) (by omega) (by omega)
  obtain ⟨x0, x1⟩ := M.pw_bd u e.toNat (m := 2879) (by omega)
  generalize M.pw 4 q.toNat 2879 = X at *
  generalize M.pw u e.toNat 2879 = Y at *
  generalize pairV p q = V at *
  go_enter Tryz.func245, Tryz.ntmps245
  go_wp2_with fail
  refine (Y1 _).mono ?_
  rintro r w1 ⟨rfl, h1⟩
  go_wp2_with fail
  refine (implIsPublic_any _ _).mono ?_
  rintro r w2 ⟨rfl, h2⟩
  have b2 := btr (btr (bal (Below.refl _ w) _) h1) h2
  clear h1 h2
  go_wp2_with fail
  refine (isSum_any _ _).mono ?_
  rintro r w' ⟨rfl, rfl⟩
  go_wp2_with fail
  refine (P1 _).mono ?_
  rintro r w' ⟨rfl, rfl⟩
  go_wp2_with fail
  refine (C1 _ (hL.on b2)).mono ?_
  rintro r w3 ⟨rfl, h3⟩
  have b3 := btr b2 h3
  clear b2 h3
  go_wp2_with fail
  refine (A2 _).mono ?_
  rintro r w4 ⟨rfl, h4⟩
  have b4 := btr b3 h4
  clear b3 h4
  go_wp2_with fail
  refine (P2 _).mono ?_
  rintro r w' ⟨rfl, rfl⟩
  go_wp2_with fail
  refine (A1 _).mono ?_
  rintro r w5 ⟨rfl, h5⟩
  have b5 := btr b4 h5
  clear b4 h5
  go_wp2_with fail
  refine (P1 _).mono ?_
  rintro r w' ⟨rfl, rfl⟩
  go_wp2_with fail
  refine (product_two 2879 p Y _ _ (by omega) (by omega) (by omega) (by omega) x0 x1 (by go_simp) (by go_simp)).mono ?_
  rintro r w6 ⟨rfl, rfl⟩
  go_wp2_with fail
  go_ret
  exact ⟨rfl, bal b5 _⟩

end Go.Proofs.YtcolecidbalmhaaGreatDoor
namespace Go.Proofs.YtcolecidbalmhaaGreatDoor
open Go.RowKit
set_option maxRecDepth 100000
set_option linter.unusedVariables false

theorem At.pin {g : Nat} {r : RollD} {w : World} (A : At g r.vals w) : At g r.p.vals w := by
  have e : r.vals = r.p.vals ++ [.int .i64 r.b, .int .i64 r.x, .int .i64 r.y] := rfl
  have k : ∀ i v, r.p.vals[i]? = some v → r.vals[i]? = some v := fun i v h => by
    rw [e, List.getElem?_append_left (List.getElem?_eq_some_iff.1 h).1]
    exact h
  exact ⟨fun i v h => A.cell i v (k i v h), fun i v h => A.free i v (k i v h)⟩
theorem l8Fault_any (g : Nat) (r : RollD) (w : World) (A : At g r.vals w) (hn : r.p.n.size ≤ maxLen) :
    Calls Tryz.prog 149 #[.pointer (some ⟨g, 0, none⟩)] w fun e w' => e = .returned (.int .i64 r.f) ∧ Below w.heap.size w w' := by
  have F := fun w (A : At g r.p.vals w) => l7Fault_any g r.p w A hn
  by_cases h0 : r.p.f = 0
  · rw [h0] at F
    cases h1 : pubB r.b
    · rw [rollF_by h0 h1]
      go_enter Tryz.func149, Tryz.ntmps149
      go_wp2_with fail
      refine (F _ A.pin).mono ?_
      rintro e u1 ⟨rfl, b1⟩
      have c5 := (A.on b1).cell 5 _ rfl
      have c6 := (A.on b1).cell 6 _ rfl
      have c7 := (A.on b1).cell 7 _ rfl
      clear F
      go_wp2_with fail
      refine (l1Public_any _ _).mono ?_
      rintro r w' ⟨rfl, rfl⟩
      go_wp2_with fail
      go_ret
      exact ⟨rfl, b1⟩
    · rw [rollF_sig h0 h1]
      have S := fun w c6 c7 => l3Fault_at g 6 r.x r.y w c6 c7
      generalize M.sigF r.x r.y = c at *
      go_enter Tryz.func149, Tryz.ntmps149
      go_wp2_with fail
      refine (F _ A.pin).mono ?_
      rintro e u1 ⟨rfl, b1⟩
      have c5 := (A.on b1).cell 5 _ rfl
      have c6 := (A.on b1).cell 6 _ rfl
      have c7 := (A.on b1).cell 7 _ rfl
      clear F
      go_wp2_with fail
      refine (l1Public_any _ _).mono ?_
      rintro r w' ⟨rfl, rfl⟩
      go_wp2_with fail
      refine (S _ c6 c7).mono ?_
      rintro r w' ⟨rfl, rfl⟩
      go_wp2_with fail
      go_ret
      exact ⟨rfl, b1⟩
  · rw [rollF_pin h0]
    generalize r.p.f = c at *
    have q0 : (c == 0) = false := by simpa using h0
    go_enter Tryz.func149, Tryz.ntmps149
    go_wp2_with fail
    refine (F _ A.pin).mono ?_
    rintro e u1 ⟨rfl, b1⟩
    have c5 := (A.on b1).cell 5 _ rfl
    have c6 := (A.on b1).cell 6 _ rfl
    have c7 := (A.on b1).cell 7 _ rfl
    clear F
    go_wp2_with fail
    go_ret
    exact ⟨rfl, b1⟩
theorem l8Sum_any (g : Nat) (p : PinD) (w : World) (A : At g p.vals w) (h : p.f = 0) :
    Calls Tryz.prog 200 #[.pointer (some ⟨g, 0, none⟩)] w fun e w' => e = .returned (.int .i64 (rsum p)) ∧ Below w.heap.size w w' := by
  have hw := fun z hz => byte_wf (packP_byte h z hz)
  have P := fun w A => l7Pack_any g p w A h
  unfold rsum
  have hs := M.sumL_bd (packP p)
  have hB : M.sumB (M.sumL (packP p)) = true := by simp only [M.sumB, decide_eq_true_eq]; omega
  clear h
  generalize packP p = zs at *
  have S := fun a n c B w R => l2Sum_any a n c B zs w R
  generalize M.sumL zs = x at *
  have R1 := fun w => row_one0 (w := w) x 2 hB
  have HA := Lib.hid (show [x].all M.sumB = true by simp [hB])
  have T := fun w => l2Tag_any M.rollS _ _ _ _ _ _ (by decide) (R1 w) (by simp) HA.out (by omega)
  clear hs hB R1
  generalize M.tagL M.rollS [x] = y at *
  go_enter Tryz.func200, Tryz.ntmps200
  go_wp2_with fail
  refine (P _ A).mono ?_
  rintro r u1 ⟨a, n, c, rfl, O1, b1⟩
  have R1 := Own.row O1 hw
  clear O1 P
  go_wp2_with fail
  refine (S _ _ _ _ _ R1).mono ?_
  rintro r u2 ⟨rfl, rfl⟩
  clear R1 S
  go_wp2_with fail
  refine (T _).mono ?_
  rintro r u2 ⟨rfl, b2⟩
  have hb := btr b1 (btr (bal (Below.refl _ _) _) b2)
  clear b1 b2 T
  go_wp2_with fail
  go_ret
  exact ⟨rfl, hb⟩
set_option maxHeartbeats 2000000 in
theorem l8Check_any (g k : Nat) (o : PinD) (r : RollD) (t : Int) (w : World) (A : At g o.vals w) (Q : At k r.vals w) (ho : o.f = 0) (hr : r.f = 0) :
    Calls Tryz.prog 207 #[.pointer (some ⟨g, 0, none⟩), .pointer (some ⟨k, 0, none⟩), .int .i64 t] w fun e w' => e = .returned (.int .i64 (chk o r t)) ∧ Below w.heap.size w w' := by
  obtain ⟨-, -, -, ⟨he0, he1⟩, -⟩ := pin_bounds ho
  have TQ : (r.p.n.toList == o.n.toList) = decide (r.p.nm = o.nm) := text_beq r.p.n o.n
  have a0 := A.cell 0 _ rfl
  have c0 := Q.cell 0 _ rfl
  obtain ⟨hp, -, -⟩ := rollF_zero hr
  have L := fun g w A => l7Live_any g o t w A
  have S := fun w (Q : At k r.vals w) => l8Sum_any k r.p w Q.pin hp
  have C := fun w (Q : At k r.vals w) => l3Check_at r.b (rsum r.p) k 6 r.x r.y w (Q.cell 6 _ rfl) (Q.cell 7 _ rfl)
  clear ho hr hp
  by_cases h1 : r.p.nm = o.nm
  · rw [decide_eq_true h1] at TQ
    by_cases h2 : r.p.e = o.e + 1
    · have E2 : (r.p.e == o.e + 1) = true := by simpa using h2
      have N2 : (r.p.e != o.e + 1) = false := by simp [h2]
      by_cases h3 : r.b = o.a
      · have E3 : (r.b == o.a) = true := by simpa using h3
        have N3 : (r.b != o.a) = false := by simp [h3]
        have D3 : decide (r.b = o.a) = true := by simp [h3]
        have W3 := Lib.hid h3
        clear h3
        by_cases hu : t ≤ o.u
        · cases hc : M.checkB r.b (rsum r.p) r.x r.y
          · rw [chk_sign h1 h2 (.inl W3.out) hu hc]
            rw [hc] at C
            rw [decide_eq_true hu] at L
            generalize rsum r.p = x at *
            clear h1 h2 hu hc
            go_enter Tryz.func207, Tryz.ntmps207
            go_wp2_with fail
            refine wp_region_line (Bel w) [(0, true), (1, true), (2, true), (3, true), (4, true), (5, true), (6, true), (7, true), (8, true), (9, true), (10, true)] (by kernel_rfl) (by kernel_rfl) (fun _ _ d _ _ h => by cases d <;> exact h) (Bel.drew w) ?_
            have hst := Bel.drew w
            have inst : Nonempty (Of (Bel w)) := ⟨⟨_, hst⟩⟩
            have q0 := bel_cell a0
            have y0 := bel_cell c0
            iterate 11 (refine line_read rfl (by kernel_rfl) (fun K hK => ?_); go_big_quiet_op; refine hK _ ?_; clear hK K)
            refine line_nil ?_
            have b1 := hst.out
            have A1 := A.on b1
            have Q1 := Q.on b1
            clear hst inst q0 y0 a0 c0 A Q
            generalize w.drew = V1 at *
            have a3 := A1.cell 3 _ rfl
            have c3 := Q1.cell 3 _ rfl
            go_wp2_with fail
            refine wp_region_line (Bel V1) [(0, true), (1, true), (2, true), (3, true), (4, true), (5, true), (6, true), (7, true), (8, true), (9, true), (10, true), (11, true)] (by kernel_rfl) (by kernel_rfl) (fun _ _ d _ _ h => by cases d <;> exact h) (Bel.drew V1) ?_
            have hst := Bel.drew V1
            have inst : Nonempty (Of (Bel V1)) := ⟨⟨_, hst⟩⟩
            have q3 := bel_cell a3
            have y3 := bel_cell c3
            iterate 12 (refine line_read rfl (by kernel_rfl) (fun K hK => ?_); go_big_quiet_op; refine hK _ ?_; clear hK K)
            refine line_nil ?_
            have b3 := btr b1 hst.out
            have A3 := A1.on hst.out
            have Q3 := Q1.on hst.out
            clear hst inst q3 y3 a3 c3 A1 Q1 b1
            generalize V1.drew = V3 at *
            have a1 := A3.cell 1 _ rfl
            have a2 := A3.cell 2 _ rfl
            have c5 := Q3.cell 5 _ rfl
            go_wp2_with fail
            refine wp_region_line (Bel V3) [(0, true), (1, true), (2, true), (3, true), (4, true), (5, true), (6, true), (7, true), (8, true), (9, true), (10, true), (11, true), (12, true), (13, true), (14, true), (15, true), (16, true), (17, true), (18, true), (19, true), (20, true)] (by kernel_rfl) (by kernel_rfl) (fun _ _ d _ _ h => by cases d <;> exact h) (Bel.drew V3) ?_
            have hst := Bel.drew V3
            have inst : Nonempty (Of (Bel V3)) := ⟨⟨_, hst⟩⟩
            have q1 := bel_cell a1
            have q2 := bel_cell a2
            have y5 := bel_cell c5
            iterate 10 (refine line_read rfl (by kernel_rfl) (fun K hK => ?_); go_big_quiet_op; refine hK _ ?_; clear hK K)
            iterate 9 (refine line_skip rfl (by kernel_rfl) ?_; simp only [Act.put, List.setIfInBounds_toArray, List.set_cons_zero, List.set_cons_succ])
            iterate 2 (refine line_read rfl (by kernel_rfl) (fun K hK => ?_); go_big_quiet_op; refine hK _ ?_; clear hK K)
            refine line_nil ?_
            have b5 := btr b3 hst.out
            have A5 := A3.on hst.out
            have Q5 := Q3.on hst.out
            clear hst inst q1 q2 y5 a1 a2 c5 A3 Q3 b3
            generalize V3.drew = V5 at *
            go_wp2_with fail
            refine (L _ _ A5).mono ?_
            rintro e V7 ⟨rfl, b7⟩
            have B7 := btr b5 b7
            have Q7 := Q5.on b7
            clear b5 b7 A5 Q5 L
            have c5 := Q7.cell 5 _ rfl
            go_wp2_with fail
            refine wp_region_line (Bel V7) [(0, true), (1, true), (2, true), (3, true), (4, true), (5, true), (6, true), (8, true), (9, true), (10, true), (7, false), (11, false), (12, true), (13, true)] (by kernel_rfl) (by kernel_rfl) (fun _ _ d _ _ h => by cases d <;> exact h) (Bel.drew V7) ?_
            have hst := Bel.drew V7
            have inst : Nonempty (Of (Bel V7)) := ⟨⟨_, hst⟩⟩
            have y5 := bel_cell c5
            have QP := Q7.on hst.out
            generalize V7.drew = X at *
            iterate 10 (refine line_read rfl (by kernel_rfl) (fun K hK => ?_); go_big_quiet_op; refine hK _ ?_; clear hK K)
            refine line_alone rfl (by kernel_rfl) (fun K hK => ?_)
            refine call_wp (args := #[.pointer (some ⟨k, 0, none⟩)]) rfl (by kernel_rfl) (by kernel_rfl) (S _ (Q7.on hst.out)) (fun wn hbn => ?_)
            have hst2 := hst.on hbn
            refine hK _ _ hst2 ?_
            clear hK K hst hbn
            have hst := hst2
            clear hst2
            simp only [Act.put, List.setIfInBounds_toArray, List.set_cons_zero, List.set_cons_succ]
            refine line_alone rfl (by kernel_rfl) (fun K hK => ?_)
            refine call_wp (args := #[.int .i64 r.b, .int .i64 x, .pointer (some ⟨k, 6, none⟩)]) rfl (by kernel_rfl) (by kernel_rfl) (C _ (Q7.on hst.out)) (fun wn hbn => ?_)
            have hst2 := hst.on hbn
            refine hK _ _ hst2 ?_
            clear hK K hst hbn
            have hst := hst2
            clear hst2
            simp only [Act.put, List.setIfInBounds_toArray, List.set_cons_zero, List.set_cons_succ]
            iterate 2 (refine line_read rfl (by kernel_rfl) (fun K hK => ?_); go_big_quiet_op; refine hK _ ?_; clear hK K)
            refine line_nil ?_
            have hb := btr B7 hst.out
            clear hst inst y5 c5 Q7 B7 S C QP
            go_wp2_with fail
            go_ret
            exact ⟨rfl, hb⟩
          · rw [chk_yes h1 h2 (.inl W3.out) hu hc]
            rw [hc] at C
            rw [decide_eq_true hu] at L
            generalize rsum r.p = x at *
            clear h1 h2 hu hc
            go_enter Tryz.func207, Tryz.ntmps207
            go_wp2_with fail
            refine wp_region_line (Bel w) [(0, true), (1, true), (2, true), (3, true), (4, true), (5, true), (6, true), (7, true), (8, true), (9, true), (10, true)] (by kernel_rfl) (by kernel_rfl) (fun _ _ d _ _ h => by cases d <;> exact h) (Bel.drew w) ?_
            have hst := Bel.drew w
            have inst : Nonempty (Of (Bel w)) := ⟨⟨_, hst⟩⟩
            have q0 := bel_cell a0
            have y0 := bel_cell c0
            iterate 11 (refine line_read rfl (by kernel_rfl) (fun K hK => ?_); go_big_quiet_op; refine hK _ ?_; clear hK K)
            refine line_nil ?_
            have b1 := hst.out
            have A1 := A.on b1
            have Q1 := Q.on b1
            clear hst inst q0 y0 a0 c0 A Q
            generalize w.drew = V1 at *
            have a3 := A1.cell 3 _ rfl
            have c3 := Q1.cell 3 _ rfl
            go_wp2_with fail
            refine wp_region_line (Bel V1) [(0, true), (1, true), (2, true), (3, true), (4, true), (5, true), (6, true), (7, true), (8, true), (9, true), (10, true), (11, true)] (by kernel_rfl) (by kernel_rfl) (fun _ _ d _ _ h => by cases d <;> exact h) (Bel.drew V1) ?_
            have hst := Bel.drew V1
            have inst : Nonempty (Of (Bel V1)) := ⟨⟨_, hst⟩⟩
            have q3 := bel_cell a3
            have y3 := bel_cell c3
            iterate 12 (refine line_read rfl (by kernel_rfl) (fun K hK => ?_); go_big_quiet_op; refine hK _ ?_; clear hK K)
            refine line_nil ?_
            have b3 := btr b1 hst.out
            have A3 := A1.on hst.out
            have Q3 := Q1.on hst.out
            clear hst inst q3 y3 a3 c3 A1 Q1 b1
            generalize V1.drew = V3 at *
            have a1 := A3.cell 1 _ rfl
            have a2 := A3.cell 2 _ rfl
            have c5 := Q3.cell 5 _ rfl
            go_wp2_with fail
            refine wp_region_line (Bel V3) [(0, true), (1, true), (2, true), (3, true), (4, true), (5, true), (6, true), (7, true), (8, true), (9, true), (10, true), (11, true), (12, true), (13, true), (14, true), (15, true), (16, true), (17, true), (18, true), (19, true), (20, true)] (by kernel_rfl) (by kernel_rfl) (fun _ _ d _ _ h => by cases d <;> exact h) (Bel.drew V3) ?_
            have hst := Bel.drew V3
            have inst : Nonempty (Of (Bel V3)) := ⟨⟨_, hst⟩⟩
            have q1 := bel_cell a1
            have q2 := bel_cell a2
            have y5 := bel_cell c5
            iterate 10 (refine line_read rfl (by kernel_rfl) (fun K hK => ?_); go_big_quiet_op; refine hK _ ?_; clear hK K)
            iterate 9 (refine line_skip rfl (by kernel_rfl) ?_; simp only [Act.put, List.setIfInBounds_toArray, List.set_cons_zero, List.set_cons_succ])
            iterate 2 (refine line_read rfl (by kernel_rfl) (fun K hK => ?_); go_big_quiet_op; refine hK _ ?_; clear hK K)
            refine line_nil ?_
            have b5 := btr b3 hst.out
            have A5 := A3.on hst.out
            have Q5 := Q3.on hst.out
            clear hst inst q1 q2 y5 a1 a2 c5 A3 Q3 b3
            generalize V3.drew = V5 at *
            go_wp2_with fail
            refine (L _ _ A5).mono ?_
            rintro e V7 ⟨rfl, b7⟩
            have B7 := btr b5 b7
            have Q7 := Q5.on b7
            clear b5 b7 A5 Q5 L
            have c5 := Q7.cell 5 _ rfl
            go_wp2_with fail
            refine wp_region_line (Bel V7) [(0, true), (1, true), (2, true), (3, true), (4, true), (5, true), (6, true), (8, true), (9, true), (10, true), (7, false), (11, false), (12, true), (13, true)] (by kernel_rfl) (by kernel_rfl) (fun _ _ d _ _ h => by cases d <;> exact h) (Bel.drew V7) ?_
            have hst := Bel.drew V7
            have inst : Nonempty (Of (Bel V7)) := ⟨⟨_, hst⟩⟩
            have y5 := bel_cell c5
            have QP := Q7.on hst.out
            generalize V7.drew = X at *
            iterate 10 (refine line_read rfl (by kernel_rfl) (fun K hK => ?_); go_big_quiet_op; refine hK _ ?_; clear hK K)
            refine line_alone rfl (by kernel_rfl) (fun K hK => ?_)
            refine call_wp (args := #[.pointer (some ⟨k, 0, none⟩)]) rfl (by kernel_rfl) (by kernel_rfl) (S _ (Q7.on hst.out)) (fun wn hbn => ?_)
            have hst2 := hst.on hbn
            refine hK _ _ hst2 ?_
            clear hK K hst hbn
            have hst := hst2
            clear hst2
            simp only [Act.put, List.setIfInBounds_toArray, List.set_cons_zero, List.set_cons_succ]
            refine line_alone rfl (by kernel_rfl) (fun K hK => ?_)
            refine call_wp (args := #[.int .i64 r.b, .int .i64 x, .pointer (some ⟨k, 6, none⟩)]) rfl (by kernel_rfl) (by kernel_rfl) (C _ (Q7.on hst.out)) (fun wn hbn => ?_)
            have hst2 := hst.on hbn
            refine hK _ _ hst2 ?_
            clear hK K hst hbn
            have hst := hst2
            clear hst2
            simp only [Act.put, List.setIfInBounds_toArray, List.set_cons_zero, List.set_cons_succ]
            iterate 2 (refine line_read rfl (by kernel_rfl) (fun K hK => ?_); go_big_quiet_op; refine hK _ ?_; clear hK K)
            refine line_nil ?_
            have hb := btr B7 hst.out
            clear hst inst y5 c5 Q7 B7 S C QP
            go_wp2_with fail
            go_ret
            exact ⟨rfl, hb⟩
        · rw [chk_old h1 h2 (.inl W3.out) hu]
          rw [decide_eq_false hu] at L
          clear h1 h2 hu
          go_enter Tryz.func207, Tryz.ntmps207
          go_wp2_with fail
          refine wp_region_line (Bel w) [(0, true), (1, true), (2, true), (3, true), (4, true), (5, true), (6, true), (7, true), (8, true), (9, true), (10, true)] (by kernel_rfl) (by kernel_rfl) (fun _ _ d _ _ h => by cases d <;> exact h) (Bel.drew w) ?_
          have hst := Bel.drew w
          have inst : Nonempty (Of (Bel w)) := ⟨⟨_, hst⟩⟩
          have q0 := bel_cell a0
          have y0 := bel_cell c0
          iterate 11 (refine line_read rfl (by kernel_rfl) (fun K hK => ?_); go_big_quiet_op; refine hK _ ?_; clear hK K)
          refine line_nil ?_
          have b1 := hst.out
          have A1 := A.on b1
          have Q1 := Q.on b1
          clear hst inst q0 y0 a0 c0 A Q
          generalize w.drew = V1 at *
          have a3 := A1.cell 3 _ rfl
          have c3 := Q1.cell 3 _ rfl
          go_wp2_with fail
          refine wp_region_line (Bel V1) [(0, true), (1, true), (2, true), (3, true), (4, true), (5, true), (6, true), (7, true), (8, true), (9, true), (10, true), (11, true)] (by kernel_rfl) (by kernel_rfl) (fun _ _ d _ _ h => by cases d <;> exact h) (Bel.drew V1) ?_
          have hst := Bel.drew V1
          have inst : Nonempty (Of (Bel V1)) := ⟨⟨_, hst⟩⟩
          have q3 := bel_cell a3
          have y3 := bel_cell c3
          iterate 12 (refine line_read rfl (by kernel_rfl) (fun K hK => ?_); go_big_quiet_op; refine hK _ ?_; clear hK K)
          refine line_nil ?_
          have b3 := btr b1 hst.out
          have A3 := A1.on hst.out
          have Q3 := Q1.on hst.out
          clear hst inst q3 y3 a3 c3 A1 Q1 b1
          generalize V1.drew = V3 at *
          have a1 := A3.cell 1 _ rfl
          have a2 := A3.cell 2 _ rfl
          have c5 := Q3.cell 5 _ rfl
          go_wp2_with fail
          refine wp_region_line (Bel V3) [(0, true), (1, true), (2, true), (3, true), (4, true), (5, true), (6, true), (7, true), (8, true), (9, true), (10, true), (11, true), (12, true), (13, true), (14, true), (15, true), (16, true), (17, true), (18, true), (19, true), (20, true)] (by kernel_rfl) (by kernel_rfl) (fun _ _ d _ _ h => by cases d <;> exact h) (Bel.drew V3) ?_
          have hst := Bel.drew V3
          have inst : Nonempty (Of (Bel V3)) := ⟨⟨_, hst⟩⟩
          have q1 := bel_cell a1
          have q2 := bel_cell a2
          have y5 := bel_cell c5
          iterate 10 (refine line_read rfl (by kernel_rfl) (fun K hK => ?_); go_big_quiet_op; refine hK _ ?_; clear hK K)
          iterate 9 (refine line_skip rfl (by kernel_rfl) ?_; simp only [Act.put, List.setIfInBounds_toArray, List.set_cons_zero, List.set_cons_succ])
          iterate 2 (refine line_read rfl (by kernel_rfl) (fun K hK => ?_); go_big_quiet_op; refine hK _ ?_; clear hK K)
          refine line_nil ?_
          have b5 := btr b3 hst.out
          have A5 := A3.on hst.out
          have Q5 := Q3.on hst.out
          clear hst inst q1 q2 y5 a1 a2 c5 A3 Q3 b3
          generalize V3.drew = V5 at *
          go_wp2_with fail
          refine (L _ _ A5).mono ?_
          rintro e V7 ⟨rfl, b7⟩
          have B7 := btr b5 b7
          have Q7 := Q5.on b7
          clear b5 b7 A5 Q5 L
          go_wp2_with fail
          go_ret
          exact ⟨rfl, B7⟩
      · have E3 : (r.b == o.a) = false := by simpa using h3
        have N3 : (r.b != o.a) = true := by simp [h3]
        have D3 : decide (r.b = o.a) = false := by simp [h3]
        by_cases h4 : r.b = o.b
        · have E4 : (r.b == o.b) = true := by simpa using h4
          have N4 : (r.b != o.b) = false := by simp [h4]
          have W4 := Lib.hid h4
          clear h3 h4
          by_cases hu : t ≤ o.u
          · cases hc : M.checkB r.b (rsum r.p) r.x r.y
            · rw [chk_sign h1 h2 (.inr W4.out) hu hc]
              rw [hc] at C
              rw [decide_eq_true hu] at L
              generalize rsum r.p = x at *
              clear h1 h2 hu hc
              go_enter Tryz.func207, Tryz.ntmps207
              go_wp2_with fail
              refine wp_region_line (Bel w) [(0, true), (1, true), (2, true), (3, true), (4, true), (5, true), (6, true), (7, true), (8, true), (9, true), (10, true)] (by kernel_rfl) (by kernel_rfl) (fun _ _ d _ _ h => by cases d <;> exact h) (Bel.drew w) ?_
              have hst := Bel.drew w
              have inst : Nonempty (Of (Bel w)) := ⟨⟨_, hst⟩⟩
              have q0 := bel_cell a0
              have y0 := bel_cell c0
              iterate 11 (refine line_read rfl (by kernel_rfl) (fun K hK => ?_); go_big_quiet_op; refine hK _ ?_; clear hK K)
              refine line_nil ?_
              have b1 := hst.out
              have A1 := A.on b1
              have Q1 := Q.on b1
              clear hst inst q0 y0 a0 c0 A Q
              generalize w.drew = V1 at *
              have a3 := A1.cell 3 _ rfl
              have c3 := Q1.cell 3 _ rfl
              go_wp2_with fail
              refine wp_region_line (Bel V1) [(0, true), (1, true), (2, true), (3, true), (4, true), (5, true), (6, true), (7, true), (8, true), (9, true), (10, true), (11, true)] (by kernel_rfl) (by kernel_rfl) (fun _ _ d _ _ h => by cases d <;> exact h) (Bel.drew V1) ?_
              have hst := Bel.drew V1
              have inst : Nonempty (Of (Bel V1)) := ⟨⟨_, hst⟩⟩
              have q3 := bel_cell a3
              have y3 := bel_cell c3
              iterate 12 (refine line_read rfl (by kernel_rfl) (fun K hK => ?_); go_big_quiet_op; refine hK _ ?_; clear hK K)
              refine line_nil ?_
              have b3 := btr b1 hst.out
              have A3 := A1.on hst.out
              have Q3 := Q1.on hst.out
              clear hst inst q3 y3 a3 c3 A1 Q1 b1
              generalize V1.drew = V3 at *
              have a1 := A3.cell 1 _ rfl
              have a2 := A3.cell 2 _ rfl
              have c5 := Q3.cell 5 _ rfl
              go_wp2_with fail
              refine wp_region_line (Bel V3) [(0, true), (1, true), (2, true), (3, true), (4, true), (5, true), (6, true), (7, true), (8, true), (9, true), (10, true), (11, true), (12, true), (13, true), (14, true), (15, true), (16, true), (17, true), (18, true), (19, true), (20, true)] (by kernel_rfl) (by kernel_rfl) (fun _ _ d _ _ h => by cases d <;> exact h) (Bel.drew V3) ?_
              have hst := Bel.drew V3
              have inst : Nonempty (Of (Bel V3)) := ⟨⟨_, hst⟩⟩
              have q1 := bel_cell a1
              have q2 := bel_cell a2
              have y5 := bel_cell c5
              iterate 10 (refine line_read rfl (by kernel_rfl) (fun K hK => ?_); go_big_quiet_op; refine hK _ ?_; clear hK K)
              iterate 9 (refine line_read rfl (by kernel_rfl) (fun K hK => ?_); go_big_quiet_op; refine hK _ ?_; clear hK K)
              iterate 2 (refine line_read rfl (by kernel_rfl) (fun K hK => ?_); go_big_quiet_op; refine hK _ ?_; clear hK K)
              refine line_nil ?_
              have b5 := btr b3 hst.out
              have A5 := A3.on hst.out
              have Q5 := Q3.on hst.out
              clear hst inst q1 q2 y5 a1 a2 c5 A3 Q3 b3
              generalize V3.drew = V5 at *
              go_wp2_with fail
              refine (L _ _ A5).mono ?_
              rintro e V7 ⟨rfl, b7⟩
              have B7 := btr b5 b7
              have Q7 := Q5.on b7
              clear b5 b7 A5 Q5 L
              have c5 := Q7.cell 5 _ rfl
              go_wp2_with fail
              refine wp_region_line (Bel V7) [(0, true), (1, true), (2, true), (3, true), (4, true), (5, true), (6, true), (8, true), (9, true), (10, true), (7, false), (11, false), (12, true), (13, true)] (by kernel_rfl) (by kernel_rfl) (fun _ _ d _ _ h => by cases d <;> exact h) (Bel.drew V7) ?_
              have hst := Bel.drew V7
              have inst : Nonempty (Of (Bel V7)) := ⟨⟨_, hst⟩⟩
              have y5 := bel_cell c5
              have QP := Q7.on hst.out
              generalize V7.drew = X at *
              iterate 10 (refine line_read rfl (by kernel_rfl) (fun K hK => ?_); go_big_quiet_op; refine hK _ ?_; clear hK K)
              refine line_alone rfl (by kernel_rfl) (fun K hK => ?_)
              refine call_wp (args := #[.pointer (some ⟨k, 0, none⟩)]) rfl (by kernel_rfl) (by kernel_rfl) (S _ (Q7.on hst.out)) (fun wn hbn => ?_)
              have hst2 := hst.on hbn
              refine hK _ _ hst2 ?_
              clear hK K hst hbn
              have hst := hst2
              clear hst2
              simp only [Act.put, List.setIfInBounds_toArray, List.set_cons_zero, List.set_cons_succ]
              refine line_alone rfl (by kernel_rfl) (fun K hK => ?_)
              refine call_wp (args := #[.int .i64 r.b, .int .i64 x, .pointer (some ⟨k, 6, none⟩)]) rfl (by kernel_rfl) (by kernel_rfl) (C _ (Q7.on hst.out)) (fun wn hbn => ?_)
              have hst2 := hst.on hbn
              refine hK _ _ hst2 ?_
              clear hK K hst hbn
              have hst := hst2
              clear hst2
              simp only [Act.put, List.setIfInBounds_toArray, List.set_cons_zero, List.set_cons_succ]
              iterate 2 (refine line_read rfl (by kernel_rfl) (fun K hK => ?_); go_big_quiet_op; refine hK _ ?_; clear hK K)
              refine line_nil ?_
              have hb := btr B7 hst.out
              clear hst inst y5 c5 Q7 B7 S C QP
              go_wp2_with fail
              go_ret
              exact ⟨rfl, hb⟩
            · rw [chk_yes h1 h2 (.inr W4.out) hu hc]
              rw [hc] at C
              rw [decide_eq_true hu] at L
              generalize rsum r.p = x at *
              clear h1 h2 hu hc
              go_enter Tryz.func207, Tryz.ntmps207
              go_wp2_with fail
              refine wp_region_line (Bel w) [(0, true), (1, true), (2, true), (3, true), (4, true), (5, true), (6, true), (7, true), (8, true), (9, true), (10, true)] (by kernel_rfl) (by kernel_rfl) (fun _ _ d _ _ h => by cases d <;> exact h) (Bel.drew w) ?_
              have hst := Bel.drew w
              have inst : Nonempty (Of (Bel w)) := ⟨⟨_, hst⟩⟩
              have q0 := bel_cell a0
              have y0 := bel_cell c0
              iterate 11 (refine line_read rfl (by kernel_rfl) (fun K hK => ?_); go_big_quiet_op; refine hK _ ?_; clear hK K)
              refine line_nil ?_
              have b1 := hst.out
              have A1 := A.on b1
              have Q1 := Q.on b1
              clear hst inst q0 y0 a0 c0 A Q
              generalize w.drew = V1 at *
              have a3 := A1.cell 3 _ rfl
              have c3 := Q1.cell 3 _ rfl
              go_wp2_with fail
              refine wp_region_line (Bel V1) [(0, true), (1, true), (2, true), (3, true), (4, true), (5, true), (6, true), (7, true), (8, true), (9, true), (10, true), (11, true)] (by kernel_rfl) (by kernel_rfl) (fun _ _ d _ _ h => by cases d <;> exact h) (Bel.drew V1) ?_
              have hst := Bel.drew V1
              have inst : Nonempty (Of (Bel V1)) := ⟨⟨_, hst⟩⟩
              have q3 := bel_cell a3
              have y3 := bel_cell c3
              iterate 12 (refine line_read rfl (by kernel_rfl) (fun K hK => ?_); go_big_quiet_op; refine hK _ ?_; clear hK K)
              refine line_nil ?_
              have b3 := btr b1 hst.out
              have A3 := A1.on hst.out
              have Q3 := Q1.on hst.out
              clear hst inst q3 y3 a3 c3 A1 Q1 b1
              generalize V1.drew = V3 at *
              have a1 := A3.cell 1 _ rfl
              have a2 := A3.cell 2 _ rfl
              have c5 := Q3.cell 5 _ rfl
              go_wp2_with fail
              refine wp_region_line (Bel V3) [(0, true), (1, true), (2, true), (3, true), (4, true), (5, true), (6, true), (7, true), (8, true), (9, true), (10, true), (11, true), (12, true), (13, true), (14, true), (15, true), (16, true), (17, true), (18, true), (19, true), (20, true)] (by kernel_rfl) (by kernel_rfl) (fun _ _ d _ _ h => by cases d <;> exact h) (Bel.drew V3) ?_
              have hst := Bel.drew V3
              have inst : Nonempty (Of (Bel V3)) := ⟨⟨_, hst⟩⟩
              have q1 := bel_cell a1
              have q2 := bel_cell a2
              have y5 := bel_cell c5
              iterate 10 (refine line_read rfl (by kernel_rfl) (fun K hK => ?_); go_big_quiet_op; refine hK _ ?_; clear hK K)
              iterate 9 (refine line_read rfl (by kernel_rfl) (fun K hK => ?_); go_big_quiet_op; refine hK _ ?_; clear hK K)
              iterate 2 (refine line_read rfl (by kernel_rfl) (fun K hK => ?_); go_big_quiet_op; refine hK _ ?_; clear hK K)
              refine line_nil ?_
              have b5 := btr b3 hst.out
              have A5 := A3.on hst.out
              have Q5 := Q3.on hst.out
              clear hst inst q1 q2 y5 a1 a2 c5 A3 Q3 b3
              generalize V3.drew = V5 at *
              go_wp2_with fail
              refine (L _ _ A5).mono ?_
              rintro e V7 ⟨rfl, b7⟩
              have B7 := btr b5 b7
              have Q7 := Q5.on b7
              clear b5 b7 A5 Q5 L
              have c5 := Q7.cell 5 _ rfl
              go_wp2_with fail
              refine wp_region_line (Bel V7) [(0, true), (1, true), (2, true), (3, true), (4, true), (5, true), (6, true), (8, true), (9, true), (10, true), (7, false), (11, false), (12, true), (13, true)] (by kernel_rfl) (by kernel_rfl) (fun _ _ d _ _ h => by cases d <;> exact h) (Bel.drew V7) ?_
              have hst := Bel.drew V7
              have inst : Nonempty (Of (Bel V7)) := ⟨⟨_, hst⟩⟩
              have y5 := bel_cell c5
              have QP := Q7.on hst.out
              generalize V7.drew = X at *
              iterate 10 (refine line_read rfl (by kernel_rfl) (fun K hK => ?_); go_big_quiet_op; refine hK _ ?_; clear hK K)
              refine line_alone rfl (by kernel_rfl) (fun K hK => ?_)
              refine call_wp (args := #[.pointer (some ⟨k, 0, none⟩)]) rfl (by kernel_rfl) (by kernel_rfl) (S _ (Q7.on hst.out)) (fun wn hbn => ?_)
              have hst2 := hst.on hbn
              refine hK _ _ hst2 ?_
              clear hK K hst hbn
              have hst := hst2
              clear hst2
              simp only [Act.put, List.setIfInBounds_toArray, List.set_cons_zero, List.set_cons_succ]
              refine line_alone rfl (by kernel_rfl) (fun K hK => ?_)
              refine call_wp (args := #[.int .i64 r.b, .int .i64 x, .pointer (some ⟨k, 6, none⟩)]) rfl (by kernel_rfl) (by kernel_rfl) (C _ (Q7.on hst.out)) (fun wn hbn => ?_)
              have hst2 := hst.on hbn
              refine hK _ _ hst2 ?_
              clear hK K hst hbn
              have hst := hst2
              clear hst2
              simp only [Act.put, List.setIfInBounds_toArray, List.set_cons_zero, List.set_cons_succ]
              iterate 2 (refine line_read rfl (by kernel_rfl) (fun K hK => ?_); go_big_quiet_op; refine hK _ ?_; clear hK K)
              refine line_nil ?_
              have hb := btr B7 hst.out
              clear hst inst y5 c5 Q7 B7 S C QP
              go_wp2_with fail
              go_ret
              exact ⟨rfl, hb⟩
          · rw [chk_old h1 h2 (.inr W4.out) hu]
            rw [decide_eq_false hu] at L
            clear h1 h2 hu
            go_enter Tryz.func207, Tryz.ntmps207
            go_wp2_with fail
            refine wp_region_line (Bel w) [(0, true), (1, true), (2, true), (3, true), (4, true), (5, true), (6, true), (7, true), (8, true), (9, true), (10, true)] (by kernel_rfl) (by kernel_rfl) (fun _ _ d _ _ h => by cases d <;> exact h) (Bel.drew w) ?_
            have hst := Bel.drew w
            have inst : Nonempty (Of (Bel w)) := ⟨⟨_, hst⟩⟩
            have q0 := bel_cell a0
            have y0 := bel_cell c0
            iterate 11 (refine line_read rfl (by kernel_rfl) (fun K hK => ?_); go_big_quiet_op; refine hK _ ?_; clear hK K)
            refine line_nil ?_
            have b1 := hst.out
            have A1 := A.on b1
            have Q1 := Q.on b1
            clear hst inst q0 y0 a0 c0 A Q
            generalize w.drew = V1 at *
            have a3 := A1.cell 3 _ rfl
            have c3 := Q1.cell 3 _ rfl
            go_wp2_with fail
            refine wp_region_line (Bel V1) [(0, true), (1, true), (2, true), (3, true), (4, true), (5, true), (6, true), (7, true), (8, true), (9, true), (10, true), (11, true)] (by kernel_rfl) (by kernel_rfl) (fun _ _ d _ _ h => by cases d <;> exact h) (Bel.drew V1) ?_
            have hst := Bel.drew V1
            have inst : Nonempty (Of (Bel V1)) := ⟨⟨_, hst⟩⟩
            have q3 := bel_cell a3
            have y3 := bel_cell c3
            iterate 12 (refine line_read rfl (by kernel_rfl) (fun K hK => ?_); go_big_quiet_op; refine hK _ ?_; clear hK K)
            refine line_nil ?_
            have b3 := btr b1 hst.out
            have A3 := A1.on hst.out
            have Q3 := Q1.on hst.out
            clear hst inst q3 y3 a3 c3 A1 Q1 b1
            generalize V1.drew = V3 at *
            have a1 := A3.cell 1 _ rfl
            have a2 := A3.cell 2 _ rfl
            have c5 := Q3.cell 5 _ rfl
            go_wp2_with fail
            refine wp_region_line (Bel V3) [(0, true), (1, true), (2, true), (3, true), (4, true), (5, true), (6, true), (7, true), (8, true), (9, true), (10, true), (11, true), (12, true), (13, true), (14, true), (15, true), (16, true), (17, true), (18, true), (19, true), (20, true)] (by kernel_rfl) (by kernel_rfl) (fun _ _ d _ _ h => by cases d <;> exact h) (Bel.drew V3) ?_
            have hst := Bel.drew V3
            have inst : Nonempty (Of (Bel V3)) := ⟨⟨_, hst⟩⟩
            have q1 := bel_cell a1
            have q2 := bel_cell a2
            have y5 := bel_cell c5
            iterate 10 (refine line_read rfl (by kernel_rfl) (fun K hK => ?_); go_big_quiet_op; refine hK _ ?_; clear hK K)
            iterate 9 (refine line_read rfl (by kernel_rfl) (fun K hK => ?_); go_big_quiet_op; refine hK _ ?_; clear hK K)
            iterate 2 (refine line_read rfl (by kernel_rfl) (fun K hK => ?_); go_big_quiet_op; refine hK _ ?_; clear hK K)
            refine line_nil ?_
            have b5 := btr b3 hst.out
            have A5 := A3.on hst.out
            have Q5 := Q3.on hst.out
            clear hst inst q1 q2 y5 a1 a2 c5 A3 Q3 b3
            generalize V3.drew = V5 at *
            go_wp2_with fail
            refine (L _ _ A5).mono ?_
            rintro e V7 ⟨rfl, b7⟩
            have B7 := btr b5 b7
            have Q7 := Q5.on b7
            clear b5 b7 A5 Q5 L
            go_wp2_with fail
            go_ret
            exact ⟨rfl, B7⟩
        · have E4 : (r.b == o.b) = false := by simpa using h4
          have N4 : (r.b != o.b) = true := by simp [h4]
          rw [chk_by h1 h2 h3 h4]
          clear h1 h2 h3 h4 L S C
          go_enter Tryz.func207, Tryz.ntmps207
          go_wp2_with fail
          refine wp_region_line (Bel w) [(0, true), (1, true), (2, true), (3, true), (4, true), (5, true), (6, true), (7, true), (8, true), (9, true), (10, true)] (by kernel_rfl) (by kernel_rfl) (fun _ _ d _ _ h => by cases d <;> exact h) (Bel.drew w) ?_
          have hst := Bel.drew w
          have inst : Nonempty (Of (Bel w)) := ⟨⟨_, hst⟩⟩
          have q0 := bel_cell a0
          have y0 := bel_cell c0
          iterate 11 (refine line_read rfl (by kernel_rfl) (fun K hK => ?_); go_big_quiet_op; refine hK _ ?_; clear hK K)
          refine line_nil ?_
          have b1 := hst.out
          have A1 := A.on b1
          have Q1 := Q.on b1
          clear hst inst q0 y0 a0 c0 A Q
          generalize w.drew = V1 at *
          have a3 := A1.cell 3 _ rfl
          have c3 := Q1.cell 3 _ rfl
          go_wp2_with fail
          refine wp_region_line (Bel V1) [(0, true), (1, true), (2, true), (3, true), (4, true), (5, true), (6, true), (7, true), (8, true), (9, true), (10, true), (11, true)] (by kernel_rfl) (by kernel_rfl) (fun _ _ d _ _ h => by cases d <;> exact h) (Bel.drew V1) ?_
          have hst := Bel.drew V1
          have inst : Nonempty (Of (Bel V1)) := ⟨⟨_, hst⟩⟩
          have q3 := bel_cell a3
          have y3 := bel_cell c3
          iterate 12 (refine line_read rfl (by kernel_rfl) (fun K hK => ?_); go_big_quiet_op; refine hK _ ?_; clear hK K)
          refine line_nil ?_
          have b3 := btr b1 hst.out
          have A3 := A1.on hst.out
          have Q3 := Q1.on hst.out
          clear hst inst q3 y3 a3 c3 A1 Q1 b1
          generalize V1.drew = V3 at *
          have a1 := A3.cell 1 _ rfl
          have a2 := A3.cell 2 _ rfl
          have c5 := Q3.cell 5 _ rfl
          go_wp2_with fail
          refine wp_region_line (Bel V3) [(0, true), (1, true), (2, true), (3, true), (4, true), (5, true), (6, true), (7, true), (8, true), (9, true), (10, true), (11, true), (12, true), (13, true), (14, true), (15, true), (16, true), (17, true), (18, true), (19, true), (20, true)] (by kernel_rfl) (by kernel_rfl) (fun _ _ d _ _ h => by cases d <;> exact h) (Bel.drew V3) ?_
          have hst := Bel.drew V3
          have inst : Nonempty (Of (Bel V3)) := ⟨⟨_, hst⟩⟩
          have q1 := bel_cell a1
          have q2 := bel_cell a2
          have y5 := bel_cell c5
          iterate 10 (refine line_read rfl (by kernel_rfl) (fun K hK => ?_); go_big_quiet_op; refine hK _ ?_; clear hK K)
          iterate 9 (refine line_read rfl (by kernel_rfl) (fun K hK => ?_); go_big_quiet_op; refine hK _ ?_; clear hK K)
          iterate 2 (refine line_read rfl (by kernel_rfl) (fun K hK => ?_); go_big_quiet_op; refine hK _ ?_; clear hK K)
          refine line_nil ?_
          have b5 := btr b3 hst.out
          have A5 := A3.on hst.out
          have Q5 := Q3.on hst.out
          clear hst inst q1 q2 y5 a1 a2 c5 A3 Q3 b3
          generalize V3.drew = V5 at *
          go_wp2_with fail
          go_ret
          exact ⟨rfl, b5⟩
    · have E2 : (r.p.e == o.e + 1) = false := by simpa using h2
      have N2 : (r.p.e != o.e + 1) = true := by simp [h2]
      rw [chk_ep h1 h2]
      clear h1 h2 L S C
      go_enter Tryz.func207, Tryz.ntmps207
      go_wp2_with fail
      refine wp_region_line (Bel w) [(0, true), (1, true), (2, true), (3, true), (4, true), (5, true), (6, true), (7, true), (8, true), (9, true), (10, true)] (by kernel_rfl) (by kernel_rfl) (fun _ _ d _ _ h => by cases d <;> exact h) (Bel.drew w) ?_
      have hst := Bel.drew w
      have inst : Nonempty (Of (Bel w)) := ⟨⟨_, hst⟩⟩
      have q0 := bel_cell a0
      have y0 := bel_cell c0
      iterate 11 (refine line_read rfl (by kernel_rfl) (fun K hK => ?_); go_big_quiet_op; refine hK _ ?_; clear hK K)
      refine line_nil ?_
      have b1 := hst.out
      have A1 := A.on b1
      have Q1 := Q.on b1
      clear hst inst q0 y0 a0 c0 A Q
      generalize w.drew = V1 at *
      have a3 := A1.cell 3 _ rfl
      have c3 := Q1.cell 3 _ rfl
      go_wp2_with fail
      refine wp_region_line (Bel V1) [(0, true), (1, true), (2, true), (3, true), (4, true), (5, true), (6, true), (7, true), (8, true), (9, true), (10, true), (11, true)] (by kernel_rfl) (by kernel_rfl) (fun _ _ d _ _ h => by cases d <;> exact h) (Bel.drew V1) ?_
      have hst := Bel.drew V1
      have inst : Nonempty (Of (Bel V1)) := ⟨⟨_, hst⟩⟩
      have q3 := bel_cell a3
      have y3 := bel_cell c3
      iterate 12 (refine line_read rfl (by kernel_rfl) (fun K hK => ?_); go_big_quiet_op; refine hK _ ?_; clear hK K)
      refine line_nil ?_
      have b3 := btr b1 hst.out
      have A3 := A1.on hst.out
      have Q3 := Q1.on hst.out
      clear hst inst q3 y3 a3 c3 A1 Q1 b1
      generalize V1.drew = V3 at *
      go_wp2_with fail
      go_ret
      exact ⟨rfl, b3⟩
  · rw [decide_eq_false h1] at TQ
    rw [chk_name h1]
    clear h1 L S C
    go_enter Tryz.func207, Tryz.ntmps207
    go_wp2_with fail
    refine wp_region_line (Bel w) [(0, true), (1, true), (2, true), (3, true), (4, true), (5, true), (6, true), (7, true), (8, true), (9, true), (10, true)] (by kernel_rfl) (by kernel_rfl) (fun _ _ d _ _ h => by cases d <;> exact h) (Bel.drew w) ?_
    have hst := Bel.drew w
    have inst : Nonempty (Of (Bel w)) := ⟨⟨_, hst⟩⟩
    have q0 := bel_cell a0
    have y0 := bel_cell c0
    iterate 11 (refine line_read rfl (by kernel_rfl) (fun K hK => ?_); go_big_quiet_op; refine hK _ ?_; clear hK K)
    refine line_nil ?_
    have b1 := hst.out
    have A1 := A.on b1
    have Q1 := Q.on b1
    clear hst inst q0 y0 a0 c0 A Q
    generalize w.drew = V1 at *
    go_wp2_with fail
    go_ret
    exact ⟨rfl, b1⟩
theorem specCheckRoll_any (o : PinD) (r : RollD) (t : Int) (w : World) (hn : o.n.size ≤ maxLen) (hm : r.p.n.size ≤ maxLen) :
    Calls Tryz.prog 151 #[P5 o, R8 r, .int .i64 t] w fun e w' => e = .returned (.int .i64 (checkF o r t)) ∧ Below w.heap.size w w' := by
  have b0 := bal (bal (Below.refl _ w) (.cells #[.string o.n, .int .i64 o.a, .int .i64 o.b, .int .i64 o.e, .int .i64 o.u] 31)) (.cells #[.string r.p.n, .int .i64 r.p.a, .int .i64 r.p.b, .int .i64 r.p.e, .int .i64 r.p.u, .int .i64 r.b, .int .i64 r.x, .int .i64 r.y] 40)
  have A0 : At w.heap.size o.vals ((w.alloc (.cells #[.string o.n, .int .i64 o.a, .int .i64 o.b, .int .i64 o.e, .int .i64 o.u] 31)).alloc (.cells #[.string r.p.n, .int .i64 r.p.a, .int .i64 r.p.b, .int .i64 r.p.e, .int .i64 r.p.u, .int .i64 r.b, .int .i64 r.x, .int .i64 r.y] 40)) := (At.new w o.vals 31).alloc _
  have Q0 : At (w.heap.size + 1) r.vals ((w.alloc (.cells #[.string o.n, .int .i64 o.a, .int .i64 o.b, .int .i64 o.e, .int .i64 o.u] 31)).alloc (.cells #[.string r.p.n, .int .i64 r.p.a, .int .i64 r.p.b, .int .i64 r.p.e, .int .i64 r.p.u, .int .i64 r.b, .int .i64 r.x, .int .i64 r.y] 40)) := At.newN (w := (w.alloc (.cells #[.string o.n, .int .i64 o.a, .int .i64 o.b, .int .i64 o.e, .int .i64 o.u] 31))) r.vals 40 (by simp)
  have F := fun g w A => l7Fault_any g o w A hn
  have G := fun g w A => l8Fault_any g r w A hm
  by_cases h0 : o.f = 0
  · by_cases h1 : r.f = 0
    · cases ht : timB t
      · rw [checkF_time h0 h1 ht]
        rw [h0] at F
        rw [h1] at G
        go_enter Tryz.func151, Tryz.ntmps151
        go_wp2_with fail
        generalize (w.alloc (.cells #[.string o.n, .int .i64 o.a, .int .i64 o.b, .int .i64 o.e, .int .i64 o.u] 31)).alloc (.cells #[.string r.p.n, .int .i64 r.p.a, .int .i64 r.p.b, .int .i64 r.p.e, .int .i64 r.p.u, .int .i64 r.b, .int .i64 r.x, .int .i64 r.y] 40) = W0 at *
        refine (F _ _ A0).mono ?_
        rintro e u1 ⟨rfl, b1⟩
        have A1 := A0.on b1
        have Q1 := Q0.on b1
        have B1 := btr b0 b1
        clear A0 Q0 b0 b1 F
        go_wp2_with fail
        refine (G _ _ Q1).mono ?_
        rintro e u2 ⟨rfl, b2⟩
        have A2 := A1.on b2
        have Q2 := Q1.on b2
        have B2 := btr B1 b2
        clear A1 Q1 B1 b2 G
        go_wp2_with fail
        refine (l7Time_any _ _).mono ?_
        rintro r w' ⟨rfl, rfl⟩
        go_wp2_with fail
        go_ret
        exact ⟨rfl, B2⟩
      · rw [checkF_chk h0 h1 ht]
        have K := fun g k w A Q => l8Check_any g k o r t w A Q h0 h1
        rw [h0] at F
        rw [h1] at G
        generalize chk o r t = c at *
        go_enter Tryz.func151, Tryz.ntmps151
        go_wp2_with fail
        generalize (w.alloc (.cells #[.string o.n, .int .i64 o.a, .int .i64 o.b, .int .i64 o.e, .int .i64 o.u] 31)).alloc (.cells #[.string r.p.n, .int .i64 r.p.a, .int .i64 r.p.b, .int .i64 r.p.e, .int .i64 r.p.u, .int .i64 r.b, .int .i64 r.x, .int .i64 r.y] 40) = W0 at *
        refine (F _ _ A0).mono ?_
        rintro e u1 ⟨rfl, b1⟩
        have A1 := A0.on b1
        have Q1 := Q0.on b1
        have B1 := btr b0 b1
        clear A0 Q0 b0 b1 F
        go_wp2_with fail
        refine (G _ _ Q1).mono ?_
        rintro e u2 ⟨rfl, b2⟩
        have A2 := A1.on b2
        have Q2 := Q1.on b2
        have B2 := btr B1 b2
        clear A1 Q1 B1 b2 G
        go_wp2_with fail
        refine (l7Time_any _ _).mono ?_
        rintro r w' ⟨rfl, rfl⟩
        go_wp2_with fail
        refine (K _ _ _ A2 Q2).mono ?_
        rintro e u3 ⟨rfl, b3⟩
        have hb := btr B2 b3
        go_wp2_with fail
        go_ret
        exact ⟨rfl, hb⟩
    · rw [checkF_roll h0 h1]
      rw [h0] at F
      generalize r.f = c at *
      have q0 : (c == 0) = false := by simpa using h1
      go_enter Tryz.func151, Tryz.ntmps151
      go_wp2_with fail
      generalize (w.alloc (.cells #[.string o.n, .int .i64 o.a, .int .i64 o.b, .int .i64 o.e, .int .i64 o.u] 31)).alloc (.cells #[.string r.p.n, .int .i64 r.p.a, .int .i64 r.p.b, .int .i64 r.p.e, .int .i64 r.p.u, .int .i64 r.b, .int .i64 r.x, .int .i64 r.y] 40) = W0 at *
      refine (F _ _ A0).mono ?_
      rintro e u1 ⟨rfl, b1⟩
      have A1 := A0.on b1
      have Q1 := Q0.on b1
      have B1 := btr b0 b1
      clear A0 Q0 b0 b1 F
      go_wp2_with fail
      refine (G _ _ Q1).mono ?_
      rintro e u2 ⟨rfl, b2⟩
      have A2 := A1.on b2
      have Q2 := Q1.on b2
      have B2 := btr B1 b2
      clear A1 Q1 B1 b2 G
      go_wp2_with fail
      go_ret
      exact ⟨rfl, B2⟩
  · rw [checkF_old h0]
    generalize o.f = c at *
    have q0 : (c == 0) = false := by simpa using h0
    go_enter Tryz.func151, Tryz.ntmps151
    go_wp2_with fail
    generalize (w.alloc (.cells #[.string o.n, .int .i64 o.a, .int .i64 o.b, .int .i64 o.e, .int .i64 o.u] 31)).alloc (.cells #[.string r.p.n, .int .i64 r.p.a, .int .i64 r.p.b, .int .i64 r.p.e, .int .i64 r.p.u, .int .i64 r.b, .int .i64 r.x, .int .i64 r.y] 40) = W0 at *
    refine (F _ _ A0).mono ?_
    rintro e u1 ⟨rfl, b1⟩
    have A1 := A0.on b1
    have Q1 := Q0.on b1
    have B1 := btr b0 b1
    clear A0 Q0 b0 b1 F
    go_wp2_with fail
    go_ret
    exact ⟨rfl, B1⟩
end Go.Proofs.YtcolecidbalmhaaGreatDoor
namespace Go.Proofs.YtcolecidbalmhaaGreatDoor
open Go.RowKit
set_option maxRecDepth 100000
set_option linter.unusedVariables false

/-- An error of what does not fit was answered. -/
def Mis8 (c : Int) (w : World) (r : Ending) (w' : World) : Prop := ∃ s, r = .returned (misV c s) ∧ Below w.heap.size w w'
theorem pinReason_no (p : PinD) (w : World) (hn : p.n.size ≤ maxLen) (h : p.f = 0) :
    Calls Tryz.prog 201 #[P5 p] w fun r w' => r = .returned .nilIface ∧ Below w.heap.size w w' := by
  have b0 := bal (Below.refl _ w) (.cells #[.string p.n, .int .i64 p.a, .int .i64 p.b, .int .i64 p.e, .int .i64 p.u] 31)
  have A0 : At w.heap.size p.vals (w.alloc (.cells #[.string p.n, .int .i64 p.a, .int .i64 p.b, .int .i64 p.e, .int .i64 p.u] 31)) := At.new w p.vals 31
  have F := fun w => implPinFault_any p w hn
  rw [h] at F
  go_enter Tryz.func201, Tryz.ntmps201
  go_wp2_with fail
  generalize w.alloc (.cells #[.string p.n, .int .i64 p.a, .int .i64 p.b, .int .i64 p.e, .int .i64 p.u] 31) = W0 at *
  refine (F _).mono ?_
  rintro r u1 ⟨rfl, b1⟩
  have B1 := btr b0 b1
  clear A0 b0 b1 F
  go_wp2_with fail
  go_ret
  exact ⟨rfl, B1⟩
theorem pinReason_yes (p : PinD) (w : World) (hn : p.n.size ≤ maxLen) (h : p.f ≠ 0) :
    Calls Tryz.prog 201 #[P5 p] w (Mis8 p.f w) := by
  have b0 := bal (Below.refl _ w) (.cells #[.string p.n, .int .i64 p.a, .int .i64 p.b, .int .i64 p.e, .int .i64 p.u] 31)
  have A0 : At w.heap.size p.vals (w.alloc (.cells #[.string p.n, .int .i64 p.a, .int .i64 p.b, .int .i64 p.e, .int .i64 p.u] 31)) := At.new w p.vals 31
  have F := fun w => implPinFault_any p w hn
  generalize p.f = c at *
  have q0 : (c == 0) = false := by simpa using h
  go_enter Tryz.func201, Tryz.ntmps201
  go_wp2_with fail
  generalize w.alloc (.cells #[.string p.n, .int .i64 p.a, .int .i64 p.b, .int .i64 p.e, .int .i64 p.u] 31) = W0 at *
  refine (F _).mono ?_
  rintro r u1 ⟨rfl, b1⟩
  have B1 := btr b0 b1
  clear A0 b0 b1 F
  go_wp2_with fail
  go_ret
  exact ⟨_, rfl, B1⟩
theorem by8 (c : Int) (a : Option Addr) (n k : Nat) (w : World) : Sem.run Tryz.prog (Instr.field 185 (.agg #[.int .i64 c, .slice a n k]) 1) w = .ok (.slice a n k) w := by kernel_rfl
theorem rollSum_any (p : PinD) (w : World) (lab : Labels w) (hn : p.n.size ≤ maxLen) (h : p.f = 0) :
    Calls Tryz.prog 246 #[P5 p] w fun r w' => r = .returned (.int .i64 (rsum p)) ∧ Below w.heap.size w w' := by
  have b0 := bal (Below.refl _ w) (.cells #[.string p.n, .int .i64 p.a, .int .i64 p.b, .int .i64 p.e, .int .i64 p.u] 31)
  have A0 : At w.heap.size p.vals (w.alloc (.cells #[.string p.n, .int .i64 p.a, .int .i64 p.b, .int .i64 p.e, .int .i64 p.u] 31)) := At.new w p.vals 31
  have hw := fun z hz => byte_wf (packPL_byte p z hz)
  have P := fun w => implPackPin_any p w hn
  have e : packPL p = packP p := by unfold packPL; rw [if_pos h]
  rw [e, h] at P
  rw [e] at hw
  unfold rsum
  have hs := M.sumL_bd (packP p)
  have hB : M.sumB (M.sumL (packP p)) = true := by simp only [M.sumB, decide_eq_true_eq]; omega
  clear h e
  generalize packP p = zs at *
  have S := fun a n c B w R => sumBytes_any a n c B zs w R
  generalize M.sumL zs = x at *
  have R1 := fun w => row_one0 (w := w) x 2 hB
  have HA := Lib.hid (show [x].all M.sumB = true by simp [hB])
  have T := fun w => sumTagged_any M.rollS _ _ _ _ _ _ (by decide) (R1 w) (by simp) HA.out (by omega)
  obtain ⟨t0, t1⟩ := M.tagL_bd M.rollS [x]
  clear hB R1
  generalize M.tagL M.rollS [x] = y at *
  have lab0 := lab.on b0
  have f1 := by8
  go_enter Tryz.func246, Tryz.ntmps246
  go_wp2_with fail
  generalize w.alloc (.cells #[.string p.n, .int .i64 p.a, .int .i64 p.b, .int .i64 p.e, .int .i64 p.u] 31) = W0 at *
  refine (P _).mono ?_
  rintro r u1 ⟨a, n, c, rfl, O1, b1⟩
  have R1 := Own.row O1 hw
  have B1 := btr b0 b1
  have hlab := (lab0.on b1).rollW
  clear O1 P b0 b1 A0 lab0
  go_wp2_with fail
  refine (S _ _ _ _ _ R1).mono ?_
  rintro r u2 ⟨rfl, rfl⟩
  clear R1 S
  go_wp2_with fail
  refine (T _).mono ?_
  rintro r u2 ⟨rfl, b2⟩
  have hb := btr B1 (btr (bal (Below.refl _ _) _) b2)
  clear B1 b2 T hlab
  go_wp2_with fail
  go_ret
  exact ⟨rfl, hb⟩
/-- A rollover that has a fault: an error that has its code. -/
def Roll8No (c : Int) (w : World) (r : Ending) (w' : World) : Prop := ∃ e, ErrC1 c e ∧ r = .returned (.tuple #[R8 roll0, e]) ∧ Below w.heap.size w w'
def zero8 : List Value := [.string { data := #[] }, .int .i64 0, .int .i64 0, .int .i64 0, .int .i64 0, .int .i64 0, .int .i64 0, .int .i64 0]
theorem rolloverOf_no (r : RollD) (w : World) (hn : r.p.n.size ≤ maxLen) (h : r.f ≠ 0) : Calls Tryz.prog 144 #[R8 r] w (Roll8No r.f w) := by
  have b0 := bal (bal (bal (Below.refl _ w) (.cells #[.string r.p.n, .int .i64 r.p.a, .int .i64 r.p.b, .int .i64 r.p.e, .int .i64 r.p.u, .int .i64 r.b, .int .i64 r.x, .int .i64 r.y] 40)) (.cells #[.string { data := #[] }, .int .i64 0, .int .i64 0, .int .i64 0, .int .i64 0, .int .i64 0, .int .i64 0, .int .i64 0] 198)) (.cells #[.string r.p.n, .int .i64 r.p.a, .int .i64 r.p.b, .int .i64 r.p.e, .int .i64 r.p.u, .int .i64 r.b, .int .i64 r.x, .int .i64 r.y] 198)
  have Z0 : At (w.heap.size + 1) zero8 (((w.alloc (.cells #[.string r.p.n, .int .i64 r.p.a, .int .i64 r.p.b, .int .i64 r.p.e, .int .i64 r.p.u, .int .i64 r.b, .int .i64 r.x, .int .i64 r.y] 40)).alloc (.cells #[.string { data := #[] }, .int .i64 0, .int .i64 0, .int .i64 0, .int .i64 0, .int .i64 0, .int .i64 0, .int .i64 0] 198)).alloc (.cells #[.string r.p.n, .int .i64 r.p.a, .int .i64 r.p.b, .int .i64 r.p.e, .int .i64 r.p.u, .int .i64 r.b, .int .i64 r.x, .int .i64 r.y] 198)) := (At.newN (w := (w.alloc (.cells #[.string r.p.n, .int .i64 r.p.a, .int .i64 r.p.b, .int .i64 r.p.e, .int .i64 r.p.u, .int .i64 r.b, .int .i64 r.x, .int .i64 r.y] 40))) zero8 198 (by simp)).alloc (.cells #[.string r.p.n, .int .i64 r.p.a, .int .i64 r.p.b, .int .i64 r.p.e, .int .i64 r.p.u, .int .i64 r.b, .int .i64 r.x, .int .i64 r.y] 198)
  have A0 : At (w.heap.size + 1 + 1) r.vals (((w.alloc (.cells #[.string r.p.n, .int .i64 r.p.a, .int .i64 r.p.b, .int .i64 r.p.e, .int .i64 r.p.u, .int .i64 r.b, .int .i64 r.x, .int .i64 r.y] 40)).alloc (.cells #[.string { data := #[] }, .int .i64 0, .int .i64 0, .int .i64 0, .int .i64 0, .int .i64 0, .int .i64 0, .int .i64 0] 198)).alloc (.cells #[.string r.p.n, .int .i64 r.p.a, .int .i64 r.p.b, .int .i64 r.p.e, .int .i64 r.p.u, .int .i64 r.b, .int .i64 r.x, .int .i64 r.y] 198)) := At.newN (w := ((w.alloc (.cells #[.string r.p.n, .int .i64 r.p.a, .int .i64 r.p.b, .int .i64 r.p.e, .int .i64 r.p.u, .int .i64 r.b, .int .i64 r.x, .int .i64 r.y] 40)).alloc (.cells #[.string { data := #[] }, .int .i64 0, .int .i64 0, .int .i64 0, .int .i64 0, .int .i64 0, .int .i64 0, .int .i64 0] 198))) r.vals 198 (by simp)
  by_cases h0 : r.p.f = 0
  · have F := fun w => pinReason_no r.p w hn h0
    cases h1 : pubB r.b
    · rw [rollF_by h0 h1]
      clear h h0
      go_enter Tryz.func144, Tryz.ntmps144
      go_wp2_with fail
      generalize ((w.alloc (.cells #[.string r.p.n, .int .i64 r.p.a, .int .i64 r.p.b, .int .i64 r.p.e, .int .i64 r.p.u, .int .i64 r.b, .int .i64 r.x, .int .i64 r.y] 40)).alloc (.cells #[.string { data := #[] }, .int .i64 0, .int .i64 0, .int .i64 0, .int .i64 0, .int .i64 0, .int .i64 0, .int .i64 0] 198)).alloc (.cells #[.string r.p.n, .int .i64 r.p.a, .int .i64 r.p.b, .int .i64 r.p.e, .int .i64 r.p.u, .int .i64 r.b, .int .i64 r.x, .int .i64 r.y] 198) = W0 at *
      refine (F _).mono ?_
      rintro e u1 ⟨rfl, b1⟩
      have A1 := A0.on b1
      have Z1 := Z0.on b1
      have B1 := btr b0 b1
      have c5 := A1.cell 5 _ rfl
      clear A0 Z0 b0 b1 F
      go_wp2_with fail
      refine (implIsPublic_any _ _).mono ?_
      rintro e u2 ⟨rfl, b2⟩
      have A2 := A1.on b2
      have Z2 := Z1.on b2
      have B2 := btr B1 b2
      clear A1 Z1 B1 b2 c5
      have z0 := Z2.cell 0 _ rfl
      have z1 := Z2.cell 1 _ rfl
      have z2 := Z2.cell 2 _ rfl
      have z3 := Z2.cell 3 _ rfl
      have z4 := Z2.cell 4 _ rfl
      have z5 := Z2.cell 5 _ rfl
      have z6 := Z2.cell 6 _ rfl
      have z7 := Z2.cell 7 _ rfl
      have h0 := Z2.free 0 _ rfl
      have h1 := Z2.free 1 _ rfl
      have h2 := Z2.free 2 _ rfl
      have h3 := Z2.free 3 _ rfl
      have h4 := Z2.free 4 _ rfl
      have h5 := Z2.free 5 _ rfl
      have h6 := Z2.free 6 _ rfl
      have h7 := Z2.free 7 _ rfl
      have HB := Lib.hid B2
      clear Z2 B2
      go_wp2_with fail
      refine bodyPost_ret (v := .tuple #[R8 roll0, misV 3 { data := #[119, 104, 111, 32, 115, 97, 121, 115, 32, 105, 116] }]) (by simp [results, Tryz.results144, go_sem, z0, z1, z2, z3, z4, z5, z6, z7, roll0, pin0]) rfl ⟨_, .inl ⟨_, rfl⟩, rfl, (by (iterate 8 (refine bset ?_ (by dsimp only; omega) _)); exact HB.out)⟩
    · cases h2 : M.sigB r.x r.y
      · rw [rollF_sig h0 h1, sigF_no h2]
        have S := fun w => pairOf_no r.x r.y w h2
        clear h h0
        go_enter Tryz.func144, Tryz.ntmps144
        go_wp2_with fail
        generalize ((w.alloc (.cells #[.string r.p.n, .int .i64 r.p.a, .int .i64 r.p.b, .int .i64 r.p.e, .int .i64 r.p.u, .int .i64 r.b, .int .i64 r.x, .int .i64 r.y] 40)).alloc (.cells #[.string { data := #[] }, .int .i64 0, .int .i64 0, .int .i64 0, .int .i64 0, .int .i64 0, .int .i64 0, .int .i64 0] 198)).alloc (.cells #[.string r.p.n, .int .i64 r.p.a, .int .i64 r.p.b, .int .i64 r.p.e, .int .i64 r.p.u, .int .i64 r.b, .int .i64 r.x, .int .i64 r.y] 198) = W0 at *
        refine (F _).mono ?_
        rintro e u1 ⟨rfl, b1⟩
        have A1 := A0.on b1
        have Z1 := Z0.on b1
        have B1 := btr b0 b1
        have c5 := A1.cell 5 _ rfl
        clear A0 Z0 b0 b1 F
        go_wp2_with fail
        refine (implIsPublic_any _ _).mono ?_
        rintro e u2 ⟨rfl, b2⟩
        have A2 := A1.on b2
        have Z2 := Z1.on b2
        have B2 := btr B1 b2
        clear A1 Z1 B1 b2 c5
        have c6 := A2.cell 6 _ rfl
        have c7 := A2.cell 7 _ rfl
        go_wp2_with fail
        refine (S _).mono ?_
        rintro e u3 ⟨s, v, rfl, b3⟩
        have Z3 := Z2.on b3
        have B3 := btr B2 b3
        clear A2 Z2 B2 b3 S c6 c7
        have z0 := Z3.cell 0 _ rfl
        have z1 := Z3.cell 1 _ rfl
        have z2 := Z3.cell 2 _ rfl
        have z3 := Z3.cell 3 _ rfl
        have z4 := Z3.cell 4 _ rfl
        have z5 := Z3.cell 5 _ rfl
        have z6 := Z3.cell 6 _ rfl
        have z7 := Z3.cell 7 _ rfl
        have h0 := Z3.free 0 _ rfl
        have h1 := Z3.free 1 _ rfl
        have h2 := Z3.free 2 _ rfl
        have h3 := Z3.free 3 _ rfl
        have h4 := Z3.free 4 _ rfl
        have h5 := Z3.free 5 _ rfl
        have h6 := Z3.free 6 _ rfl
        have h7 := Z3.free 7 _ rfl
        have HB := Lib.hid B3
        clear Z3 B3
        go_wp2_with fail
        refine bodyPost_ret (v := .tuple #[R8 roll0, refV { data := #[116, 104, 101, 32, 115, 105, 103, 110, 97, 116, 117, 114, 101] } (misV 3 s)]) (by simp [results, Tryz.results144, go_sem, z0, z1, z2, z3, z4, z5, z6, z7, roll0, pin0]) rfl ⟨_, .inr ⟨_, _, rfl⟩, rfl, (by (iterate 8 (refine bset ?_ (by dsimp only; omega) _)); exact HB.out)⟩
      · exact absurd (by rw [rollF_sig h0 h1, sigF_yes h2]) h
  · rw [rollF_pin h0]
    have F := fun w => pinReason_yes r.p w hn h0
    generalize r.p.f = c at *
    clear h h0
    go_enter Tryz.func144, Tryz.ntmps144
    go_wp2_with fail
    generalize ((w.alloc (.cells #[.string r.p.n, .int .i64 r.p.a, .int .i64 r.p.b, .int .i64 r.p.e, .int .i64 r.p.u, .int .i64 r.b, .int .i64 r.x, .int .i64 r.y] 40)).alloc (.cells #[.string { data := #[] }, .int .i64 0, .int .i64 0, .int .i64 0, .int .i64 0, .int .i64 0, .int .i64 0, .int .i64 0] 198)).alloc (.cells #[.string r.p.n, .int .i64 r.p.a, .int .i64 r.p.b, .int .i64 r.p.e, .int .i64 r.p.u, .int .i64 r.b, .int .i64 r.x, .int .i64 r.y] 198) = W0 at *
    refine (F _).mono ?_
    rintro e u1 ⟨s, rfl, b1⟩
    have Z1 := Z0.on b1
    have B1 := btr b0 b1
    clear A0 Z0 b0 b1 F
    have z0 := Z1.cell 0 _ rfl
    have z1 := Z1.cell 1 _ rfl
    have z2 := Z1.cell 2 _ rfl
    have z3 := Z1.cell 3 _ rfl
    have z4 := Z1.cell 4 _ rfl
    have z5 := Z1.cell 5 _ rfl
    have z6 := Z1.cell 6 _ rfl
    have z7 := Z1.cell 7 _ rfl
    have h0 := Z1.free 0 _ rfl
    have h1 := Z1.free 1 _ rfl
    have h2 := Z1.free 2 _ rfl
    have h3 := Z1.free 3 _ rfl
    have h4 := Z1.free 4 _ rfl
    have h5 := Z1.free 5 _ rfl
    have h6 := Z1.free 6 _ rfl
    have h7 := Z1.free 7 _ rfl
    have HB := Lib.hid B1
    clear Z1 B1
    go_wp2_with fail
    refine bodyPost_ret (v := .tuple #[R8 roll0, refV { data := #[116, 104, 101, 32, 112, 105, 110, 32, 116, 104, 97, 116, 32, 105, 115, 32, 116, 111, 32, 98, 101] } (misV c s)]) (by simp [results, Tryz.results144, go_sem, z0, z1, z2, z3, z4, z5, z6, z7, roll0, pin0]) rfl ⟨_, .inr ⟨_, _, rfl⟩, rfl, (by (iterate 8 (refine bset ?_ (by dsimp only; omega) _)); exact HB.out)⟩
theorem rolloverOf_yes (r : RollD) (w : World) (hn : r.p.n.size ≤ maxLen) (h : r.f = 0) :
    Calls Tryz.prog 144 #[R8 r] w fun e w' => e = .returned (.tuple #[R8 r, .nilIface]) ∧ Below w.heap.size w w' := by
  have b0 := bal (bal (bal (Below.refl _ w) (.cells #[.string r.p.n, .int .i64 r.p.a, .int .i64 r.p.b, .int .i64 r.p.e, .int .i64 r.p.u, .int .i64 r.b, .int .i64 r.x, .int .i64 r.y] 40)) (.cells #[.string { data := #[] }, .int .i64 0, .int .i64 0, .int .i64 0, .int .i64 0, .int .i64 0, .int .i64 0, .int .i64 0] 198)) (.cells #[.string r.p.n, .int .i64 r.p.a, .int .i64 r.p.b, .int .i64 r.p.e, .int .i64 r.p.u, .int .i64 r.b, .int .i64 r.x, .int .i64 r.y] 198)
  have Z0 : At (w.heap.size + 1) zero8 (((w.alloc (.cells #[.string r.p.n, .int .i64 r.p.a, .int .i64 r.p.b, .int .i64 r.p.e, .int .i64 r.p.u, .int .i64 r.b, .int .i64 r.x, .int .i64 r.y] 40)).alloc (.cells #[.string { data := #[] }, .int .i64 0, .int .i64 0, .int .i64 0, .int .i64 0, .int .i64 0, .int .i64 0, .int .i64 0] 198)).alloc (.cells #[.string r.p.n, .int .i64 r.p.a, .int .i64 r.p.b, .int .i64 r.p.e, .int .i64 r.p.u, .int .i64 r.b, .int .i64 r.x, .int .i64 r.y] 198)) := (At.newN (w := (w.alloc (.cells #[.string r.p.n, .int .i64 r.p.a, .int .i64 r.p.b, .int .i64 r.p.e, .int .i64 r.p.u, .int .i64 r.b, .int .i64 r.x, .int .i64 r.y] 40))) zero8 198 (by simp)).alloc (.cells #[.string r.p.n, .int .i64 r.p.a, .int .i64 r.p.b, .int .i64 r.p.e, .int .i64 r.p.u, .int .i64 r.b, .int .i64 r.x, .int .i64 r.y] 198)
  have A0 : At (w.heap.size + 1 + 1) r.vals (((w.alloc (.cells #[.string r.p.n, .int .i64 r.p.a, .int .i64 r.p.b, .int .i64 r.p.e, .int .i64 r.p.u, .int .i64 r.b, .int .i64 r.x, .int .i64 r.y] 40)).alloc (.cells #[.string { data := #[] }, .int .i64 0, .int .i64 0, .int .i64 0, .int .i64 0, .int .i64 0, .int .i64 0, .int .i64 0] 198)).alloc (.cells #[.string r.p.n, .int .i64 r.p.a, .int .i64 r.p.b, .int .i64 r.p.e, .int .i64 r.p.u, .int .i64 r.b, .int .i64 r.x, .int .i64 r.y] 198)) := At.newN (w := ((w.alloc (.cells #[.string r.p.n, .int .i64 r.p.a, .int .i64 r.p.b, .int .i64 r.p.e, .int .i64 r.p.u, .int .i64 r.b, .int .i64 r.x, .int .i64 r.y] 40)).alloc (.cells #[.string { data := #[] }, .int .i64 0, .int .i64 0, .int .i64 0, .int .i64 0, .int .i64 0, .int .i64 0, .int .i64 0] 198))) r.vals 198 (by simp)
  obtain ⟨h0, h1, h2⟩ := rollF_zero h
  have F := fun w => pinReason_no r.p w hn h0
  have S := fun w => pairOf_yes r.x r.y w h2
  unfold pairV at S
  clear h h0 h2
  go_enter Tryz.func144, Tryz.ntmps144
  go_wp2_with fail
  generalize ((w.alloc (.cells #[.string r.p.n, .int .i64 r.p.a, .int .i64 r.p.b, .int .i64 r.p.e, .int .i64 r.p.u, .int .i64 r.b, .int .i64 r.x, .int .i64 r.y] 40)).alloc (.cells #[.string { data := #[] }, .int .i64 0, .int .i64 0, .int .i64 0, .int .i64 0, .int .i64 0, .int .i64 0, .int .i64 0] 198)).alloc (.cells #[.string r.p.n, .int .i64 r.p.a, .int .i64 r.p.b, .int .i64 r.p.e, .int .i64 r.p.u, .int .i64 r.b, .int .i64 r.x, .int .i64 r.y] 198) = W0 at *
  refine (F _).mono ?_
  rintro e u1 ⟨rfl, b1⟩
  have A1 := A0.on b1
  have Z1 := Z0.on b1
  have B1 := btr b0 b1
  have c5 := A1.cell 5 _ rfl
  clear A0 Z0 b0 b1 F
  go_wp2_with fail
  refine (implIsPublic_any _ _).mono ?_
  rintro e u2 ⟨rfl, b2⟩
  have A2 := A1.on b2
  have Z2 := Z1.on b2
  have B2 := btr B1 b2
  clear A1 Z1 B1 b2 c5
  have c6 := A2.cell 6 _ rfl
  have c7 := A2.cell 7 _ rfl
  go_wp2_with fail
  refine (S _).mono ?_
  rintro e u3 ⟨rfl, b3⟩
  have c0 := (A2.on b3).cell 0 _ rfl
  have c1 := (A2.on b3).cell 1 _ rfl
  have c2 := (A2.on b3).cell 2 _ rfl
  have c3 := (A2.on b3).cell 3 _ rfl
  have c4 := (A2.on b3).cell 4 _ rfl
  have c5 := (A2.on b3).cell 5 _ rfl
  have c6 := (A2.on b3).cell 6 _ rfl
  have c7 := (A2.on b3).cell 7 _ rfl
  have z0 := (Z2.on b3).cell 0 _ rfl
  have z1 := (Z2.on b3).cell 1 _ rfl
  have z2 := (Z2.on b3).cell 2 _ rfl
  have z3 := (Z2.on b3).cell 3 _ rfl
  have z4 := (Z2.on b3).cell 4 _ rfl
  have z5 := (Z2.on b3).cell 5 _ rfl
  have z6 := (Z2.on b3).cell 6 _ rfl
  have z7 := (Z2.on b3).cell 7 _ rfl
  have h0 := (Z2.on b3).free 0 _ rfl
  have h1 := (Z2.on b3).free 1 _ rfl
  have h2 := (Z2.on b3).free 2 _ rfl
  have h3 := (Z2.on b3).free 3 _ rfl
  have h4 := (Z2.on b3).free 4 _ rfl
  have h5 := (Z2.on b3).free 5 _ rfl
  have h6 := (Z2.on b3).free 6 _ rfl
  have h7 := (Z2.on b3).free 7 _ rfl
  have HB := Lib.hid (btr B2 b3)
  clear A2 Z2 B2 b3 S
  go_wp2_with fail
  refine bodyPost_ret (v := .tuple #[R8 r, .nilIface]) (by simp [results, Tryz.results144, go_sem, z0, z1, z2, z3, z4, z5, z6, z7]) rfl ⟨rfl, (by (iterate 8 (refine bset ?_ (by dsimp only; omega) _)); exact HB.out)⟩
end Go.Proofs.YtcolecidbalmhaaGreatDoor
