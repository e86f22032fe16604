/- Texts of this seat that several laws rest on, laid into one. Conditions: as each theorem states. -/
import Derived.Test.YtcolecidbalmhaaGreatDoorS0
import Derived.Test.YtcolecidbalmhaaGreatDoorS1
import Derived.Lib.Case
import Derived.Lib.Strings
namespace Go.Proofs.YtcolecidbalmhaaGreatDoor
open Go.RowKit

def marks (k : Int) (n : Nat) : List Int := (List.range n).map fun i : Nat => (k + (i : Int)) % 256
theorem marks_length (k : Int) (n : Nat) : (marks k n).length = n := by simp [marks]
theorem marks_at (k : Int) (n j : Nat) (h : j < n) : (marks k n)[j]? = some ((k + (j : Int)) % 256) := by simp [marks, h]
theorem marks_wf (k : Int) (n : Nat) : ∀ z ∈ marks k n, (Lit.int .u8 z).wf = true := by
  intro z hz
  simp only [marks, List.mem_map] at hz
  obtain ⟨i, _, rfl⟩ := hz
  simp [Lit.wf, IntKind.min, IntKind.max, IntKind.signed, IntKind.bits]; omega

structure MarkRel (w : World) (g cap : Nat) (k : Int) (j : Nat) (wr : World) : Prop where
  grew : w.grownBy wr (some g)
  lt : g < wr.heap.size
  room : ∀ i, i < cap → (∃ u, wr.cell? ⟨g, i, none⟩ = some u) ∧ wr.frozen? ⟨g, i, none⟩ = false
  told : ∀ i, i < j → wr.cell? ⟨g, i, none⟩ = some (.int .u8 ((k + (i : Int)) % 256))
theorem MarkRel.step {w : World} {g cap : Nat} {k : Int} {j : Nat} {wr : World} (h : MarkRel w g cap k j wr) (hj : j < cap) : MarkRel w g cap k (j + 1) (wr.setCell ⟨g, j, none⟩ (.int .u8 ((k + (j : Int)) % 256))) := by
  refine ⟨⟨h.grew.os, h.grew.tape, h.grew.output, by simpa [World.setCell] using h.grew.size, fun i hi hne => (Below.heap_setCell wr _ _ i (fun e => hne (by subst e; rfl))).trans (h.grew.block i hi hne)⟩, by simpa [World.setCell] using h.lt, fun i hi => ?_, fun i hi => ?_⟩
  · obtain ⟨⟨u, hu⟩, hf⟩ := h.room i hi
    refine ⟨?_, by rw [World.frozen?_setCell]; exact hf⟩
    obtain ⟨v, hv⟩ := cell?_setCell_some (w := wr) (p := ⟨g, j, none⟩) (x := .int .u8 ((k + (j : Int)) % 256)) (q := ⟨g, i, none⟩) (v := u) hu
    exact ⟨v, hv⟩
  · rcases Nat.lt_or_ge i j with hlt | hge
    · rw [World.cell?_setCell_other _ _ _ _ (fun e => by injection e with _ e2; omega)]
      exact h.told i hlt
    · obtain rfl : i = j := by omega
      obtain ⟨⟨u, hu⟩, _⟩ := h.room i hj
      rw [World.cell?_setCell_same _ _ _ (by rw [hu])]
def Marked (B : Nat) (k : Int) (v : Value) (n : Nat) (w : World) (r : Ending) (w' : World) : Prop := r = .returned (.int .i64 (k + n)) ∧ OwnK .u8 w' B v (marks k n) ∧ w.grownBy w' v.ownBlock
theorem MarkRel.own {w : World} {g cap : Nat} {k : Int} {n B : Nat} {wr : World} (h : MarkRel w g cap k n wr) (hB : B ≤ g) (hn : n ≤ cap) (hm : cap ≤ maxLen) : OwnK .u8 wr B (.slice (some ⟨g, 0, none⟩) n cap) (marks k n) := by
  unfold OwnK
  rw [marks_length]
  refine ⟨by simp [marks_length], .inr ⟨g, cap, rfl, hB, h.lt, hn, hm, fun j u hu => ?_, fun j hj => ?_⟩⟩
  · have hj := (List.getElem?_eq_some_iff.1 hu).1
    simp [marks_length] at hj
    rw [h.told j hj, ← hu]
    simp [marks_at k n j hj]
  · obtain ⟨⟨u, hu⟩, hf⟩ := h.room j (by omega)
    exact ⟨by rw [hu]; rfl, hf⟩

theorem markByteS_any (a : Option Addr) (n cap B : Nat) (k : Int) (zs : List Int) (w : World) (ho : OwnK .u8 w B (.slice a n cap) zs) (k0 : 0 ≤ k) (k1 : k ≤ 1000000000) (hn : n ≤ 1048576) :
    Calls Tryz.prog 232 #[.slice a n cap, .int .i64 k] w (Marked B k (.slice a n cap) n w) := by
  rcases ho.2 with ⟨e, h0⟩ | ⟨g, c, e, hb, hg, h1, h2, _, hroom⟩
  · injection e with e1 e2 e3
    subst e1; subst e2; subst e3
    have F : Marked B k (.slice none 0 0) 0 w (.returned (.int .i64 k)) w := ⟨ret_int (by omega), Own.nil _ _ _, World.grownBy.refl _ _⟩
    clear ho h0
    go_enter Tryz.func232, Tryz.ntmps232
    go_wp2_with fail
    refine wp_loop_rounds 1 ?_
    rw [rounds_succ]; go_wp2_with fail
    go_ret
    exact F
  · injection e with e1 e2 e3
    subst e1; subst e3
    rw [← e2] at h1
    clear e2
    have T0 : MarkRel w g cap k 0 w := ⟨World.grownBy.refl _ _, hg, fun i hi => by
      obtain ⟨q1, q2⟩ := hroom i (by omega)
      exact ⟨Option.isSome_iff_exists.1 q1, q2⟩, fun i hi => absurd hi (by omega)⟩
    have hm := h2
    unfold maxLen at hm
    clear hroom ho
    go_enter Tryz.func232, Tryz.ntmps232
    go_wp2_with fail
    go_loopw [1, 5] (fun q i wr => ∃ j : Nat, j ≤ n ∧ i = .int .i64 j ∧ q = .int .i64 (k + j) ∧ MarkRel w g cap k j wr) (fun _ i _ => n - (intOf i).toNat)
    case atStart => exact ⟨0, Nat.zero_le _, rfl, by go_num, T0⟩
    case round =>
      obtain ⟨j, hj, rfl, rfl, hT⟩ := hrel
      by_cases hlt : j < n
      · obtain ⟨⟨u, hu⟩, hf⟩ := hT.room j (by omega)
        have T2 := hT.step (show j < cap by omega)
        clear hT
        go_wp2_with fail
        go_roundw
        case rel => exact ⟨j + 1, by omega, by go_num, by go_num, T2⟩
        case measure => simp [intOf]; omega
      · obtain rfl : j = n := by omega
        have T2 := hT.own hb h1 h2
        have T3 := hT.grew
        clear hT
        go_wp2_with fail
        go_ret
        exact ⟨rfl, T2, T3⟩

theorem heldByteS_any (a : Option Addr) (n cap B : Nat) (k : Int) (w : World) (hR : Row .u8 w B a n cap (marks k n)) (k0 : 0 ≤ k) (k1 : k ≤ 1000000000) (hn : n ≤ 1048576) :
    Calls Tryz.prog 258 #[.slice a n cap, .int .i64 k] w fun r w' => r = .returned (.int .i64 (k + n)) ∧ w = w' := by
  go_enter Tryz.func258, Tryz.ntmps258
  go_wp2_with fail
  go_loop [1, 5] (fun q i => ∃ j : Nat, j ≤ n ∧ i = .int .i64 j ∧ q = .int .i64 (k + j)) (fun _ i => n - (intOf i).toNat)
  case atStart => exact ⟨0, Nat.zero_le _, rfl, by go_num⟩
  case round =>
    obtain ⟨j, hj, rfl, rfl⟩ := hrel
    by_cases hlt : j < n
    · obtain ⟨b, off, ha, hb, hc⟩ := hR.cells (by omega)
      have hcell := hc j hlt
      simp only [List.getD_eq_getElem?_getD, marks_at k n j hlt, Option.getD_some] at hcell
      clear hc
      subst ha
      go_wp2_with fail
      go_round
      case rel => exact ⟨j + 1, by omega, by go_num, by go_num⟩
      case measure => simp [intOf]; omega
    · obtain rfl : j = n := by omega
      go_wp2_with fail
      go_ret
      exact ⟨rfl, rfl⟩

theorem OwnK.len {k : IntKind} {w : World} {B : Nat} {a : Option Addr} {len cap : Nat} {zs : List Int} (h : OwnK k w B (.slice a len cap) zs) : len = zs.length := by
  rcases h.2 with ⟨e, h0⟩ | ⟨g, c, e, _⟩
  · injection e with e1 e2 e3
    omega
  · injection e with e1 e2 e3

/-- Two answers of bytes lie in memory, the model's at block p1, the program's at block p2; the program's bytes are ms by now. -/
structure TwoRes (w : World) (c : Int) (zs : List Int) (p1 p2 : Nat) (a1 a2 : Option Addr) (n c1 c2 : Nat) (ms : List Int) (cur : World) : Prop where
  bel : Below w.heap.size w cur
  x0 : cur.cell? ⟨p1, 0, none⟩ = some (.int .i64 c)
  x1 : cur.cell? ⟨p1, 1, none⟩ = some (.slice a1 n c1)
  row : Row .u8 cur p1 a1 n c1 zs
  y0 : cur.cell? ⟨p2, 0, none⟩ = some (.int .i64 c)
  y1 : cur.cell? ⟨p2, 1, none⟩ = some (.slice a2 n c2)
  own : OwnK .u8 cur (p1 + 1) (.slice a2 n c2) ms
  old : w.heap.size ≤ p1
  sep : ∀ k, Value.ownBlock (.slice a2 n c2) = some k → k < p2
  ahead : p1 < p2
section
variable {w : World} {c : Int} {zs : List Int} {p1 p2 : Nat} {a1 a2 : Option Addr} {n c1 c2 : Nat} {ms : List Int} {cur cur' : World}
theorem TwoRes.lt1 (h : TwoRes w c zs p1 p2 a1 a2 n c1 c2 ms cur) : p1 < cur.heap.size := cell_lt h.x0
theorem TwoRes.lt2 (h : TwoRes w c zs p1 p2 a1 a2 n c1 c2 ms cur) : p2 < cur.heap.size := cell_lt h.y0
theorem TwoRes.on (h : TwoRes w c zs p1 p2 a1 a2 n c1 c2 ms cur) (hb : Below cur.heap.size cur cur') : TwoRes w c zs p1 p2 a1 a2 n c1 c2 ms cur' :=
  ⟨btr h.bel hb, cell_keep hb h.x0, cell_keep hb h.x1, h.row.below (hb.mono (by have := h.lt1; omega)), cell_keep hb h.y0, cell_keep hb h.y1, h.own.below hb, h.old, h.sep, h.ahead⟩
theorem TwoRes.grew (h : TwoRes w c zs p1 p2 a1 a2 n c1 c2 ms cur) {ms' : List Int} (ho : OwnK .u8 cur' (p1 + 1) (.slice a2 n c2) ms') (hg : cur.grownBy cur' (Value.ownBlock (.slice a2 n c2))) : TwoRes w c zs p1 p2 a1 a2 n c1 c2 ms' cur' := by
  have hlo := fun k hk => (h.own.lt k hk).1
  have hp1 : some p1 ≠ Value.ownBlock (.slice a2 n c2) := fun e => by have := hlo p1 e.symm; omega
  have hp2 : some p2 ≠ Value.ownBlock (.slice a2 n c2) := fun e => by have := h.sep p2 e.symm; omega
  have l1 := h.lt1
  have hold := h.old
  refine ⟨h.bel.grown hg h.bel.size (fun k hk => by have := hlo k hk; omega), hg.cell h.x0 hp1, hg.cell h.x1 hp1, h.row.keep (fun i hi => hg.block i (by omega) (fun e => by have := hlo i e.symm; omega)), hg.cell h.y0 hp2, hg.cell h.y1 hp2, ho, h.old, h.sep, h.ahead⟩
/-- The model's answer, and then the program's, are stored. -/
theorem TwoRes.new {u1 u2 : World} {t : TypeId} (b1 : Below w.heap.size w u1) (O1 : OwnK .u8 u1 w.heap.size (.slice a1 n c1) zs) (hw : ∀ z ∈ zs, (Lit.int .u8 z).wf = true)
    (b2 : Below (u1.alloc (.cells #[.int .i64 c, .slice a1 n c1] t)).heap.size (u1.alloc (.cells #[.int .i64 c, .slice a1 n c1] t)) u2) (O2 : OwnK .u8 u2 (u1.alloc (.cells #[.int .i64 c, .slice a1 n c1] t)).heap.size (.slice a2 n c2) zs) :
    TwoRes w c zs u1.heap.size u2.heap.size a1 a2 n c1 c2 zs (u2.alloc (.cells #[.int .i64 c, .slice a2 n c2] t)) := by
  have hs := b2.size
  simp at hs
  have x0 : (u1.alloc (.cells #[.int .i64 c, .slice a1 n c1] t)).cell? ⟨u1.heap.size, 0, none⟩ = some (.int .i64 c) := by simp
  have x1 : (u1.alloc (.cells #[.int .i64 c, .slice a1 n c1] t)).cell? ⟨u1.heap.size, 1, none⟩ = some (.slice a1 n c1) := by simp
  have b3 := bal b2 (.cells #[.int .i64 c, .slice a2 n c2] t)
  have R1 := Own.row O1 hw
  refine ⟨btr (bal b1 _) b3, cell_keep b3 x0, cell_keep b3 x1, ?_, by simp, by simp, ?_, b1.size, fun k hk => (O2.lt k hk).2, by omega⟩
  · exact (R1.alloc (Nat.le_refl _) _).below (b3.mono (by simp))
  · have := O2.alloc (.cells #[.int .i64 c, .slice a2 n c2] t)
    simpa [OwnK] using this
end

end Go.Proofs.YtcolecidbalmhaaGreatDoor
namespace Go.Proofs.YtcolecidbalmhaaGreatDoor
open Go.RowKit
set_option maxRecDepth 100000

/-- A comparison only reads. -/
theorem eqByteS_quiet (a b : Option Addr) (len c1 c2 B : Nat) (zs : List Int) (w : World) (hR : Row .u8 w B a len c1 zs) (hQ : Row .u8 w B b len c2 zs) :
    Calls Tryz.prog 231 #[.slice a len c1, .slice b len c2] w fun e w' => e = .returned (.bool true) ∧ ∃ m, w' = w.drewN m := by
  have hlen := hR.fits
  have hmost := hR.most
  unfold maxLen at hmost
  have hL := Lib.hid hR.length
  go_enter Tryz.func231, Tryz.ntmps231
  go_wp2_with fail
  go_loopw [5] (fun i wr => ∃ k : Nat, k ≤ len ∧ i = .int .i64 k ∧ Hid (∃ m, wr = w.drewN m)) (fun i _ => len - (intOf i).toNat)
  case atStart => exact ⟨0, Nat.zero_le _, rfl, Lib.hid ⟨0, rfl⟩⟩
  case round =>
    obtain ⟨k, hk, rfl, hb⟩ := hrel
    have HB := Lib.hid hb.out
    by_cases hlt : k < len
    · obtain ⟨b1, o1, ha1, hb1, hc1⟩ := hR.cells (by omega)
      obtain ⟨b2, o2, ha2, hb2, hc2⟩ := hQ.cells (by omega)
      have g1 : wr.cell? ⟨b1, o1 + k, none⟩ = some (.int .u8 (zs.getD k 0)) := by obtain ⟨m, rfl⟩ := hb.out; exact hc1 k hlt
      have g2 : wr.cell? ⟨b2, o2 + k, none⟩ = some (.int .u8 (zs.getD k 0)) := by obtain ⟨m, rfl⟩ := hb.out; exact hc2 k hlt
      simp only [List.getD_eq_getElem?_getD] at g1 g2
      clear hc1 hc2 hb hR hQ
      subst ha1
      subst ha2
      go_wp2_with fail
      go_quiet (fail)
      go_wp2_with fail
      go_roundw
      case rel => exact ⟨k + 1, by omega, by go_num, Lib.hid (by obtain ⟨m, rfl⟩ := HB.out; exact ⟨m + _, World.drewN_drewN _ _ _⟩)⟩
      case measure => simp [intOf]; omega
    · go_wp2_with fail
      go_ret
      exact ⟨rfl, HB.out⟩

theorem szByteS_any (a : Option Addr) (len cap : Nat) (L : Int) (w : World) (hl : len ≤ 9223372036854775807) (h0 : 0 ≤ L) (h1 : L ≤ 1048576) :
    Calls Tryz.prog 229 #[.slice a len cap, .int .i64 L] w fun r w' => r = .returned (.int .i64 (if L - len < 0 then -1 else L - len)) ∧ w = w' := by
  by_cases h : L - len < 0
  · rw [if_pos h]
    go_enter Tryz.func229, Tryz.ntmps229
    go_wp2_with fail
    go_ret
    exact ⟨rfl, rfl⟩
  · rw [if_neg h]
    go_enter Tryz.func229, Tryz.ntmps229
    go_wp2_with fail
    go_ret
    exact ⟨rfl, rfl⟩

def sumLens (zss : List (List Int)) : Nat := (zss.map List.length).sum
theorem sumLens_take (zss : List (List Int)) (k : Nat) (h : k < zss.length) : sumLens (zss.take (k + 1)) = sumLens (zss.take k) + (zss[k]?.getD []).length := by
  rw [M.take_snoc zss [] k h]; simp [sumLens]
theorem sumLens_le (zss : List (List Int)) (k : Nat) : sumLens (zss.take k) ≤ sumLens zss := by
  have e : sumLens zss = sumLens (zss.take k) + sumLens (zss.drop k) := by
    unfold sumLens
    rw [← List.sum_append, ← List.map_append, List.take_append_drop]
  omega
theorem sumLens_mem (zss : List (List Int)) : ∀ zs ∈ zss, zs.length ≤ sumLens zss := by
  induction zss with
  | nil => intro zs h; cases h
  | cons a r ih =>
    intro zs h
    simp only [sumLens, List.map_cons, List.sum_cons]
    rcases List.mem_cons.1 h with rfl | h
    · omega
    · have := ih zs h
      unfold sumLens at this
      omega

/-- What is left of L behind the sizes; or -1: it was too much. -/
def szR (zss : List (List Int)) (L : Int) : Int := if (zss.length : Int) + sumLens zss ≤ L then L - zss.length - sumLens zss else -1

theorem szByteSS_any (a : Option Addr) (len cap B : Nat) (zss : List (List Int)) (L : Int) (w : World) (hG : Grid w B a len cap zss) (h0 : 0 ≤ L) (h1 : L ≤ 1048576) :
    Calls Tryz.prog 182 #[.slice a len cap, .int .i64 L] w fun r w' => r = .returned (.int .i64 (szR zss L)) ∧ w = w' := by
  have hlen := hG.fits
  have hmost := hG.most
  unfold maxLen at hmost
  have hL := Lib.hid hG.length
  by_cases hbig : L < len
  · have E : szR zss L = -1 := by unfold szR; rw [hL.out, if_neg (by omega)]
    rw [E]; clear E
    have hneg : L - len < 0 := by omega
    go_enter Tryz.func182, Tryz.ntmps182
    go_wp2_with fail
    go_ret
    exact ⟨rfl, rfl⟩
  by_cases ht : (len : Int) + sumLens zss ≤ L
  · have E : szR zss L = L - len - sumLens zss := by unfold szR; rw [hL.out, if_pos ht]
    rw [E]; clear E
    have hnn : 0 ≤ L - len := by omega
    go_enter Tryz.func182, Tryz.ntmps182
    go_wp2_with fail
    go_loop [1, 5] (fun q i => ∃ k : Nat, k ≤ len ∧ i = .int .i64 k ∧ q = .int .i64 (L - len - sumLens (zss.take k))) (fun _ i => len - (intOf i).toNat)
    case atStart => exact ⟨0, Nat.zero_le _, rfl, by simp [sumLens]⟩
    case round =>
      obtain ⟨k, hk, rfl, rfl⟩ := hrel
      have hle := sumLens_le zss k
      by_cases hlt : k < len
      · obtain ⟨b, off, ha, hb, hc⟩ := hG.cells (by omega)
        obtain ⟨a', n', c', hcell, hrow⟩ := hc k hlt
        have hs := sumLens_take zss k (by rw [hL.out]; exact hlt)
        rw [hrow.length] at hs
        have hle2 := sumLens_le zss (k + 1)
        have hfit := hrow.fits
        have hm := hrow.most
        unfold maxLen at hm
        have hno : ¬ (L - len - (sumLens (zss.take k) : Int) - n' < 0) := by omega
        have hge : 0 ≤ L - len - (sumLens (zss.take k) : Int) - n' := by omega
        have HS := Lib.hid hs
        clear hc hs hrow
        subst ha
        go_wp2_with fail
        refine (szByteS_any _ _ _ _ _ (by omega) (by omega) (by omega)).mono ?_
        rintro r w' ⟨rfl, rfl⟩
        rw [if_neg (by omega)]
        go_wp2_with fail
        go_round
        case rel => exact ⟨k + 1, by omega, by go_num, by have := HS.out; congr 1; omega⟩
        case measure => simp [intOf]; omega
      · obtain rfl : k = len := by omega
        have e : sumLens (zss.take k) = sumLens zss := by rw [List.take_of_length_le (by rw [hL.out]; omega)]
        have HE := Lib.hid e
        clear e
        go_wp2_with fail
        go_ret
        exact ⟨ret_int (by rw [HE.out]), rfl⟩
  · have E : szR zss L = -1 := by unfold szR; rw [hL.out, if_neg ht]
    rw [E]; clear E
    have hnn : 0 ≤ L - len := by omega
    go_enter Tryz.func182, Tryz.ntmps182
    go_wp2_with fail
    go_loop [1, 5] (fun q i => ∃ k : Nat, k ≤ len ∧ i = .int .i64 k ∧ q = .int .i64 (L - len - sumLens (zss.take k)) ∧ 0 ≤ L - len - (sumLens (zss.take k) : Int)) (fun _ i => len - (intOf i).toNat)
    case atStart => exact ⟨0, Nat.zero_le _, rfl, by simp [sumLens], by simp [sumLens]; omega⟩
    case round =>
      obtain ⟨k, hk, rfl, rfl, hq⟩ := hrel
      by_cases hlt : k < len
      · obtain ⟨b, off, ha, hb, hc⟩ := hG.cells (by omega)
        obtain ⟨a', n', c', hcell, hrow⟩ := hc k hlt
        have hs := sumLens_take zss k (by rw [hL.out]; exact hlt)
        rw [hrow.length] at hs
        have hfit := hrow.fits
        have hm := hrow.most
        unfold maxLen at hm
        have HS := Lib.hid hs
        clear hc hs hrow
        subst ha
        by_cases hno : L - len - (sumLens (zss.take k) : Int) - n' < 0
        · go_wp2_with fail
          refine (szByteS_any _ _ _ _ _ (by omega) (by omega) (by omega)).mono ?_
          rintro r w' ⟨rfl, rfl⟩
          rw [if_pos (by omega)]
          go_wp2_with fail
          go_ret
          exact ⟨rfl, rfl⟩
        · have hge : 0 ≤ L - len - (sumLens (zss.take k) : Int) - n' := by omega
          go_wp2_with fail
          refine (szByteS_any _ _ _ _ _ (by omega) (by omega) (by omega)).mono ?_
          rintro r w' ⟨rfl, rfl⟩
          rw [if_neg (by omega)]
          go_wp2_with fail
          go_round
          case rel => exact ⟨k + 1, by omega, by go_num, by have := HS.out; congr 1; omega, by have := HS.out; omega⟩
          case measure => simp [intOf]; omega
      · exfalso
        obtain rfl : k = len := by omega
        rw [List.take_of_length_le (by rw [hL.out]; omega)] at hq
        omega

/-- The first j of n cells of the block that w's next one is are told: copies of the rows. -/
structure FillG (w : World) (n : Nat) (zss : List (List Int)) (j : Nat) (wr : World) : Prop where
  bel : Below w.heap.size w wr
  lt : w.heap.size < wr.heap.size
  room : ∀ i, i < n → (∃ u, wr.cell? ⟨w.heap.size, i, none⟩ = some u) ∧ wr.frozen? ⟨w.heap.size, i, none⟩ = false
  told : ∀ i, i < j → ∃ a' n' c', wr.cell? ⟨w.heap.size, i, none⟩ = some (.slice a' n' c') ∧ OwnK .u8 wr (w.heap.size + 1) (.slice a' n' c') (zss[i]?.getD [])
theorem FillG.new (w : World) (n : Nat) (zss : List (List Int)) (cur : Array Value) (e : TypeId) (hs : cur.size = n) : FillG w n zss 0 (w.alloc (.cells cur e)) := by
  have e1 : (w.alloc (.cells cur e)).heap[w.heap.size]? = some (.cells cur e) := (MapKept.heap_alloc w _).1
  refine ⟨bal (Below.refl _ _) _, by simp, fun i hi => ?_, fun i hi => absurd hi (by omega)⟩
  unfold World.cell? World.frozen?
  rw [e1]
  simp [show i < cur.size by omega]
theorem FillG.step {w : World} {n : Nat} {zss : List (List Int)} {j : Nat} {wr w2 : World} {a' : Option Addr} {n' c' : Nat} (h : FillG w n zss j wr) (hj : j < n) (hb : Below wr.heap.size wr w2) (ho : OwnK .u8 w2 wr.heap.size (.slice a' n' c') (zss[j]?.getD [])) :
    FillG w n zss (j + 1) (w2.setCell ⟨w.heap.size, j, none⟩ (.slice a' n' c')) := by
  have hlt := h.lt
  have hsz := hb.size
  have hne : ∀ {v : Value} {m : Nat} {xs : List Value}, Own w2 (w.heap.size + 1) 1 v m xs → ∀ k, v.ownBlock = some k → k ≠ (⟨w.heap.size, j, none⟩ : Addr).block := fun o k hk => by have := (o.lt k hk).1; show k ≠ w.heap.size; omega
  refine ⟨(btr h.bel hb).setCell (Nat.le_refl _) _, by simp [World.setCell]; omega, fun i hi => ?_, fun i hi => ?_⟩
  · obtain ⟨⟨u, hu⟩, hf⟩ := h.room i hi
    have hu2 := cell_keep hb hu
    have hf2 := (hb.frozen (p := ⟨w.heap.size, i, none⟩) hlt).trans hf
    refine ⟨?_, by rw [World.frozen?_setCell]; exact hf2⟩
    obtain ⟨v, hv⟩ := cell?_setCell_some (w := w2) (p := ⟨w.heap.size, j, none⟩) (x := .slice a' n' c') (q := ⟨w.heap.size, i, none⟩) (v := u) hu2
    exact ⟨v, hv⟩
  · rcases Nat.lt_or_ge i j with hij | hge
    · obtain ⟨a1, n1, c1, q1, q2⟩ := h.told i hij
      have q3 := q2.below hb
      refine ⟨a1, n1, c1, ?_, q3.setCell (hne q3) _⟩
      rw [World.cell?_setCell_other _ _ _ _ (fun e => by injection e with _ e2; omega)]
      exact cell_keep hb q1
    · obtain rfl : i = j := by omega
      obtain ⟨⟨u, hu⟩, _⟩ := h.room i hj
      have o3 : OwnK .u8 w2 (w.heap.size + 1) (.slice a' n' c') (zss[i]?.getD []) := ho.less (by omega)
      refine ⟨a', n', c', ?_, o3.setCell (hne o3) _⟩
      rw [World.cell?_setCell_same _ _ _ (by rw [cell_keep hb hu])]
theorem FillG.grid {w : World} {n : Nat} {zss : List (List Int)} {wr : World} (h : FillG w n zss n wr) (hn : zss.length = n) (hm : n ≤ maxLen) (hw : ∀ zs ∈ zss, ∀ z ∈ zs, (Lit.int .u8 z).wf = true) : Grid wr wr.heap.size (some ⟨w.heap.size, 0, none⟩) n n zss :=
  ⟨hn, Nat.le_refl _, hm, fun _ => ⟨w.heap.size, 0, rfl, h.lt, fun j hj => by
    obtain ⟨a1, n1, c1, q1, q2⟩ := h.told j hj
    refine ⟨a1, n1, c1, by rw [Nat.zero_add]; exact q1, Own.row q2 fun z hz => ?_⟩
    have hl : j < zss.length := by omega
    exact hw (zss[j]?.getD []) (by simp [hl]) z hz⟩⟩

/-- A slice of slices was copied. -/
def Copied2 (n : Nat) (zss : List (List Int)) (w : World) (r : Ending) (w' : World) : Prop :=
  r = .returned (.slice (some ⟨w.heap.size, 0, none⟩) n n) ∧ Grid w' w'.heap.size (some ⟨w.heap.size, 0, none⟩) n n zss ∧ Below w.heap.size w w'

theorem rows_info : (Tryz.prog.info? 22).map (fun i => (i.zero, i.size, i.bytes)) = some (some (.slice none 0 0), 1, 24) := by kernel_rfl

theorem eqByteSS_any (a b : Option Addr) (len c1 c2 B : Nat) (zss : List (List Int)) (w : World) (hR : Grid w B a len c1 zss) (hQ : Grid w B b len c2 zss) (hB : B ≤ w.heap.size) :
    Calls Tryz.prog 185 #[.slice a len c1, .slice b len c2] w fun e w' => e = .returned (.bool true) ∧ Below w.heap.size w w' := by
  have hlen := hR.fits
  have hmost := hR.most
  unfold maxLen at hmost
  have hL := Lib.hid hR.length
  go_enter Tryz.func185, Tryz.ntmps185
  go_wp2_with fail
  go_loopw [5] (fun i wr => ∃ k : Nat, k ≤ len ∧ i = .int .i64 k ∧ Below w.heap.size w wr) (fun i _ => len - (intOf i).toNat)
  case atStart => exact ⟨0, Nat.zero_le _, rfl, Below.refl _ _⟩
  case round =>
    obtain ⟨k, hk, rfl, hb⟩ := hrel
    by_cases hlt : k < len
    · obtain ⟨b1, o1, ha1, hb1, hc1⟩ := (hR.below (hb.mono hB)).cells (by omega)
      obtain ⟨b2, o2, ha2, hb2, hc2⟩ := (hQ.below (hb.mono hB)).cells (by omega)
      obtain ⟨r1, m1, d1, g1, R1⟩ := hc1 k hlt
      obtain ⟨r2, m2, d2, g2, R2⟩ := hc2 k hlt
      have hm2 : m2 = m1 := by rw [← R1.length, ← R2.length]
      subst hm2
      have HB := Lib.hid hb
      have H1 := Lib.hid R1
      have H2 := Lib.hid R2
      clear hc1 hc2 hb hR hQ R1 R2
      subst ha1
      subst ha2
      go_wp2_with fail
      go_quiet ((go_at_call 231; exact Calls.quiet_of (eqByteS_quiet _ _ _ _ _ _ _ _ (H1.out.keep (fun _ _ => rfl)) (H2.out.keep (fun _ _ => rfl)))))
      go_wp2_with fail
      go_roundw
      case rel => exact ⟨k + 1, by omega, by go_num, bdrewN HB.out _⟩
      case measure => simp [intOf]; omega
    · go_wp2_with fail
      go_ret
      exact ⟨rfl, hb⟩

end Go.Proofs.YtcolecidbalmhaaGreatDoor
namespace Go.Proofs.YtcolecidbalmhaaGreatDoor
open Go.RowKit
set_option maxRecDepth 100000
set_option linter.unusedVariables false

/-- The first cells of a new block are told: slices of new memory. -/
structure FillH (w : World) (n : Nat) (zss : List (List Int)) (xs : List Value) (wr : World) : Prop where
  bel : Below w.heap.size w wr
  lt : w.heap.size < wr.heap.size
  room : ∀ i, i < n → (∃ u, wr.cell? ⟨w.heap.size, i, none⟩ = some u) ∧ wr.frozen? ⟨w.heap.size, i, none⟩ = false
  cell : ∀ (i : Nat) (u : Value), xs[i]? = some u → wr.cell? ⟨w.heap.size, i, none⟩ = some u
  row : ∀ (i : Nat) (u : Value), xs[i]? = some u → OwnK .u8 wr (w.heap.size + 1) u (zss[i]?.getD [])
  sep : ∀ (i j : Nat) (u1 u2 : Value), i ≠ j → xs[i]? = some u1 → xs[j]? = some u2 → ApartV u1 u2
theorem FillH.new (w : World) (n : Nat) (zss : List (List Int)) (cur : Array Value) (e : TypeId) (hs : cur.size = n) : FillH w n zss [] (w.alloc (.cells cur e)) := by
  have h := FillG.new w n zss cur e hs
  exact ⟨h.bel, h.lt, h.room, fun i u hu => by simp at hu, fun i u hu => by simp at hu, fun i j u1 u2 _ hu => by simp at hu⟩
theorem snoc_cases {xs : List Value} {u x : Value} {i : Nat} (h : (xs ++ [u])[i]? = some x) : (i < xs.length ∧ xs[i]? = some x) ∨ (i = xs.length ∧ x = u) := by
  rcases Nat.lt_or_ge i xs.length with hi | hi
  · rw [List.getElem?_append_left hi] at h
    exact .inl ⟨hi, h⟩
  · rw [List.getElem?_append_right hi] at h
    have h0 := (List.getElem?_eq_some_iff.1 h).1
    simp at h0
    rw [h0] at h
    simp at h
    exact .inr ⟨by omega, h.symm⟩
theorem FillH.step {w : World} {n : Nat} {zss : List (List Int)} {xs : List Value} {wr w2 : World} {u : Value} (h : FillH w n zss xs wr) (hj : xs.length < n) (hb : Below wr.heap.size wr w2) (ho : OwnK .u8 w2 wr.heap.size u (zss[xs.length]?.getD [])) :
    FillH w n zss (xs ++ [u]) (w2.setCell ⟨w.heap.size, xs.length, none⟩ u) := by
  have hlt := h.lt
  have hsz := hb.size
  have hne : ∀ {v : Value} {m : Nat} {ys : List Value} {B : Nat}, w.heap.size + 1 ≤ B → Own w2 B 1 v m ys → ∀ k, v.ownBlock = some k → k ≠ (⟨w.heap.size, xs.length, none⟩ : Addr).block := fun hB o k hk => by have := (o.lt k hk).1; show k ≠ w.heap.size; omega
  refine ⟨(btr h.bel hb).setCell (Nat.le_refl _) _, by simp [World.setCell]; omega, fun i hi => ?_, fun i x hx => ?_, fun i x hx => ?_, fun i j u1 u2 hij h1 h2 => ?_⟩
  · obtain ⟨⟨u0, hu⟩, hf⟩ := h.room i hi
    have hu2 := cell_keep hb hu
    have hf2 := (hb.frozen (p := ⟨w.heap.size, i, none⟩) hlt).trans hf
    refine ⟨?_, by rw [World.frozen?_setCell]; exact hf2⟩
    obtain ⟨v, hv⟩ := cell?_setCell_some (w := w2) (p := ⟨w.heap.size, xs.length, none⟩) (x := u) (q := ⟨w.heap.size, i, none⟩) (v := u0) hu2
    exact ⟨v, hv⟩
  · rcases snoc_cases hx with ⟨h1, h2⟩ | ⟨rfl, rfl⟩
    · rw [World.cell?_setCell_other _ _ _ _ (fun e => by injection e with _ e2; omega)]
      exact cell_keep hb (h.cell i x h2)
    · obtain ⟨⟨u0, hu⟩, _⟩ := h.room _ hj
      rw [World.cell?_setCell_same _ _ _ (by rw [cell_keep hb hu])]
  · rcases snoc_cases hx with ⟨h1, h2⟩ | ⟨rfl, rfl⟩
    · have q3 : OwnK .u8 w2 (w.heap.size + 1) x _ := Own.below (h.row i x h2) hb
      exact Own.setCell q3 (hne (Nat.le_refl _) q3) _
    · have o3 : OwnK .u8 w2 (w.heap.size + 1) x _ := Own.less ho (by omega)
      exact Own.setCell o3 (hne (Nat.le_refl _) o3) _
  · rcases snoc_cases h1 with ⟨a1, a2⟩ | ⟨a1, a2⟩ <;> rcases snoc_cases h2 with ⟨b1, b2⟩ | ⟨b1, b2⟩
    · exact h.sep i j u1 u2 hij a2 b2
    · subst b2
      intro k e e2
      have := (Own.lt (h.row i u1 a2) k e).2
      have := (Own.lt ho k e2).1
      omega
    · subst a2
      intro k e e2
      have := (Own.lt (h.row j u2 b2) k e2).2
      have := (Own.lt ho k e).1
      omega
    · omega
theorem FillH.own {w : World} {n : Nat} {zss : List (List Int)} {xs : List Value} {wr : World} (h : FillH w n zss xs wr) (hx : xs.length = n) (hn : zss.length = n) (hm : n ≤ maxLen) : OwnG wr w.heap.size wr.heap.size (.slice (some ⟨w.heap.size, 0, none⟩) n n) zss xs := by
  refine ⟨⟨by omega, .inr ⟨w.heap.size, n, by rw [hn], Nat.le_refl _, h.lt, by omega, hm, h.cell, fun j hj => ?_⟩⟩, Nat.le_refl _, fun k e => ?_, fun j u hu => ?_, h.sep⟩
  · obtain ⟨⟨u, hu⟩, hf⟩ := h.room j (by omega)
    exact ⟨by rw [hu]; rfl, hf⟩
  · simp [Value.ownBlock] at e
    have := h.lt
    omega
  · have hr := h.row j u hu
    refine ⟨Own.less hr (by omega), fun k e => (Own.lt hr k e).2, fun k e e2 => ?_⟩
    simp [Value.ownBlock] at e2
    have := (Own.lt hr k e).1
    omega
set_option maxHeartbeats 1000000 in
theorem toByteSSG_any (a : Option Addr) (len cap B : Nat) (zss : List (List Int)) (w : World) (hG : Grid w B a len cap zss) (hB : B ≤ w.heap.size) (hl : len ≤ 1048576) (hr : ∀ zs ∈ zss, zs.length ≤ 1048576) :
    Calls Tryz.prog 183 #[.slice a len cap] w fun r w' => r = .returned (.slice (some ⟨w.heap.size, 0, none⟩) len len) ∧ (∃ xs, OwnG w' w.heap.size w'.heap.size (.slice (some ⟨w.heap.size, 0, none⟩) len len) zss xs) ∧ Below w.heap.size w w' := by
  obtain ⟨i0, hi0, hz0, hz1, hz2⟩ := info_parts rows_info
  have hmk : ∀ W : World, (Instr.makeSlice 25 (.int .i64 (len : Int)) (.int .i64 (len : Int))).run Tryz.prog W = .ok (.slice (some ⟨W.heap.size, 0, none⟩) len len) (W.alloc (.cells (madeCells #[.slice none 0 0] len) 22)) := by
    intro W
    have := run_make (P := Tryz.prog) W 25 22 i0 (.slice none 0 0) Tryz.underlying25 hi0 hz0 .i64 .i64 len len (by omega) (by omega) (by rw [hz2]; omega) (by omega)
    simpa [hz1, Value.cells] using this
  have hL := Lib.hid hG.length
  have HR := Lib.hid hr
  clear hi0 hz0 hz1 hz2 hr
  have T0 := FillH.new w len zss (madeCells #[.slice none 0 0] len) 22 (size_madeCells _ _)
  go_enter Tryz.func183, Tryz.ntmps183
  go_wp2_with fail
  generalize w.alloc (.cells (madeCells #[.slice none 0 0] len) 22) = w1 at *
  go_loopw [4] (fun i wr => ∃ (k : Nat) (xs : List Value), k ≤ len ∧ i = .int .i64 k ∧ Hid (xs.length = k) ∧ FillH w len zss xs wr) (fun i _ => len - (intOf i).toNat)
  case atStart => exact ⟨0, [], Nat.zero_le _, rfl, Lib.hid rfl, T0⟩
  case round =>
    obtain ⟨k, xs, hk, rfl, hxl, hT⟩ := hrel
    by_cases hlt : k < len
    · obtain ⟨b, off, ha, hb, hc⟩ := (hG.below (hT.bel.mono hB)).cells (by omega)
      obtain ⟨a', n', c', hcell, hrow⟩ := hc k hlt
      have hl2 : k < zss.length := by rw [hL.out]; exact hlt
      have hn' : n' ≤ 1048576 := by rw [← hrow.length]; exact HR.out _ (by simp [hl2])
      obtain ⟨⟨u, hu⟩, hf⟩ := hT.room k hlt
      have hlt3 := hT.lt
      have hsz := hT.bel.size
      clear hc hl2
      subst ha
      go_wp2_with fail
      refine (toByteS_any _ _ _ _ _ _ hrow (by omega) hn').mono ?_
      rintro r w2 ⟨rfl, O2, hb2⟩
      have hu2 := cell_keep hb2 hu
      have hf2 := (hb2.frozen (p := ⟨w.heap.size, k, none⟩) hlt3).trans hf
      have T2 := hT.step (u := .slice (some ⟨wr.heap.size, 0, none⟩) n' n') (by rw [hxl.out]; exact hlt) hb2 (by rw [hxl.out]; exact O2)
      rw [hxl.out] at T2
      have HX := Lib.hid (show (xs ++ [Value.slice (some ⟨wr.heap.size, 0, none⟩) n' n']).length = k + 1 by rw [List.length_append, hxl.out]; rfl)
      have HT2 := Lib.hid T2
      clear O2 hb2 hT hrow hcell hu hf T2 hxl
      go_wp2_with fail
      go_roundw
      case rel => exact ⟨k + 1, _, by omega, by go_num, HX, HT2.out⟩
      case measure => simp [intOf]; omega
    · obtain rfl : k = len := by omega
      have T2 := hT.own hxl.out hL.out (by simp only [maxLen]; omega)
      have hb := Lib.hid hT.bel
      have HT2 := Lib.hid T2
      clear hT T2
      go_wp2_with fail
      go_ret
      exact ⟨rfl, ⟨xs, HT2.out⟩, hb.out⟩
theorem szDisk_any (a : Option Addr) (len cap B : Nat) (zss : List (List Int)) (x L : Int) (w : World) (hG : Grid w B a len cap zss) (hB : B ≤ w.heap.size) (h0 : 0 ≤ L) (h1 : L ≤ 1048576) :
    Calls Tryz.prog 118 #[.agg #[.slice a len cap, .int .i64 x], .int .i64 L] w fun r w' => r = .returned (.int .i64 (szR zss L)) ∧ Below w.heap.size w w' := by
  have b0 := bal (Below.refl _ w) (.cells #[.slice a len cap, .int .i64 x] 82)
  have S := szByteSS_any a len cap B zss L _ (hG.below (b0.mono hB)) h0 h1
  have hc : szR zss L = -1 ∨ 0 ≤ szR zss L := by unfold szR; split <;> omega
  generalize szR zss L = t at *
  clear hG
  rcases hc with rfl | hc
  · go_enter Tryz.func118, Tryz.ntmps118
    go_wp2_with fail
    refine S.mono ?_
    rintro r w2 ⟨rfl, rfl⟩
    go_wp2_with fail
    go_ret
    exact ⟨rfl, b0⟩
  · have hn : ¬ t < 0 := by omega
    go_enter Tryz.func118, Tryz.ntmps118
    go_wp2_with fail
    refine S.mono ?_
    rintro r w2 ⟨rfl, rfl⟩
    go_wp2_with fail
    go_ret
    exact ⟨rfl, b0⟩
/-- A disk was copied. -/
def DiskCopied (n : Nat) (rs : List (List Int)) (x : Int) (w : World) (e : Ending) (w' : World) : Prop :=
  ∃ a xs, e = .returned (.agg #[.slice a n n, .int .i64 x]) ∧ OwnG w' w.heap.size w'.heap.size (.slice a n n) rs xs ∧ Below w.heap.size w w'
theorem toDisk_any (a : Option Addr) (len cap B : Nat) (zss : List (List Int)) (x : Int) (w : World) (hG : Grid w B a len cap zss) (hB : B ≤ w.heap.size) (hl : len ≤ 1048576) (hr : ∀ zs ∈ zss, zs.length ≤ 1048576) :
    Calls Tryz.prog 121 #[.agg #[.slice a len cap, .int .i64 x]] w (DiskCopied len zss x w) := by
  have b0 := bal (bal (bal (Below.refl _ w) (.cells #[.slice a len cap, .int .i64 x] 82)) (.cells #[.slice none 0 0, .int .i64 0] 27)) (.cells #[.slice none 0 0, .int .i64 0] 27)
  have A0 : At w.heap.size [.slice a len cap, .int .i64 x] (((w.alloc (.cells #[.slice a len cap, .int .i64 x] 82)).alloc (.cells #[.slice none 0 0, .int .i64 0] 27)).alloc (.cells #[.slice none 0 0, .int .i64 0] 27)) := ((At.new w [.slice a len cap, .int .i64 x] 82).alloc _).alloc _
  have R0 := (At.new (w.alloc (.cells #[.slice a len cap, .int .i64 x] 82)) [.slice none 0 0, .int .i64 0] 27).alloc (.cells #[.slice none 0 0, .int .i64 0] 27)
  have D0 := At.new ((w.alloc (.cells #[.slice a len cap, .int .i64 x] 82)).alloc (.cells #[.slice none 0 0, .int .i64 0] 27)) [.slice none 0 0, .int .i64 0] 27
  have T := toByteSSG_any a len cap B zss _ (hG.below (b0.mono hB)) (Nat.le_trans hB b0.size) hl hr
  have sz0 : (((w.alloc (.cells #[.slice a len cap, .int .i64 x] 82)).alloc (.cells #[.slice none 0 0, .int .i64 0] 27)).alloc (.cells #[.slice none 0 0, .int .i64 0] 27)).heap.size = w.heap.size + 1 + 1 + 1 := by simp
  rw [World.size_alloc] at R0
  rw [World.size_alloc, World.size_alloc] at D0
  have HR0 := Lib.hid (show At (w.heap.size + 1) [.slice none 0 0, .int .i64 0] (((w.alloc (.cells #[.slice a len cap, .int .i64 x] 82)).alloc (.cells #[.slice none 0 0, .int .i64 0] 27)).alloc (.cells #[.slice none 0 0, .int .i64 0] 27)) from R0)
  have HD0 := Lib.hid (show At (w.heap.size + 1 + 1) [.slice none 0 0, .int .i64 0] (((w.alloc (.cells #[.slice a len cap, .int .i64 x] 82)).alloc (.cells #[.slice none 0 0, .int .i64 0] 27)).alloc (.cells #[.slice none 0 0, .int .i64 0] 27)) from D0)
  have HB0 := Lib.hid b0
  have HZ0 := Lib.hid sz0
  have HA0 := Lib.hid A0
  have d0 := A0.cell 0 _ rfl
  have d1 := A0.cell 1 _ rfl
  clear hG A0 R0 D0 b0 sz0
  go_enter Tryz.func121, Tryz.ntmps121
  go_wp2_with fail
  generalize ((w.alloc (.cells #[.slice a len cap, .int .i64 x] 82)).alloc (.cells #[.slice none 0 0, .int .i64 0] 27)).alloc (.cells #[.slice none 0 0, .int .i64 0] 27) = W0 at *
  refine T.mono ?_
  rintro r u1 ⟨rfl, ⟨xs, G1⟩, b1⟩
  have R1 := HR0.out.on b1
  have D1 := HD0.out.on b1
  have A1 := HA0.out.on b1
  have HB1 := Lib.hid (btr HB0.out b1)
  have HG1 := Lib.hid G1
  have hz0 := HZ0.out
  clear d0 d1
  have d0 := A1.cell 0 _ rfl
  have d1 := A1.cell 1 _ rfl
  have q0 := R1.cell 0 _ rfl
  have q1 := R1.cell 1 _ rfl
  have f0 := R1.free 0 _ rfl
  have f1 := R1.free 1 _ rfl
  have p0 := D1.cell 0 _ rfl
  have p1 := D1.cell 1 _ rfl
  have z0 := D1.free 0 _ rfl
  have z1 := D1.free 1 _ rfl
  have hne : w.heap.size + 1 ≠ w.heap.size + 1 + 1 := by omega
  have hne2 : w.heap.size ≠ w.heap.size + 1 + 1 := by omega
  have hS := (((HG1.out.setCell (p := ⟨w.heap.size + 1 + 1, 0, none⟩) (.inl (by show w.heap.size + 1 + 1 < W0.heap.size; omega)) (.slice (some ⟨W0.heap.size, 0, none⟩) len len)).setCell (p := ⟨w.heap.size + 1 + 1, 1, none⟩) (.inl (by show w.heap.size + 1 + 1 < W0.heap.size; omega)) (.int .i64 x)).setCell (p := ⟨w.heap.size + 1, 0, none⟩) (.inl (by show w.heap.size + 1 < W0.heap.size; omega)) (.slice (some ⟨W0.heap.size, 0, none⟩) len len)).setCell (p := ⟨w.heap.size + 1, 1, none⟩) (.inl (by show w.heap.size + 1 < W0.heap.size; omega)) (.int .i64 x)
  have hS2 := Lib.hid ((hS.less (show w.heap.size ≤ W0.heap.size by omega)).more hS.top (Nat.le_refl _))
  clear G1 b1 A1 R1 D1 hS T HR0 HD0 HA0 HB0 HG1 hz0
  go_wp2_with fail
  refine bodyPost_ret (v := .agg #[.slice (some ⟨W0.heap.size, 0, none⟩) len len, .int .i64 x]) (by simp [results, Tryz.results121, go_sem, q0, q1]) rfl ⟨_, xs, rfl, hS2.out, ?_⟩
  exact (by (iterate 4 (refine bset ?_ (by dsimp only; omega) _)); exact HB1.out)
theorem eqDisk_any (a b : Option Addr) (len c1 c2 B : Nat) (zss : List (List Int)) (x : Int) (w : World) (hR : Grid w B a len c1 zss) (hQ : Grid w B b len c2 zss) (hB : B ≤ w.heap.size) :
    Calls Tryz.prog 125 #[.agg #[.slice a len c1, .int .i64 x], .agg #[.slice b len c2, .int .i64 x]] w fun e w' => e = .returned (.bool true) ∧ Below w.heap.size w w' := by
  have b0 := bal (bal (Below.refl _ w) (.cells #[.slice a len c1, .int .i64 x] 27)) (.cells #[.slice b len c2, .int .i64 x] 27)
  have E := eqByteSS_any a b len c1 c2 B zss _ (hR.below (b0.mono hB)) (hQ.below (b0.mono hB)) (Nat.le_trans hB b0.size)
  have A1 : At w.heap.size [.slice a len c1, .int .i64 x] ((w.alloc (.cells #[.slice a len c1, .int .i64 x] 27)).alloc (.cells #[.slice b len c2, .int .i64 x] 27)) := (At.new w [.slice a len c1, .int .i64 x] 27).alloc _
  have A2 := At.new (w.alloc (.cells #[.slice a len c1, .int .i64 x] 27)) [.slice b len c2, .int .i64 x] 27
  rw [World.size_alloc] at A2
  have HA1 := Lib.hid A1
  have HA2 := Lib.hid (show At (w.heap.size + 1) [.slice b len c2, .int .i64 x] ((w.alloc (.cells #[.slice a len c1, .int .i64 x] 27)).alloc (.cells #[.slice b len c2, .int .i64 x] 27)) from A2)
  clear hR hQ A1 A2
  go_enter Tryz.func125, Tryz.ntmps125
  go_wp2_with fail
  generalize (w.alloc (.cells #[.slice a len c1, .int .i64 x] 27)).alloc (.cells #[.slice b len c2, .int .i64 x] 27) = W0 at *
  refine E.mono ?_
  rintro r u1 ⟨rfl, b1⟩
  have B1 := btr b0 b1
  have X1 := HA1.out.on b1
  have X2 := HA2.out.on b1
  have d0 := X1.cell 0 _ rfl
  have d1 := X1.cell 1 _ rfl
  have e0 := X2.cell 0 _ rfl
  have e1 := X2.cell 1 _ rfl
  clear X1 X2 b1 E HA1 HA2 b0
  go_wp2_with fail
  go_ret
  exact ⟨rfl, B1⟩
end Go.Proofs.YtcolecidbalmhaaGreatDoor
namespace Go.Proofs.YtcolecidbalmhaaGreatDoor.M

/-- A letter of either size, or a digit. -/
def plainB (b : UInt8) : Bool := decide (97 ≤ (b.toNat : Int) ∧ (b.toNat : Int) ≤ 122) || decide (65 ≤ (b.toNat : Int) ∧ (b.toNat : Int) ≤ 90) || decide (48 ≤ (b.toNat : Int) ∧ (b.toNat : Int) ≤ 57)
def dashB (b : UInt8) : Bool := decide ((b.toNat : Int) = 45)
def dotB (b : UInt8) : Bool := decide ((b.toNat : Int) = 46)
/-- What stands at a place: 1 a letter or a digit, 2 a dash, 3 a dot, 0 another byte. -/
def cls (b : UInt8) : Int := if plainB b then 1 else if dashB b then 2 else if dotB b then 3 else 0
/-- .., 4 the end. -/
def chr (l : List UInt8) (k : Nat) : Int := match l[k]? with
  | none => 4
  | some b => cls b
theorem plain_dash {b : UInt8} (h : plainB b = true) : dashB b = false := by
  simp only [plainB, dashB, Bool.or_eq_true, decide_eq_true_eq, decide_eq_false_iff_not] at *
  omega
theorem plain_dot {b : UInt8} (h : plainB b = true) : dotB b = false := by
  simp only [plainB, dotB, Bool.or_eq_true, decide_eq_true_eq, decide_eq_false_iff_not] at *
  omega
theorem dash_dot {b : UInt8} (h : dashB b = true) : dotB b = false := by
  simp only [dashB, dotB, decide_eq_true_eq, decide_eq_false_iff_not] at *
  omega

mutual
/-- The machine: at the beginning of a part. -/
def mDot : List UInt8 → Bool
  | [] => false
  | b :: r => if plainB b then mPlain r else false
/-- Behind a letter or a digit. -/
def mPlain : List UInt8 → Bool
  | [] => true
  | b :: r => if plainB b then mPlain r else if dashB b then mDash r else if dotB b then (if r = [] then true else mDot r) else false
/-- Behind a dash. -/
def mDash : List UInt8 → Bool
  | [] => false
  | b :: r => if plainB b then mPlain r else if dashB b then mDash r else false
end

/-- What the model asks of a byte of a part. -/
def signB (b : UInt8) : Bool := plainB b || dashB b
def partB (w : List UInt8) : Bool := w.all signB && decide (1 ≤ w.length) && !(w.head?.any dashB) && !(w.getLast?.any dashB)
/-- Cut at each dot; 'cur' is what stands ahead. -/
def cutL (cur : List UInt8) : List UInt8 → List (List UInt8)
  | [] => [cur]
  | b :: r => if dotB b then cur :: cutL [] r else cutL (cur ++ [b]) r
/-- Without a dot behind it all. -/
def strip : List UInt8 → List UInt8
  | [] => []
  | b :: r => if dotB b = true ∧ r = [] then [] else b :: strip r
def bare : List UInt8 → List UInt8
  | [] => []
  | b :: r => b :: strip r
/-- What is not a part's beginning, whatever comes. -/
def badB (w : List UInt8) : Bool := w.head?.any dashB || !(w.all signB)
theorem badB_part {w : List UInt8} (h : badB w = true) : partB w = false := by
  unfold badB at h
  unfold partB
  simp only [Bool.or_eq_true, Bool.not_eq_true'] at h
  rcases h with h | h <;> simp [h]
theorem badB_more {w : List UInt8} (h : badB w = true) (b : UInt8) : badB (w ++ [b]) = true := by
  unfold badB at *
  cases w with
  | nil => simp at h
  | cons x r =>
    simp only [List.cons_append, List.head?_cons, Option.any_some, Bool.or_eq_true, Bool.not_eq_true'] at *
    rcases h with h | h
    · exact .inl h
    · right
      rw [← List.cons_append, List.all_append, h]
      rfl
theorem cut_bad : ∀ (r cur : List UInt8), badB cur = true → (cutL cur r).all partB = false
  | [], cur, h => by simp [cutL, badB_part h]
  | b :: r, cur, h => by
    unfold cutL
    split
    · simp [badB_part h]
    · exact cut_bad r _ (badB_more h b)
/-- A part so far: it begins with no dash. 'd': it ends with one. -/
def soFar (w : List UInt8) (d : Bool) : Prop := w ≠ [] ∧ w.all signB = true ∧ w.head?.any dashB = false ∧ w.getLast?.any dashB = d
theorem soFar.part {w : List UInt8} {d : Bool} (h : soFar w d) : partB w = !d := by
  obtain ⟨h1, h2, h3, h4⟩ := h
  unfold partB
  rw [h2, h3, h4]
  have : 1 ≤ w.length := by cases w with
    | nil => exact absurd rfl h1
    | cons => simp
  simp [this]
theorem soFar.more {w : List UInt8} {d : Bool} (h : soFar w d) {b : UInt8} (hb : signB b = true) : soFar (w ++ [b]) (dashB b) := by
  obtain ⟨h1, h2, h3, h4⟩ := h
  refine ⟨by simp, by simp only [List.all_append, h2, List.all_cons, hb, List.all_nil]; rfl, ?_, by simp⟩
  cases w with
  | nil => exact absurd rfl h1
  | cons x r => simpa using h3
theorem soFar.first {b : UInt8} (h : plainB b = true) : soFar [b] false := ⟨by simp, by simp [signB, h], by simp [plain_dash h], by simp [plain_dash h]⟩
theorem strip_cons {b : UInt8} {r : List UInt8} (h : dotB b = false ∨ r ≠ []) : strip (b :: r) = b :: strip r := by
  rw [strip, if_neg]
  rintro ⟨h1, h2⟩
  rcases h with h | h
  · rw [h] at h1; cases h1
  · exact h h2
/-- The machine reads what the model cuts. -/
theorem machine : ∀ (n : Nat) (r : List UInt8), r.length ≤ n →
    (∀ cur, soFar cur false → mPlain r = (cutL cur (strip r)).all partB) ∧ (∀ cur, soFar cur true → mDash r = (cutL cur (strip r)).all partB) ∧ (mDot r = (cutL [] (bare r)).all partB) ∧ (r ≠ [] → mDot r = (cutL [] (strip r)).all partB)
  | n, [], _ => by
    refine ⟨fun cur h => ?_, fun cur h => ?_, ?_, fun h => absurd rfl h⟩
    · simp [mPlain, strip, cutL, h.part]
    · simp [mDash, strip, cutL, h.part]
    · simp [mDot, bare, cutL, partB]
  | 0, b :: r, h => by simp at h
  | n + 1, b :: r, hl => by
    have hr : r.length ≤ n := by simpa using hl
    obtain ⟨hP, hD, hB, hS⟩ := machine n r hr
    have start : mDot (b :: r) = (cutL [] (b :: strip r)).all partB := by
      rw [mDot, cutL]
      split
      · rename_i hb
        rw [plain_dot hb]
        simpa using hP [b] (soFar.first hb)
      · rename_i hb
        split
        · simp [partB]
        · rename_i hd
          have : badB [b] = true := by
            unfold badB signB
            cases h2 : dashB b <;> simp [hb, h2]
          exact (cut_bad _ _ this).symm
    refine ⟨fun cur h => ?_, fun cur h => ?_, start, fun _ => ?_⟩
    · rw [mPlain]
      split
      · rename_i hb
        rw [strip_cons (.inl (plain_dot hb)), cutL, plain_dot hb]
        have := h.more (b := b) (by simp [signB, hb])
        rw [plain_dash hb] at this
        simpa using hP _ this
      split
      · rename_i hb
        rw [strip_cons (.inl (dash_dot hb)), cutL, dash_dot hb]
        have := h.more (b := b) (by simp [signB, hb])
        rw [hb] at this
        simpa using hD _ this
      split
      · rename_i hb
        split
        · rename_i hn
          rw [strip, if_pos ⟨hb, hn⟩]
          simp [cutL, h.part]
        · rename_i hn
          rw [strip_cons (.inr hn), cutL, hb]
          simp [h.part, hS hn]
      · rename_i h1 h2 h3
        simp only [Bool.not_eq_true] at h1 h2 h3
        rw [strip_cons (.inl h3), cutL, h3]
        have : badB (cur ++ [b]) = true := by
          unfold badB
          simp [signB, h1, h2]
        simpa using (cut_bad _ _ this).symm
    · rw [mDash]
      split
      · rename_i hb
        rw [strip_cons (.inl (plain_dot hb)), cutL, plain_dot hb]
        have := h.more (b := b) (by simp [signB, hb])
        rw [plain_dash hb] at this
        simpa using hP _ this
      split
      · rename_i hb
        rw [strip_cons (.inl (dash_dot hb)), cutL, dash_dot hb]
        have := h.more (b := b) (by simp [signB, hb])
        rw [hb] at this
        simpa using hD _ this
      · rename_i h1 h2
        simp only [Bool.not_eq_true] at h1 h2
        cases h3 : dotB b
        · rw [strip_cons (.inl h3), cutL, h3]
          have : badB (cur ++ [b]) = true := by
            unfold badB
            simp [signB, h1, h2]
          simpa using (cut_bad _ _ this).symm
        · by_cases hn : r = []
          · rw [strip, if_pos ⟨h3, hn⟩]
            simp [cutL, h.part]
          · rw [strip_cons (.inr hn), cutL, h3]
            simp [h.part]
    · cases h3 : dotB b
      · rw [strip_cons (.inl h3), start]
      · by_cases hn : r = []
        · subst hn
          rw [strip, if_pos ⟨h3, rfl⟩, start]
          simp [strip, cutL, h3, partB]
        · rw [strip_cons (.inr hn), start]
theorem hasP_eq (l : List UInt8) : mDot l = (cutL [] (bare l)).all partB := (machine _ l (Nat.le_refl _)).2.2.1

theorem cls_eq (b : UInt8) : cls b = if (97 ≤ (b.toNat : Int) ∧ (b.toNat : Int) ≤ 122) ∨ (65 ≤ (b.toNat : Int) ∧ (b.toNat : Int) ≤ 90) ∨ (48 ≤ (b.toNat : Int) ∧ (b.toNat : Int) ≤ 57) then 1 else if (b.toNat : Int) = 45 then 2 else if (b.toNat : Int) = 46 then 3 else 0 := by
  unfold cls plainB dashB dotB
  simp only [Bool.or_eq_true, decide_eq_true_eq, or_assoc]
theorem chr_at (s : ByteArray) (k : Nat) (h : k < s.size) : chr s.data.toList k = cls s[k] := by
  have e : s.data.toList[k]? = some s[k] := by
    rw [Array.getElem?_toList]
    exact Array.getElem?_eq_getElem h
  unfold chr
  rw [e]
theorem chr_end (s : ByteArray) (k : Nat) (h : s.size ≤ k) : chr s.data.toList k = 4 := by
  have e : s.data.toList[k]? = none := by
    rw [Array.getElem?_toList]
    exact Array.getElem?_eq_none h
  unfold chr
  rw [e]
theorem cls_plain {b : UInt8} (h : plainB b = true) : cls b = 1 := by simp [cls, h]
theorem cls_dash {b : UInt8} (h : dashB b = true) : cls b = 2 := by
  have : plainB b = false := by
    cases h2 : plainB b
    · rfl
    · rw [plain_dash h2] at h; cases h
  simp [cls, h, this]
theorem cls_dot {b : UInt8} (h : dotB b = true) : cls b = 3 := by
  have h1 : plainB b = false := by
    cases h2 : plainB b
    · rfl
    · rw [plain_dot h2] at h; cases h
  have h2 : dashB b = false := by
    cases h2 : dashB b
    · rfl
    · rw [dash_dot h2] at h; cases h
  simp [cls, h, h1, h2]
theorem cls_other {b : UInt8} (h1 : plainB b = false) (h2 : dashB b = false) (h3 : dotB b = false) : cls b = 0 := by simp [cls, h1, h2, h3]
/-- The machine's three states, at a place: what 'chr' tells and what is left. -/
inductive Step (l : List UInt8) (k : Nat) : Prop
  | plain : chr l k = 1 → k < l.length → mDot (l.drop k) = mPlain (l.drop (k + 1)) → mPlain (l.drop k) = mPlain (l.drop (k + 1)) → mDash (l.drop k) = mPlain (l.drop (k + 1)) → Step l k
  | dash : chr l k = 2 → k < l.length → mDot (l.drop k) = false → mPlain (l.drop k) = mDash (l.drop (k + 1)) → mDash (l.drop k) = mDash (l.drop (k + 1)) → Step l k
  | dotMore : chr l k = 3 → k + 1 < l.length → mDot (l.drop k) = false → mPlain (l.drop k) = mDot (l.drop (k + 1)) → mDash (l.drop k) = false → Step l k
  | dotLast : chr l k = 3 → k + 1 = l.length → mDot (l.drop k) = false → mPlain (l.drop k) = true → mDash (l.drop k) = false → Step l k
  | other : chr l k = 0 → k < l.length → mDot (l.drop k) = false → mPlain (l.drop k) = false → mDash (l.drop k) = false → Step l k
  | ends : chr l k = 4 → l.length ≤ k → mDot (l.drop k) = false → mPlain (l.drop k) = true → mDash (l.drop k) = false → Step l k
theorem step (l : List UInt8) (k : Nat) : Step l k := by
  rcases Nat.lt_or_ge k l.length with h | h
  · have e : l.drop k = l[k] :: l.drop (k + 1) := List.drop_eq_getElem_cons h
    have ec : chr l k = cls l[k] := by simp [chr, h]
    generalize l[k] = b at e ec
    cases h1 : plainB b
    · cases h2 : dashB b
      · cases h3 : dotB b
        · exact .other (ec.trans (cls_other h1 h2 h3)) h (by rw [e]; simp [mDot, h1]) (by rw [e]; simp [mPlain, h1, h2, h3]) (by rw [e]; simp [mDash, h1, h2])
        · rcases Nat.lt_or_ge (k + 1) l.length with hk | hk
          · refine .dotMore (ec.trans (cls_dot h3)) hk (by rw [e]; simp [mDot, h1]) ?_ (by rw [e]; simp [mDash, h1, h2])
            rw [e, mPlain, if_neg (by simp [h1]), if_neg (by simp [h2]), if_pos h3, if_neg]
            intro hn
            have := congrArg List.length hn
            simp at this
            omega
          · refine .dotLast (ec.trans (cls_dot h3)) (by omega) (by rw [e]; simp [mDot, h1]) ?_ (by rw [e]; simp [mDash, h1, h2])
            rw [e, mPlain, if_neg (by simp [h1]), if_neg (by simp [h2]), if_pos h3, if_pos (List.drop_eq_nil_iff.2 hk)]
      · exact .dash (ec.trans (cls_dash h2)) h (by rw [e]; simp [mDot, h1]) (by rw [e]; simp [mPlain, h1, h2]) (by rw [e]; simp [mDash, h1, h2])
    · exact .plain (ec.trans (cls_plain h1)) h (by rw [e]; simp [mDot, h1]) (by rw [e]; simp [mPlain, h1]) (by rw [e]; simp [mDash, h1])
  · have e : l.drop k = [] := List.drop_eq_nil_iff.2 h
    exact .ends (by simp [chr, h]) h (by rw [e]; simp [mDot]) (by rw [e]; simp [mPlain]) (by rw [e]; simp [mDash])

theorem signB_eq (b : UInt8) : signB b = decide ((97 ≤ (b.toNat : Int) ∧ (b.toNat : Int) ≤ 122) ∨ (65 ≤ (b.toNat : Int) ∧ (b.toNat : Int) ≤ 90) ∨ (48 ≤ (b.toNat : Int) ∧ (b.toNat : Int) ≤ 57) ∨ (b.toNat : Int) = 45) := by
  unfold signB plainB dashB
  simp only [Bool.decide_or, Bool.or_assoc]
def signTo (s : ByteArray) (k : Nat) : Bool := (s.data.toList.take k).all signB
theorem signTo_zero (s : ByteArray) : signTo s 0 = true := by simp [signTo]
theorem signTo_next (s : ByteArray) (k : Nat) (h : k < s.size) (hl : signTo s k = true) (hb : signB s[k] = true) : signTo s (k + 1) = true := by
  unfold signTo at *
  rw [data_take s k h, List.all_append, hl]
  simp [hb]
theorem signTo_all (s : ByteArray) (h : signTo s s.size = true) : s.data.toList.all signB = true := by
  unfold signTo at h
  rwa [List.take_of_length_le (by simp)] at h
theorem partB_stop (s : ByteArray) (k : Nat) (h : k < s.size) (hb : signB s[k] = false) : partB s.data.toList = false := by
  have : s.data.toList.all signB = false := by
    rw [List.all_eq_false]
    exact ⟨s[k], by rw [Array.mem_toList_iff]; exact Array.getElem_mem h, by simp [hb]⟩
  simp [partB, this]
theorem partB_short (s : ByteArray) (h : s.size < 1) : partB s.data.toList = false := by
  have e : s.data.toList = [] := List.eq_nil_of_length_eq_zero (by rw [Array.length_toList]; show s.size = 0; omega)
  rw [e]; rfl
theorem head_at (s : ByteArray) (h : 0 < s.size) : s.data.toList.head? = some s[0] := by
  rw [List.head?_eq_getElem?, Array.getElem?_toList]
  exact Array.getElem?_eq_getElem h
theorem last_at (s : ByteArray) (n : Nat) (h : s.size = n + 1) : s.data.toList.getLast? = some (s[n]'(by omega)) := by
  have hl : s.data.toList.length = n + 1 := by simpa using h
  rw [List.getLast?_eq_getElem?, hl, Array.getElem?_toList]
  exact Array.getElem?_eq_getElem (show n < s.data.size from by have : s.data.size = s.size := rfl; omega)
theorem partB_ends (s : ByteArray) (n : Nat) (h : s.size = n + 1) (ha : signTo s s.size = true) : partB s.data.toList = (!(dashB (s[0]'(by omega))) && !(dashB (s[n]'(by omega)))) := by
  unfold partB
  rw [signTo_all s ha, head_at s (by omega), last_at s n h, decide_eq_true (show 1 ≤ s.data.toList.length by rw [Array.length_toList]; show 1 ≤ s.size; omega)]
  simp
/-- A text of these bytes. -/
def bs (l : List UInt8) : ByteArray := ⟨l.toArray⟩
theorem bs_list (l : List UInt8) : (bs l).data.toList = l := by simp [bs]
theorem bs_size (l : List UInt8) : (bs l).size = l.length := by simp [bs, ByteArray.size]
theorem bs_data (s : ByteArray) : bs s.data.toList = s := by simp [bs]
theorem bs_extract (s : ByteArray) (a b : Nat) : s.extract a b = bs ((s.data.toList.drop a).take (b - a)) := Lib.extract_eq s a b
theorem strip_last : ∀ (r : List UInt8), strip r = if r.getLast?.any dotB then r.take (r.length - 1) else r
  | [] => by simp [strip]
  | [b] => by
    rw [strip]
    by_cases h : dotB b = true <;> simp [h, strip]
  | b :: c :: r => by
    rw [strip_cons (.inr (by simp)), strip_last (c :: r)]
    simp only [List.getLast?_cons_cons]
    split
    · simp
    · rfl
theorem bare_last (l : List UInt8) : bare l = if 1 < l.length ∧ l.getLast?.any dotB = true then l.take (l.length - 1) else l := by
  cases l with
  | nil => simp [bare]
  | cons b r =>
    cases r with
    | nil => simp [bare, strip]
    | cons c r =>
      rw [bare, strip_last]
      simp only [List.getLast?_cons_cons]
      by_cases h : (c :: r).getLast?.any dotB = true
      · rw [if_pos h, if_pos ⟨by simp, h⟩]
        simp
      · rw [if_neg h, if_neg (fun e => h e.2)]
theorem bare_one (s : ByteArray) (h : s.size ≤ 1) : bs (bare s.data.toList) = s := by
  have : s.data.toList.length = s.size := by simp
  rw [bare_last, if_neg (by omega), bs_data]
theorem bare_dot (s : ByteArray) (n : Nat) (h : s.size = n + 2) (hd : dotB (s[n + 1]'(by omega)) = true) : bs (bare s.data.toList) = s.extract 0 (n + 1) := by
  have hl : s.data.toList.length = s.size := by simp
  rw [bare_last, if_pos ⟨by omega, by rw [last_at s (n + 1) h]; simpa using hd⟩, bs_extract]
  simp [h]
theorem bare_not (s : ByteArray) (n : Nat) (h : s.size = n + 2) (hd : dotB (s[n + 1]'(by omega)) = false) : bs (bare s.data.toList) = s := by
  rw [bare_last, if_neg (by rw [last_at s (n + 1) h]; simp [hd]), bs_data]
/-- While it is cut: 'done' are the parts that stand already, the next one begins at f. -/
def CutAt (l : List UInt8) (done : List (List UInt8)) (f k : Nat) : Prop := f ≤ k ∧ k ≤ l.length ∧ cutL [] l = done ++ cutL ((l.drop f).take (k - f)) (l.drop k)
theorem CutAt.zero (l : List UInt8) : CutAt l [] 0 0 := ⟨by omega, by omega, by simp⟩
theorem CutAt.next {l : List UInt8} {done : List (List UInt8)} {f k : Nat} {b : UInt8} (h : CutAt l done f k) (hb : l[k]? = some b) (hd : dotB b = false) : CutAt l done f (k + 1) := by
  obtain ⟨h1, h2, h3⟩ := h
  have hk : k < l.length := (List.getElem?_eq_some_iff.1 hb).1
  have e : l.drop k = b :: l.drop (k + 1) := by rw [List.drop_eq_getElem_cons hk]; congr 1; rw [List.getElem?_eq_getElem hk] at hb; exact Option.some.inj hb
  refine ⟨by omega, by omega, ?_⟩
  rw [h3, e, cutL, if_neg (by simp [hd])]
  congr 2
  rw [show k + 1 - f = (k - f) + 1 by omega, List.take_add_one, List.getElem?_drop, show f + (k - f) = k by omega, hb]
  rfl
theorem CutAt.cut {l : List UInt8} {done : List (List UInt8)} {f k : Nat} {b : UInt8} (h : CutAt l done f k) (hb : l[k]? = some b) (hd : dotB b = true) : CutAt l (done ++ [(l.drop f).take (k - f)]) (k + 1) (k + 1) := by
  obtain ⟨h1, h2, h3⟩ := h
  have hk : k < l.length := (List.getElem?_eq_some_iff.1 hb).1
  have e : l.drop k = b :: l.drop (k + 1) := by rw [List.drop_eq_getElem_cons hk]; congr 1; rw [List.getElem?_eq_getElem hk] at hb; exact Option.some.inj hb
  refine ⟨by omega, by omega, ?_⟩
  rw [h3, e, cutL, if_pos hd]
  simp
theorem CutAt.last {l : List UInt8} {done : List (List UInt8)} {f : Nat} (h : CutAt l done f l.length) : cutL [] l = done ++ [(l.drop f).take (l.length - f)] := by
  obtain ⟨h1, h2, h3⟩ := h
  rw [h3]
  simp [cutL]
theorem cutL_length : ∀ (r cur : List UInt8), (cutL cur r).length ≤ r.length + 1
  | [], cur => by simp [cutL]
  | b :: r, cur => by
    rw [cutL]
    split
    · have := cutL_length r []; simp; omega
    · have := cutL_length r (cur ++ [b]); simp; omega
theorem cutL_part : ∀ (r cur : List UInt8), ∀ p ∈ cutL cur r, p.length ≤ cur.length + r.length
  | [], cur, p, h => by simp [cutL] at h; simp [h]
  | b :: r, cur, p, h => by
    rw [cutL] at h
    split at h
    · rcases List.mem_cons.1 h with rfl | h
      · omega
      · have := cutL_part r [] p h; simp at this ⊢; omega
    · have := cutL_part r (cur ++ [b]) p h; simp at this ⊢; omega
theorem CutAt.done_le {l : List UInt8} {done : List (List UInt8)} {f k : Nat} (h : CutAt l done f k) : done.length ≤ l.length + 1 := by
  have := cutL_length l []
  rw [h.2.2] at this
  simp at this
  omega

/-- What is wrong with a name. -/
def nameF (l : List UInt8) : Int := if 20 < l.length then 2 else if mDot l then 0 else 5
theorem nameF_long {l : List UInt8} (h : 20 < l.length) : nameF l = 2 := by simp [nameF, h]
theorem nameF_no {l : List UInt8} (h : ¬ 20 < l.length) (hm : mDot l = false) : nameF l = 5 := by simp [nameF, h, hm]
theorem nameF_yes {l : List UInt8} (h : ¬ 20 < l.length) (hm : mDot l = true) : nameF l = 0 := by simp [nameF, h, hm]
theorem nameF_zero {l : List UInt8} (h : nameF l = 0) : l.length ≤ 20 ∧ mDot l = true := by
  unfold nameF at h
  split at h
  · omega
  split at h
  · rename_i h2; exact ⟨by omega, h2⟩
  · omega
/-- All the bytes of a name are below 128, and the dot behind it all is gone. -/
theorem ascii : ∀ (n : Nat) (r : List UInt8), r.length ≤ n → (mPlain r = true ∨ mDash r = true ∨ mDot r = true) → ∀ b ∈ r, b.toNat < 128
  | _, [], _, _ => by simp
  | 0, _ :: _, h, _ => by simp at h
  | n + 1, b :: r, hl, h => by
    have hr : r.length ≤ n := by simpa using hl
    have hp : ∀ {b : UInt8}, plainB b = true → b.toNat < 128 := by
      intro b hb
      simp only [plainB, Bool.or_eq_true, decide_eq_true_eq] at hb
      omega
    have hd : ∀ {b : UInt8}, dashB b = true → b.toNat < 128 := by
      intro b hb
      simp only [dashB, decide_eq_true_eq] at hb
      omega
    have ht : ∀ {b : UInt8}, dotB b = true → b.toNat < 128 := by
      intro b hb
      simp only [dotB, decide_eq_true_eq] at hb
      omega
    have key : b.toNat < 128 ∧ (r = [] ∨ mPlain r = true ∨ mDash r = true ∨ mDot r = true) := by
      rcases h with h | h | h
      · rw [mPlain] at h
        split at h
        · rename_i hb; exact ⟨hp hb, .inr (.inl h)⟩
        split at h
        · rename_i hb; exact ⟨hd hb, .inr (.inr (.inl h))⟩
        split at h
        · rename_i hb
          split at h
          · rename_i hn; exact ⟨ht hb, .inl hn⟩
          · exact ⟨ht hb, .inr (.inr (.inr h))⟩
        · cases h
      · rw [mDash] at h
        split at h
        · rename_i hb; exact ⟨hp hb, .inr (.inl h)⟩
        split at h
        · rename_i hb; exact ⟨hd hb, .inr (.inr (.inl h))⟩
        · cases h
      · rw [mDot] at h
        split at h
        · rename_i hb; exact ⟨hp hb, .inr (.inl h)⟩
        · cases h
    intro c hc
    rcases List.mem_cons.1 hc with rfl | hc
    · exact key.1
    · rcases key.2 with rfl | h2
      · simp at hc
      · exact ascii n r hr h2 c hc
theorem strip_trim : ∀ (r : List UInt8), r ≠ [] → Lib.trimSuffix r [46] = strip r
  | [], h => absurd rfl h
  | b :: r, _ => by
    by_cases hn : r = []
    · subst hn
      have e : dotB b = (b == 46) := by
        by_cases hb : b = 46
        · subst hb; decide
        · have : ¬ (b.toNat : Int) = 46 := fun h => hb (UInt8.toNat_inj.1 (by simpa using (show b.toNat = 46 by omega)))
          simp [dotB, this, hb]
      by_cases hb : b = 46
      · subst hb; decide
      · have h1 : dotB b = false := by rw [e]; simpa using hb
        simp [strip, h1, Lib.trimSuffix, Lib.hasSuffix, List.isSuffixOf]
        intro h; exact absurd h.symm hb
    · rw [strip_cons (.inr hn), ← strip_trim r hn]
      unfold Lib.trimSuffix Lib.hasSuffix
      have hl : 1 ≤ r.length := by cases r with
        | nil => exact absurd rfl hn
        | cons => simp
      have e : ([46] : List UInt8).isSuffixOf (b :: r) = ([46] : List UInt8).isSuffixOf r := by
        rw [Bool.eq_iff_iff, List.isSuffixOf_iff_suffix, List.isSuffixOf_iff_suffix]
        constructor
        · rintro ⟨t, ht⟩
          cases t with
          | nil => simp at ht; exact absurd ht.2.symm (by simpa using hn)
          | cons x t => simp at ht; exact ⟨t, ht.2⟩
        · rintro ⟨t, ht⟩
          exact ⟨b :: t, by simp [ht]⟩
      rw [e]
      split
      · simp only [List.length_cons, List.length_nil]
        rw [show r.length + 1 - (0 + 1) = (r.length - (0 + 1)) + 1 by omega, List.take_succ_cons]
      · rfl
theorem bare_trim {l : List UInt8} (h : mDot l = true) : Lib.trimSuffix l [46] = bare l := by
  cases l with
  | nil => simp [mDot] at h
  | cons b r =>
    have hb : plainB b = true := by
      rw [mDot] at h
      split at h
      · assumption
      · cases h
    rw [strip_trim _ (by simp), strip_cons (.inl (plain_dot hb))]
    rfl
theorem strip_mem : ∀ (r : List UInt8), ∀ b ∈ strip r, b ∈ r
  | [], b, h => by simp [strip] at h
  | c :: r, b, h => by
    rw [strip] at h
    split at h
    · simp at h
    · rcases List.mem_cons.1 h with rfl | h
      · simp
      · exact List.mem_cons_of_mem _ (strip_mem r b h)
theorem bare_mem (l : List UInt8) : ∀ b ∈ bare l, b ∈ l := by
  cases l with
  | nil => simp [bare]
  | cons c r =>
    intro b h
    rcases List.mem_cons.1 h with rfl | h
    · simp
    · exact List.mem_cons_of_mem _ (strip_mem r b h)
theorem bare_ascii {l : List UInt8} (h : mDot l = true) : ∀ (j : Nat) (b : UInt8), (bare l)[j]? = some b → b.toNat < 128 := fun _ b hb => ascii _ l (Nat.le_refl _) (.inr (.inr h)) b (bare_mem l b (List.mem_of_getElem? hb))
/-- The normal form. -/
def nrm (l : List UInt8) : List UInt8 := Lib.toLowerA (bare l)
theorem strip_length : ∀ r : List UInt8, (strip r).length ≤ r.length
  | [] => by simp [strip]
  | b :: r => by
    rw [strip]
    split
    · simp
    · have := strip_length r; simpa using this
theorem bare_length (l : List UInt8) : (bare l).length ≤ l.length := by
  cases l with
  | nil => simp [bare]
  | cons b r => have := strip_length r; simpa [bare] using this
/-- What is wrong with a name that has to be a normal one. -/
def normF (l : List UInt8) : Int := if nameF l = 0 then (if nrm l = l then 0 else 1) else nameF l
/-- What is wrong with a supplied key. -/
def tlsaB (u m v : Int) : Bool := decide (0 ≤ u ∧ u ≤ 3) && decide (0 ≤ m ∧ m ≤ 1) && sumB v
def tlsaF (l : List UInt8) (u m v : Int) : Int := if normF l = 0 then (if tlsaB u m v then 0 else 3) else normF l
theorem normF_zero {l : List UInt8} (h : normF l = 0) : nameF l = 0 ∧ nrm l = l := by
  unfold normF at h
  split at h
  · rename_i h0
    split at h
    · rename_i h1; exact ⟨h0, h1⟩
    · omega
  · exact absurd h (by assumption)
end Go.Proofs.YtcolecidbalmhaaGreatDoor.M
namespace Go.Proofs.YtcolecidbalmhaaGreatDoor.M

def lowI (z : Int) : Int := if 65 ≤ z ∧ z ≤ 90 then z + 32 else z
def lowK (zs : List Int) (k : Nat) : List Int := (zs.take k).map lowI ++ zs.drop k
theorem lowK_zero (zs : List Int) : lowK zs 0 = zs := by simp [lowK]
theorem lowK_length (zs : List Int) (k : Nat) : (lowK zs k).length = zs.length := by
  simp [lowK]; omega
theorem lowK_at (zs : List Int) (k : Nat) (z : Int) (h : zs[k]? = some z) : (lowK zs k)[k]? = some z := by
  have hk := (List.getElem?_eq_some_iff.1 h).1
  unfold lowK
  rw [List.getElem?_append_right (by simp; omega), List.length_map, List.length_take, Nat.min_eq_left (by omega), Nat.sub_self, List.getElem?_drop]
  simpa using h
theorem lowK_next (zs : List Int) (k : Nat) (z : Int) (h : zs[k]? = some z) : lowK zs (k + 1) = (lowK zs k).set k (lowI z) := by
  have hk := (List.getElem?_eq_some_iff.1 h).1
  unfold lowK
  rw [List.set_append_right _ _ (by simp; omega), List.length_map, List.length_take, Nat.min_eq_left (by omega), Nat.sub_self, List.take_add_one, h]
  have e : zs.drop k = z :: zs.drop (k + 1) := by rw [List.drop_eq_getElem_cons hk]; congr 1; rw [List.getElem?_eq_getElem hk] at h; exact Option.some.inj h
  rw [e]
  simp
theorem set_same {l : List Int} {k : Nat} {z : Int} (h : l[k]? = some z) : l.set k z = l := by
  obtain ⟨hk, e⟩ := List.getElem?_eq_some_iff.1 h
  rw [← e]
  exact List.set_getElem_self hk
theorem lowK_all (zs : List Int) : lowK zs zs.length = zs.map lowI := by simp [lowK]
theorem lowI_byte (b : UInt8) : lowI (b.toNat : Int) = ((Lib.lowerB b).toNat : Int) := by
  unfold lowI
  by_cases h : Lib.isUpperB b = true
  · rw [Lib.lowerB_int b h, if_pos]
    rw [Lib.isUpperB_int] at h
    simpa using h
  · have h' : Lib.isUpperB b = false := by simpa using h
    rw [Lib.lowerB_of_not b h', if_neg]
    rw [Lib.isUpperB_int] at h
    simpa using h
theorem low_text (l : List UInt8) : (textL (bs l)).map lowI = (Lib.toLowerA l).map fun b => (b.toNat : Int) := by
  unfold textL Lib.toLowerA
  rw [bs_list, List.map_map, List.map_map]
  exact List.map_congr_left fun b _ => lowI_byte b
/-- The text that is answered beside a code. -/
def nrmT (l : List UInt8) : List UInt8 := if nameF l = 0 then nrm l else []
theorem normF_no {l : List UInt8} (h : ¬ nameF l = 0) : normF l = nameF l := by simp [normF, h]
theorem normF_form {l : List UInt8} (h : nameF l = 0) (hn : ¬ nrm l = l) : normF l = 1 := by simp [normF, h, hn]
theorem normF_yes {l : List UInt8} (h : nameF l = 0) (hn : nrm l = l) : normF l = 0 := by simp [normF, h, hn]
def useB (u : Int) : Bool := decide (0 ≤ u ∧ u ≤ 3)
def matB (m : Int) : Bool := decide (0 ≤ m ∧ m ≤ 1)
/-- The number that a supplied key has for a public number. -/
def valM (p m : Int) : Int := if m = 1 then tagL spkiS [p] else p
/-- What TlsaFor answers; 'pb' tells whether the number is a public one. -/
def forC (l : List UInt8) (pb : Bool) (m : Int) : Int := if nameF l = 0 then (if pb && matB m then 0 else 3) else nameF l
def forN (l : List UInt8) (pb : Bool) (m : Int) : List UInt8 := if forC l pb m = 0 then nrm l else []
def forU (l : List UInt8) (pb : Bool) (m : Int) : Int := if forC l pb m = 0 then 3 else 0
def forM (l : List UInt8) (pb : Bool) (m : Int) : Int := if forC l pb m = 0 then m else 0
def forV (l : List UInt8) (pb : Bool) (p m : Int) : Int := if forC l pb m = 0 then valM p m else 0
end Go.Proofs.YtcolecidbalmhaaGreatDoor.M
namespace Go.Proofs.YtcolecidbalmhaaGreatDoor.M

/-- What a supplied key (n, u, m, v) says of a name and a number. -/
def matchB (n : List UInt8) (u m v : Int) (l : List UInt8) (pb : Bool) (p : Int) : Bool :=
  decide (tlsaF n u m v = 0) && decide (nameF l = 0) && pb && decide (u = 3) && decide (n = nrm l) && decide (v = valM p m)
end Go.Proofs.YtcolecidbalmhaaGreatDoor.M
namespace Go.Proofs.YtcolecidbalmhaaGreatDoor.M

def allB (f : Nat → Bool) : Nat → Bool
  | 0 => true
  | n + 1 => f n && allB f n
theorem allB_out {f : Nat → Bool} {n : Nat} (h : allB f n = true) {k : Nat} (hk : k < n) : f k = true := by
  induction n with
  | zero => omega
  | succ n ih =>
    simp only [allB, Bool.and_eq_true] at h
    rcases Nat.lt_or_ge k n with h1 | h1
    · exact ih h.2 h1
    · obtain rfl : k = n := by omega
      exact h.1

theorem pw_nat (v e m : Nat) : pw v e m = ((v ^ e % m : Nat) : Int) := by
  unfold pw; rw [← Int.natCast_pow, ← Int.natCast_emod]

theorem base_order : pw 4 1439 2879 = 1 := by
  have := pw_nat 4 1439 2879
  have e : 4 ^ 1439 % 2879 = 1 := by decide +kernel
  rw [e] at this; exact this
theorem base_all : allB (fun a => a == 0 || (2 ≤ 4 ^ a % 2879 && 4 ^ a % 2879 ≤ 2878)) 1439 = true := by decide +kernel
theorem base_pub (a : Nat) (h0 : 1 ≤ a) (h1 : a ≤ 1438) : 2 ≤ pw 4 a 2879 ∧ pw 4 a 2879 ≤ 2878 := by
  have h := allB_out base_all (k := a) (by omega)
  simp only [Bool.or_eq_true, beq_iff_eq, Bool.and_eq_true, decide_eq_true_eq] at h
  have := pw_nat 4 a 2879
  rw [show ((4 : Nat) : Int) = 4 from rfl, show ((2879 : Nat) : Int) = 2879 from rfl] at this
  rw [this]
  omega
theorem base_mod (n : Nat) : pw 4 n 2879 = pw 4 (n % 1439) 2879 := by
  have e : n = 1439 * (n / 1439) + n % 1439 := by omega
  have h : pw 4 (1439 * (n / 1439)) 2879 = 1 := by rw [← pw_pw, base_order, pw_one_base]; rfl
  have h2 := pw_add 4 (1439 * (n / 1439)) (n % 1439) 2879
  rw [h, ← e, Int.one_mul] at h2
  rw [← h2]
  have b := pw_bd 4 (n % 1439) (m := 2879) (by omega)
  exact Int.emod_eq_of_lt b.1 b.2
theorem base_raised (n : Nat) : pw (pw 4 n 2879) 1439 2879 = 1 := by
  rw [pw_pw, Nat.mul_comm, ← pw_pw, base_order, pw_one_base]; rfl
end Go.Proofs.YtcolecidbalmhaaGreatDoor.M
namespace Go.Proofs.YtcolecidbalmhaaGreatDoor
open Go.RowKit

def pubB (v : Int) : Bool := inB v 2 2878 && (M.pw v 1439 2879 == 1)
def keyR (s : Int) : Int × Int × Int := if inB s 1 1438 then (0, s, M.pw 4 s.toNat 2879) else (3, 0, 0)
def sharedR (s p : Int) : Int × Int := if inB s 1 1438 && pubB p then (0, M.pw p s.toNat 2879) else (3, 0)
def invR (v : Int) : Int × Int := if inB v 1 2878 then (0, M.pw v 2877 2879) else (3, 0)
abbrev I3 (c u v : Int) : Value := .agg #[.int .i64 c, .int .i64 u, .int .i64 v]

theorem l1Public_any (v : Int) (w : World) :
    Calls Tryz.prog 156 #[.int .i64 v] w fun r w' => r = .returned (.bool (pubB v)) ∧ w = w' := by
  cases hV : inB v 2 2878
  · have E : pubB v = false := by simp [pubB, hV]
    rw [E]; clear E
    go_enter Tryz.func156, Tryz.ntmps156
    go_wp2_with fail
    refine (l1In_any _ _ _ _).mono ?_
    rintro r w' ⟨rfl, rfl⟩
    go_wp2_with fail
    go_ret
    simp
  have hV' := hV
  simp only [inB, decide_eq_true_eq] at hV'
  obtain ⟨v0, v1⟩ := hV'
  cases hP : (M.pw v 1439 2879 == 1)
  · have E : pubB v = false := by simp only [pubB, hP, Bool.and_false]
    rw [E]; clear E
    go_enter Tryz.func156, Tryz.ntmps156
    go_wp2_with fail
    refine (l1In_any _ _ _ _).mono ?_
    rintro r w' ⟨rfl, rfl⟩
    go_wp2_with fail
    refine (l1Raise_int _ _ _ (by omega) (by omega) (by omega) (by omega)).mono ?_
    rintro r w' ⟨rfl, rfl⟩
    go_wp2_with fail
    go_ret
    simp
  have E : pubB v = true := by simp only [pubB, hV, hP, Bool.and_true]
  rw [E]; clear E
  go_enter Tryz.func156, Tryz.ntmps156
  go_wp2_with fail
  refine (l1In_any _ _ _ _).mono ?_
  rintro r w' ⟨rfl, rfl⟩
  go_wp2_with fail
  refine (l1Raise_int _ _ _ (by omega) (by omega) (by omega) (by omega)).mono ?_
  rintro r w' ⟨rfl, rfl⟩
  go_wp2_with fail
  go_ret
  simp

theorem implIsPublic_any (v : Int) (w : World) :
    Calls Tryz.prog 113 #[.int .i64 v] w fun r w' => r = .returned (.bool (pubB v)) ∧ Below w.heap.size w w' := by
  by_cases h0 : 2 ≤ v
  · by_cases h1 : v ≤ 2878
    · cases hP : (M.pw v 1439 2879 == 1)
      · have E : pubB v = false := by simp only [pubB, hP, Bool.and_false]
        rw [E]; clear E
        go_enter Tryz.func113, Tryz.ntmps113
        go_wp2_with fail
        refine (power_int _ _ _ _ (by omega) (by omega) (by omega) (by omega) (by omega) (by omega)).mono ?_
        rintro r w1 ⟨rfl, hb_w1⟩
        obtain ⟨hc_w1, hf_w1⟩ := bcell hb_w1
        have hz_w1 := hb_w1.size
        (try simp at hz_w1)
        go_wp2_with fail
        go_ret
        exact ⟨rfl, hb_w1⟩
      · have E : pubB v = true := by simp only [pubB, inB, h0, h1, hP, Bool.and_true, and_self, decide_true]
        rw [E]; clear E
        go_enter Tryz.func113, Tryz.ntmps113
        go_wp2_with fail
        refine (power_int _ _ _ _ (by omega) (by omega) (by omega) (by omega) (by omega) (by omega)).mono ?_
        rintro r w1 ⟨rfl, hb_w1⟩
        obtain ⟨hc_w1, hf_w1⟩ := bcell hb_w1
        have hz_w1 := hb_w1.size
        (try simp at hz_w1)
        go_wp2_with fail
        go_ret
        exact ⟨rfl, hb_w1⟩
    · have E : pubB v = false := by simp [pubB, inB, h1]
      rw [E]; clear E
      go_enter Tryz.func113, Tryz.ntmps113
      go_wp2_with fail
      go_ret
      exact ⟨rfl, Below.refl _ _⟩
  · have E : pubB v = false := by simp [pubB, inB, h0]
    rw [E]; clear E
    go_enter Tryz.func113, Tryz.ntmps113
    go_wp2_with fail
    go_ret
    exact ⟨rfl, Below.refl _ _⟩

theorem pubB_bd {p : Int} (h : pubB p = true) : 2 ≤ p ∧ p ≤ 2878 := by
  simp only [pubB, inB, Bool.and_eq_true, decide_eq_true_eq] at h; exact h.1

end Go.Proofs.YtcolecidbalmhaaGreatDoor
