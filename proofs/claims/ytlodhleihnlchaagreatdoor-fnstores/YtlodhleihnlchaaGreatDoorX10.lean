/- Texts of this seat that several laws rest on, laid into one. Conditions: as each theorem states. -/
import Derived.Test.YtlodhleihnlchaaGreatDoorX2
import Derived.Test.YtlodhleihnlchaaGreatDoorX3
import Derived.Test.YtlodhleihnlchaaGreatDoorX5
import Derived.Test.YtlodhleihnlchaaGreatDoorX9
import Derived.Deep.WholeRow
import Derived.Deep.DeepCutAuto
import Derived.Laws.StructEq
namespace Go.Proofs.YtlodhleihnlchaaGreatDoor
open Go.RowKit
set_option maxRecDepth 100000
set_option linter.unusedVariables false

theorem u8_size : (Tryz.prog.info? 5).map (·.size) = some 1 := by kernel_rfl
theorem copyBytes_any (a : Option Addr) (len cap B : Nat) (zs : List Int) (w : World) (hR : Row .u8 w B a len cap zs) (hB : B ≤ w.heap.size) (hl : len ≤ 1048576) :
    Calls Tryz.prog 210 #[.slice a len cap] w (Copied .u8 len zs w) := by
  obtain ⟨i0, hi0, hz0, hz1, hz2⟩ := info_parts u8_info
  have hmk : ∀ W : World, (Instr.makeSlice 22 (.int .i64 (len : Int)) (.int .i64 (len : Int))).run Tryz.prog W = .ok (.slice (some ⟨W.heap.size, 0, none⟩) len len) (W.alloc (.cells (madeCells #[.int .u8 0] len) 5)) := by
    intro W
    have := run_make (P := Tryz.prog) W 22 5 i0 (.int .u8 0) Tryz.underlying22 hi0 hz0 .i64 .i64 len len (by omega) (by omega) (by rw [hz2]; omega) (by omega)
    simpa [hz1, Value.cells] using this
  have hL := Lib.hid hR.length
  clear hi0 hz0 hz1 hz2
  have b0 := bal (Below.refl _ w) (.cells (madeCells #[.int .u8 0] len) 5)
  have R1 := hR.below (b0.mono hB)
  have eM : madeCells #[Value.int .u8 0] len = (List.replicate len (Value.int .u8 0)).toArray := by
    apply Array.ext'
    rw [toList_madeCells_one]
  have hg : (w.alloc (.cells (madeCells #[.int .u8 0] len) 5)).heap[w.heap.size]? = some (.cells (List.replicate len (Value.int .u8 0)).toArray 5 (0, 0)) := by
    rw [eM]; exact (MapKept.heap_alloc w _).1
  obtain ⟨X, hX⟩ : ∃ X, X = zs.map (Value.int .u8) := ⟨_, rfl⟩
  have hXl : X.length = len := by rw [hX]; simpa using hR.length
  have h1 : ∀ v ∈ X, v.oneCell' = true := by rw [hX]; exact ints_oneCell .u8 zs
  have hsrc : 0 < X.length → (some ⟨w.heap.size, 0, none⟩ : Option Addr) = some ⟨w.heap.size, 0, none⟩ ∧ ∃ ad, a = some ad ∧ ∀ j v, X[j]? = some v → (w.alloc (.cells (madeCells #[.int .u8 0] len) 5)).cell? (ad.add j) = some v := by
    intro hp
    obtain ⟨b, off, rfl, hb, hc⟩ := R1.cells (by omega)
    refine ⟨rfl, _, rfl, fun j v hv => ?_⟩
    have hj := (List.getElem?_eq_some_iff.1 hv).1
    rw [hXl] at hj
    rw [Addr.add_lit, hc j hj, ← hv, hX]
    simp [List.getD, show j < zs.length by rw [hR.length]; exact hj]
  have HX := Lib.hid hX
  have HXl := Lib.hid hXl
  have HG := Lib.hid hg
  have HS := Lib.hid hsrc
  clear hX hXl hg hsrc eM R1 hR
  go_enter Tryz.func210, Tryz.ntmps210
  go_wp2_with (with_reducible refine wpList_copy_splice rfl (.tmp 7) (.tmp 8) 22 22 rfl 5 Tryz.underlying22 u8_size _ _ len len len cap rfl rfl w.heap.size 0 (List.replicate len (Value.int .u8 0)) 5 HG.out X (by rw [HXl.out]; simp) HS.out (by rw [HXl.out]; simp) h1 w.heap.size w b0 (Nat.le_refl _) ?_; intro w2 HG2 b2)
  have hG2 := HG2.out
  have eS : splice (List.replicate len (Value.int .u8 0)) 0 X = zs.map (Value.int .u8) := by
    rw [← HX.out]
    simp [splice, HXl.out]
  rw [eS] at hG2
  have F := Lib.hid (And.intro (own_blk (B := w.heap.size) hG2 (Nat.le_refl _) hL.out (by simp only [maxLen]; omega)) b2)
  clear HG2 hG2 eS b2
  go_ret
  exact ⟨rfl, F.out.1, F.out.2⟩

theorem l1Copy_any (a : Option Addr) (len cap B : Nat) (zs : List Int) (w : World) (hR : Row .u8 w B a len cap zs) (hB : B ≤ w.heap.size) (hl : len ≤ 1048576) :
    Calls Tryz.prog 285 #[.slice a len cap] w (Made zs w) := by
  obtain ⟨i0, hi0, hz0, hz1, hz2⟩ := info_parts u8_info
  have R1 := hR.alloc hB (.cells #[] 5)
  have hs := R1.src (P := Tryz.prog) (tx := 22) Tryz.underlying22
  have b0 := bal (Below.refl _ w) (.cells #[] 5)
  have hL := Lib.hid hR.length
  clear hR R1
  go_enter Tryz.func285, Tryz.ntmps285
  go_wp2_with (at_builtin; refine wpList_append_src _ rfl (.tmp 3) (.tmp 4) 22 22 rfl w.heap.size 5 i0 (.int .u8 0) 1 1 Tryz.underlying22 hi0 hz0 hz1 hz2 rfl _ 0 [] rfl (own_empty w 5) _ len _ rfl hs (by simp only [maxLen]; omega) (by omega) (by simp) ?_; intro v w2 hown hgrow hat)
  have O2 : OwnK .u8 w2 w.heap.size v zs := by
    unfold OwnK
    rw [hL.out]
    simpa using hown
  have b2 : Below w.heap.size w w2 := (own_empty w 5).grown b0 (by simp) hgrow
  obtain ⟨a', cap', hv, -⟩ := O2.form
  have F := Lib.hid (And.intro O2 b2)
  clear hown hgrow hat O2 b2 hs b0
  subst hv
  go_wp2_with fail
  go_ret
  exact ⟨_, _, _, rfl, F.out.1, F.out.2⟩

theorem bytesEqual_any {B : Nat} {a b : Option Addr} {n1 n2 c1 c2 : Nat} {xs ys : List Int} {w : World} (hR : Row .u8 w B a n1 c1 xs) (hQ : Row .u8 w B b n2 c2 ys) :
    Calls Tryz.prog 140 #[.slice a n1 c1, .slice b n2 c2] w fun r w' => r = .returned (.bool (decide (xs = ys))) ∧ w = w' := by
  have k1 := conv_row hR
  have k2 := conv_row hQ
  have k3 := strOf_beq hR.bytes hQ.bytes
  generalize decide (xs = ys) = b at *
  clear hR hQ
  generalize strOf xs = S at *
  generalize strOf ys = T at *
  go_enter Tryz.func140, Tryz.ntmps140
  go_wp2_with fail
  go_ret
  simp
end Go.Proofs.YtlodhleihnlchaaGreatDoor
namespace Go.Proofs.YtlodhleihnlchaaGreatDoor
open Go.RowKit
set_option maxRecDepth 100000
set_option linter.unusedVariables false

def jget (rs : List (List Int)) (n s : Int) (i : Nat) : Value :=
  if i = 492 then .int .i64 n else if i = 493 then .int .i64 s else if i % 41 = 40 then .int .i64 (((rs[i / 41]?.getD []).length : Nat) : Int) else .int .u8 ((rs[i / 41]?.getD []).getD (i % 41) 0)
def jour (rs : List (List Int)) (n s : Int) : List Value := (List.range 494).map (jget rs n s)
section
variable (rs : List (List Int)) (n s : Int)
theorem jour_len : (jour rs n s).length = 494 := by simp [jour]
theorem jour_at {i : Nat} (h : i < 494) : (jour rs n s)[i]? = some (jget rs n s i) := by simp [jour, h]
theorem jget_one (i : Nat) : (jget rs n s i).oneCell' = true := by
  unfold jget
  repeat' split
  all_goals rfl
theorem jour_one : ∀ v ∈ jour rs n s, v.oneCell' = true := by
  intro v hv
  simp only [jour, List.mem_map] at hv
  obtain ⟨i, _, rfl⟩ := hv
  exact jget_one rs n s i
theorem jour_all : (jour rs n s).toArray.all (·.oneCell') = true := all_oneCell_toArray (jour_one rs n s)
theorem jour_count : (jour rs n s)[492]? = some (.int .i64 n) := by rw [jour_at rs n s (by omega)]; rfl
theorem jour_safe : (jour rs n s)[493]? = some (.int .i64 s) := by rw [jour_at rs n s (by omega)]; rfl
theorem jour_size {k : Nat} (hk : k < 12) : (jour rs n s)[41 * k + 40]? = some (.int .i64 (((rs[k]?.getD []).length : Nat) : Int)) := by
  rw [jour_at rs n s (by omega), jget, if_neg (by omega), if_neg (by omega), if_pos (by omega), show (41 * k + 40) / 41 = k by omega]
theorem jour_byte {k i : Nat} (hk : k < 12) (hi : i < 40) : (jour rs n s)[41 * k + i]? = some (.int .u8 ((rs[k]?.getD []).getD i 0)) := by
  rw [jour_at rs n s (by omega), jget, if_neg (by omega), if_neg (by omega), if_neg (by omega), show (41 * k + i) / 41 = k by omega, show (41 * k + i) % 41 = i by omega]
theorem list_ext {xs ys : List Value} (hl : xs.length = ys.length) (h : ∀ i, i < xs.length → xs[i]? = ys[i]?) : xs = ys := by
  apply List.ext_getElem? 
  intro i
  rcases Nat.lt_or_ge i xs.length with hi | hi
  · exact h i hi
  · rw [List.getElem?_eq_none hi, List.getElem?_eq_none (by omega)]
theorem jour_begin (k : Int) : ((jour rs n s).set 492 (.int .i64 k)).set 493 (.int .i64 k) = jour rs k k := by
  refine list_ext (by simp [jour]) fun i hi => ?_
  have hi' : i < 494 := by simpa [jour] using hi
  rw [jour_at rs k k hi']
  by_cases h1 : i = 493
  · subst h1; simp [jour, jget]
  · by_cases h2 : i = 492
    · subst h2; simp [jour, jget]
    · rw [List.getElem?_set_ne (by omega), List.getElem?_set_ne (by omega), jour_at rs n s hi']
      unfold jget
      rw [if_neg h2, if_neg h1, if_neg h2, if_neg h1]
theorem jour_mark (k : Int) : (jour rs n s).set 493 (.int .i64 k) = jour rs n k := by
  refine list_ext (by simp [jour]) fun i hi => ?_
  have hi' : i < 494 := by simpa [jour] using hi
  rw [jour_at rs n k hi']
  by_cases h1 : i = 493
  · subst h1; simp [jour, jget]
  · rw [List.getElem?_set_ne (by omega), jour_at rs n s hi']
    unfold jget
    rw [if_neg h1, if_neg h1]
theorem jour_with (zs : List Int) (hk : rs.length < 12) (hz : zs.length ≤ 40) :
    ((splice (jour rs n s) (41 * rs.length) (zs.map (Value.int .u8))).set (41 * rs.length + 40) (.int .i64 (zs.length : Int))).set 492 (.int .i64 (n + 1)) = jour (rs ++ [zs]) (n + 1) s := by
  have hsl : (splice (jour rs n s) (41 * rs.length) (zs.map (Value.int .u8))).length = 494 := by
    rw [length_splice _ _ _ (by rw [jour_len]; simp; omega), jour_len]
  refine list_ext (by rw [List.length_set, List.length_set, hsl, jour_len]) fun i hi => ?_
  have hi' : i < 494 := by rwa [List.length_set, List.length_set, hsl] at hi
  rw [jour_at _ _ _ hi']
  by_cases h1 : i = 492
  · subst h1
    rw [List.getElem?_set_self (by simp [hsl])]
    rfl
  rw [List.getElem?_set_ne (by omega)]
  by_cases h2 : i = 41 * rs.length + 40
  · subst h2
    rw [List.getElem?_set_self (by rw [hsl]; omega), jget, if_neg (by omega), if_neg (by omega), if_pos (by omega), show (41 * rs.length + 40) / 41 = rs.length by omega]
    simp
  rw [List.getElem?_set_ne (by omega)]
  unfold splice
  by_cases h3 : i < 41 * rs.length
  · rw [List.getElem?_append_left (by simp [jour]; omega), List.getElem?_take_of_lt h3, jour_at rs n s hi']
    unfold jget
    have hd : i / 41 < rs.length := by omega
    rw [if_neg h1, if_neg h1]
    by_cases h4 : i = 493
    · omega
    rw [if_neg h4, if_neg h4, List.getElem?_append_left hd]
  · have hlt : ((jour rs n s).take (41 * rs.length)).length = 41 * rs.length := by simp [jour]; omega
    rw [List.getElem?_append_right (by omega), hlt]
    by_cases h5 : i < 41 * rs.length + zs.length
    · rw [List.getElem?_append_left (by simp; omega)]
      have e1 : i / 41 = rs.length := by omega
      have e2 : i % 41 = i - 41 * rs.length := by omega
      have h40 : i - 41 * rs.length < 40 := by omega
      rw [jget, if_neg h1, if_neg (by omega), if_neg (by omega), e1, e2]
      simp [show i - 41 * rs.length < zs.length by omega]
    · rw [List.getElem?_append_right (by simp; omega), List.getElem?_drop]
      simp only [List.length_map]
      rw [show 41 * rs.length + zs.length + (i - 41 * rs.length - zs.length) = i by omega, jour_at rs n s hi']
      unfold jget
      rw [if_neg h1, if_neg h1]
      by_cases h4 : i = 493
      · rw [if_pos h4, if_pos h4]
      rw [if_neg h4, if_neg h4]
      by_cases h6 : i / 41 = rs.length
      · rw [h6]
        have e2 : i % 41 = i - 41 * rs.length := by omega
        rw [List.getElem?_append_right (Nat.le_refl _), Nat.sub_self, List.getElem?_eq_none (Nat.le_refl _)]
        rw [if_neg (by omega), if_neg (by omega), e2]
        simp [show zs.length ≤ i - 41 * rs.length by omega]
      · rw [List.getElem?_eq_none (by omega), List.getElem?_eq_none (by simp; omega)]
end
def JB (g : Nat) (cs : List Value) (w : World) : Prop := w.heap[g]? = some (.cells cs.toArray 186)
section
variable {g : Nat} {cs : List Value} {w w' : World}
theorem JB.new (w : World) (cs : List Value) : JB w.heap.size cs (w.alloc (.cells cs.toArray 186)) := (MapKept.heap_alloc w _).1
theorem JB.lt (h : JB g cs w) : g < w.heap.size := (Array.getElem?_eq_some_iff.1 h).1
theorem JB.on (h : JB g cs w) (hb : Below w.heap.size w w') : JB g cs w' := (hb.block g h.lt).trans h
theorem JB.cell (h : JB g cs w) (i : Nat) : w.cell? ⟨g, i, none⟩ = cs[i]? := by
  have := blk_cell h i
  simpa using this
theorem JB.free (h : JB g cs w) (i : Nat) : w.frozen? ⟨g, i, none⟩ = false := blk_free h i
theorem JB.set (h : JB g cs w) (i : Nat) (v : Value) : JB g (cs.set i v) (w.setCell ⟨g, i, none⟩ v) := by
  unfold JB at *
  rw [setCell_eq_setRow w g i _ _ _ v h, setRow_heap w g _ _ _ _ h]
  simp
theorem JB.setB (h : JB g cs w) {p : Addr} (hp : g ≠ p.block) (v : Value) : JB g cs (w.setCell p v) := (Below.heap_setCell w p v g hp).trans h
theorem JB.row (h : JB g cs w) (cs' : List Value) : JB g cs' (w.setRow g cs'.toArray) := setRow_heap w g _ _ _ _ h
theorem JB.rowB (h : JB g cs w) {g' : Nat} (hp : g ≠ g') (cs' : Array Value) : JB g cs (w.setRow g' cs') := (setRow_other w g' g cs' hp).trans h
theorem brow {W w1 : World} (h : Below W.heap.size W w1) {g : Nat} (hg : W.heap.size ≤ g) (cs : Array Value) : Below W.heap.size W (w1.setRow g cs) :=
  h.trans ⟨rfl, rfl, rfl, by simp, fun k hk => setRow_other w1 g k cs (by omega)⟩
end
theorem jour_info : (Tryz.prog.info? 186).map (fun i => (i.zero, i.size)) = some (some (.agg (jour [] 0 0).toArray), 494) := by kernel_rfl
theorem jour_built : Tryz.prog.built 186 [] = some (jour [] 0 0).toArray := by kernel_rfl
theorem JB.at {g : Nat} {cs : List Value} {w : World} (h : JB g cs w) {i : Nat} {v : Value} (hv : cs[i]? = some v) : w.cell? ⟨g, i, none⟩ = some v := (h.cell i).trans hv
theorem jour_fit (rs : List (List Int)) (n s : Int) : (Tryz.prog.info? 186).map (·.size) = some (jour rs n s).toArray.size := by
  rw [(zero_of_info jour_info).2]
  simp [jour]
section
variable {ops : Array Oper} {rest : List Oper} {o : Oper} {a : Act} {w : World} {Q : Exit → Act → World → Prop}
theorem load_jour (cs : List Value) (hgd : o.guard = none) (x : Operand) (ho : o.op = .load 186 x) (g : Nat) (hx : a.eval x = .pointer (some ⟨g, 0, none⟩)) (hg : JB g cs w)
    (hi : (Tryz.prog.info? 186).map (·.size) = some cs.toArray.size) (h : wpList Tryz.prog ops Q rest (a.put o.dst (.agg cs.toArray)) w) : wpList Tryz.prog ops Q (o :: rest) a w :=
  wpList_load_row hgd 186 x ho g hx 186 cs.toArray (0, 0) _ hg Tryz.underlying186 rfl hi h
theorem store_jour (cs old : List Value) (hgd : o.guard = none) (x y : Operand) (ho : o.op = .store 186 x y) (g : Nat) (hx : a.eval x = .pointer (some ⟨g, 0, none⟩)) (hy : a.eval y = .agg cs.toArray) (hg : JB g old w)
    (hi : (Tryz.prog.info? 186).map (·.size) = some cs.toArray.size) (hold : old.toArray.size = cs.toArray.size) (h1 : cs.toArray.all (·.oneCell') = true)
    (h : wpList Tryz.prog ops Q rest (a.put o.dst undef) (w.setRow g cs.toArray)) : wpList Tryz.prog ops Q (o :: rest) a w :=
  wpList_store_row hgd 186 x y ho g cs.toArray hx hy 186 old.toArray hg hi hold h1 h
end
theorem jour_old (rs qs : List (List Int)) (n s m t : Int) : (jour rs n s).toArray.size = (jour qs m t).toArray.size := by simp [jour]
theorem jour_with' (rs : List (List Int)) (n s : Int) (zs : List Int) (hk : rs.length < 12) (hz : zs.length ≤ 40) :
    ((splice (jour rs n s) (rs.length * 41) (zs.map (Value.int .u8))).set (rs.length * 41 + 40) (.int .i64 (zs.length : Int))).set 492 (.int .i64 (n + 1)) = jour (rs ++ [zs]) (n + 1) s := by
  rw [Nat.mul_comm]; exact jour_with rs n s zs hk hz
attribute [irreducible] jour
theorem only_row (w : World) (g : Nat) (cs : Array Value) : Only g w (w.setRow g cs) := ⟨rfl, rfl, rfl, by simp, fun k hk => setRow_other w g k cs hk⟩
theorem wpList_copy_only {P : Program} {w : World} {ops : Array Oper} {rest : List Oper} {o : Oper} {a : Act} {Q : Exit → Act → World → Prop} (hgd : o.guard = none) (d s : Operand) (dT sT : TypeId)
    (ho : o.op = .call { callee := .builtin .copy, args := #[d, s], argTypes := #[dT, sT] }) (elem : TypeId) (hu : P.underlying dT = some (.slice elem)) (hsz : (P.info? elem).map (·.size) = some 1)
    (dp sp : Option Addr) (dLen dCap sLen sCap : Nat) (hd : a.eval d = .slice dp dLen dCap) (hs : a.eval s = .slice sp sLen sCap)
    (g off : Nat) (cur : List Value) (t : TypeId) (hg : w.heap[g]? = some (.cells cur.toArray t (0, 0))) (cs : List Value) (hn : cs.length = Nat.min sLen dLen)
    (hpos : 0 < cs.length → dp = some ⟨g, off, none⟩ ∧ ∃ ad, sp = some ad ∧ ∀ j v, cs[j]? = some v → w.cell? (ad.add j) = some v)
    (hfit : off + cs.length ≤ cur.length) (h1 : ∀ v ∈ cs, v.oneCell' = true)
    (h : ∀ w', w'.heap[g]? = some (.cells (splice cur off cs).toArray t (0, 0)) → Only g w w' → wpList P ops Q rest (a.put o.dst (goInt cs.length)) w') :
    wpList P ops Q (o :: rest) a w := by
  by_cases h0 : cs.length = 0
  · obtain rfl : cs = [] := List.eq_nil_of_length_eq_zero h0
    refine wpList_copy_nothing hgd d s dT sT ho elem hu hsz dp sp dLen dCap sLen sCap hd hs (by simpa using hn.symm) ?_
    exact h w (by simpa [splice] using hg) (Only.refl _ _)
  · obtain ⟨rfl, ad, rfl, hsrc⟩ := hpos (by omega)
    refine wpList_copy_own hgd d s dT sT ho elem hu hsz g off dLen dCap ad sLen sCap hd hs cur.toArray t hg cs hn hsrc (by simpa using hfit) h1 ?_
    refine h _ ?_ (only_row w g _)
    rw [setRow_heap w g _ _ _ _ hg]
    rfl
theorem splice_at {α : Type} (L : List α) (off : Nat) (cs : List α) {i : Nat} (h : off + cs.length ≤ i) (hf : off ≤ L.length) : (splice L off cs)[i]? = L[i]? := by
  unfold splice
  rw [List.getElem?_append_right (by simp; omega), List.getElem?_append_right (by simp; omega), List.getElem?_drop]
  congr 1
  simp
  omega
theorem JB.only {g g' : Nat} {cs : List Value} {w w' : World} (h : JB g cs w) (ho : Only g' w w') (hg : g ≠ g') : JB g cs w' := (ho.block g hg).trans h
theorem bonly {W w w' : World} {g : Nat} (h : Below W.heap.size W w) (ho : Only g w w') (hg : W.heap.size ≤ g) : Below W.heap.size W w' :=
  h.trans (ho.below hg)
theorem beginning_any (rs : List (List Int)) (n s k : Int) (w : World) :
    Calls Tryz.prog 125 #[.agg (jour rs n s).toArray, .int .i64 k] w fun r w' => r = .returned (.agg (jour rs k k).toArray) ∧ Below w.heap.size w w' := by
  have hz := (zero_of_info jour_info).1
  have HI := Lib.hid (jour_fit rs k k)
  have HE := Lib.hid (jour_begin rs n s k)
  have HS := Lib.hid (jour_old [] rs 0 0 k k)
  have HA := Lib.hid (jour_all rs k k)
  have c0 := jour_count rs n s
  have c1 := jour_safe rs n s
  have b0 := bal (bal (Below.refl _ w) (.cells (jour rs n s).toArray 186)) (.cells (jour [] 0 0).toArray 186)
  have Q0 := (JB.new w (jour rs n s)).on (bal (Below.refl _ _) (.cells (jour [] 0 0).toArray 186))
  have R0 := JB.new (w.alloc (.cells (jour rs n s).toArray 186)) (jour [] 0 0)
  rw [World.size_alloc] at R0
  have d0 := Q0.at c0
  have d1 := Q0.at c1
  have f0 := Q0.free 492
  have f1 := Q0.free 493
  clear c0 c1
  generalize jour [] 0 0 = J0 at *
  generalize jour rs n s = J at *
  generalize jour rs k k = K at *
  have HQ := Lib.hid Q0
  have HR := Lib.hid R0
  have HB := Lib.hid b0
  clear Q0 R0 b0
  go_enter Tryz.func125, Tryz.ntmps125
  go_upto_region 1 with fail
  generalize (w.alloc (.cells J.toArray 186)).alloc (.cells J0.toArray 186) = W0 at *
  go_upto_region 2 with fail
  have Q2 := (HQ.out.set 492 (.int .i64 k)).set 493 (.int .i64 k)
  rw [HE.out] at Q2
  have R2 := (HR.out.setB (p := ⟨w.heap.size, 492, none⟩) (by simp) (.int .i64 k)).setB (p := ⟨w.heap.size, 493, none⟩) (by simp) (.int .i64 k)
  have B2 : Below w.heap.size w ((W0.setCell ⟨w.heap.size, 492, none⟩ (.int .i64 k)).setCell ⟨w.heap.size, 493, none⟩ (.int .i64 k)) := (by (iterate 2 (refine bset ?_ (by dsimp only; omega) _)); exact HB.out)
  have HQ2 := Lib.hid Q2
  have HR2 := Lib.hid R2
  have HB2 := Lib.hid B2
  clear Q2 R2 B2 HQ HR HB d0 d1 f0 f1 HE hz
  generalize (W0.setCell ⟨w.heap.size, 492, none⟩ (.int .i64 k)).setCell ⟨w.heap.size, 493, none⟩ (.int .i64 k) = W2 at *
  go_wp2_with (first | (refine load_jour K rfl (.tmp 2) rfl w.heap.size rfl HQ2.out HI.out ?_) | (refine store_jour K J0 rfl (.tmp 4) (.tmp 9) rfl (w.heap.size + 1) rfl rfl HR2.out HI.out HS.out HA.out ?_))
  simp only [Act.put, List.setIfInBounds_toArray, List.set_cons_zero, List.set_cons_succ]
  exact bodyPost_ret (v := .agg K.toArray) (results_cell_row Tryz.results125 _ _ (w.heap.size + 1) 186 K.toArray (0, 0) _ rfl (HR2.out.row K) Tryz.underlying186 rfl HI.out) rfl ⟨rfl, brow HB2.out (by omega) _⟩
theorem with_any (rs : List (List Int)) (s : Int) (zs : List Int) (a : Option Addr) (len cap B : Nat) (w : World) (hR : Row .u8 w B a len cap zs) (hB : B ≤ w.heap.size) (hn : rs.length < 12) (hl : len ≤ 40) :
    Calls Tryz.prog 118 #[.agg (jour rs rs.length s).toArray, .slice a len cap] w fun r w' => r = .returned (.agg (jour (rs ++ [zs]) (rs.length + 1) s).toArray) ∧ Below w.heap.size w w' := by
  have hz := (zero_of_info jour_info).1
  have hzl := hR.length
  have HI := Lib.hid (jour_fit (rs ++ [zs]) (rs.length + 1) s)
  have HE := Lib.hid (jour_with' rs rs.length s zs hn (by omega))
  have HS := Lib.hid (jour_old [] (rs ++ [zs]) 0 0 (rs.length + 1) s)
  have HA := Lib.hid (jour_all (rs ++ [zs]) (rs.length + 1) s)
  have c0 := jour_count rs rs.length s
  have c1 := jour_byte rs rs.length s (k := rs.length) (i := 0) hn (by omega)
  rw [Nat.add_zero, Nat.mul_comm] at c1
  have c2 := jour_size rs rs.length s (k := rs.length) hn
  rw [Nat.mul_comm] at c2
  have HJL := Lib.hid (jour_len rs rs.length s)
  have b0 := bal (bal (Below.refl _ w) (.cells (jour rs rs.length s).toArray 186)) (.cells (jour [] 0 0).toArray 186)
  have Q0 := (JB.new w (jour rs rs.length s)).on (bal (Below.refl _ _) (.cells (jour [] 0 0).toArray 186))
  have R0 := JB.new (w.alloc (.cells (jour rs rs.length s).toArray 186)) (jour [] 0 0)
  rw [World.size_alloc] at R0
  have d0 := Q0.at c0
  have f0 := Q0.free 492
  have e0 := Q0.at c1
  have R1 := hR.below (b0.mono hB)
  obtain ⟨X, hX⟩ : ∃ X, X = zs.map (Value.int .u8) := ⟨_, rfl⟩
  have hXl : X.length = len := by rw [hX]; simpa using hR.length
  have h1 : ∀ v ∈ X, v.oneCell' = true := by rw [hX]; exact ints_oneCell .u8 zs
  rw [← hX] at HE
  generalize (rs[rs.length]?.getD []).getD 0 0 = v0 at *
  generalize ((rs[rs.length]?.getD []).length : Nat) = v4 at *
  generalize rs.length = n at *
  clear c1
  generalize jour [] 0 0 = J0 at *
  generalize jour rs n s = J at *
  generalize jour (rs ++ [zs]) (n + 1) s = K at *
  have hsrc : 0 < X.length → (some ⟨w.heap.size, n * 41, none⟩ : Option Addr) = some ⟨w.heap.size, n * 41, none⟩ ∧ ∃ ad, a = some ad ∧ ∀ j v, X[j]? = some v → ((w.alloc (.cells J.toArray 186)).alloc (.cells J0.toArray 186)).cell? (ad.add j) = some v := by
    intro hp
    obtain ⟨b, off, rfl, hb, hc⟩ := R1.cells (by omega)
    refine ⟨rfl, _, rfl, fun j v hv => ?_⟩
    have hj := (List.getElem?_eq_some_iff.1 hv).1
    rw [hXl] at hj
    rw [Addr.add_lit, hc j hj, ← hv, hX]
    simp [List.getD, show j < zs.length by rw [hzl]; exact hj]
  obtain ⟨v1, hv1⟩ : ∃ v, (splice J (n * 41) X)[n * 41]? = some v := ⟨_, List.getElem?_eq_getElem (by rw [length_splice _ _ _ (by rw [HJL.out]; omega), HJL.out]; omega)⟩
  have hv2 := (splice_at J (n * 41) X (i := 492) (by omega) (by rw [HJL.out]; omega)).trans c0
  have hv3 := (splice_at J (n * 41) X (i := n * 41 + 40) (by omega) (by rw [HJL.out]; omega)).trans c2
  have HV2 := Lib.hid hv2
  have AT := Lib.hid (fun (w2 : World) (h : JB w.heap.size (splice J (n * 41) X) w2) => And.intro (h.at hv1) (And.intro (h.at hv2) (And.intro (h.at hv3) (And.intro (h.free 492) (h.free (n * 41 + 40))))))
  clear hv1 hv2 hv3
  have HSR := Lib.hid hsrc
  have HXl := Lib.hid hXl
  have H1 := Lib.hid h1
  have HQ := Lib.hid Q0
  have HR := Lib.hid R0
  have HB := Lib.hid b0
  have HZ := Lib.hid hzl
  clear Q0 R0 b0 R1 hR c0 c2 hzl hX hXl h1 hsrc
  go_enter Tryz.func118, Tryz.ntmps118
  go_upto_region 1 with fail
  generalize (w.alloc (.cells J.toArray 186)).alloc (.cells J0.toArray 186) = W0 at *
  go_upto_region 2 with fail
  go_upto_region 3 with (refine wpList_copy_only rfl (.tmp 14) (.tmp 15) 22 22 rfl 5 Tryz.underlying22 u8_size _ _ 40 40 len cap rfl rfl w.heap.size (n * 41) J 186 HQ.out X (by rw [HXl.out]; exact (Nat.min_eq_left hl).symm) HSR.out (by rw [HXl.out, HJL.out]; omega) H1.out ?_; intro w2 HG2 b2; obtain ⟨g1, g2, g3, g4, g5⟩ := AT.out w2 HG2; have HG := Lib.hid HG2; have HO := Lib.hid b2; clear HG2 b2 d0 f0 e0)
  rw [HXl.out]
  have HE2 := HE.out
  rw [HZ.out] at HE2
  have Q3 := JB.set HG.out (n * 41 + 40) (.int .i64 len)
  have R3 := (HR.out.only HO.out (by omega)).setB (p := ⟨w.heap.size, n * 41 + 40, none⟩) (by simp) (.int .i64 len)
  have B3 : Below w.heap.size w (w2.setCell ⟨w.heap.size, n * 41 + 40, none⟩ (.int .i64 len)) := (by (iterate 1 (refine bset ?_ (by dsimp only; omega) _)); exact (bonly HB.out HO.out (Nat.le_refl _)))
  generalize w2.setCell ⟨w.heap.size, n * 41 + 40, none⟩ (.int .i64 len) = W3 at *
  have d0 := Q3.at (i := 492) (by rw [List.getElem?_set_ne (by omega)]; exact HV2.out)
  have f0 := Q3.free 492
  have HQ3 := Lib.hid Q3
  have HR3 := Lib.hid R3
  have HB3 := Lib.hid B3
  have HE3 := Lib.hid HE2
  clear Q3 R3 B3 HE2 HE HG HO g1 g2 g3 g4 g5 AT HSR HQ HR HB HV2
  go_upto_region 4 with fail
  have Q4 := HQ3.out.set 492 (.int .i64 (n + 1))
  rw [HE3.out] at Q4
  have R4 := HR3.out.setB (p := ⟨w.heap.size, 492, none⟩) (by simp) (.int .i64 (n + 1))
  have B4 : Below w.heap.size w (W3.setCell ⟨w.heap.size, 492, none⟩ (.int .i64 (n + 1))) := (by (iterate 1 (refine bset ?_ (by dsimp only; omega) _)); exact HB3.out)
  have HQ4 := Lib.hid Q4
  have HR4 := Lib.hid R4
  have HB4 := Lib.hid B4
  clear Q4 R4 B4 HQ3 HR3 HB3 HE3 d0 f0 hz
  generalize W3.setCell ⟨w.heap.size, 492, none⟩ (.int .i64 (n + 1)) = W4 at *
  go_wp2_with (first | (refine load_jour K rfl (.tmp 2) rfl w.heap.size rfl HQ4.out HI.out ?_) | (refine store_jour K J0 rfl (.tmp 4) (.tmp 23) rfl (w.heap.size + 1) rfl rfl HR4.out HI.out HS.out HA.out ?_))
  simp only [Act.put, List.setIfInBounds_toArray, List.set_cons_zero, List.set_cons_succ]
  exact bodyPost_ret (v := .agg K.toArray) (results_cell_row Tryz.results118 _ _ (w.heap.size + 1) 186 K.toArray (0, 0) _ rfl (HR4.out.row K) Tryz.underlying186 rfl HI.out) rfl ⟨rfl, brow HB4.out (by omega) _⟩
end Go.Proofs.YtlodhleihnlchaaGreatDoor
namespace Go.Proofs.YtlodhleihnlchaaGreatDoor
open Go.RowKit
set_option maxRecDepth 100000
set_option linter.unusedVariables false

def jall (rs : List (List Int)) (s : Int) : List Value := jour rs (rs.length : Nat) s
theorem jall_nil : jall [] 0 = jour [] 0 0 := rfl
theorem jall_len (rs : List (List Int)) (s : Int) : (jall rs s).length = 494 := jour_len _ _ _
theorem jall_fit (rs : List (List Int)) (s : Int) : (Tryz.prog.info? 186).map (·.size) = some (jall rs s).toArray.size := jour_fit _ _ _
theorem jall_one (rs : List (List Int)) (s : Int) : (jall rs s).toArray.all (·.oneCell') = true := jour_all _ _ _
theorem jall_old (rs qs : List (List Int)) (s t : Int) : (jall rs s).toArray.size = (jall qs t).toArray.size := jour_old _ _ _ _ _ _
theorem jall_safe (rs : List (List Int)) (s : Int) : (jall rs s)[493]? = some (.int .i64 s) := jour_safe _ _ _
theorem jall_count (rs : List (List Int)) (s : Int) : (jall rs s)[492]? = some (.int .i64 (rs.length : Nat)) := jour_count _ _ _
theorem jall_mark (rs : List (List Int)) (s t : Int) : (jall rs s).set 493 (.int .i64 t) = jall rs t := jour_mark _ _ _ _
theorem withAll_any (rs : List (List Int)) (s : Int) (zs : List Int) (a : Option Addr) (len cap B : Nat) (w : World) (hR : Row .u8 w B a len cap zs) (hB : B ≤ w.heap.size) (hn : rs.length < 12) (hl : len ≤ 40) :
    Calls Tryz.prog 118 #[.agg (jall rs s).toArray, .slice a len cap] w fun r w' => r = .returned (.agg (jall (rs ++ [zs]) s).toArray) ∧ Below w.heap.size w w' := by
  have h := with_any rs s zs a len cap B w hR hB hn hl
  have e : jour (rs ++ [zs]) (rs.length + 1) s = jall (rs ++ [zs]) s := by
    unfold jall
    congr 1
    simp
  rw [e] at h
  exact h
theorem jall_def (rs : List (List Int)) (s : Int) : jall rs s = jour rs (rs.length : Nat) s := rfl
attribute [irreducible] jall
structure JSt (W : World) (d r j : Nat) (dv : List Value) (J0 J : List Value) (wr : World) : Prop where
  D : At d dv wr
  R : JB r J0 wr
  J : JB j J wr
  B : Below W.heap.size W wr
section
variable {W wr wr' : World} {d r j : Nat} {dv J0 J : List Value}
theorem JSt.on (h : JSt W d r j dv J0 J wr) (hb : Below wr.heap.size wr wr') : JSt W d r j dv J0 J wr' := ⟨h.D.on hb, h.R.on hb, h.J.on hb, btr h.B hb⟩
theorem JSt.row (h : JSt W d r j dv J0 J wr) (K : List Value) (h1 : d ≠ j) (h2 : r ≠ j) (h3 : W.heap.size ≤ j) : JSt W d r j dv J0 K (wr.setRow j K.toArray) :=
  ⟨h.D.keep fun _ => setRow_other wr j d _ h1, h.R.rowB h2 _, h.J.row K, brow h.B h3 _⟩
theorem JSt.cell (h : JSt W d r j dv J0 J wr) {i : Nat} (v : Value) (h1 : d ≠ j) (h2 : r ≠ j) (h3 : W.heap.size ≤ j) : JSt W d r j dv J0 (J.set i v) (wr.setCell ⟨j, i, none⟩ v) :=
  ⟨h.D.setB h1 v, h.R.setB h2 v, h.J.set i v, bset h.B h3 v⟩
end
set_option maxHeartbeats 1000000 in
theorem journalOf_any (a : Option Addr) (n c B : Nat) (rs : List (List Int)) (s : Int) (w : World) (hG : Grid w B a n c rs) (hB : B ≤ w.heap.size) (hn : rs.length ≤ 12) (hl : rs.any longR = false) :
    Calls Tryz.prog 116 #[.agg #[.slice a n c, .int .i64 s]] w fun r w' => r = .returned (.agg (jall rs s).toArray) ∧ Below w.heap.size w w' := by
  have hz := (zero_of_info jour_info).1
  have hbu := jour_built
  rw [← jall_nil] at hz hbu
  have HL := Lib.hid hG.length
  have HN := Lib.hid (show n ≤ 12 by rw [← hG.length]; exact hn)
  have HLL := Lib.hid hl
  have hlen := hG.fits
  have hmost := hG.most
  unfold maxLen at hmost
  have b0 := bal (bal (Below.refl _ w) (.cells #[.slice a n c, .int .i64 s] 55)) (.cells (jall [] 0).toArray 186)
  have A0 : At w.heap.size [.slice a n c, .int .i64 s] ((w.alloc (.cells #[.slice a n c, .int .i64 s] 55)).alloc (.cells (jall [] 0).toArray 186)) := (At.new w [.slice a n c, .int .i64 s] 55).alloc _
  have R0 := JB.new (w.alloc (.cells #[.slice a n c, .int .i64 s] 55)) (jall [] 0)
  rw [World.size_alloc] at R0
  have sz0 : ((w.alloc (.cells #[.slice a n c, .int .i64 s] 55)).alloc (.cells (jall [] 0).toArray 186)).heap.size = w.heap.size + 2 := by simp
  have HG := Lib.hid (fun (w' : World) (h : Below w.heap.size w w') => hG.below (h.mono hB))
  have HJ := Lib.hid (jall_len [] 0)
  have HF := Lib.hid jall_fit
  have HO := Lib.hid jall_one
  have HOL := Lib.hid jall_old
  clear hG hn hl
  generalize hE : jall [] 0 = E at *
  go_enter Tryz.func116, Tryz.ntmps116
  go_upto_region 1 with fail
  generalize (w.alloc (.cells #[.slice a n c, .int .i64 s] 55)).alloc (.cells E.toArray 186) = W0 at *
  have HA0 := Lib.hid A0
  have HR0 := Lib.hid R0
  have HB0 := Lib.hid b0
  clear A0 R0 b0
  have HZ0 := Lib.hid sz0
  clear sz0
  go_upto_region 2 with (first | (refine wpList_build rfl 186 #[] rfl (by rw [show ((#[] : Array (Nat × Operand)).map fun (i, x) => (i, Act.eval _ x)).toList = [] from rfl, hbu]; rfl) ?_) | (refine store_jour E E rfl (.tmp 3) (.tmp 6) rfl _ rfl rfl (JB.new W0 E) (by rw [← hE]; exact HF.out [] 0) rfl (by rw [← hE]; exact HO.out [] 0) ?_))
  have S1 := (JSt.mk (W := w) (HA0.out.alloc (.cells E.toArray 186)) (HR0.out.on (bal (Below.refl _ W0) _)) (JB.new W0 E) (bal HB0.out _)).row E (by have := HZ0.out; omega) (by have := HZ0.out; omega) (by have := HZ0.out; omega)
  generalize (W0.alloc (.cells E.toArray 186)).setRow W0.heap.size E.toArray = W1 at *
  have hj1 : w.heap.size ≠ W0.heap.size := by have := HZ0.out; omega
  have hj2 : w.heap.size + 1 ≠ W0.heap.size := by have := HZ0.out; omega
  have hj3 : w.heap.size ≤ W0.heap.size := by have := HZ0.out; omega
  generalize W0.heap.size = j at *
  have d0 := S1.D.cell 0 _ rfl
  have HS1 := Lib.hid S1
  clear S1 HA0 HR0 HB0 HZ0 hz hbu
  go_wp2_with fail
  go_loopw [10] (fun i wr => ∃ k : Nat, k ≤ n ∧ i = .int .i64 k ∧ JSt w w.heap.size (w.heap.size + 1) j [.slice a n c, .int .i64 s] E (jall (rs.take k) 0) wr) (fun i _ => n - (intOf i).toNat)
  case atStart => exact ⟨0, Nat.zero_le _, rfl, by rw [List.take_zero, hE]; exact HS1.out⟩
  case round =>
    obtain ⟨k, hk, rfl, hT⟩ := hrel
    clear HS1 d0
    by_cases hlt : k < n
    · obtain ⟨b, off, ha, hb, hc⟩ := (HG.out wr hT.B).cells (by omega)
      obtain ⟨a', n', c', hcell, hrow⟩ := hc k hlt
      have hl2 : k < rs.length := by rw [HL.out]; exact hlt
      have hl40 : n' ≤ 40 := by rw [← hrow.length]; exact long_no HLL.out hl2
      have htk := M.take_snoc rs [] k hl2
      have WA := withAll_any (rs.take k) 0 (rs[k]?.getD []) a' n' c' B wr hrow (Nat.le_trans hB hT.B.size) (by have := HN.out; simp; omega) hl40
      rw [← htk] at WA
      have HT := Lib.hid hT
      have HJK := Lib.hid hT.J
      clear hc hrow hT htk hl2
      subst ha
      go_wp2_with (refine load_jour (jall (rs.take k) 0) rfl (.tmp 3) rfl j rfl HJK.out (HF.out _ _) ?_)
      refine WA.mono ?_
      rintro r w2 ⟨rfl, b2⟩
      have T2 := HT.out.on b2
      have HJ2 := Lib.hid T2.J
      have T3 := Lib.hid (T2.row (jall (rs.take (k + 1)) 0) hj1 hj2 hj3)
      clear T2 HT HJK b2 WA hcell
      go_wp2_with (refine store_jour (jall (rs.take (k + 1)) 0) (jall (rs.take k) 0) rfl (.tmp 3) (.tmp 16) rfl j rfl rfl HJ2.out (HF.out _ _) (HOL.out _ _ _ _) (HO.out _ _) ?_)
      go_roundw
      case rel => exact ⟨k + 1, by omega, by go_num, T3.out⟩
      case measure => simp [intOf]; omega
    · obtain rfl : k = n := by omega
      rw [List.take_of_length_le (by rw [HL.out]; omega)] at hT
      have d0 := hT.D.cell 0 _ rfl
      have d1 := hT.D.cell 1 _ rfl
      have f1 := hT.J.free 493
      have e1 := hT.J.at (jall_safe rs 0)
      have HT := Lib.hid hT
      clear hT
      go_upto_region 8 with fail
      have S8 := HT.out.cell (i := 493) (.int .i64 s) hj1 hj2 hj3
      rw [jall_mark] at S8
      have HS8 := Lib.hid S8
      clear S8 HT d0 d1 f1 e1
      generalize wr.setCell ⟨j, 493, none⟩ (.int .i64 s) = W8 at *
      go_wp2_with (first | (refine load_jour (jall rs s) rfl (.tmp 3) rfl j rfl HS8.out.J (HF.out _ _) ?_) | (refine store_jour (jall rs s) E rfl (.tmp 2) (.tmp 21) rfl (w.heap.size + 1) rfl rfl HS8.out.R (HF.out _ _) (by rw [← hE]; exact HOL.out _ _ _ _) (HO.out _ _) ?_))
      simp only [Act.put, List.setIfInBounds_toArray, List.set_cons_zero, List.set_cons_succ]
      exact bodyPost_ret (v := .agg (jall rs s).toArray) (results_cell_row Tryz.results116 _ _ (w.heap.size + 1) 186 (jall rs s).toArray (0, 0) _ rfl (HS8.out.R.row (jall rs s)) Tryz.underlying186 rfl (HF.out _ _)) rfl ⟨rfl, brow HS8.out.B (by omega) _⟩
end Go.Proofs.YtlodhleihnlchaaGreatDoor
namespace Go.Proofs.YtlodhleihnlchaaGreatDoor
open Go.RowKit
set_option maxRecDepth 100000
set_option linter.unusedVariables false

section
variable {lo hi : Nat} {w w' w2 : World}
end

def ApartV (v1 v2 : Value) : Prop := ∀ k, v1.ownBlock = some k → v2.ownBlock ≠ some k
structure OwnG (w : World) (lo hi : Nat) (v : Value) (zss : List (List Int)) (xs : List Value) : Prop where
  own : Own w lo 1 v zss.length xs
  top : hi ≤ w.heap.size
  lt : ∀ k, v.ownBlock = some k → k < hi
  row : ∀ (j : Nat) (u : Value), xs[j]? = some u → OwnK .u8 w lo u (zss[j]?.getD []) ∧ (∀ k, u.ownBlock = some k → k < hi) ∧ ApartV u v
  sep : ∀ (i j : Nat) (u1 u2 : Value), i ≠ j → xs[i]? = some u1 → xs[j]? = some u2 → ApartV u1 u2
section
variable {w w' : World} {lo hi : Nat} {v : Value} {zss : List (List Int)} {xs : List Value}
theorem OwnG.len (h : OwnG w lo hi v zss xs) : xs.length = zss.length := by have := h.own.1; omega
theorem OwnG.nil (w : World) (lo hi : Nat) (h : hi ≤ w.heap.size) : OwnG w lo hi (.slice none 0 0) [] [] :=
  ⟨Own.nil w lo 1, h, fun k hk => by simp [Value.ownBlock] at hk, fun j u hu => by simp at hu, fun i j u1 u2 _ hu => by simp at hu⟩
theorem OwnG.less {lo' : Nat} (h : OwnG w lo hi v zss xs) (hl : lo' ≤ lo) : OwnG w lo' hi v zss xs :=
  ⟨h.own.less hl, h.top, h.lt, fun j u hu => by obtain ⟨a, b, c⟩ := h.row j u hu; exact ⟨Own.less a hl, b, c⟩, h.sep⟩
theorem OwnG.more {hi' : Nat} (h : OwnG w lo hi v zss xs) (h1 : hi ≤ hi') (h2 : hi' ≤ w.heap.size) : OwnG w lo hi' v zss xs :=
  ⟨h.own, h2, fun k hk => by have := h.lt k hk; omega, fun j u hu => by
    obtain ⟨a, b, c⟩ := h.row j u hu
    exact ⟨a, fun k hk => by have := b k hk; omega, c⟩, h.sep⟩
theorem OwnG.keep (h : OwnG w lo hi v zss xs) (hs : w.heap.size ≤ w'.heap.size) (hk : ∀ k, lo ≤ k → k < hi → w'.heap[k]? = w.heap[k]?) : OwnG w' lo hi v zss xs :=
  ⟨h.own.keep hs fun k e => hk k (h.own.lt k e).1 (h.lt k e), Nat.le_trans h.top hs, h.lt, fun j u hu => by
    obtain ⟨a, b, c⟩ := h.row j u hu
    exact ⟨Own.keep a hs fun k e => hk k (Own.lt a k e).1 (b k e), b, c⟩, h.sep⟩
theorem OwnG.keepP (h : OwnG w lo hi v zss xs) (hs : w.heap.size ≤ w'.heap.size) (hv : ∀ k, v.ownBlock = some k → w'.heap[k]? = w.heap[k]?) (hx : ∀ (i : Nat) (u : Value) (k : Nat), xs[i]? = some u → u.ownBlock = some k → w'.heap[k]? = w.heap[k]?) : OwnG w' lo hi v zss xs :=
  ⟨h.own.keep hs hv, Nat.le_trans h.top hs, h.lt, fun j u hu => by
    obtain ⟨a, b, c⟩ := h.row j u hu
    exact ⟨Own.keep a hs fun k e => hx j u k hu e, b, c⟩, h.sep⟩
theorem OwnG.below (h : OwnG w lo hi v zss xs) (hb : Below w.heap.size w w') : OwnG w' lo hi v zss xs :=
  h.keep hb.size fun k _ h2 => hb.block k (by have := h.top; omega)
theorem OwnG.alloc (h : OwnG w lo hi v zss xs) (o : Obj) : OwnG (w.alloc o) lo hi v zss xs := h.below (bal (Below.refl _ _) o)
theorem OwnG.setCell (h : OwnG w lo hi v zss xs) {p : Addr} (hp : p.block < lo ∨ hi ≤ p.block) (u : Value) : OwnG (w.setCell p u) lo hi v zss xs :=
  h.keep (by simp [World.setCell]) fun k h1 h2 => Below.heap_setCell w p u k (by omega)
theorem OwnG.form (h : OwnG w lo hi v zss xs) : ∃ a cap, v = .slice a zss.length cap ∧ zss.length ≤ cap ∧ cap ≤ maxLen ∧ (a = none → zss.length = 0 ∧ cap = 0) := h.own.form
theorem OwnG.grid {a : Option Addr} {len cap : Nat} (h : OwnG w lo hi (.slice a len cap) zss xs) (hw : ∀ zs ∈ zss, ∀ z ∈ zs, (Lit.int .u8 z).wf = true) : Grid w w.heap.size a len cap zss := by
  have hl := h.len
  rcases h.own.2 with ⟨e, h0⟩ | ⟨g, c, e, hb, hg, h1, h2, hc, _⟩
  · injection e with e1 e2 e3
    subst e1; subst e2; subst e3
    obtain rfl : zss = [] := List.eq_nil_of_length_eq_zero h0
    exact Grid.nil _ _
  · injection e with e1 e2 e3
    subst e1; subst e2; subst e3
    refine ⟨rfl, h1, h2, fun hp => ⟨g, 0, rfl, hg, fun j hj => ?_⟩⟩
    have hj2 : j < xs.length := by omega
    have hu : xs[j]? = some xs[j] := List.getElem?_eq_getElem hj2
    obtain ⟨hrow, hlt, _⟩ := h.row j _ hu
    obtain ⟨a', c', ev, _⟩ := Own.form hrow
    refine ⟨a', _, c', by rw [Nat.zero_add, hc j _ hu, ev], ?_⟩
    rw [ev] at hrow
    exact Own.row hrow fun z hz => hw _ (by
      have : j < zss.length := by omega
      rw [List.getElem?_eq_getElem this]
      exact List.getElem_mem this) z hz
theorem OwnG.len' {a : Option Addr} {len cap : Nat} (h : OwnG w lo hi (.slice a len cap) zss xs) : len = zss.length := by
  obtain ⟨a', c', e, _⟩ := h.form
  injection e
theorem OwnG.app {w1 w2 : World} {v' u : Value} {zs : List Int} (h : OwnG w lo w.heap.size v zss xs) (hlow : lo ≤ w.heap.size) (hb : Below w.heap.size w w1) (hu : OwnK .u8 w1 w.heap.size u zs)
    (ho : Own w2 lo 1 v' (zss.length + 1) (xs ++ [u])) (hg : w1.grownBy w2 v.ownBlock) (hat : v'.ownBlock = v.ownBlock ∨ v'.ownBlock = some w1.heap.size) : OwnG w2 lo w2.heap.size v' (zss ++ [zs]) (xs ++ [u]) := by
  have hl := h.len
  have old : ∀ j x, xs[j]? = some x → OwnK .u8 w2 lo x (zss[j]?.getD []) ∧ (∀ k, x.ownBlock = some k → k < w.heap.size) ∧ ApartV x v := fun j x hx => by
    obtain ⟨a, b, c⟩ := h.row j x hx
    exact ⟨Own.keep (Own.below a hb) hg.size fun k e => hg.block k (by have := b k e; have := hb.size; omega) (fun e2 => c k e e2.symm), b, c⟩
  have hsz := hb.size
  have hsz2 := hg.size
  have hv := fun k e => h.lt k e
  have new : OwnK .u8 w2 w.heap.size u zs := Own.keep hu hg.size fun k e => hg.block k (Own.lt hu k e).2 (fun e2 => by have := hv k e2.symm; have := (Own.lt hu k e).1; omega)
  have nlt := fun k e => Own.lt hu k e
  refine ⟨by simpa using ho, Nat.le_refl _, fun k e => (ho.lt k e).2, fun j x hx => ?_, fun i j u1 u2 hij h1 h2 => ?_⟩
  · rcases Nat.lt_or_ge j xs.length with hj | hj
    · rw [List.getElem?_append_left hj] at hx
      obtain ⟨a, b, c⟩ := old j x hx
      refine ⟨by rw [List.getElem?_append_left (by omega)]; exact a, fun k e => by have := b k e; omega, fun k e e2 => ?_⟩
      rcases hat with ha | ha
      · rw [ha] at e2; exact c k e e2
      · rw [ha] at e2
        injection e2 with e2
        have := b k e
        omega
    · have hj2 : j = xs.length := by
        have := (List.getElem?_eq_some_iff.1 hx).1
        simp at this
        omega
      subst hj2
      rw [List.getElem?_append_right (Nat.le_refl _), Nat.sub_self] at hx
      simp at hx
      subst hx
      refine ⟨?_, fun k e => by have := (nlt k e).2; omega, fun k e e2 => ?_⟩
      · rw [hl, List.getElem?_append_right (Nat.le_refl _), Nat.sub_self]
        exact Own.less new hlow
      · rcases hat with ha | ha
        · rw [ha] at e2
          have := hv k e2
          have := (nlt k e).1
          omega
        · rw [ha] at e2
          injection e2 with e2
          have := (nlt k e).2
          omega
  · have key : ∀ i x, (xs ++ [u])[i]? = some x → (i < xs.length ∧ xs[i]? = some x) ∨ (i = xs.length ∧ x = u) := fun i x hx => by
      rcases Nat.lt_or_ge i xs.length with hj | hj
      · rw [List.getElem?_append_left hj] at hx
        exact .inl ⟨hj, hx⟩
      · have hj2 : i = xs.length := by
          have := (List.getElem?_eq_some_iff.1 hx).1
          simp at this
          omega
        subst hj2
        rw [List.getElem?_append_right (Nat.le_refl _), Nat.sub_self] at hx
        simp at hx
        exact .inr ⟨rfl, hx.symm⟩
    rcases key i u1 h1 with ⟨a1, a2⟩ | ⟨a1, a2⟩ <;> rcases key j u2 h2 with ⟨b1, b2⟩ | ⟨b1, b2⟩
    · exact h.sep i j u1 u2 hij a2 b2
    · subst b2
      intro k e e2
      have := (old i u1 a2).2.1 k e
      have := (nlt k e2).1
      omega
    · subst a2
      intro k e e2
      have := (old j u2 b2).2.1 k e2
      have := (nlt k e).1
      omega
    · omega
end
end Go.Proofs.YtlodhleihnlchaaGreatDoor
namespace Go.Proofs.YtlodhleihnlchaaGreatDoor
open Go.RowKit
set_option maxRecDepth 100000
set_option linter.unusedVariables false

structure SRow (w : World) (B : Nat) (a1 : Option Addr) (n1 c1 : Nat) (a2 : Option Addr) (n2 c2 : Nat) (s : StoreD) : Prop where
  ps : PRow w B a1 n1 c1 s.ps
  rs : Grid w B a2 n2 c2 s.d.rs
  wf : ∀ zs ∈ s.d.rs, ∀ z ∈ zs, (Lit.int .u8 z).wf = true
section
variable {w w' : World} {B B' : Nat} {a1 a2 : Option Addr} {n1 c1 n2 c2 : Nat} {s : StoreD}
theorem SRow.below (h : SRow w B a1 n1 c1 a2 n2 c2 s) (hb : Below B w w') : SRow w' B a1 n1 c1 a2 n2 c2 s := ⟨h.ps.below hb, h.rs.below hb, h.wf⟩
theorem SRow.more (h : SRow w B a1 n1 c1 a2 n2 c2 s) (hB : B ≤ B') : SRow w B' a1 n1 c1 a2 n2 c2 s := ⟨h.ps.more hB, h.rs.more hB, h.wf⟩
theorem SRow.on (h : SRow w w.heap.size a1 n1 c1 a2 n2 c2 s) (hb : Below w.heap.size w w') : SRow w' w'.heap.size a1 n1 c1 a2 n2 c2 s := (h.below hb).more hb.size
theorem SRow.nil (w : World) (B : Nat) : SRow w B none 0 0 none 0 0 store0 := ⟨PRow.nil w B, Grid.nil w B, fun _ h => by cases h⟩
end
def SOwn (w : World) (lo hi : Nat) (v1 v2 : Value) (s : StoreD) : Prop :=
  ∃ mid xs, lo ≤ mid ∧ mid ≤ hi ∧ OwnP w lo v1 s.ps ∧ (∀ k, v1.ownBlock = some k → k < mid) ∧ OwnG w mid hi v2 s.d.rs xs ∧ (∀ p ∈ s.ps, p.n.size ≤ maxLen) ∧ ∀ zs ∈ s.d.rs, ∀ z ∈ zs, (Lit.int .u8 z).wf = true
section
variable {w w' : World} {lo hi : Nat} {v1 v2 : Value} {s : StoreD}
theorem SOwn.keep (h : SOwn w lo hi v1 v2 s) (hs : w.heap.size ≤ w'.heap.size) (hk : ∀ k, lo ≤ k → k < hi → w'.heap[k]? = w.heap[k]?) : SOwn w' lo hi v1 v2 s := by
  obtain ⟨mid, xs, h1, h2, h3, h4, h5, h6⟩ := h
  exact ⟨mid, xs, h1, h2, Own.keep h3 hs (fun k e => hk k (Own.lt h3 k e).1 (by have := h4 k e; omega)), h4, h5.keep hs (fun k e1 e2 => hk k (by omega) e2), h6⟩
theorem SOwn.top (h : SOwn w lo hi v1 v2 s) : lo ≤ hi ∧ hi ≤ w.heap.size := by
  obtain ⟨mid, xs, h1, h2, h3, h4, h5, h6⟩ := h
  exact ⟨by omega, h5.top⟩
theorem SOwn.below (h : SOwn w lo hi v1 v2 s) (hb : Below w.heap.size w w') : SOwn w' lo hi v1 v2 s := h.keep hb.size fun k _ h2 => hb.block k (by have := h.top; omega)
theorem SOwn.setCell (h : SOwn w lo hi v1 v2 s) {p : Addr} (hp : p.block < lo ∨ hi ≤ p.block) (u : Value) : SOwn (w.setCell p u) lo hi v1 v2 s := h.keep (by simp [World.setCell]) fun k h1 h2 => Below.heap_setCell w p u k (by omega)
theorem SOwn.less {lo' : Nat} (h : SOwn w lo hi v1 v2 s) (hl : lo' ≤ lo) : SOwn w lo' hi v1 v2 s := by
  obtain ⟨mid, xs, h1, h2, h3, h4, h5, h6⟩ := h
  exact ⟨mid, xs, by omega, h2, OwnP.less h3 hl, h4, h5, h6⟩
theorem SOwn.more {hi' : Nat} (h : SOwn w lo hi v1 v2 s) (h1 : hi ≤ hi') (h2 : hi' ≤ w.heap.size) : SOwn w lo hi' v1 v2 s := by
  obtain ⟨mid, xs, q1, q2, h3, h4, h5, h6⟩ := h
  exact ⟨mid, xs, q1, by omega, h3, h4, h5.more h1 h2, h6⟩
theorem SOwn.nil (w : World) (lo : Nat) (hl : lo ≤ w.heap.size) : SOwn w lo w.heap.size (.slice none 0 0) (.slice none 0 0) store0 :=
  ⟨lo, [], Nat.le_refl _, hl, OwnP.nil _ _, fun k hk => by simp [Value.ownBlock] at hk, OwnG.nil _ _ _ (Nat.le_refl _), (fun _ h => by cases h), fun _ h => by cases h⟩
theorem SOwn.row {a1 a2 : Option Addr} {n1 c1 n2 c2 : Nat} (h : SOwn w lo hi (.slice a1 n1 c1) (.slice a2 n2 c2) s) : SRow w w.heap.size a1 n1 c1 a2 n2 c2 s := by
  obtain ⟨mid, xs, h1, h2, h3, h4, h5, h6, h7⟩ := h
  exact ⟨OwnP.row h3 h6, h5.grid h7, h7⟩
theorem SOwn.len {a1 a2 : Option Addr} {n1 c1 n2 c2 : Nat} (h : SOwn w lo hi (.slice a1 n1 c1) (.slice a2 n2 c2) s) : n1 = s.ps.length ∧ n2 = s.d.rs.length := by
  have := h.row
  exact ⟨this.ps.length.symm, this.rs.length.symm⟩
theorem SOwn.mk' {W : World} {v1 v2 : Value} {ps : List PinD} {rs : List (List Int)} {x : Int} {xs : List Value} {mid : Nat} (h1 : OwnP w lo v1 ps) (hm : lo ≤ mid) (h2 : ∀ k, v1.ownBlock = some k → k < mid) (h3 : OwnG w mid hi v2 rs xs) (hh : mid ≤ hi) (h4 : ∀ p ∈ ps, p.n.size ≤ maxLen) (h5 : ∀ zs ∈ rs, ∀ z ∈ zs, (Lit.int .u8 z).wf = true) : SOwn w lo hi v1 v2 ⟨ps, ⟨rs, x⟩⟩ := ⟨mid, xs, hm, hh, h1, h2, h3, h4, h5⟩
end
abbrev S3 (a1 : Option Addr) (n1 c1 : Nat) (a2 : Option Addr) (n2 c2 : Nat) (x : Int) : Value := .agg #[.slice a1 n1 c1, .slice a2 n2 c2, .int .i64 x]
def S3L (a1 : Option Addr) (n1 c1 : Nat) (a2 : Option Addr) (n2 c2 : Nat) (x : Int) : List Value := [.slice a1 n1 c1, .slice a2 n2 c2, .int .i64 x]
abbrev V4 (c : Int) (a1 : Option Addr) (n1 c1 : Nat) (a2 : Option Addr) (n2 c2 : Nat) (x : Int) : Value := .agg #[.int .i64 c, .slice a1 n1 c1, .slice a2 n2 c2, .int .i64 x]
def StoreRes (c : Int) (s : StoreD) (w : World) (e : Ending) (w' : World) : Prop :=
  ∃ a1 n1 c1 a2 n2 c2, e = .returned (V4 c a1 n1 c1 a2 n2 c2 s.d.s) ∧ SOwn w' w.heap.size w'.heap.size (.slice a1 n1 c1) (.slice a2 n2 c2) s ∧ Below w.heap.size w w'
end Go.Proofs.YtlodhleihnlchaaGreatDoor
namespace Go.Proofs.YtlodhleihnlchaaGreatDoor
open Go.RowKit
set_option maxRecDepth 100000
set_option linter.unusedVariables false

theorem conv_none (a a' : Option Addr) (c c' : Nat) (w : World) (hc : c ≤ maxLen) (hc' : c' ≤ maxLen) : (convert 22 9 (.slice a 0 c)).run Tryz.prog w = (convert 22 9 (.slice a' 0 c')).run Tryz.prog w := by
  have hR : ∀ (a : Option Addr) (c : Nat), c ≤ maxLen → Row .u8 w 0 a 0 c [] := fun a c hc => ⟨rfl, (fun _ h => by cases h), Nat.zero_le _, hc, fun h => absurd h (by omega)⟩
  rw [conv_row (hR a c hc), conv_row (hR a' c' hc')]

end Go.Proofs.YtlodhleihnlchaaGreatDoor
namespace Go.Proofs.YtlodhleihnlchaaGreatDoor
open Go.RowKit
set_option maxRecDepth 100000
set_option linter.unusedVariables false

def pinNm (zs : List Int) : List UInt8 := (zs.drop 7).map fun z => UInt8.ofNat z.toNat
theorem pinNm_str (zs : List Int) : strOf (zs.drop 7) = M.bs (pinNm zs) := by
  rw [← M.bs_data (strOf _), strOf, strOf_data]
  simp [pinNm]
def pinZ (zs : List Int) : PinD := ⟨M.bs (pinNm zs), 256 * zs.getD 0 0 + zs.getD 1 0, 256 * zs.getD 2 0 + zs.getD 3 0, zs.getD 4 0, 256 * zs.getD 5 0 + zs.getD 6 0⟩
def pinOk (zs : List Int) : Bool := decide (7 ≤ zs.length) && decide ((pinZ zs).f = 0)
def readC (zs : List Int) : Int := if pinOk zs then 0 else 5
def readR (zs : List Int) : PinD := if pinOk zs then pinZ zs else pin0
theorem pinOk_short {zs : List Int} (h : zs.length < 8) : pinOk zs = false := by
  unfold pinOk
  by_cases h7 : 7 ≤ zs.length
  · have e : (pinZ zs).nm = [] := by
      show (M.bs (pinNm zs)).data.toList = []
      rw [M.bs_list]
      unfold pinNm
      rw [List.drop_of_length_le (by omega)]
      rfl
    have : (pinZ zs).f = 5 := by
      unfold PinD.f
      rw [e]
      have h5 : M.nameF [] = 5 := by decide
      have h6 : M.normF [] = 5 := by rw [M.normF_no (by rw [h5]; omega), h5]
      rw [pinF_norm (by rw [h6]; omega), h6]
    rw [this]
    simp
  · simp [h7]
theorem pinZ_size (zs : List Int) (h : zs.length ≤ maxLen) : (pinZ zs).n.size ≤ maxLen := by
  show (M.bs (pinNm zs)).size ≤ maxLen
  rw [M.bs_size]
  simp only [pinNm, List.length_map, List.length_drop]
  omega
theorem implReadPin_any (a : Option Addr) (len cap B : Nat) (zs : List Int) (w : World) (hR : Row .u8 w B a len cap zs) (hB : B ≤ w.heap.size) :
    Calls Tryz.prog 233 #[.slice a len cap] w fun r w' => r = .returned (RP6 (readC zs) (readR zs)) ∧ Below w.heap.size w w' := by
  have hlen := hR.fits
  have hmost := hR.most
  have b0 := bal (Below.refl _ w) (.cells #[.int .i64 0, .string { data := #[] }, .int .i64 0, .int .i64 0, .int .i64 0, .int .i64 0] 74)
  have A0 := At.new w [.int .i64 0, .string { data := #[] }, .int .i64 0, .int .i64 0, .int .i64 0, .int .i64 0] 74
  have hzl := hR.length
  by_cases h7 : len < 7
  · have eno : pinOk zs = false := pinOk_short (by omega)
    rw [show readC zs = 5 by simp [readC, eno], show readR zs = pin0 by simp [readR, eno]]
    have h7' : (len : Int) < 7 := by omega
    have b5 := bal (Below.refl _ w) (.cells #[.int .i64 5, .string { data := #[] }, .int .i64 0, .int .i64 0, .int .i64 0, .int .i64 0] 74)
    unfold maxLen at hmost
    clear hR
    go_enter Tryz.func233, Tryz.ntmps233
    go_wp2_with fail
    exact bodyPost_ret (v := RP6 5 ⟨{ data := #[] }, 0, 0, 0, 0⟩) (by simp [results, Tryz.results233, go_sem]) rfl ⟨rfl, b5⟩
  obtain ⟨b, off, rfl, hb, hc⟩ := hR.cells (by omega)
  have z0 := hR.byte 0
  have z1 := hR.byte 1
  have z2 := hR.byte 2
  have z3 := hR.byte 3
  have z4 := hR.byte 4
  have z5 := hR.byte 5
  have z6 := hR.byte 6
  have d0 := cell_keep b0 (hc 0 (by omega))
  rw [Nat.add_zero] at d0
  have d1 := cell_keep b0 (hc 1 (by omega))
  have d2 := cell_keep b0 (hc 2 (by omega))
  have d3 := cell_keep b0 (hc 3 (by omega))
  have d4 := cell_keep b0 (hc 4 (by omega))
  have d5 := cell_keep b0 (hc 5 (by omega))
  have d6 := cell_keep b0 (hc 6 (by omega))
  have R1 := hR.below (b0.mono hB)
  have hWB : B ≤ (w.alloc (.cells #[.int .i64 0, .string { data := #[] }, .int .i64 0, .int .i64 0, .int .i64 0, .int .i64 0] 74)).heap.size := by simp; omega
  have hsub := fun (w' : World) (R : Row .u8 w' B (some ⟨b, off, none⟩) len cap zs) => conv_row (R.sub 7 (len - 7) (cap - 7) (by omega) (by omega) (by omega))
  have edrop : (zs.drop 7).take (len - 7) = zs.drop 7 := List.take_of_length_le (by simp; omega)
  simp only [edrop, pinNm_str] at hsub
  have T0 := fun (w' : World) d0 d1 => readTwo_any b off len cap (zs.getD 0 0) (zs.getD 1 0) w' (by omega) (by omega) (by omega) d0 d1 z0.1 z0.2 z1.1 z1.2
  have T1 := fun (w' : World) d2 d3 => readTwo_any b (off + 2) (len - 2) (cap - 2) (zs.getD 2 0) (zs.getD 3 0) w' (by omega) (by omega) (by omega) d2 d3 z2.1 z2.2 z3.1 z3.2
  have T2 := fun (w' : World) d5 d6 => readTwo_any b (off + 5) (len - 5) (cap - 5) (zs.getD 5 0) (zs.getD 6 0) w' (by omega) (by omega) (by omega) d5 d6 z5.1 z5.2 z6.1 z6.2
  have hF := fun w => implPinFault_any (pinZ zs) w (pinZ_size zs (by rw [hzl]; omega))
  have hm2 := hmost
  unfold maxLen at hm2
  have h7' : ¬ (len : Int) < 7 := by omega
  have hC : readC zs = if (pinZ zs).f = 0 then 0 else 5 := by
    by_cases h : (pinZ zs).f = 0
    · simp [readC, pinOk, h, hzl]; omega
    · simp [readC, pinOk, h]
  have hP : readR zs = if (pinZ zs).f = 0 then pinZ zs else pin0 := by
    by_cases h : (pinZ zs).f = 0
    · simp [readR, pinOk, h, hzl]; omega
    · simp [readR, pinOk, h]
  rw [hC, hP]
  have eZ : pinZ zs = ⟨M.bs (pinNm zs), 256 * zs.getD 0 0 + zs.getD 1 0, 256 * zs.getD 2 0 + zs.getD 3 0, zs.getD 4 0, 256 * zs.getD 5 0 + zs.getD 6 0⟩ := rfl
  generalize pinZ zs = Z at *
  generalize M.bs (pinNm zs) = N at *
  generalize zs.getD 0 0 = y0 at *
  generalize zs.getD 1 0 = y1 at *
  generalize zs.getD 2 0 = y2 at *
  generalize zs.getD 3 0 = y3 at *
  generalize zs.getD 4 0 = y4 at *
  generalize zs.getD 5 0 = y5 at *
  generalize zs.getD 6 0 = y6 at *
  clear hR hc hC hP edrop hmost
  have EZ := Lib.hid eZ
  clear eZ
  go_enter Tryz.func233, Tryz.ntmps233
  go_upto_region 3 with fail
  generalize w.alloc (.cells #[.int .i64 0, .string { data := #[] }, .int .i64 0, .int .i64 0, .int .i64 0, .int .i64 0] 74) = W0 at *
  go_cut [3] from 8 to 23 (fun v' wx => ∃ g, v' = .pointer (some ⟨g, 0, none⟩) ∧ At g [.string N, .int .i64 (256 * y0 + y1), .int .i64 (256 * y2 + y3), .int .i64 y4, .int .i64 (256 * y5 + y6)] wx ∧ Below W0.heap.size W0 wx ∧ W0.heap.size ≤ g)
  case first =>
    refine wp_region_fork (Bel W0) (by kernel_rfl) (Bel.drew W0) ?_
    have hst : (Bel W0) _ := (Bel.drew W0)
    have inst : Nonempty (Of (Bel W0)) := ⟨⟨_, hst⟩⟩
    have u4 := bel_cell d4
    have cv : ∀ z : Of (Bel W0), (convert 22 9 (.slice (if cap = 7 then some ⟨b, off, none⟩ else some ⟨b, off + 7, none⟩) (len - 7) (cap - 7))).run Tryz.prog z.val = .ok (.string N) z.val := fun z => by
      have h := hsub _ (R1.below (z.prop.out.mono hWB))
      split
      · rename_i hcap
        have e := conv_none (some ⟨b, off, none⟩) (some ⟨b, off + 7, none⟩) (cap - 7) (cap - 7) z.val (by simp only [maxLen]; omega) (by simp only [maxLen]; omega)
        rw [show len - 7 = 0 by omega] at h ⊢
        rw [e]
        exact h
      · exact h
    generalize W0.drew = V1 at *
    refine any_seg 6 [(0, true), (1, true), (2, true), (3, true), (5, true), (6, true), (8, true), (9, true), (10, true), (11, true), (12, true), (13, true)] (by kernel_rfl) (fun _ _ d _ _ h => by cases d <;> exact h) ?_
    iterate 12 (refine line_read rfl (by kernel_rfl) (fun K hK => ?_); go_big_quiet_op; refine hK _ ?_; clear hK K)
    refine line_nil ?_
    clear cv u4
    generalize (if cap = 7 then some (⟨b, off, none⟩ : Addr) else some ⟨b, off + 7, none⟩) = ad
    have szV1 := hst.out.size
    refine any_fork 4 16 (by kernel_rfl) rfl rfl (by kernel_rfl) (by kernel_rfl) (fun K hK => ?_) (fun K hK => ?_)
    · refine call_any (args := #[.slice (some ⟨b, off, none⟩) len cap]) rfl (by kernel_rfl) (by kernel_rfl) (T0 _ (cell_keep hst.out d0) (cell_keep hst.out d1)) ?_
      rintro e x1 ⟨rfl, hbn⟩
      have hst2 := hst.on hbn
      refine ⟨_, rfl, hK _ _ hst2 ?_⟩
      clear hK K hst hbn
      have hst := hst2
      clear hst2
      simp only [Act.put, List.setIfInBounds_toArray, List.set_cons_zero, List.set_cons_succ]
      refine any_fork 7 16 (by kernel_rfl) rfl rfl (by kernel_rfl) (by kernel_rfl) (fun K hK => ?_) (fun K hK => ?_)
      · refine call_any (args := #[.slice (some ⟨b, off + 2, none⟩) (len - 2) (cap - 2)]) rfl (by kernel_rfl) (by kernel_rfl) (T1 _ (cell_keep hst.out d2) (cell_keep hst.out d3)) ?_
        rintro e x2 ⟨rfl, hbn⟩
        have hst2 := hst.on hbn
        refine ⟨_, rfl, hK _ _ hst2 ?_⟩
        clear hK K hst hbn
        have hst := hst2
        clear hst2
        simp only [Act.put, List.setIfInBounds_toArray, List.set_cons_zero, List.set_cons_succ]
        refine any_fork 14 16 (by kernel_rfl) rfl rfl (by kernel_rfl) (by kernel_rfl) (fun K hK => ?_) (fun K hK => ?_)
        · refine call_any (args := #[.slice (some ⟨b, off + 5, none⟩) (len - 5) (cap - 5)]) rfl (by kernel_rfl) (by kernel_rfl) (T2 _ (cell_keep hst.out d5) (cell_keep hst.out d6)) ?_
          rintro e x3 ⟨rfl, hbn⟩
          have hst2 := hst.on hbn
          refine ⟨_, rfl, hK _ _ hst2 ?_⟩
          clear hK K hst hbn
          have hst := hst2
          clear hst2
          simp only [Act.put, List.setIfInBounds_toArray, List.set_cons_zero, List.set_cons_succ]
          refine any_rest [(15, true), (16, false), (17, false)] (by kernel_rfl) (fun _ _ d _ _ h => by cases d <;> exact h) ?_
          refine line_readv (v := .agg #[.string N, .int .i64 (256 * y0 + y1), .int .i64 (256 * y2 + y3), .int .i64 y4, .int .i64 (256 * y5 + y6)]) rfl (by kernel_rfl) (fun _ => by kernel_rfl) ?_
          simp only [Act.put, List.setIfInBounds_toArray, List.set_cons_zero, List.set_cons_succ]
          refine line_alone rfl (by kernel_rfl) (fun K hK => ?_)
          go_big_op
          have hst2 := hst.on (bal (Below.refl _ x3) (.cells #[.string { data := #[] }, .int .i64 0, .int .i64 0, .int .i64 0, .int .i64 0] 59))
          have A := At.new x3 [.string { data := #[] }, .int .i64 0, .int .i64 0, .int .i64 0, .int .i64 0] 59
          have leA : W0.heap.size ≤ x3.heap.size := hst.out.size
          refine hK _ _ hst2 ?_
          clear hK K hst
          have hst := hst2
          clear hst2
          generalize x3.alloc (.cells #[.string { data := #[] }, .int .i64 0, .int .i64 0, .int .i64 0, .int .i64 0] 59) = xa at *
          have p0 := A.cell 0 _ rfl
          have p1 := A.cell 1 _ rfl
          have p2 := A.cell 2 _ rfl
          have p3 := A.cell 3 _ rfl
          have p4 := A.cell 4 _ rfl
          have f0 := A.free 0 _ rfl
          have f1 := A.free 1 _ rfl
          have f2 := A.free 2 _ rfl
          have f3 := A.free 3 _ rfl
          have f4 := A.free 4 _ rfl
          refine line_alone rfl (by kernel_rfl) (fun K hK => ?_)
          go_big_op
          refine hK _ _ (⟨(by (iterate 5 (refine bset ?_ (by dsimp only; omega) _)); exact hst.out)⟩) ?_
          clear hK K
          have A9 := (((((A.set 0 (.string N)).set 1 (.int .i64 (256 * y0 + y1))).set 2 (.int .i64 (256 * y2 + y3))).set 3 (.int .i64 y4)).set 4 (.int .i64 (256 * y5 + y6)))
          refine line_nil ?_
          go_wp2_with fail
          go_meet
          case rel => exact ⟨_, rfl, A9, (by (iterate 5 (refine bset ?_ (by dsimp only; omega) _)); exact hst.out), leA⟩
        · go_big_op
          have hst2 := hst.on (bal (Below.refl _ x2) (.cells #[.string { data := #[] }, .int .i64 0, .int .i64 0, .int .i64 0, .int .i64 0] 59))
          have A := At.new x2 [.string { data := #[] }, .int .i64 0, .int .i64 0, .int .i64 0, .int .i64 0] 59
          have leA : W0.heap.size ≤ x2.heap.size := hst.out.size
          refine hK _ _ hst2 ?_
          clear hK K hst
          have hst := hst2
          clear hst2
          generalize x2.alloc (.cells #[.string { data := #[] }, .int .i64 0, .int .i64 0, .int .i64 0, .int .i64 0] 59) = xa at *
          refine any_rest [(14, false), (15, true), (17, false)] (by kernel_rfl) (fun _ _ d _ _ h => by cases d <;> exact h) ?_
          refine line_alone rfl (by kernel_rfl) (fun K hK => ?_)
          refine call_any (args := #[.slice (some ⟨b, off + 5, none⟩) (len - 5) (cap - 5)]) rfl (by kernel_rfl) (by kernel_rfl) (T2 _ (cell_keep hst.out d5) (cell_keep hst.out d6)) ?_
          rintro e x4 ⟨rfl, hbn⟩
          have hst2 := hst.on hbn
          have A2 := A.on hbn
          clear A
          have A := A2
          clear A2
          refine ⟨_, rfl, hK _ _ hst2 ?_⟩
          clear hK K hst hbn
          have hst := hst2
          clear hst2
          simp only [Act.put, List.setIfInBounds_toArray, List.set_cons_zero, List.set_cons_succ]
          refine line_readv (v := .agg #[.string N, .int .i64 (256 * y0 + y1), .int .i64 (256 * y2 + y3), .int .i64 y4, .int .i64 (256 * y5 + y6)]) rfl (by kernel_rfl) (fun _ => by kernel_rfl) ?_
          simp only [Act.put, List.setIfInBounds_toArray, List.set_cons_zero, List.set_cons_succ]
          have p0 := A.cell 0 _ rfl
          have p1 := A.cell 1 _ rfl
          have p2 := A.cell 2 _ rfl
          have p3 := A.cell 3 _ rfl
          have p4 := A.cell 4 _ rfl
          have f0 := A.free 0 _ rfl
          have f1 := A.free 1 _ rfl
          have f2 := A.free 2 _ rfl
          have f3 := A.free 3 _ rfl
          have f4 := A.free 4 _ rfl
          refine line_alone rfl (by kernel_rfl) (fun K hK => ?_)
          go_big_op
          refine hK _ _ (⟨(by (iterate 5 (refine bset ?_ (by dsimp only; omega) _)); exact hst.out)⟩) ?_
          clear hK K
          have A9 := (((((A.set 0 (.string N)).set 1 (.int .i64 (256 * y0 + y1))).set 2 (.int .i64 (256 * y2 + y3))).set 3 (.int .i64 y4)).set 4 (.int .i64 (256 * y5 + y6)))
          refine line_nil ?_
          go_wp2_with fail
          go_meet
          case rel => exact ⟨_, rfl, A9, (by (iterate 5 (refine bset ?_ (by dsimp only; omega) _)); exact hst.out), leA⟩
      · go_big_op
        have hst2 := hst.on (bal (Below.refl _ x1) (.cells #[.string { data := #[] }, .int .i64 0, .int .i64 0, .int .i64 0, .int .i64 0] 59))
        have A := At.new x1 [.string { data := #[] }, .int .i64 0, .int .i64 0, .int .i64 0, .int .i64 0] 59
        have leA : W0.heap.size ≤ x1.heap.size := hst.out.size
        refine hK _ _ hst2 ?_
        clear hK K hst
        have hst := hst2
        clear hst2
        generalize x1.alloc (.cells #[.string { data := #[] }, .int .i64 0, .int .i64 0, .int .i64 0, .int .i64 0] 59) = xa at *
        refine any_rest [(7, false), (14, false), (15, true), (17, false)] (by kernel_rfl) (fun _ _ d _ _ h => by cases d <;> exact h) ?_
        refine line_alone rfl (by kernel_rfl) (fun K hK => ?_)
        refine call_any (args := #[.slice (some ⟨b, off + 2, none⟩) (len - 2) (cap - 2)]) rfl (by kernel_rfl) (by kernel_rfl) (T1 _ (cell_keep hst.out d2) (cell_keep hst.out d3)) ?_
        rintro e x5 ⟨rfl, hbn⟩
        have hst2 := hst.on hbn
        have A2 := A.on hbn
        clear A
        have A := A2
        clear A2
        refine ⟨_, rfl, hK _ _ hst2 ?_⟩
        clear hK K hst hbn
        have hst := hst2
        clear hst2
        simp only [Act.put, List.setIfInBounds_toArray, List.set_cons_zero, List.set_cons_succ]
        refine line_alone rfl (by kernel_rfl) (fun K hK => ?_)
        refine call_any (args := #[.slice (some ⟨b, off + 5, none⟩) (len - 5) (cap - 5)]) rfl (by kernel_rfl) (by kernel_rfl) (T2 _ (cell_keep hst.out d5) (cell_keep hst.out d6)) ?_
        rintro e x6 ⟨rfl, hbn⟩
        have hst2 := hst.on hbn
        have A2 := A.on hbn
        clear A
        have A := A2
        clear A2
        refine ⟨_, rfl, hK _ _ hst2 ?_⟩
        clear hK K hst hbn
        have hst := hst2
        clear hst2
        simp only [Act.put, List.setIfInBounds_toArray, List.set_cons_zero, List.set_cons_succ]
        refine line_readv (v := .agg #[.string N, .int .i64 (256 * y0 + y1), .int .i64 (256 * y2 + y3), .int .i64 y4, .int .i64 (256 * y5 + y6)]) rfl (by kernel_rfl) (fun _ => by kernel_rfl) ?_
        simp only [Act.put, List.setIfInBounds_toArray, List.set_cons_zero, List.set_cons_succ]
        have p0 := A.cell 0 _ rfl
        have p1 := A.cell 1 _ rfl
        have p2 := A.cell 2 _ rfl
        have p3 := A.cell 3 _ rfl
        have p4 := A.cell 4 _ rfl
        have f0 := A.free 0 _ rfl
        have f1 := A.free 1 _ rfl
        have f2 := A.free 2 _ rfl
        have f3 := A.free 3 _ rfl
        have f4 := A.free 4 _ rfl
        refine line_alone rfl (by kernel_rfl) (fun K hK => ?_)
        go_big_op
        refine hK _ _ (⟨(by (iterate 5 (refine bset ?_ (by dsimp only; omega) _)); exact hst.out)⟩) ?_
        clear hK K
        have A9 := (((((A.set 0 (.string N)).set 1 (.int .i64 (256 * y0 + y1))).set 2 (.int .i64 (256 * y2 + y3))).set 3 (.int .i64 y4)).set 4 (.int .i64 (256 * y5 + y6)))
        refine line_nil ?_
        go_wp2_with fail
        go_meet
        case rel => exact ⟨_, rfl, A9, (by (iterate 5 (refine bset ?_ (by dsimp only; omega) _)); exact hst.out), leA⟩
    · go_big_op
      have hst2 := hst.on (bal (Below.refl _ V1) (.cells #[.string { data := #[] }, .int .i64 0, .int .i64 0, .int .i64 0, .int .i64 0] 59))
      have A := At.new V1 [.string { data := #[] }, .int .i64 0, .int .i64 0, .int .i64 0, .int .i64 0] 59
      have leA : W0.heap.size ≤ V1.heap.size := hst.out.size
      refine hK _ _ hst2 ?_
      clear hK K hst
      have hst := hst2
      clear hst2
      generalize V1.alloc (.cells #[.string { data := #[] }, .int .i64 0, .int .i64 0, .int .i64 0, .int .i64 0] 59) = xa at *
      refine any_rest [(4, false), (7, false), (14, false), (15, true), (17, false)] (by kernel_rfl) (fun _ _ d _ _ h => by cases d <;> exact h) ?_
      refine line_alone rfl (by kernel_rfl) (fun K hK => ?_)
      refine call_any (args := #[.slice (some ⟨b, off, none⟩) len cap]) rfl (by kernel_rfl) (by kernel_rfl) (T0 _ (cell_keep hst.out d0) (cell_keep hst.out d1)) ?_
      rintro e x7 ⟨rfl, hbn⟩
      have hst2 := hst.on hbn
      have A2 := A.on hbn
      clear A
      have A := A2
      clear A2
      refine ⟨_, rfl, hK _ _ hst2 ?_⟩
      clear hK K hst hbn
      have hst := hst2
      clear hst2
      simp only [Act.put, List.setIfInBounds_toArray, List.set_cons_zero, List.set_cons_succ]
      refine line_alone rfl (by kernel_rfl) (fun K hK => ?_)
      refine call_any (args := #[.slice (some ⟨b, off + 2, none⟩) (len - 2) (cap - 2)]) rfl (by kernel_rfl) (by kernel_rfl) (T1 _ (cell_keep hst.out d2) (cell_keep hst.out d3)) ?_
      rintro e x8 ⟨rfl, hbn⟩
      have hst2 := hst.on hbn
      have A2 := A.on hbn
      clear A
      have A := A2
      clear A2
      refine ⟨_, rfl, hK _ _ hst2 ?_⟩
      clear hK K hst hbn
      have hst := hst2
      clear hst2
      simp only [Act.put, List.setIfInBounds_toArray, List.set_cons_zero, List.set_cons_succ]
      refine line_alone rfl (by kernel_rfl) (fun K hK => ?_)
      refine call_any (args := #[.slice (some ⟨b, off + 5, none⟩) (len - 5) (cap - 5)]) rfl (by kernel_rfl) (by kernel_rfl) (T2 _ (cell_keep hst.out d5) (cell_keep hst.out d6)) ?_
      rintro e x9 ⟨rfl, hbn⟩
      have hst2 := hst.on hbn
      have A2 := A.on hbn
      clear A
      have A := A2
      clear A2
      refine ⟨_, rfl, hK _ _ hst2 ?_⟩
      clear hK K hst hbn
      have hst := hst2
      clear hst2
      simp only [Act.put, List.setIfInBounds_toArray, List.set_cons_zero, List.set_cons_succ]
      refine line_readv (v := .agg #[.string N, .int .i64 (256 * y0 + y1), .int .i64 (256 * y2 + y3), .int .i64 y4, .int .i64 (256 * y5 + y6)]) rfl (by kernel_rfl) (fun _ => by kernel_rfl) ?_
      simp only [Act.put, List.setIfInBounds_toArray, List.set_cons_zero, List.set_cons_succ]
      have p0 := A.cell 0 _ rfl
      have p1 := A.cell 1 _ rfl
      have p2 := A.cell 2 _ rfl
      have p3 := A.cell 3 _ rfl
      have p4 := A.cell 4 _ rfl
      have f0 := A.free 0 _ rfl
      have f1 := A.free 1 _ rfl
      have f2 := A.free 2 _ rfl
      have f3 := A.free 3 _ rfl
      have f4 := A.free 4 _ rfl
      refine line_alone rfl (by kernel_rfl) (fun K hK => ?_)
      go_big_op
      refine hK _ _ (⟨(by (iterate 5 (refine bset ?_ (by dsimp only; omega) _)); exact hst.out)⟩) ?_
      clear hK K
      have A9 := (((((A.set 0 (.string N)).set 1 (.int .i64 (256 * y0 + y1))).set 2 (.int .i64 (256 * y2 + y3))).set 3 (.int .i64 y4)).set 4 (.int .i64 (256 * y5 + y6)))
      refine line_nil ?_
      go_wp2_with fail
      go_meet
      case rel => exact ⟨_, rfl, A9, (by (iterate 5 (refine bset ?_ (by dsimp only; omega) _)); exact hst.out), leA⟩
  case rest =>
    obtain ⟨g, rfl, A1, b1, hg⟩ := hcut
    have x0 := A1.cell 0 _ rfl
    have x1 := A1.cell 1 _ rfl
    have x2 := A1.cell 2 _ rfl
    have x3 := A1.cell 3 _ rfl
    have x4 := A1.cell 4 _ rfl
    have ltA := A1.lt (by simp)
    have eZ := EZ.out
    by_cases hcd : Z.f = 0
    · rw [hcd] at hF
      have HW := Lib.hid hcd
      clear hcd
      subst eZ
      go_wp2_with fail
      refine (hF _).mono ?_
      rintro r w2 ⟨rfl, b2⟩
      have s0 := (A1.on b2).cell 0 _ rfl
      have s1 := (A1.on b2).cell 1 _ rfl
      have s2 := (A1.on b2).cell 2 _ rfl
      have s3 := (A1.on b2).cell 3 _ rfl
      have s4 := (A1.on b2).cell 4 _ rfl
      have bb := btr b1 b2
      have p0 := (A0.on bb).cell 0 _ rfl
      have p1 := (A0.on bb).cell 1 _ rfl
      have p2 := (A0.on bb).cell 2 _ rfl
      have p3 := (A0.on bb).cell 3 _ rfl
      have p4 := (A0.on bb).cell 4 _ rfl
      have p5 := (A0.on bb).cell 5 _ rfl
      have z0 := (A0.on bb).free 0 _ rfl
      have z1 := (A0.on bb).free 1 _ rfl
      have z2 := (A0.on bb).free 2 _ rfl
      have z3 := (A0.on bb).free 3 _ rfl
      have z4 := (A0.on bb).free 4 _ rfl
      have z5 := (A0.on bb).free 5 _ rfl
      have B3 := btr b0 bb
      clear A1 A0 b1 b2 bb x0 x1 x2 x3 x4 hF
      go_wp2_with fail
      refine bodyPost_ret (v := RP6 0 ⟨N, 256 * y0 + y1, 256 * y2 + y3, y4, 256 * y5 + y6⟩) (by simp [results, Tryz.results233, go_sem, p0, p1, p2, p3, p4, p5]) rfl ⟨by first | rfl | (rw [if_pos HW.out]; rfl), ?_⟩
      exact (by (iterate 6 (refine bset ?_ (by dsimp only; omega) _)); exact B3)
    · have HW := Lib.hid hcd
      have hcd2 := hcd
      generalize hZ : Z.f = cd at hF hcd2
      have q : (cd == 0) = false := by simpa using hcd2
      clear hcd
      subst eZ
      go_wp2_with fail
      refine (hF _).mono ?_
      rintro r w2 ⟨rfl, b2⟩
      have bb := btr b1 b2
      have p0 := (A0.on bb).cell 0 _ rfl
      have p1 := (A0.on bb).cell 1 _ rfl
      have p2 := (A0.on bb).cell 2 _ rfl
      have p3 := (A0.on bb).cell 3 _ rfl
      have p4 := (A0.on bb).cell 4 _ rfl
      have p5 := (A0.on bb).cell 5 _ rfl
      have z0 := (A0.on bb).free 0 _ rfl
      have z1 := (A0.on bb).free 1 _ rfl
      have z2 := (A0.on bb).free 2 _ rfl
      have z3 := (A0.on bb).free 3 _ rfl
      have z4 := (A0.on bb).free 4 _ rfl
      have z5 := (A0.on bb).free 5 _ rfl
      have B3 := btr b0 bb
      clear A1 A0 b1 b2 bb x0 x1 x2 x3 x4 hF
      go_wp2_with fail
      refine bodyPost_ret (v := RP6 5 ⟨{ data := #[] }, 0, 0, 0, 0⟩) (by simp [results, Tryz.results233, go_sem, p0, p1, p2, p3, p4, p5]) rfl ⟨by first | rfl | (rw [if_neg HW.out]; rfl), ?_⟩
      exact (by (iterate 6 (refine bset ?_ (by dsimp only; omega) _)); exact B3)

def PinRead (zs : List Int) (w : World) (e : Ending) (w' : World) : Prop := ∃ p : PinD, e = .returned (.tuple #[P5 p, .bool (pinOk zs)]) ∧ (pinOk zs = true → p = pinZ zs) ∧ Below w.heap.size w w'
theorem l7Read_any (a : Option Addr) (len cap B : Nat) (zs : List Int) (w : World) (hR : Row .u8 w B a len cap zs) (hB : B ≤ w.heap.size) :
    Calls Tryz.prog 305 #[.slice a len cap] w (PinRead zs w) := by
  have hlen := hR.fits
  have hmost := hR.most
  have b0 := bal (Below.refl _ w) (.cells #[.string { data := #[] }, .int .i64 0, .int .i64 0, .int .i64 0, .int .i64 0] 59)
  have A0 := At.new w [.string { data := #[] }, .int .i64 0, .int .i64 0, .int .i64 0, .int .i64 0] 59
  have hzl := hR.length
  by_cases h7 : len < 8
  · have eno : pinOk zs = false := pinOk_short (by omega)
    have F : PinRead zs w (.returned (.tuple #[P5 pin0, .bool false])) (w.alloc (.cells #[.string { data := #[] }, .int .i64 0, .int .i64 0, .int .i64 0, .int .i64 0] 59)) := ⟨pin0, by rw [eno], (fun h => by rw [eno] at h; cases h), b0⟩
    have h7' : (len : Int) < 8 := by omega
    unfold maxLen at hmost
    clear hR
    go_enter Tryz.func305, Tryz.ntmps305
    go_wp2_with fail
    exact bodyPost_ret (v := .tuple #[P5 ⟨{ data := #[] }, 0, 0, 0, 0⟩, .bool false]) (by simp [results, Tryz.results305, go_sem]) rfl F
  obtain ⟨b, off, rfl, hb, hc⟩ := hR.cells (by omega)
  have z0 := hR.byte 0
  have z1 := hR.byte 1
  have z2 := hR.byte 2
  have z3 := hR.byte 3
  have z4 := hR.byte 4
  have z5 := hR.byte 5
  have z6 := hR.byte 6
  have d0 := cell_keep b0 (hc 0 (by omega))
  have d1 := cell_keep b0 (hc 1 (by omega))
  have d2 := cell_keep b0 (hc 2 (by omega))
  have d3 := cell_keep b0 (hc 3 (by omega))
  have d4 := cell_keep b0 (hc 4 (by omega))
  have d5 := cell_keep b0 (hc 5 (by omega))
  have d6 := cell_keep b0 (hc 6 (by omega))
  have R1 := hR.below (b0.mono hB)
  have hWB : B ≤ (w.alloc (.cells #[.string { data := #[] }, .int .i64 0, .int .i64 0, .int .i64 0, .int .i64 0] 59)).heap.size := by simp; omega
  have hsub := fun (w' : World) (R : Row .u8 w' B (some ⟨b, off, none⟩) len cap zs) => conv_row (R.sub 7 (len - 7) (cap - 7) (by omega) (by omega) (by omega))
  have edrop : (zs.drop 7).take (len - 7) = zs.drop 7 := List.take_of_length_le (by simp; omega)
  simp only [edrop, pinNm_str] at hsub
  have T0 := fun (w' : World) d0 d1 => l1At_any b off len cap 0 (zs.getD 0 0) (zs.getD 1 0) w' (by omega) (by omega) hlen hmost d0 d1 z0.1 z0.2 z1.1 z1.2
  have T1 := fun (w' : World) d2 d3 => l1At_any b off len cap 2 (zs.getD 2 0) (zs.getD 3 0) w' (by omega) (by omega) hlen hmost d2 d3 z2.1 z2.2 z3.1 z3.2
  have T2 := fun (w' : World) d5 d6 => l1At_any b off len cap 5 (zs.getD 5 0) (zs.getD 6 0) w' (by omega) (by omega) hlen hmost d5 d6 z5.1 z5.2 z6.1 z6.2
  have hF := fun g w A => l7Fault_any g (pinZ zs) w A (pinZ_size zs (by rw [hzl]; omega))
  have hm2 := hmost
  unfold maxLen at hm2
  have h7' : ¬ (len : Int) < 8 := by omega
  have hOk : pinOk zs = ((pinZ zs).f == 0) := by
    unfold pinOk
    rw [decide_eq_true (show 7 ≤ zs.length by omega), Bool.true_and]
    by_cases h : (pinZ zs).f = 0 <;> simp [h]
  have HP := Lib.hid (fun (w' : World) (hb : Below w.heap.size w w') => show PinRead zs w (.returned (.tuple #[P5 (pinZ zs), .bool ((pinZ zs).f == 0)])) w' from ⟨pinZ zs, by rw [hOk], fun _ => rfl, hb⟩)
  have eZ : pinZ zs = ⟨M.bs (pinNm zs), 256 * zs.getD 0 0 + zs.getD 1 0, 256 * zs.getD 2 0 + zs.getD 3 0, zs.getD 4 0, 256 * zs.getD 5 0 + zs.getD 6 0⟩ := rfl
  clear hOk
  generalize HQ : PinRead zs w = Q at *
  clear HQ
  generalize pinZ zs = Z at *
  generalize M.bs (pinNm zs) = N at *
  generalize zs.getD 0 0 = y0 at *
  generalize zs.getD 1 0 = y1 at *
  generalize zs.getD 2 0 = y2 at *
  generalize zs.getD 3 0 = y3 at *
  generalize zs.getD 4 0 = y4 at *
  generalize zs.getD 5 0 = y5 at *
  generalize zs.getD 6 0 = y6 at *
  clear hR hc edrop hmost
  have EZ := Lib.hid eZ
  clear eZ
  go_enter Tryz.func305, Tryz.ntmps305
  go_upto_region 3 with fail
  generalize w.alloc (.cells #[.string { data := #[] }, .int .i64 0, .int .i64 0, .int .i64 0, .int .i64 0] 59) = W0 at *
  go_cut [4] from 10 to 23 (fun v' wx => ∃ g, v' = .pointer (some ⟨g, 0, none⟩) ∧ At g [.string N, .int .i64 (256 * y0 + y1), .int .i64 (256 * y2 + y3), .int .i64 y4, .int .i64 (256 * y5 + y6)] wx ∧ Below W0.heap.size W0 wx ∧ W0.heap.size ≤ g)
  case first =>
    refine wp_region_fork (Bel W0) (by kernel_rfl) (Bel.drew W0) ?_
    have hst : (Bel W0) _ := (Bel.drew W0)
    have inst : Nonempty (Of (Bel W0)) := ⟨⟨_, hst⟩⟩
    have u4 := bel_cell d4
    have cv : ∀ z : Of (Bel W0), (convert 22 9 (.slice (some ⟨b, off + 7, none⟩) (len - 7) (cap - 7))).run Tryz.prog z.val = .ok (.string N) z.val := fun z => hsub _ (R1.below (z.prop.out.mono hWB))
    generalize W0.drew = V1 at *
    refine any_seg 6 [(0, true), (2, true), (4, true), (5, true), (6, true), (7, true), (8, true), (10, true), (11, true), (12, true)] (by kernel_rfl) (fun _ _ d _ _ h => by cases d <;> exact h) ?_
    iterate 10 (refine line_read rfl (by kernel_rfl) (fun K hK => ?_); go_big_quiet_op; refine hK _ ?_; clear hK K)
    refine line_nil ?_
    clear cv u4
    have szV1 := hst.out.size
    refine any_fork 1 14 (by kernel_rfl) rfl rfl (by kernel_rfl) (by kernel_rfl) (fun K hK => ?_) (fun K hK => ?_)
    · refine call_any (args := #[.slice (some ⟨b, off, none⟩) len cap, .int .i64 0]) rfl (by kernel_rfl) (by kernel_rfl) (T0 _ (cell_keep hst.out d0) (cell_keep hst.out d1)) ?_
      rintro e x1 ⟨rfl, hbn⟩
      have hst2 := hst.on hbn
      refine ⟨_, rfl, hK _ _ hst2 ?_⟩
      clear hK K hst hbn
      have hst := hst2
      clear hst2
      simp only [Act.put, List.setIfInBounds_toArray, List.set_cons_zero, List.set_cons_succ]
      refine any_fork 3 14 (by kernel_rfl) rfl rfl (by kernel_rfl) (by kernel_rfl) (fun K hK => ?_) (fun K hK => ?_)
      · refine call_any (args := #[.slice (some ⟨b, off, none⟩) len cap, .int .i64 2]) rfl (by kernel_rfl) (by kernel_rfl) (T1 _ (cell_keep hst.out d2) (cell_keep hst.out d3)) ?_
        rintro e x2 ⟨rfl, hbn⟩
        have hst2 := hst.on hbn
        refine ⟨_, rfl, hK _ _ hst2 ?_⟩
        clear hK K hst hbn
        have hst := hst2
        clear hst2
        simp only [Act.put, List.setIfInBounds_toArray, List.set_cons_zero, List.set_cons_succ]
        refine any_fork 9 14 (by kernel_rfl) rfl rfl (by kernel_rfl) (by kernel_rfl) (fun K hK => ?_) (fun K hK => ?_)
        · refine call_any (args := #[.slice (some ⟨b, off, none⟩) len cap, .int .i64 5]) rfl (by kernel_rfl) (by kernel_rfl) (T2 _ (cell_keep hst.out d5) (cell_keep hst.out d6)) ?_
          rintro e x3 ⟨rfl, hbn⟩
          have hst2 := hst.on hbn
          refine ⟨_, rfl, hK _ _ hst2 ?_⟩
          clear hK K hst hbn
          have hst := hst2
          clear hst2
          simp only [Act.put, List.setIfInBounds_toArray, List.set_cons_zero, List.set_cons_succ]
          refine any_rest [(13, true), (14, false), (15, false)] (by kernel_rfl) (fun _ _ d _ _ h => by cases d <;> exact h) ?_
          refine line_readv (v := .agg #[.string N, .int .i64 (256 * y0 + y1), .int .i64 (256 * y2 + y3), .int .i64 y4, .int .i64 (256 * y5 + y6)]) rfl (by kernel_rfl) (fun _ => by kernel_rfl) ?_
          simp only [Act.put, List.setIfInBounds_toArray, List.set_cons_zero, List.set_cons_succ]
          refine line_alone rfl (by kernel_rfl) (fun K hK => ?_)
          go_big_op
          have hst2 := hst.on (bal (Below.refl _ x3) (.cells #[.string { data := #[] }, .int .i64 0, .int .i64 0, .int .i64 0, .int .i64 0] 59))
          have A := At.new x3 [.string { data := #[] }, .int .i64 0, .int .i64 0, .int .i64 0, .int .i64 0] 59
          have leA : W0.heap.size ≤ x3.heap.size := hst.out.size
          refine hK _ _ hst2 ?_
          clear hK K hst
          have hst := hst2
          clear hst2
          generalize x3.alloc (.cells #[.string { data := #[] }, .int .i64 0, .int .i64 0, .int .i64 0, .int .i64 0] 59) = xa at *
          have p0 := A.cell 0 _ rfl
          have p1 := A.cell 1 _ rfl
          have p2 := A.cell 2 _ rfl
          have p3 := A.cell 3 _ rfl
          have p4 := A.cell 4 _ rfl
          have f0 := A.free 0 _ rfl
          have f1 := A.free 1 _ rfl
          have f2 := A.free 2 _ rfl
          have f3 := A.free 3 _ rfl
          have f4 := A.free 4 _ rfl
          refine line_alone rfl (by kernel_rfl) (fun K hK => ?_)
          go_big_op
          refine hK _ _ (⟨(by (iterate 5 (refine bset ?_ (by dsimp only; omega) _)); exact hst.out)⟩) ?_
          clear hK K
          have A9 := (((((A.set 0 (.string N)).set 1 (.int .i64 (256 * y0 + y1))).set 2 (.int .i64 (256 * y2 + y3))).set 3 (.int .i64 y4)).set 4 (.int .i64 (256 * y5 + y6)))
          refine line_nil ?_
          go_wp2_with fail
          go_meet
          case rel => exact ⟨_, rfl, A9, (by (iterate 5 (refine bset ?_ (by dsimp only; omega) _)); exact hst.out), leA⟩
        · go_big_op
          have hst2 := hst.on (bal (Below.refl _ x2) (.cells #[.string { data := #[] }, .int .i64 0, .int .i64 0, .int .i64 0, .int .i64 0] 59))
          have A := At.new x2 [.string { data := #[] }, .int .i64 0, .int .i64 0, .int .i64 0, .int .i64 0] 59
          have leA : W0.heap.size ≤ x2.heap.size := hst.out.size
          refine hK _ _ hst2 ?_
          clear hK K hst
          have hst := hst2
          clear hst2
          generalize x2.alloc (.cells #[.string { data := #[] }, .int .i64 0, .int .i64 0, .int .i64 0, .int .i64 0] 59) = xa at *
          refine any_rest [(9, false), (13, true), (15, false)] (by kernel_rfl) (fun _ _ d _ _ h => by cases d <;> exact h) ?_
          refine line_alone rfl (by kernel_rfl) (fun K hK => ?_)
          refine call_any (args := #[.slice (some ⟨b, off, none⟩) len cap, .int .i64 5]) rfl (by kernel_rfl) (by kernel_rfl) (T2 _ (cell_keep hst.out d5) (cell_keep hst.out d6)) ?_
          rintro e x4 ⟨rfl, hbn⟩
          have hst2 := hst.on hbn
          have A2 := A.on hbn
          clear A
          have A := A2
          clear A2
          refine ⟨_, rfl, hK _ _ hst2 ?_⟩
          clear hK K hst hbn
          have hst := hst2
          clear hst2
          simp only [Act.put, List.setIfInBounds_toArray, List.set_cons_zero, List.set_cons_succ]
          refine line_readv (v := .agg #[.string N, .int .i64 (256 * y0 + y1), .int .i64 (256 * y2 + y3), .int .i64 y4, .int .i64 (256 * y5 + y6)]) rfl (by kernel_rfl) (fun _ => by kernel_rfl) ?_
          simp only [Act.put, List.setIfInBounds_toArray, List.set_cons_zero, List.set_cons_succ]
          have p0 := A.cell 0 _ rfl
          have p1 := A.cell 1 _ rfl
          have p2 := A.cell 2 _ rfl
          have p3 := A.cell 3 _ rfl
          have p4 := A.cell 4 _ rfl
          have f0 := A.free 0 _ rfl
          have f1 := A.free 1 _ rfl
          have f2 := A.free 2 _ rfl
          have f3 := A.free 3 _ rfl
          have f4 := A.free 4 _ rfl
          refine line_alone rfl (by kernel_rfl) (fun K hK => ?_)
          go_big_op
          refine hK _ _ (⟨(by (iterate 5 (refine bset ?_ (by dsimp only; omega) _)); exact hst.out)⟩) ?_
          clear hK K
          have A9 := (((((A.set 0 (.string N)).set 1 (.int .i64 (256 * y0 + y1))).set 2 (.int .i64 (256 * y2 + y3))).set 3 (.int .i64 y4)).set 4 (.int .i64 (256 * y5 + y6)))
          refine line_nil ?_
          go_wp2_with fail
          go_meet
          case rel => exact ⟨_, rfl, A9, (by (iterate 5 (refine bset ?_ (by dsimp only; omega) _)); exact hst.out), leA⟩
      · go_big_op
        have hst2 := hst.on (bal (Below.refl _ x1) (.cells #[.string { data := #[] }, .int .i64 0, .int .i64 0, .int .i64 0, .int .i64 0] 59))
        have A := At.new x1 [.string { data := #[] }, .int .i64 0, .int .i64 0, .int .i64 0, .int .i64 0] 59
        have leA : W0.heap.size ≤ x1.heap.size := hst.out.size
        refine hK _ _ hst2 ?_
        clear hK K hst
        have hst := hst2
        clear hst2
        generalize x1.alloc (.cells #[.string { data := #[] }, .int .i64 0, .int .i64 0, .int .i64 0, .int .i64 0] 59) = xa at *
        refine any_rest [(3, false), (9, false), (13, true), (15, false)] (by kernel_rfl) (fun _ _ d _ _ h => by cases d <;> exact h) ?_
        refine line_alone rfl (by kernel_rfl) (fun K hK => ?_)
        refine call_any (args := #[.slice (some ⟨b, off, none⟩) len cap, .int .i64 2]) rfl (by kernel_rfl) (by kernel_rfl) (T1 _ (cell_keep hst.out d2) (cell_keep hst.out d3)) ?_
        rintro e x5 ⟨rfl, hbn⟩
        have hst2 := hst.on hbn
        have A2 := A.on hbn
        clear A
        have A := A2
        clear A2
        refine ⟨_, rfl, hK _ _ hst2 ?_⟩
        clear hK K hst hbn
        have hst := hst2
        clear hst2
        simp only [Act.put, List.setIfInBounds_toArray, List.set_cons_zero, List.set_cons_succ]
        refine line_alone rfl (by kernel_rfl) (fun K hK => ?_)
        refine call_any (args := #[.slice (some ⟨b, off, none⟩) len cap, .int .i64 5]) rfl (by kernel_rfl) (by kernel_rfl) (T2 _ (cell_keep hst.out d5) (cell_keep hst.out d6)) ?_
        rintro e x6 ⟨rfl, hbn⟩
        have hst2 := hst.on hbn
        have A2 := A.on hbn
        clear A
        have A := A2
        clear A2
        refine ⟨_, rfl, hK _ _ hst2 ?_⟩
        clear hK K hst hbn
        have hst := hst2
        clear hst2
        simp only [Act.put, List.setIfInBounds_toArray, List.set_cons_zero, List.set_cons_succ]
        refine line_readv (v := .agg #[.string N, .int .i64 (256 * y0 + y1), .int .i64 (256 * y2 + y3), .int .i64 y4, .int .i64 (256 * y5 + y6)]) rfl (by kernel_rfl) (fun _ => by kernel_rfl) ?_
        simp only [Act.put, List.setIfInBounds_toArray, List.set_cons_zero, List.set_cons_succ]
        have p0 := A.cell 0 _ rfl
        have p1 := A.cell 1 _ rfl
        have p2 := A.cell 2 _ rfl
        have p3 := A.cell 3 _ rfl
        have p4 := A.cell 4 _ rfl
        have f0 := A.free 0 _ rfl
        have f1 := A.free 1 _ rfl
        have f2 := A.free 2 _ rfl
        have f3 := A.free 3 _ rfl
        have f4 := A.free 4 _ rfl
        refine line_alone rfl (by kernel_rfl) (fun K hK => ?_)
        go_big_op
        refine hK _ _ (⟨(by (iterate 5 (refine bset ?_ (by dsimp only; omega) _)); exact hst.out)⟩) ?_
        clear hK K
        have A9 := (((((A.set 0 (.string N)).set 1 (.int .i64 (256 * y0 + y1))).set 2 (.int .i64 (256 * y2 + y3))).set 3 (.int .i64 y4)).set 4 (.int .i64 (256 * y5 + y6)))
        refine line_nil ?_
        go_wp2_with fail
        go_meet
        case rel => exact ⟨_, rfl, A9, (by (iterate 5 (refine bset ?_ (by dsimp only; omega) _)); exact hst.out), leA⟩
    · go_big_op
      have hst2 := hst.on (bal (Below.refl _ V1) (.cells #[.string { data := #[] }, .int .i64 0, .int .i64 0, .int .i64 0, .int .i64 0] 59))
      have A := At.new V1 [.string { data := #[] }, .int .i64 0, .int .i64 0, .int .i64 0, .int .i64 0] 59
      have leA : W0.heap.size ≤ V1.heap.size := hst.out.size
      refine hK _ _ hst2 ?_
      clear hK K hst
      have hst := hst2
      clear hst2
      generalize V1.alloc (.cells #[.string { data := #[] }, .int .i64 0, .int .i64 0, .int .i64 0, .int .i64 0] 59) = xa at *
      refine any_rest [(1, false), (3, false), (9, false), (13, true), (15, false)] (by kernel_rfl) (fun _ _ d _ _ h => by cases d <;> exact h) ?_
      refine line_alone rfl (by kernel_rfl) (fun K hK => ?_)
      refine call_any (args := #[.slice (some ⟨b, off, none⟩) len cap, .int .i64 0]) rfl (by kernel_rfl) (by kernel_rfl) (T0 _ (cell_keep hst.out d0) (cell_keep hst.out d1)) ?_
      rintro e x7 ⟨rfl, hbn⟩
      have hst2 := hst.on hbn
      have A2 := A.on hbn
      clear A
      have A := A2
      clear A2
      refine ⟨_, rfl, hK _ _ hst2 ?_⟩
      clear hK K hst hbn
      have hst := hst2
      clear hst2
      simp only [Act.put, List.setIfInBounds_toArray, List.set_cons_zero, List.set_cons_succ]
      refine line_alone rfl (by kernel_rfl) (fun K hK => ?_)
      refine call_any (args := #[.slice (some ⟨b, off, none⟩) len cap, .int .i64 2]) rfl (by kernel_rfl) (by kernel_rfl) (T1 _ (cell_keep hst.out d2) (cell_keep hst.out d3)) ?_
      rintro e x8 ⟨rfl, hbn⟩
      have hst2 := hst.on hbn
      have A2 := A.on hbn
      clear A
      have A := A2
      clear A2
      refine ⟨_, rfl, hK _ _ hst2 ?_⟩
      clear hK K hst hbn
      have hst := hst2
      clear hst2
      simp only [Act.put, List.setIfInBounds_toArray, List.set_cons_zero, List.set_cons_succ]
      refine line_alone rfl (by kernel_rfl) (fun K hK => ?_)
      refine call_any (args := #[.slice (some ⟨b, off, none⟩) len cap, .int .i64 5]) rfl (by kernel_rfl) (by kernel_rfl) (T2 _ (cell_keep hst.out d5) (cell_keep hst.out d6)) ?_
      rintro e x9 ⟨rfl, hbn⟩
      have hst2 := hst.on hbn
      have A2 := A.on hbn
      clear A
      have A := A2
      clear A2
      refine ⟨_, rfl, hK _ _ hst2 ?_⟩
      clear hK K hst hbn
      have hst := hst2
      clear hst2
      simp only [Act.put, List.setIfInBounds_toArray, List.set_cons_zero, List.set_cons_succ]
      refine line_readv (v := .agg #[.string N, .int .i64 (256 * y0 + y1), .int .i64 (256 * y2 + y3), .int .i64 y4, .int .i64 (256 * y5 + y6)]) rfl (by kernel_rfl) (fun _ => by kernel_rfl) ?_
      simp only [Act.put, List.setIfInBounds_toArray, List.set_cons_zero, List.set_cons_succ]
      have p0 := A.cell 0 _ rfl
      have p1 := A.cell 1 _ rfl
      have p2 := A.cell 2 _ rfl
      have p3 := A.cell 3 _ rfl
      have p4 := A.cell 4 _ rfl
      have f0 := A.free 0 _ rfl
      have f1 := A.free 1 _ rfl
      have f2 := A.free 2 _ rfl
      have f3 := A.free 3 _ rfl
      have f4 := A.free 4 _ rfl
      refine line_alone rfl (by kernel_rfl) (fun K hK => ?_)
      go_big_op
      refine hK _ _ (⟨(by (iterate 5 (refine bset ?_ (by dsimp only; omega) _)); exact hst.out)⟩) ?_
      clear hK K
      have A9 := (((((A.set 0 (.string N)).set 1 (.int .i64 (256 * y0 + y1))).set 2 (.int .i64 (256 * y2 + y3))).set 3 (.int .i64 y4)).set 4 (.int .i64 (256 * y5 + y6)))
      refine line_nil ?_
      go_wp2_with fail
      go_meet
      case rel => exact ⟨_, rfl, A9, (by (iterate 5 (refine bset ?_ (by dsimp only; omega) _)); exact hst.out), leA⟩
  case rest =>
    obtain ⟨g, rfl, A1, b1, hg⟩ := hcut
    have eZ := EZ.out
    have ltA := A1.lt (by simp)
    have lt0 : w.heap.size < W0.heap.size := A0.lt (by simp)
    generalize Z.f = cd at *
    subst eZ
    go_wp2_with fail
    have S0 : Hold w g [.string N, .int .i64 (256 * y0 + y1), .int .i64 (256 * y2 + y3), .int .i64 y4, .int .i64 (256 * y5 + y6)] wc.drew := ⟨(btr b0 b1).drew, A1.on (bdrew wc)⟩
    have AA := (A0.on b1).on (bdrew wc)
    refine wp_region_line (Hold w g [.string N, .int .i64 (256 * y0 + y1), .int .i64 (256 * y2 + y3), .int .i64 y4, .int .i64 (256 * y5 + y6)]) [(0, true), (1, false), (2, true), (3, false), (4, true)] (by kernel_rfl) (by kernel_rfl) (fun _ _ d _ _ h => by cases d <;> exact h) S0 ?_
    have hst := S0
    have inst : Nonempty (Of (Hold w g [.string N, .int .i64 (256 * y0 + y1), .int .i64 (256 * y2 + y3), .int .i64 y4, .int .i64 (256 * y5 + y6)])) := ⟨⟨_, hst⟩⟩
    have q0 := hold_cell (W := w) (g := g) (cs := [.string N, .int .i64 (256 * y0 + y1), .int .i64 (256 * y2 + y3), .int .i64 y4, .int .i64 (256 * y5 + y6)]) 0 _ rfl
    have q1 := hold_cell (W := w) (g := g) (cs := [.string N, .int .i64 (256 * y0 + y1), .int .i64 (256 * y2 + y3), .int .i64 y4, .int .i64 (256 * y5 + y6)]) 1 _ rfl
    have q2 := hold_cell (W := w) (g := g) (cs := [.string N, .int .i64 (256 * y0 + y1), .int .i64 (256 * y2 + y3), .int .i64 y4, .int .i64 (256 * y5 + y6)]) 2 _ rfl
    have q3 := hold_cell (W := w) (g := g) (cs := [.string N, .int .i64 (256 * y0 + y1), .int .i64 (256 * y2 + y3), .int .i64 y4, .int .i64 (256 * y5 + y6)]) 3 _ rfl
    have q4 := hold_cell (W := w) (g := g) (cs := [.string N, .int .i64 (256 * y0 + y1), .int .i64 (256 * y2 + y3), .int .i64 y4, .int .i64 (256 * y5 + y6)]) 4 _ rfl
    clear S0 A1 A0 b1 b0
    generalize wc.drew = V2 at *
    iterate 1 (refine line_read rfl (by kernel_rfl) (fun K hK => ?_); go_big_quiet_op; refine hK _ ?_; clear hK K)
    clear q0 q1 q2 q3 q4
    refine line_alone rfl (by kernel_rfl) (fun K hK => ?_)
    refine call_any (args := #[.pointer (some ⟨g, 0, none⟩)]) rfl (by kernel_rfl) (by kernel_rfl) (hF _ _ hst.at') ?_
    rintro e x9 ⟨rfl, hbn⟩
    have hst2 := hst.on hbn
    have AA2 := AA.on hbn
    refine ⟨_, rfl, hK _ _ hst2 ?_⟩
    clear hK K hst hbn AA
    have hst := hst2
    clear hst2
    simp only [Act.put, List.setIfInBounds_toArray, List.set_cons_zero, List.set_cons_succ]
    iterate 1 (refine line_read rfl (by kernel_rfl) (fun K hK => ?_); go_big_quiet_op; refine hK _ ?_; clear hK K)
    have p0 := AA2.cell 0 _ rfl
    have p1 := AA2.cell 1 _ rfl
    have p2 := AA2.cell 2 _ rfl
    have p3 := AA2.cell 3 _ rfl
    have p4 := AA2.cell 4 _ rfl
    have z0 := AA2.free 0 _ rfl
    have z1 := AA2.free 1 _ rfl
    have z2 := AA2.free 2 _ rfl
    have z3 := AA2.free 3 _ rfl
    have z4 := AA2.free 4 _ rfl
    refine line_alone rfl (by kernel_rfl) (fun K hK => ?_)
    go_big_op
    refine hK _ _ ((by (iterate 5 (refine Hold.setB ?_ (by dsimp only; omega) (by dsimp only; omega) _)); exact hst)) ?_
    clear hK K
    iterate 1 (refine line_read rfl (by kernel_rfl) (fun K hK => ?_); go_big_quiet_op; refine hK _ ?_; clear hK K)
    refine line_nil ?_
    have HB := Lib.hid hst.bel
    clear hst inst AA2
    go_wp2_with fail
    refine bodyPost_ret (v := .tuple #[P5 ⟨N, 256 * y0 + y1, 256 * y2 + y3, y4, 256 * y5 + y6⟩, .bool (cd == 0)]) (by simp [results, Tryz.results305, go_sem, p0, p1, p2, p3, p4]) rfl (HP.out _ ?_)
    exact (by (iterate 5 (refine bset ?_ (by dsimp only; omega) _)); exact HB.out)
end Go.Proofs.YtlodhleihnlchaaGreatDoor
namespace Go.Proofs.YtlodhleihnlchaaGreatDoor
open Go.RowKit
set_option maxRecDepth 100000
set_option linter.unusedVariables false

def pinEq (p q : PinD) : Bool := decide (p.n.toList = q.n.toList ∧ p.a = q.a ∧ p.b = q.b ∧ p.e = q.e ∧ p.u = q.u)
theorem pinEq_iff (p q : PinD) : pinEq p q = true ↔ p = q := by
  obtain ⟨n, a, b, e, u⟩ := p
  obtain ⟨n', a', b', e', u'⟩ := q
  simp only [pinEq, decide_eq_true_eq, PinD.mk.injEq, ByteArray.toList_eq]
  exact ⟨fun ⟨h, r⟩ => ⟨nm_inj h, r⟩, fun ⟨h, r⟩ => ⟨by rw [h], r⟩⟩
theorem pinEq_self (p : PinD) : pinEq p p = true := (pinEq_iff p p).2 rfl
theorem pin_eq (p q : PinD) (w : World) : (Op.equalIn 10000 59 (P5 p) (P5 q)).run Tryz.prog w = .ok (pinEq p q) w := by
  have u3 := Tryz.underlying2
  have a3 := Tryz.isAgg2
  have z3 := Tryz.sizeOf2
  have u9 := Tryz.underlying9
  have a9 := Tryz.isAgg9
  have z9 := Tryz.sizeOf9
  have hS : Tryz.prog.underlying 59 = some (.struct (Tryz.prog.fieldsOf 59)) := by kernel_rfl
  have hp : Tryz.prog.stoodInHeld 59 = false := by kernel_rfl
  rw [show (10000 : Nat) = 9999 + 1 from rfl, run_equalIn_agg w 9999 59 _ _ hS hp]
  simp only [Program.fieldsOf, Tryz.underlying59]
  go_simp
  unfold pinEq
  by_cases h0 : p.n.toList = q.n.toList <;> by_cases h1 : p.a = q.a <;> by_cases h2 : p.b = q.b <;> by_cases h3 : p.e = q.e <;> by_cases h4 : p.u = q.u <;> simp only [h0, h1, h2, h3, h4, if_true, if_false, and_true, and_false, and_self, decide_true, decide_false]
theorem pin_neq (p q : PinD) (w : World) : (binOp .neq 59 (P5 p) (P5 q)).run Tryz.prog w = .ok (.bool (!pinEq p q)) w := by
  rw [run_neq_struct, pin_eq]
  rfl
theorem pin_eql (p q : PinD) (w : World) : (binOp .eql 59 (P5 p) (P5 q)).run Tryz.prog w = .ok (.bool (pinEq p q)) w := by
  rw [run_eql_struct, pin_eq]
  rfl
theorem pin_guard (op : BinOp) (x y : Operand) (p q : PinD) (w : World) : (eqGuard op 59 x y (P5 p) (P5 q)).run Tryz.prog w = .ok () w := run_eqGuard_agg w op 59 x y _ _ (by kernel_rfl)

def sameL : List PinD → List PinD → Bool
  | [], [] => true
  | p :: r, q :: s => pinEq p q && sameL r s
  | _, _ => false
theorem sameL_self : ∀ ps : List PinD, sameL ps ps = true
  | [] => rfl
  | p :: r => by rw [sameL, pinEq_self, sameL_self r]; rfl
theorem sameL_len : ∀ {ps qs : List PinD}, ps.length ≠ qs.length → sameL ps qs = false
  | [], [], h => absurd rfl h
  | [], _ :: _, _ => rfl
  | _ :: _, [], _ => rfl
  | p :: r, q :: s, h => by rw [sameL, sameL_len (ps := r) (qs := s) (by simpa using h), Bool.and_false]
theorem sameL_step {ps qs : List PinD} {k : Nat} (h1 : k < ps.length) (h2 : k < qs.length) : sameL (ps.drop k) (qs.drop k) = (pinEq (ps[k]?.getD pin0) (qs[k]?.getD pin0) && sameL (ps.drop (k + 1)) (qs.drop (k + 1))) := by
  have e : ∀ {ps : List PinD}, k < ps.length → ps.drop k = (ps[k]?.getD pin0) :: ps.drop (k + 1) := fun hk => by
    rw [List.drop_eq_getElem_cons hk, List.getElem?_eq_getElem hk]
    rfl
  rw [e h1, e h2]
  rfl
def SameRel (w : World) (ps qs : List PinD) (t : Bool) (k : Nat) (wr : World) : Prop := sameL (ps.drop k) (qs.drop k) = t ∧ Below w.heap.size w wr
theorem specSamePins_any (a b : Option Addr) (n m c1 c2 B : Nat) (ps qs : List PinD) (w : World) (hR : PRow w B a n c1 ps) (hQ : PRow w B b m c2 qs) (hB : B ≤ w.heap.size) :
    Calls Tryz.prog 219 #[.slice a n c1, .slice b m c2] w fun e w' => e = .returned (.bool (sameL ps qs)) ∧ Below w.heap.size w w' := by
  have f1 := hR.fits
  have m1 := hR.most
  have f2 := hQ.fits
  have m2 := hQ.most
  unfold maxLen at m1 m2
  have L1 := Lib.hid hR.length
  have L2 := Lib.hid hQ.length
  by_cases hnm : n = m
  · subst hnm
    have T0 : SameRel w ps qs (sameL ps qs) 0 w := ⟨rfl, Below.refl _ _⟩
    generalize sameL ps qs = t at *
    go_enter Tryz.func219, Tryz.ntmps219
    go_wp2_with fail
    go_loopw [5] (fun i wr => ∃ k : Nat, k ≤ n ∧ i = .int .i64 k ∧ SameRel w ps qs t k wr) (fun i _ => n - (intOf i).toNat)
    case atStart => exact ⟨0, Nat.zero_le _, rfl, T0⟩
    case round =>
      obtain ⟨k, hk, rfl, ht, hb⟩ := hrel
      by_cases hlt : k < n
      · obtain ⟨b1, o1, ha1, hb1, c0, c1, c2, c3, c4⟩ := (hR.below (hb.mono hB)).at' hlt
        obtain ⟨b2, o2, ha2, hb2, d0, d1, d2, d3, d4⟩ := (hQ.below (hb.mono hB)).at' hlt
        have hs := sameL_step (k := k) (ps := ps) (qs := qs) (by rw [L1.out]; exact hlt) (by rw [L2.out]; exact hlt)
        rw [ht] at hs
        have N := fun w => pin_neq (ps[k]?.getD pin0) (qs[k]?.getD pin0) w
        have G := fun op x y w => pin_guard op x y (ps[k]?.getD pin0) (qs[k]?.getD pin0) w
        have HB := Lib.hid hb
        clear hb hR hQ ht T0
        subst ha1
        subst ha2
        generalize ps[k]?.getD pin0 = p at *
        generalize qs[k]?.getD pin0 = q at *
        generalize pinEq p q = c at *
        cases c
        · rw [Bool.false_and] at hs
          subst hs
          go_wp2_with fail
          refine wp_region_line (Bel wr) [(0, true), (1, true), (2, true), (3, true), (4, true), (5, true), (6, true), (7, true), (8, true)] (by kernel_rfl) (by kernel_rfl) (fun _ _ d _ _ h => by cases d <;> exact h) (Bel.drew wr) ?_
          have hst := Bel.drew wr
          have inst : Nonempty (Of (Bel wr)) := ⟨⟨_, hst⟩⟩
          have q0 := bel_cell c0
          have q1 := bel_cell c1
          have q2 := bel_cell c2
          have q3 := bel_cell c3
          have q4 := bel_cell c4
          have y0 := bel_cell d0
          have y1 := bel_cell d1
          have y2 := bel_cell d2
          have y3 := bel_cell d3
          have y4 := bel_cell d4
          iterate 9 (refine line_read rfl (by kernel_rfl) (fun K hK => ?_); go_big_quiet_op; refine hK _ ?_; clear hK K)
          refine line_nil ?_
          have bb := btr HB.out hst.out
          clear hst inst q0 q1 q2 q3 q4 y0 y1 y2 y3 y4 c0 c1 c2 c3 c4 d0 d1 d2 d3 d4 HB N G
          go_wp2_with fail
          go_ret
          exact ⟨rfl, bb⟩
        · rw [Bool.true_and] at hs
          have HS := Lib.hid hs
          clear hs
          go_wp2_with fail
          refine wp_region_line (Bel wr) [(0, true), (1, true), (2, true), (3, true), (4, true), (5, true), (6, true), (7, true), (8, true)] (by kernel_rfl) (by kernel_rfl) (fun _ _ d _ _ h => by cases d <;> exact h) (Bel.drew wr) ?_
          have hst := Bel.drew wr
          have inst : Nonempty (Of (Bel wr)) := ⟨⟨_, hst⟩⟩
          have q0 := bel_cell c0
          have q1 := bel_cell c1
          have q2 := bel_cell c2
          have q3 := bel_cell c3
          have q4 := bel_cell c4
          have y0 := bel_cell d0
          have y1 := bel_cell d1
          have y2 := bel_cell d2
          have y3 := bel_cell d3
          have y4 := bel_cell d4
          iterate 9 (refine line_read rfl (by kernel_rfl) (fun K hK => ?_); go_big_quiet_op; refine hK _ ?_; clear hK K)
          refine line_nil ?_
          have bb := btr HB.out hst.out
          clear hst inst q0 q1 q2 q3 q4 y0 y1 y2 y3 y4 c0 c1 c2 c3 c4 d0 d1 d2 d3 d4 HB N G
          go_wp2_with fail
          go_roundw
          case rel => exact ⟨k + 1, by omega, by go_num, HS.out.symm, bb⟩
          case measure => simp [intOf]; omega
      · obtain rfl : k = n := by omega
        have e1 : ps.drop k = [] := List.drop_of_length_le (by rw [L1.out]; omega)
        have e2 : qs.drop k = [] := List.drop_of_length_le (by rw [L2.out]; omega)
        rw [e1, e2] at ht
        have ht' : true = t := ht
        subst ht'
        clear ht e1 e2
        go_wp2_with fail
        go_ret
        exact ⟨rfl, hb⟩
  · have hl : ps.length ≠ qs.length := by rw [L1.out, L2.out]; exact hnm
    rw [sameL_len hl]
    have hnm' : ((n : Int) == (m : Int)) = false := by
      rw [beq_eq_false_iff_ne]
      omega
    clear hR hQ hl
    go_enter Tryz.func219, Tryz.ntmps219
    go_wp2_with fail
    go_ret
    exact ⟨rfl, Below.refl _ _⟩
theorem slicesEqual_any (a b : Option Addr) (n m c1 c2 B : Nat) (ps qs : List PinD) (w : World) (hR : PRow w B a n c1 ps) (hQ : PRow w B b m c2 qs) (hB : B ≤ w.heap.size) :
    Calls Tryz.prog 226 #[.slice a n c1, .slice b m c2] w fun e w' => e = .returned (.bool (sameL ps qs)) ∧ Below w.heap.size w w' := by
  have f1 := hR.fits
  have m1 := hR.most
  have f2 := hQ.fits
  have m2 := hQ.most
  unfold maxLen at m1 m2
  have L1 := Lib.hid hR.length
  have L2 := Lib.hid hQ.length
  by_cases hnm : n = m
  · subst hnm
    have T0 : SameRel w ps qs (sameL ps qs) 0 w := ⟨rfl, Below.refl _ _⟩
    generalize sameL ps qs = t at *
    go_enter Tryz.func226, Tryz.ntmps226
    go_wp2_with fail
    go_loopw [13] (fun i wr => ∃ k : Nat, k ≤ n ∧ i = .int .i64 k ∧ SameRel w ps qs t k wr) (fun i _ => n - (intOf i).toNat)
    case atStart => exact ⟨0, Nat.zero_le _, rfl, T0⟩
    case round =>
      obtain ⟨k, hk, rfl, ht, hb⟩ := hrel
      by_cases hlt : k < n
      · obtain ⟨b1, o1, ha1, hb1, c0, c1, c2, c3, c4⟩ := (hR.below (hb.mono hB)).at' hlt
        obtain ⟨b2, o2, ha2, hb2, d0, d1, d2, d3, d4⟩ := (hQ.below (hb.mono hB)).at' hlt
        have hs := sameL_step (k := k) (ps := ps) (qs := qs) (by rw [L1.out]; exact hlt) (by rw [L2.out]; exact hlt)
        rw [ht] at hs
        have N := fun w => pin_neq (ps[k]?.getD pin0) (qs[k]?.getD pin0) w
        have G := fun op x y w => pin_guard op x y (ps[k]?.getD pin0) (qs[k]?.getD pin0) w
        have HB := Lib.hid hb
        clear hb hR hQ ht T0
        subst ha1
        subst ha2
        generalize ps[k]?.getD pin0 = p at *
        generalize qs[k]?.getD pin0 = q at *
        generalize pinEq p q = c at *
        cases c
        · rw [Bool.false_and] at hs
          subst hs
          go_wp2_with fail
          refine wp_region_line (Bel wr) [(0, true), (1, true), (2, true), (3, true), (4, true), (5, true), (6, true), (7, true), (8, true)] (by kernel_rfl) (by kernel_rfl) (fun _ _ d _ _ h => by cases d <;> exact h) (Bel.drew wr) ?_
          have hst := Bel.drew wr
          have inst : Nonempty (Of (Bel wr)) := ⟨⟨_, hst⟩⟩
          have q0 := bel_cell c0
          have q1 := bel_cell c1
          have q2 := bel_cell c2
          have q3 := bel_cell c3
          have q4 := bel_cell c4
          have y0 := bel_cell d0
          have y1 := bel_cell d1
          have y2 := bel_cell d2
          have y3 := bel_cell d3
          have y4 := bel_cell d4
          iterate 9 (refine line_read rfl (by kernel_rfl) (fun K hK => ?_); go_big_quiet_op; refine hK _ ?_; clear hK K)
          refine line_nil ?_
          have bb := btr HB.out hst.out
          clear hst inst q0 q1 q2 q3 q4 y0 y1 y2 y3 y4 c0 c1 c2 c3 c4 d0 d1 d2 d3 d4 HB N G
          go_wp2_with fail
          go_ret
          exact ⟨rfl, bb⟩
        · rw [Bool.true_and] at hs
          have HS := Lib.hid hs
          clear hs
          go_wp2_with fail
          refine wp_region_line (Bel wr) [(0, true), (1, true), (2, true), (3, true), (4, true), (5, true), (6, true), (7, true), (8, true)] (by kernel_rfl) (by kernel_rfl) (fun _ _ d _ _ h => by cases d <;> exact h) (Bel.drew wr) ?_
          have hst := Bel.drew wr
          have inst : Nonempty (Of (Bel wr)) := ⟨⟨_, hst⟩⟩
          have q0 := bel_cell c0
          have q1 := bel_cell c1
          have q2 := bel_cell c2
          have q3 := bel_cell c3
          have q4 := bel_cell c4
          have y0 := bel_cell d0
          have y1 := bel_cell d1
          have y2 := bel_cell d2
          have y3 := bel_cell d3
          have y4 := bel_cell d4
          iterate 9 (refine line_read rfl (by kernel_rfl) (fun K hK => ?_); go_big_quiet_op; refine hK _ ?_; clear hK K)
          refine line_nil ?_
          have bb := btr HB.out hst.out
          clear hst inst q0 q1 q2 q3 q4 y0 y1 y2 y3 y4 c0 c1 c2 c3 c4 d0 d1 d2 d3 d4 HB N G
          go_wp2_with fail
          go_roundw
          case rel => exact ⟨k + 1, by omega, by go_num, HS.out.symm, bb⟩
          case measure => simp [intOf]; omega
      · obtain rfl : k = n := by omega
        have e1 : ps.drop k = [] := List.drop_of_length_le (by rw [L1.out]; omega)
        have e2 : qs.drop k = [] := List.drop_of_length_le (by rw [L2.out]; omega)
        rw [e1, e2] at ht
        have ht' : true = t := ht
        subst ht'
        clear ht e1 e2
        go_wp2_with fail
        go_ret
        exact ⟨rfl, hb⟩
  · have hl : ps.length ≠ qs.length := by rw [L1.out, L2.out]; exact hnm
    rw [sameL_len hl]
    have hnm' : ((n : Int) == (m : Int)) = false := by
      rw [beq_eq_false_iff_ne]
      omega
    clear hR hQ hl
    go_enter Tryz.func226, Tryz.ntmps226
    go_wp2_with fail
    go_ret
    exact ⟨rfl, Below.refl _ _⟩
theorem implSamePins_any (a b : Option Addr) (n m c1 c2 B : Nat) (ps qs : List PinD) (w : World) (hR : PRow w B a n c1 ps) (hQ : PRow w B b m c2 qs) (hB : B ≤ w.heap.size) :
    Calls Tryz.prog 130 #[.slice a n c1, .slice b m c2] w fun e w' => e = .returned (.bool (sameL ps qs)) ∧ Below w.heap.size w w' := by
  have S := slicesEqual_any a b n m c1 c2 B ps qs w hR hQ hB
  generalize sameL ps qs = t at *
  clear hR hQ
  go_enter Tryz.func130, Tryz.ntmps130
  go_wp2_with fail
  refine S.mono ?_
  rintro r u1 ⟨rfl, b1⟩
  go_wp2_with fail
  go_ret
  exact ⟨rfl, b1⟩
end Go.Proofs.YtlodhleihnlchaaGreatDoor
