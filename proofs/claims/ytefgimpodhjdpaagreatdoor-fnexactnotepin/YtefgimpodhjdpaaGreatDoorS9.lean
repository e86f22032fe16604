/- Texts of this seat that several laws rest on, laid into one. Conditions: as each theorem states. -/
import Derived.Test.YtefgimpodhjdpaaGreatDoorS7
import Derived.Test.YtefgimpodhjdpaaGreatDoorS8
import Derived.Deep.WholeRow
import Derived.Deep.DeepCutAuto
namespace Go.Proofs.YtefgimpodhjdpaaGreatDoor
open Go.RowKit
set_option maxRecDepth 100000
set_option linter.unusedVariables false

theorem u8_size : (Tryz.prog.info? 5).map (·.size) = some 1 := by kernel_rfl
theorem copyBytes_any (a : Option Addr) (len cap B : Nat) (zs : List Int) (w : World) (hR : Row .u8 w B a len cap zs) (hB : B ≤ w.heap.size) (hl : len ≤ 1048576) :
    Calls Tryz.prog 108 #[.slice a len cap] w (Copied .u8 len zs w) := by
  obtain ⟨i0, hi0, hz0, hz1, hz2⟩ := info_parts u8_info
  have hmk : ∀ W : World, (Instr.makeSlice 22 (.int .i64 (len : Int)) (.int .i64 (len : Int))).run Tryz.prog W = .ok (.slice (some ⟨W.heap.size, 0, none⟩) len len) (W.alloc (.cells (madeCells #[.int .u8 0] len) 5)) := by
    intro W
    have := run_make (P := Tryz.prog) W 22 5 i0 (.int .u8 0) Tryz.underlying22 hi0 hz0 .i64 .i64 len len (by omega) (by omega) (by rw [hz2]; omega) (by omega)
    simpa [hz1, Value.cells] using this
  have hL := Lib.hid hR.length
  clear hi0 hz0 hz1 hz2
  have b0 := bal (Below.refl _ w) (.cells (madeCells #[.int .u8 0] len) 5)
  have R1 := hR.below (b0.mono hB)
  have eM : madeCells #[Value.int .u8 0] len = (List.replicate len (Value.int .u8 0)).toArray := by
    apply Array.ext'
    rw [toList_madeCells_one]
  have hg : (w.alloc (.cells (madeCells #[.int .u8 0] len) 5)).heap[w.heap.size]? = some (.cells (List.replicate len (Value.int .u8 0)).toArray 5 (0, 0)) := by
    rw [eM]; exact (MapKept.heap_alloc w _).1
  obtain ⟨X, hX⟩ : ∃ X, X = zs.map (Value.int .u8) := ⟨_, rfl⟩
  have hXl : X.length = len := by rw [hX]; simpa using hR.length
  have h1 : ∀ v ∈ X, v.oneCell' = true := by rw [hX]; exact ints_oneCell .u8 zs
  have hsrc : 0 < X.length → (some ⟨w.heap.size, 0, none⟩ : Option Addr) = some ⟨w.heap.size, 0, none⟩ ∧ ∃ ad, a = some ad ∧ ∀ j v, X[j]? = some v → (w.alloc (.cells (madeCells #[.int .u8 0] len) 5)).cell? (ad.add j) = some v := by
    intro hp
    obtain ⟨b, off, rfl, hb, hc⟩ := R1.cells (by omega)
    refine ⟨rfl, _, rfl, fun j v hv => ?_⟩
    have hj := (List.getElem?_eq_some_iff.1 hv).1
    rw [hXl] at hj
    rw [Addr.add_lit, hc j hj, ← hv, hX]
    simp [List.getD, show j < zs.length by rw [hR.length]; exact hj]
  have HX := Lib.hid hX
  have HXl := Lib.hid hXl
  have HG := Lib.hid hg
  have HS := Lib.hid hsrc
  clear hX hXl hg hsrc eM R1 hR
  go_enter Tryz.func108, Tryz.ntmps108
  go_wp2_with (with_reducible refine wpList_copy_splice rfl (.tmp 7) (.tmp 8) 22 22 rfl 5 Tryz.underlying22 u8_size _ _ len len len cap rfl rfl w.heap.size 0 (List.replicate len (Value.int .u8 0)) 5 HG.out X (by rw [HXl.out]; simp) HS.out (by rw [HXl.out]; simp) h1 w.heap.size w b0 (Nat.le_refl _) ?_; intro w2 HG2 b2)
  have hG2 := HG2.out
  have eS : splice (List.replicate len (Value.int .u8 0)) 0 X = zs.map (Value.int .u8) := by
    rw [← HX.out]
    simp [splice, HXl.out]
  rw [eS] at hG2
  have F := Lib.hid (And.intro (own_blk (B := w.heap.size) hG2 (Nat.le_refl _) hL.out (by simp only [maxLen]; omega)) b2)
  clear HG2 hG2 eS b2
  go_ret
  exact ⟨rfl, F.out.1, F.out.2⟩

theorem l1Copy_any (a : Option Addr) (len cap B : Nat) (zs : List Int) (w : World) (hR : Row .u8 w B a len cap zs) (hB : B ≤ w.heap.size) (hl : len ≤ 1048576) :
    Calls Tryz.prog 136 #[.slice a len cap] w (Made zs w) := by
  obtain ⟨i0, hi0, hz0, hz1, hz2⟩ := info_parts u8_info
  have R1 := hR.alloc hB (.cells #[] 5)
  have hs := R1.src (P := Tryz.prog) (tx := 22) Tryz.underlying22
  have b0 := bal (Below.refl _ w) (.cells #[] 5)
  have hL := Lib.hid hR.length
  clear hR R1
  go_enter Tryz.func136, Tryz.ntmps136
  go_wp2_with (at_builtin; refine wpList_append_src _ rfl (.tmp 3) (.tmp 4) 22 22 rfl w.heap.size 5 i0 (.int .u8 0) 1 1 Tryz.underlying22 hi0 hz0 hz1 hz2 rfl _ 0 [] rfl (own_empty w 5) _ len _ rfl hs (by simp only [maxLen]; omega) (by omega) (by simp) ?_; intro v w2 hown hgrow hat)
  have O2 : OwnK .u8 w2 w.heap.size v zs := by
    unfold OwnK
    rw [hL.out]
    simpa using hown
  have b2 : Below w.heap.size w w2 := (own_empty w 5).grown b0 (by simp) hgrow
  obtain ⟨a', cap', hv, -⟩ := O2.form
  have F := Lib.hid (And.intro O2 b2)
  clear hown hgrow hat O2 b2 hs b0
  subst hv
  go_wp2_with fail
  go_ret
  exact ⟨_, _, _, rfl, F.out.1, F.out.2⟩

theorem bytesEqual_any {B : Nat} {a b : Option Addr} {n1 n2 c1 c2 : Nat} {xs ys : List Int} {w : World} (hR : Row .u8 w B a n1 c1 xs) (hQ : Row .u8 w B b n2 c2 ys) :
    Calls Tryz.prog 83 #[.slice a n1 c1, .slice b n2 c2] w fun r w' => r = .returned (.bool (decide (xs = ys))) ∧ w = w' := by
  have k1 := conv_row hR
  have k2 := conv_row hQ
  have k3 := strOf_beq hR.bytes hQ.bytes
  generalize decide (xs = ys) = b at *
  clear hR hQ
  generalize strOf xs = S at *
  generalize strOf ys = T at *
  go_enter Tryz.func83, Tryz.ntmps83
  go_wp2_with fail
  go_ret
  simp
end Go.Proofs.YtefgimpodhjdpaaGreatDoor
namespace Go.Proofs.YtefgimpodhjdpaaGreatDoor
open Go.RowKit
set_option maxRecDepth 100000
set_option linter.unusedVariables false

/-- A journal's cells: twelve records of at most forty bytes, how long each is; how many they are; how many are safe. -/
def jget (rs : List (List Int)) (n s : Int) (i : Nat) : Value :=
  if i = 492 then .int .i64 n else if i = 493 then .int .i64 s else if i % 41 = 40 then .int .i64 (((rs[i / 41]?.getD []).length : Nat) : Int) else .int .u8 ((rs[i / 41]?.getD []).getD (i % 41) 0)
def jour (rs : List (List Int)) (n s : Int) : List Value := (List.range 494).map (jget rs n s)
section
variable (rs : List (List Int)) (n s : Int)
theorem jour_len : (jour rs n s).length = 494 := by simp [jour]
theorem jour_at {i : Nat} (h : i < 494) : (jour rs n s)[i]? = some (jget rs n s i) := by simp [jour, h]
theorem jget_one (i : Nat) : (jget rs n s i).oneCell' = true := by
  unfold jget
  repeat' split
  all_goals rfl
theorem jour_one : ∀ v ∈ jour rs n s, v.oneCell' = true := by
  intro v hv
  simp only [jour, List.mem_map] at hv
  obtain ⟨i, _, rfl⟩ := hv
  exact jget_one rs n s i
theorem jour_all : (jour rs n s).toArray.all (·.oneCell') = true := all_oneCell_toArray (jour_one rs n s)
theorem jour_count : (jour rs n s)[492]? = some (.int .i64 n) := by rw [jour_at rs n s (by omega)]; rfl
theorem jour_safe : (jour rs n s)[493]? = some (.int .i64 s) := by rw [jour_at rs n s (by omega)]; rfl
theorem jour_size {k : Nat} (hk : k < 12) : (jour rs n s)[41 * k + 40]? = some (.int .i64 (((rs[k]?.getD []).length : Nat) : Int)) := by
  rw [jour_at rs n s (by omega), jget, if_neg (by omega), if_neg (by omega), if_pos (by omega), show (41 * k + 40) / 41 = k by omega]
theorem jour_byte {k i : Nat} (hk : k < 12) (hi : i < 40) : (jour rs n s)[41 * k + i]? = some (.int .u8 ((rs[k]?.getD []).getD i 0)) := by
  rw [jour_at rs n s (by omega), jget, if_neg (by omega), if_neg (by omega), if_neg (by omega), show (41 * k + i) / 41 = k by omega, show (41 * k + i) % 41 = i by omega]
theorem list_ext {xs ys : List Value} (hl : xs.length = ys.length) (h : ∀ i, i < xs.length → xs[i]? = ys[i]?) : xs = ys := by
  apply List.ext_getElem? 
  intro i
  rcases Nat.lt_or_ge i xs.length with hi | hi
  · exact h i hi
  · rw [List.getElem?_eq_none hi, List.getElem?_eq_none (by omega)]
theorem jour_begin (k : Int) : ((jour rs n s).set 492 (.int .i64 k)).set 493 (.int .i64 k) = jour rs k k := by
  refine list_ext (by simp [jour]) fun i hi => ?_
  have hi' : i < 494 := by simpa [jour] using hi
  rw [jour_at rs k k hi']
  by_cases h1 : i = 493
  · subst h1; simp [jour, jget]
  · by_cases h2 : i = 492
    · subst h2; simp [jour, jget]
    · rw [List.getElem?_set_ne (by omega), List.getElem?_set_ne (by omega), jour_at rs n s hi']
      unfold jget
      rw [if_neg h2, if_neg h1, if_neg h2, if_neg h1]
theorem jour_mark (k : Int) : (jour rs n s).set 493 (.int .i64 k) = jour rs n k := by
  refine list_ext (by simp [jour]) fun i hi => ?_
  have hi' : i < 494 := by simpa [jour] using hi
  rw [jour_at rs n k hi']
  by_cases h1 : i = 493
  · subst h1; simp [jour, jget]
  · rw [List.getElem?_set_ne (by omega), jour_at rs n s hi']
    unfold jget
    rw [if_neg h1, if_neg h1]
theorem jour_with (zs : List Int) (hk : rs.length < 12) (hz : zs.length ≤ 40) :
    ((splice (jour rs n s) (41 * rs.length) (zs.map (Value.int .u8))).set (41 * rs.length + 40) (.int .i64 (zs.length : Int))).set 492 (.int .i64 (n + 1)) = jour (rs ++ [zs]) (n + 1) s := by
  have hsl : (splice (jour rs n s) (41 * rs.length) (zs.map (Value.int .u8))).length = 494 := by
    rw [length_splice _ _ _ (by rw [jour_len]; simp; omega), jour_len]
  refine list_ext (by rw [List.length_set, List.length_set, hsl, jour_len]) fun i hi => ?_
  have hi' : i < 494 := by rwa [List.length_set, List.length_set, hsl] at hi
  rw [jour_at _ _ _ hi']
  by_cases h1 : i = 492
  · subst h1
    rw [List.getElem?_set_self (by simp [hsl])]
    rfl
  rw [List.getElem?_set_ne (by omega)]
  by_cases h2 : i = 41 * rs.length + 40
  · subst h2
    rw [List.getElem?_set_self (by rw [hsl]; omega), jget, if_neg (by omega), if_neg (by omega), if_pos (by omega), show (41 * rs.length + 40) / 41 = rs.length by omega]
    simp
  rw [List.getElem?_set_ne (by omega)]
  unfold splice
  by_cases h3 : i < 41 * rs.length
  · rw [List.getElem?_append_left (by simp [jour]; omega), List.getElem?_take_of_lt h3, jour_at rs n s hi']
    unfold jget
    have hd : i / 41 < rs.length := by omega
    rw [if_neg h1, if_neg h1]
    by_cases h4 : i = 493
    · omega
    rw [if_neg h4, if_neg h4, List.getElem?_append_left hd]
  · have hlt : ((jour rs n s).take (41 * rs.length)).length = 41 * rs.length := by simp [jour]; omega
    rw [List.getElem?_append_right (by omega), hlt]
    by_cases h5 : i < 41 * rs.length + zs.length
    · rw [List.getElem?_append_left (by simp; omega)]
      have e1 : i / 41 = rs.length := by omega
      have e2 : i % 41 = i - 41 * rs.length := by omega
      have h40 : i - 41 * rs.length < 40 := by omega
      rw [jget, if_neg h1, if_neg (by omega), if_neg (by omega), e1, e2]
      simp [show i - 41 * rs.length < zs.length by omega]
    · rw [List.getElem?_append_right (by simp; omega), List.getElem?_drop]
      simp only [List.length_map]
      rw [show 41 * rs.length + zs.length + (i - 41 * rs.length - zs.length) = i by omega, jour_at rs n s hi']
      unfold jget
      rw [if_neg h1, if_neg h1]
      by_cases h4 : i = 493
      · rw [if_pos h4, if_pos h4]
      rw [if_neg h4, if_neg h4]
      by_cases h6 : i / 41 = rs.length
      · rw [h6]
        have e2 : i % 41 = i - 41 * rs.length := by omega
        rw [List.getElem?_append_right (Nat.le_refl _), Nat.sub_self, List.getElem?_eq_none (Nat.le_refl _)]
        rw [if_neg (by omega), if_neg (by omega), e2]
        simp [show zs.length ≤ i - 41 * rs.length by omega]
      · rw [List.getElem?_eq_none (by omega), List.getElem?_eq_none (by simp; omega)]
end
/-- Block g is a journal's. -/
def JB (g : Nat) (cs : List Value) (w : World) : Prop := w.heap[g]? = some (.cells cs.toArray 94)
section
variable {g : Nat} {cs : List Value} {w w' : World}
theorem JB.new (w : World) (cs : List Value) : JB w.heap.size cs (w.alloc (.cells cs.toArray 94)) := (MapKept.heap_alloc w _).1
theorem JB.lt (h : JB g cs w) : g < w.heap.size := (Array.getElem?_eq_some_iff.1 h).1
theorem JB.on (h : JB g cs w) (hb : Below w.heap.size w w') : JB g cs w' := (hb.block g h.lt).trans h
theorem JB.cell (h : JB g cs w) (i : Nat) : w.cell? ⟨g, i, none⟩ = cs[i]? := by
  have := blk_cell h i
  simpa using this
theorem JB.free (h : JB g cs w) (i : Nat) : w.frozen? ⟨g, i, none⟩ = false := blk_free h i
theorem JB.set (h : JB g cs w) (i : Nat) (v : Value) : JB g (cs.set i v) (w.setCell ⟨g, i, none⟩ v) := by
  unfold JB at *
  rw [setCell_eq_setRow w g i _ _ _ v h, setRow_heap w g _ _ _ _ h]
  simp
theorem JB.setB (h : JB g cs w) {p : Addr} (hp : g ≠ p.block) (v : Value) : JB g cs (w.setCell p v) := (Below.heap_setCell w p v g hp).trans h
theorem JB.row (h : JB g cs w) (cs' : List Value) : JB g cs' (w.setRow g cs'.toArray) := setRow_heap w g _ _ _ _ h
theorem JB.rowB (h : JB g cs w) {g' : Nat} (hp : g ≠ g') (cs' : Array Value) : JB g cs (w.setRow g' cs') := (setRow_other w g' g cs' hp).trans h
theorem brow {W w1 : World} (h : Below W.heap.size W w1) {g : Nat} (hg : W.heap.size ≤ g) (cs : Array Value) : Below W.heap.size W (w1.setRow g cs) :=
  h.trans ⟨rfl, rfl, rfl, by simp, fun k hk => setRow_other w1 g k cs (by omega)⟩
end
theorem jour_info : (Tryz.prog.info? 94).map (fun i => (i.zero, i.size)) = some (some (.agg (jour [] 0 0).toArray), 494) := by kernel_rfl
theorem jour_built : Tryz.prog.built 94 [] = some (jour [] 0 0).toArray := by kernel_rfl
theorem JB.at {g : Nat} {cs : List Value} {w : World} (h : JB g cs w) {i : Nat} {v : Value} (hv : cs[i]? = some v) : w.cell? ⟨g, i, none⟩ = some v := (h.cell i).trans hv
theorem jour_fit (rs : List (List Int)) (n s : Int) : (Tryz.prog.info? 94).map (·.size) = some (jour rs n s).toArray.size := by
  rw [(zero_of_info jour_info).2]
  simp [jour]
section
variable {ops : Array Oper} {rest : List Oper} {o : Oper} {a : Act} {w : World} {Q : Exit → Act → World → Prop}
theorem load_jour (cs : List Value) (hgd : o.guard = none) (x : Operand) (ho : o.op = .load 94 x) (g : Nat) (hx : a.eval x = .pointer (some ⟨g, 0, none⟩)) (hg : JB g cs w)
    (hi : (Tryz.prog.info? 94).map (·.size) = some cs.toArray.size) (h : wpList Tryz.prog ops Q rest (a.put o.dst (.agg cs.toArray)) w) : wpList Tryz.prog ops Q (o :: rest) a w :=
  wpList_load_row hgd 94 x ho g hx 94 cs.toArray (0, 0) _ hg Tryz.underlying94 rfl hi h
theorem store_jour (cs old : List Value) (hgd : o.guard = none) (x y : Operand) (ho : o.op = .store 94 x y) (g : Nat) (hx : a.eval x = .pointer (some ⟨g, 0, none⟩)) (hy : a.eval y = .agg cs.toArray) (hg : JB g old w)
    (hi : (Tryz.prog.info? 94).map (·.size) = some cs.toArray.size) (hold : old.toArray.size = cs.toArray.size) (h1 : cs.toArray.all (·.oneCell') = true)
    (h : wpList Tryz.prog ops Q rest (a.put o.dst undef) (w.setRow g cs.toArray)) : wpList Tryz.prog ops Q (o :: rest) a w :=
  wpList_store_row hgd 94 x y ho g cs.toArray hx hy 94 old.toArray hg hi hold h1 h
end
theorem jour_old (rs qs : List (List Int)) (n s m t : Int) : (jour rs n s).toArray.size = (jour qs m t).toArray.size := by simp [jour]
theorem jour_with' (rs : List (List Int)) (n s : Int) (zs : List Int) (hk : rs.length < 12) (hz : zs.length ≤ 40) :
    ((splice (jour rs n s) (rs.length * 41) (zs.map (Value.int .u8))).set (rs.length * 41 + 40) (.int .i64 (zs.length : Int))).set 492 (.int .i64 (n + 1)) = jour (rs ++ [zs]) (n + 1) s := by
  rw [Nat.mul_comm]; exact jour_with rs n s zs hk hz
attribute [irreducible] jour
theorem only_row (w : World) (g : Nat) (cs : Array Value) : Only g w (w.setRow g cs) := ⟨rfl, rfl, rfl, by simp, fun k hk => setRow_other w g k cs hk⟩
/-- A copy turns one block alone. -/
theorem wpList_copy_only {P : Program} {w : World} {ops : Array Oper} {rest : List Oper} {o : Oper} {a : Act} {Q : Exit → Act → World → Prop} (hgd : o.guard = none) (d s : Operand) (dT sT : TypeId)
    (ho : o.op = .call { callee := .builtin .copy, args := #[d, s], argTypes := #[dT, sT] }) (elem : TypeId) (hu : P.underlying dT = some (.slice elem)) (hsz : (P.info? elem).map (·.size) = some 1)
    (dp sp : Option Addr) (dLen dCap sLen sCap : Nat) (hd : a.eval d = .slice dp dLen dCap) (hs : a.eval s = .slice sp sLen sCap)
    (g off : Nat) (cur : List Value) (t : TypeId) (hg : w.heap[g]? = some (.cells cur.toArray t (0, 0))) (cs : List Value) (hn : cs.length = Nat.min sLen dLen)
    (hpos : 0 < cs.length → dp = some ⟨g, off, none⟩ ∧ ∃ ad, sp = some ad ∧ ∀ j v, cs[j]? = some v → w.cell? (ad.add j) = some v)
    (hfit : off + cs.length ≤ cur.length) (h1 : ∀ v ∈ cs, v.oneCell' = true)
    (h : ∀ w', w'.heap[g]? = some (.cells (splice cur off cs).toArray t (0, 0)) → Only g w w' → wpList P ops Q rest (a.put o.dst (goInt cs.length)) w') :
    wpList P ops Q (o :: rest) a w := by
  by_cases h0 : cs.length = 0
  · obtain rfl : cs = [] := List.eq_nil_of_length_eq_zero h0
    refine wpList_copy_nothing hgd d s dT sT ho elem hu hsz dp sp dLen dCap sLen sCap hd hs (by simpa using hn.symm) ?_
    exact h w (by simpa [splice] using hg) (Only.refl _ _)
  · obtain ⟨rfl, ad, rfl, hsrc⟩ := hpos (by omega)
    refine wpList_copy_own hgd d s dT sT ho elem hu hsz g off dLen dCap ad sLen sCap hd hs cur.toArray t hg cs hn hsrc (by simpa using hfit) h1 ?_
    refine h _ ?_ (only_row w g _)
    rw [setRow_heap w g _ _ _ _ hg]
    rfl
theorem splice_at {α : Type} (L : List α) (off : Nat) (cs : List α) {i : Nat} (h : off + cs.length ≤ i) (hf : off ≤ L.length) : (splice L off cs)[i]? = L[i]? := by
  unfold splice
  rw [List.getElem?_append_right (by simp; omega), List.getElem?_append_right (by simp; omega), List.getElem?_drop]
  congr 1
  simp
  omega
theorem JB.only {g g' : Nat} {cs : List Value} {w w' : World} (h : JB g cs w) (ho : Only g' w w') (hg : g ≠ g') : JB g cs w' := (ho.block g hg).trans h
theorem bonly {W w w' : World} {g : Nat} (h : Below W.heap.size W w) (ho : Only g w w') (hg : W.heap.size ≤ g) : Below W.heap.size W w' :=
  h.trans (ho.below hg)
theorem beginning_any (rs : List (List Int)) (n s k : Int) (w : World) :
    Calls Tryz.prog 70 #[.agg (jour rs n s).toArray, .int .i64 k] w fun r w' => r = .returned (.agg (jour rs k k).toArray) ∧ Below w.heap.size w w' := by
  have hz := (zero_of_info jour_info).1
  have HI := Lib.hid (jour_fit rs k k)
  have HE := Lib.hid (jour_begin rs n s k)
  have HS := Lib.hid (jour_old [] rs 0 0 k k)
  have HA := Lib.hid (jour_all rs k k)
  have c0 := jour_count rs n s
  have c1 := jour_safe rs n s
  have b0 := bal (bal (Below.refl _ w) (.cells (jour rs n s).toArray 94)) (.cells (jour [] 0 0).toArray 94)
  have Q0 := (JB.new w (jour rs n s)).on (bal (Below.refl _ _) (.cells (jour [] 0 0).toArray 94))
  have R0 := JB.new (w.alloc (.cells (jour rs n s).toArray 94)) (jour [] 0 0)
  rw [World.size_alloc] at R0
  have d0 := Q0.at c0
  have d1 := Q0.at c1
  have f0 := Q0.free 492
  have f1 := Q0.free 493
  clear c0 c1
  generalize jour [] 0 0 = J0 at *
  generalize jour rs n s = J at *
  generalize jour rs k k = K at *
  have HQ := Lib.hid Q0
  have HR := Lib.hid R0
  have HB := Lib.hid b0
  clear Q0 R0 b0
  go_enter Tryz.func70, Tryz.ntmps70
  go_upto_region 1 with fail
  generalize (w.alloc (.cells J.toArray 94)).alloc (.cells J0.toArray 94) = W0 at *
  go_upto_region 2 with fail
  have Q2 := (HQ.out.set 492 (.int .i64 k)).set 493 (.int .i64 k)
  rw [HE.out] at Q2
  have R2 := (HR.out.setB (p := ⟨w.heap.size, 492, none⟩) (by simp) (.int .i64 k)).setB (p := ⟨w.heap.size, 493, none⟩) (by simp) (.int .i64 k)
  have B2 : Below w.heap.size w ((W0.setCell ⟨w.heap.size, 492, none⟩ (.int .i64 k)).setCell ⟨w.heap.size, 493, none⟩ (.int .i64 k)) := (by (iterate 2 (refine bset ?_ (by dsimp only; omega) _)); exact HB.out)
  have HQ2 := Lib.hid Q2
  have HR2 := Lib.hid R2
  have HB2 := Lib.hid B2
  clear Q2 R2 B2 HQ HR HB d0 d1 f0 f1 HE hz
  generalize (W0.setCell ⟨w.heap.size, 492, none⟩ (.int .i64 k)).setCell ⟨w.heap.size, 493, none⟩ (.int .i64 k) = W2 at *
  go_wp2_with (first | (refine load_jour K rfl (.tmp 2) rfl w.heap.size rfl HQ2.out HI.out ?_) | (refine store_jour K J0 rfl (.tmp 4) (.tmp 9) rfl (w.heap.size + 1) rfl rfl HR2.out HI.out HS.out HA.out ?_))
  simp only [Act.put, List.setIfInBounds_toArray, List.set_cons_zero, List.set_cons_succ]
  exact bodyPost_ret (v := .agg K.toArray) (results_cell_row Tryz.results70 _ _ (w.heap.size + 1) 94 K.toArray (0, 0) _ rfl (HR2.out.row K) Tryz.underlying94 rfl HI.out) rfl ⟨rfl, brow HB2.out (by omega) _⟩
theorem with_any (rs : List (List Int)) (s : Int) (zs : List Int) (a : Option Addr) (len cap B : Nat) (w : World) (hR : Row .u8 w B a len cap zs) (hB : B ≤ w.heap.size) (hn : rs.length < 12) (hl : len ≤ 40) :
    Calls Tryz.prog 61 #[.agg (jour rs rs.length s).toArray, .slice a len cap] w fun r w' => r = .returned (.agg (jour (rs ++ [zs]) (rs.length + 1) s).toArray) ∧ Below w.heap.size w w' := by
  have hz := (zero_of_info jour_info).1
  have hzl := hR.length
  have HI := Lib.hid (jour_fit (rs ++ [zs]) (rs.length + 1) s)
  have HE := Lib.hid (jour_with' rs rs.length s zs hn (by omega))
  have HS := Lib.hid (jour_old [] (rs ++ [zs]) 0 0 (rs.length + 1) s)
  have HA := Lib.hid (jour_all (rs ++ [zs]) (rs.length + 1) s)
  have c0 := jour_count rs rs.length s
  have c1 := jour_byte rs rs.length s (k := rs.length) (i := 0) hn (by omega)
  rw [Nat.add_zero, Nat.mul_comm] at c1
  have c2 := jour_size rs rs.length s (k := rs.length) hn
  rw [Nat.mul_comm] at c2
  have HJL := Lib.hid (jour_len rs rs.length s)
  have b0 := bal (bal (Below.refl _ w) (.cells (jour rs rs.length s).toArray 94)) (.cells (jour [] 0 0).toArray 94)
  have Q0 := (JB.new w (jour rs rs.length s)).on (bal (Below.refl _ _) (.cells (jour [] 0 0).toArray 94))
  have R0 := JB.new (w.alloc (.cells (jour rs rs.length s).toArray 94)) (jour [] 0 0)
  rw [World.size_alloc] at R0
  have d0 := Q0.at c0
  have f0 := Q0.free 492
  have e0 := Q0.at c1
  have R1 := hR.below (b0.mono hB)
  obtain ⟨X, hX⟩ : ∃ X, X = zs.map (Value.int .u8) := ⟨_, rfl⟩
  have hXl : X.length = len := by rw [hX]; simpa using hR.length
  have h1 : ∀ v ∈ X, v.oneCell' = true := by rw [hX]; exact ints_oneCell .u8 zs
  rw [← hX] at HE
  generalize (rs[rs.length]?.getD []).getD 0 0 = v0 at *
  generalize ((rs[rs.length]?.getD []).length : Nat) = v4 at *
  generalize rs.length = n at *
  clear c1
  generalize jour [] 0 0 = J0 at *
  generalize jour rs n s = J at *
  generalize jour (rs ++ [zs]) (n + 1) s = K at *
  have hsrc : 0 < X.length → (some ⟨w.heap.size, n * 41, none⟩ : Option Addr) = some ⟨w.heap.size, n * 41, none⟩ ∧ ∃ ad, a = some ad ∧ ∀ j v, X[j]? = some v → ((w.alloc (.cells J.toArray 94)).alloc (.cells J0.toArray 94)).cell? (ad.add j) = some v := by
    intro hp
    obtain ⟨b, off, rfl, hb, hc⟩ := R1.cells (by omega)
    refine ⟨rfl, _, rfl, fun j v hv => ?_⟩
    have hj := (List.getElem?_eq_some_iff.1 hv).1
    rw [hXl] at hj
    rw [Addr.add_lit, hc j hj, ← hv, hX]
    simp [List.getD, show j < zs.length by rw [hzl]; exact hj]
  obtain ⟨v1, hv1⟩ : ∃ v, (splice J (n * 41) X)[n * 41]? = some v := ⟨_, List.getElem?_eq_getElem (by rw [length_splice _ _ _ (by rw [HJL.out]; omega), HJL.out]; omega)⟩
  have hv2 := (splice_at J (n * 41) X (i := 492) (by omega) (by rw [HJL.out]; omega)).trans c0
  have hv3 := (splice_at J (n * 41) X (i := n * 41 + 40) (by omega) (by rw [HJL.out]; omega)).trans c2
  have HV2 := Lib.hid hv2
  have AT := Lib.hid (fun (w2 : World) (h : JB w.heap.size (splice J (n * 41) X) w2) => And.intro (h.at hv1) (And.intro (h.at hv2) (And.intro (h.at hv3) (And.intro (h.free 492) (h.free (n * 41 + 40))))))
  clear hv1 hv2 hv3
  have HSR := Lib.hid hsrc
  have HXl := Lib.hid hXl
  have H1 := Lib.hid h1
  have HQ := Lib.hid Q0
  have HR := Lib.hid R0
  have HB := Lib.hid b0
  have HZ := Lib.hid hzl
  clear Q0 R0 b0 R1 hR c0 c2 hzl hX hXl h1 hsrc
  go_enter Tryz.func61, Tryz.ntmps61
  go_upto_region 1 with fail
  generalize (w.alloc (.cells J.toArray 94)).alloc (.cells J0.toArray 94) = W0 at *
  go_upto_region 2 with fail
  go_upto_region 3 with (refine wpList_copy_only rfl (.tmp 14) (.tmp 15) 22 22 rfl 5 Tryz.underlying22 u8_size _ _ 40 40 len cap rfl rfl w.heap.size (n * 41) J 94 HQ.out X (by rw [HXl.out]; exact (Nat.min_eq_left hl).symm) HSR.out (by rw [HXl.out, HJL.out]; omega) H1.out ?_; intro w2 HG2 b2; obtain ⟨g1, g2, g3, g4, g5⟩ := AT.out w2 HG2; have HG := Lib.hid HG2; have HO := Lib.hid b2; clear HG2 b2 d0 f0 e0)
  rw [HXl.out]
  have HE2 := HE.out
  rw [HZ.out] at HE2
  have Q3 := JB.set HG.out (n * 41 + 40) (.int .i64 len)
  have R3 := (HR.out.only HO.out (by omega)).setB (p := ⟨w.heap.size, n * 41 + 40, none⟩) (by simp) (.int .i64 len)
  have B3 : Below w.heap.size w (w2.setCell ⟨w.heap.size, n * 41 + 40, none⟩ (.int .i64 len)) := (by (iterate 1 (refine bset ?_ (by dsimp only; omega) _)); exact (bonly HB.out HO.out (Nat.le_refl _)))
  generalize w2.setCell ⟨w.heap.size, n * 41 + 40, none⟩ (.int .i64 len) = W3 at *
  have d0 := Q3.at (i := 492) (by rw [List.getElem?_set_ne (by omega)]; exact HV2.out)
  have f0 := Q3.free 492
  have HQ3 := Lib.hid Q3
  have HR3 := Lib.hid R3
  have HB3 := Lib.hid B3
  have HE3 := Lib.hid HE2
  clear Q3 R3 B3 HE2 HE HG HO g1 g2 g3 g4 g5 AT HSR HQ HR HB HV2
  go_upto_region 4 with fail
  have Q4 := HQ3.out.set 492 (.int .i64 (n + 1))
  rw [HE3.out] at Q4
  have R4 := HR3.out.setB (p := ⟨w.heap.size, 492, none⟩) (by simp) (.int .i64 (n + 1))
  have B4 : Below w.heap.size w (W3.setCell ⟨w.heap.size, 492, none⟩ (.int .i64 (n + 1))) := (by (iterate 1 (refine bset ?_ (by dsimp only; omega) _)); exact HB3.out)
  have HQ4 := Lib.hid Q4
  have HR4 := Lib.hid R4
  have HB4 := Lib.hid B4
  clear Q4 R4 B4 HQ3 HR3 HB3 HE3 d0 f0 hz
  generalize W3.setCell ⟨w.heap.size, 492, none⟩ (.int .i64 (n + 1)) = W4 at *
  go_wp2_with (first | (refine load_jour K rfl (.tmp 2) rfl w.heap.size rfl HQ4.out HI.out ?_) | (refine store_jour K J0 rfl (.tmp 4) (.tmp 23) rfl (w.heap.size + 1) rfl rfl HR4.out HI.out HS.out HA.out ?_))
  simp only [Act.put, List.setIfInBounds_toArray, List.set_cons_zero, List.set_cons_succ]
  exact bodyPost_ret (v := .agg K.toArray) (results_cell_row Tryz.results61 _ _ (w.heap.size + 1) 94 K.toArray (0, 0) _ rfl (HR4.out.row K) Tryz.underlying94 rfl HI.out) rfl ⟨rfl, brow HB4.out (by omega) _⟩
end Go.Proofs.YtefgimpodhjdpaaGreatDoor
namespace Go.Proofs.YtefgimpodhjdpaaGreatDoor
open Go.RowKit
set_option maxRecDepth 100000
set_option linter.unusedVariables false

/-- A journal that has all of rs. -/
def jall (rs : List (List Int)) (s : Int) : List Value := jour rs (rs.length : Nat) s
theorem jall_nil : jall [] 0 = jour [] 0 0 := rfl
theorem jall_len (rs : List (List Int)) (s : Int) : (jall rs s).length = 494 := jour_len _ _ _
theorem jall_fit (rs : List (List Int)) (s : Int) : (Tryz.prog.info? 94).map (·.size) = some (jall rs s).toArray.size := jour_fit _ _ _
theorem jall_one (rs : List (List Int)) (s : Int) : (jall rs s).toArray.all (·.oneCell') = true := jour_all _ _ _
theorem jall_old (rs qs : List (List Int)) (s t : Int) : (jall rs s).toArray.size = (jall qs t).toArray.size := jour_old _ _ _ _ _ _
theorem jall_safe (rs : List (List Int)) (s : Int) : (jall rs s)[493]? = some (.int .i64 s) := jour_safe _ _ _
theorem jall_count (rs : List (List Int)) (s : Int) : (jall rs s)[492]? = some (.int .i64 (rs.length : Nat)) := jour_count _ _ _
theorem jall_mark (rs : List (List Int)) (s t : Int) : (jall rs s).set 493 (.int .i64 t) = jall rs t := jour_mark _ _ _ _
theorem withAll_any (rs : List (List Int)) (s : Int) (zs : List Int) (a : Option Addr) (len cap B : Nat) (w : World) (hR : Row .u8 w B a len cap zs) (hB : B ≤ w.heap.size) (hn : rs.length < 12) (hl : len ≤ 40) :
    Calls Tryz.prog 61 #[.agg (jall rs s).toArray, .slice a len cap] w fun r w' => r = .returned (.agg (jall (rs ++ [zs]) s).toArray) ∧ Below w.heap.size w w' := by
  have h := with_any rs s zs a len cap B w hR hB hn hl
  have e : jour (rs ++ [zs]) (rs.length + 1) s = jall (rs ++ [zs]) s := by
    unfold jall
    congr 1
    simp
  rw [e] at h
  exact h
theorem jall_def (rs : List (List Int)) (s : Int) : jall rs s = jour rs (rs.length : Nat) s := rfl
attribute [irreducible] jall
/-- A disk, a journal and a result, each in a block of its own. -/
structure JSt (W : World) (d r j : Nat) (dv : List Value) (J0 J : List Value) (wr : World) : Prop where
  D : At d dv wr
  R : JB r J0 wr
  J : JB j J wr
  B : Below W.heap.size W wr
section
variable {W wr wr' : World} {d r j : Nat} {dv J0 J : List Value}
theorem JSt.on (h : JSt W d r j dv J0 J wr) (hb : Below wr.heap.size wr wr') : JSt W d r j dv J0 J wr' := ⟨h.D.on hb, h.R.on hb, h.J.on hb, btr h.B hb⟩
theorem JSt.row (h : JSt W d r j dv J0 J wr) (K : List Value) (h1 : d ≠ j) (h2 : r ≠ j) (h3 : W.heap.size ≤ j) : JSt W d r j dv J0 K (wr.setRow j K.toArray) :=
  ⟨h.D.keep fun _ => setRow_other wr j d _ h1, h.R.rowB h2 _, h.J.row K, brow h.B h3 _⟩
theorem JSt.cell (h : JSt W d r j dv J0 J wr) {i : Nat} (v : Value) (h1 : d ≠ j) (h2 : r ≠ j) (h3 : W.heap.size ≤ j) : JSt W d r j dv J0 (J.set i v) (wr.setCell ⟨j, i, none⟩ v) :=
  ⟨h.D.setB h1 v, h.R.setB h2 v, h.J.set i v, bset h.B h3 v⟩
end
set_option maxHeartbeats 1000000 in
theorem journalOf_any (a : Option Addr) (n c B : Nat) (rs : List (List Int)) (s : Int) (w : World) (hG : Grid w B a n c rs) (hB : B ≤ w.heap.size) (hn : rs.length ≤ 12) (hl : rs.any longR = false) :
    Calls Tryz.prog 59 #[.agg #[.slice a n c, .int .i64 s]] w fun r w' => r = .returned (.agg (jall rs s).toArray) ∧ Below w.heap.size w w' := by
  have hz := (zero_of_info jour_info).1
  have hbu := jour_built
  rw [← jall_nil] at hz hbu
  have HL := Lib.hid hG.length
  have HN := Lib.hid (show n ≤ 12 by rw [← hG.length]; exact hn)
  have HLL := Lib.hid hl
  have hlen := hG.fits
  have hmost := hG.most
  unfold maxLen at hmost
  have b0 := bal (bal (Below.refl _ w) (.cells #[.slice a n c, .int .i64 s] 27)) (.cells (jall [] 0).toArray 94)
  have A0 : At w.heap.size [.slice a n c, .int .i64 s] ((w.alloc (.cells #[.slice a n c, .int .i64 s] 27)).alloc (.cells (jall [] 0).toArray 94)) := (At.new w [.slice a n c, .int .i64 s] 27).alloc _
  have R0 := JB.new (w.alloc (.cells #[.slice a n c, .int .i64 s] 27)) (jall [] 0)
  rw [World.size_alloc] at R0
  have sz0 : ((w.alloc (.cells #[.slice a n c, .int .i64 s] 27)).alloc (.cells (jall [] 0).toArray 94)).heap.size = w.heap.size + 2 := by simp
  have HG := Lib.hid (fun (w' : World) (h : Below w.heap.size w w') => hG.below (h.mono hB))
  have HJ := Lib.hid (jall_len [] 0)
  have HF := Lib.hid jall_fit
  have HO := Lib.hid jall_one
  have HOL := Lib.hid jall_old
  clear hG hn hl
  generalize hE : jall [] 0 = E at *
  go_enter Tryz.func59, Tryz.ntmps59
  go_upto_region 1 with fail
  generalize (w.alloc (.cells #[.slice a n c, .int .i64 s] 27)).alloc (.cells E.toArray 94) = W0 at *
  have HA0 := Lib.hid A0
  have HR0 := Lib.hid R0
  have HB0 := Lib.hid b0
  clear A0 R0 b0
  have HZ0 := Lib.hid sz0
  clear sz0
  go_upto_region 2 with (first | (refine wpList_build rfl 94 #[] rfl (by rw [show ((#[] : Array (Nat × Operand)).map fun (i, x) => (i, Act.eval _ x)).toList = [] from rfl, hbu]; rfl) ?_) | (refine store_jour E E rfl (.tmp 3) (.tmp 6) rfl _ rfl rfl (JB.new W0 E) (by rw [← hE]; exact HF.out [] 0) rfl (by rw [← hE]; exact HO.out [] 0) ?_))
  have S1 := (JSt.mk (W := w) (HA0.out.alloc (.cells E.toArray 94)) (HR0.out.on (bal (Below.refl _ W0) _)) (JB.new W0 E) (bal HB0.out _)).row E (by have := HZ0.out; omega) (by have := HZ0.out; omega) (by have := HZ0.out; omega)
  generalize (W0.alloc (.cells E.toArray 94)).setRow W0.heap.size E.toArray = W1 at *
  have hj1 : w.heap.size ≠ W0.heap.size := by have := HZ0.out; omega
  have hj2 : w.heap.size + 1 ≠ W0.heap.size := by have := HZ0.out; omega
  have hj3 : w.heap.size ≤ W0.heap.size := by have := HZ0.out; omega
  generalize W0.heap.size = j at *
  have d0 := S1.D.cell 0 _ rfl
  have HS1 := Lib.hid S1
  clear S1 HA0 HR0 HB0 HZ0 hz hbu
  go_wp2_with fail
  go_loopw [10] (fun i wr => ∃ k : Nat, k ≤ n ∧ i = .int .i64 k ∧ JSt w w.heap.size (w.heap.size + 1) j [.slice a n c, .int .i64 s] E (jall (rs.take k) 0) wr) (fun i _ => n - (intOf i).toNat)
  case atStart => exact ⟨0, Nat.zero_le _, rfl, by rw [List.take_zero, hE]; exact HS1.out⟩
  case round =>
    obtain ⟨k, hk, rfl, hT⟩ := hrel
    clear HS1 d0
    by_cases hlt : k < n
    · obtain ⟨b, off, ha, hb, hc⟩ := (HG.out wr hT.B).cells (by omega)
      obtain ⟨a', n', c', hcell, hrow⟩ := hc k hlt
      have hl2 : k < rs.length := by rw [HL.out]; exact hlt
      have hl40 : n' ≤ 40 := by rw [← hrow.length]; exact long_no HLL.out hl2
      have htk := M.take_snoc rs [] k hl2
      have WA := withAll_any (rs.take k) 0 (rs[k]?.getD []) a' n' c' B wr hrow (Nat.le_trans hB hT.B.size) (by have := HN.out; simp; omega) hl40
      rw [← htk] at WA
      have HT := Lib.hid hT
      have HJK := Lib.hid hT.J
      clear hc hrow hT htk hl2
      subst ha
      go_wp2_with (refine load_jour (jall (rs.take k) 0) rfl (.tmp 3) rfl j rfl HJK.out (HF.out _ _) ?_)
      refine WA.mono ?_
      rintro r w2 ⟨rfl, b2⟩
      have T2 := HT.out.on b2
      have HJ2 := Lib.hid T2.J
      have T3 := Lib.hid (T2.row (jall (rs.take (k + 1)) 0) hj1 hj2 hj3)
      clear T2 HT HJK b2 WA hcell
      go_wp2_with (refine store_jour (jall (rs.take (k + 1)) 0) (jall (rs.take k) 0) rfl (.tmp 3) (.tmp 16) rfl j rfl rfl HJ2.out (HF.out _ _) (HOL.out _ _ _ _) (HO.out _ _) ?_)
      go_roundw
      case rel => exact ⟨k + 1, by omega, by go_num, T3.out⟩
      case measure => simp [intOf]; omega
    · obtain rfl : k = n := by omega
      rw [List.take_of_length_le (by rw [HL.out]; omega)] at hT
      have d0 := hT.D.cell 0 _ rfl
      have d1 := hT.D.cell 1 _ rfl
      have f1 := hT.J.free 493
      have e1 := hT.J.at (jall_safe rs 0)
      have HT := Lib.hid hT
      clear hT
      go_upto_region 8 with fail
      have S8 := HT.out.cell (i := 493) (.int .i64 s) hj1 hj2 hj3
      rw [jall_mark] at S8
      have HS8 := Lib.hid S8
      clear S8 HT d0 d1 f1 e1
      generalize wr.setCell ⟨j, 493, none⟩ (.int .i64 s) = W8 at *
      go_wp2_with (first | (refine load_jour (jall rs s) rfl (.tmp 3) rfl j rfl HS8.out.J (HF.out _ _) ?_) | (refine store_jour (jall rs s) E rfl (.tmp 2) (.tmp 21) rfl (w.heap.size + 1) rfl rfl HS8.out.R (HF.out _ _) (by rw [← hE]; exact HOL.out _ _ _ _) (HO.out _ _) ?_))
      simp only [Act.put, List.setIfInBounds_toArray, List.set_cons_zero, List.set_cons_succ]
      exact bodyPost_ret (v := .agg (jall rs s).toArray) (results_cell_row Tryz.results59 _ _ (w.heap.size + 1) 94 (jall rs s).toArray (0, 0) _ rfl (HS8.out.R.row (jall rs s)) Tryz.underlying94 rfl (HF.out _ _)) rfl ⟨rfl, brow HS8.out.B (by omega) _⟩
end Go.Proofs.YtefgimpodhjdpaaGreatDoor
namespace Go.Proofs.YtefgimpodhjdpaaGreatDoor
open Go.RowKit
set_option maxRecDepth 100000
set_option linter.unusedVariables false

/-- A record's cells. -/
def slotL (zs : List Int) : List Value := (List.range 41).map fun i => if i = 40 then .int .i64 ((zs.length : Nat) : Int) else .int .u8 (zs.getD i 0)
theorem slotL_len (zs : List Int) : (slotL zs).length = 41 := by simp [slotL]
theorem slotL_at (zs : List Int) {i : Nat} (h : i < 41) : (slotL zs)[i]? = some (if i = 40 then .int .i64 ((zs.length : Nat) : Int) else .int .u8 (zs.getD i 0)) := by simp [slotL, h]
theorem slotL_size (zs : List Int) : (slotL zs)[40]? = some (.int .i64 ((zs.length : Nat) : Int)) := by rw [slotL_at zs (by omega)]; rfl
theorem slotL_one (zs : List Int) : (slotL zs).toArray.all (·.oneCell') = true := all_oneCell_toArray fun v hv => by
  simp only [slotL, List.mem_map] at hv
  obtain ⟨i, _, rfl⟩ := hv
  split <;> rfl
theorem JB.slot {g : Nat} {rs : List (List Int)} {n s : Int} {w : World} (h : JB g (jour rs n s) w) {k : Nat} (hk : k < 12) : w.rangeAt g (k * 41) (slotL (rs[k]?.getD [])) := by
  intro j v hv
  have hj : j < 41 := by have := (List.getElem?_eq_some_iff.1 hv).1; rwa [slotL_len] at this
  rw [slotL_at _ hj] at hv
  injection hv with hv
  subst hv
  rw [Nat.mul_comm]
  by_cases h40 : j = 40
  · subst h40
    exact h.at (jour_size rs n s hk)
  · rw [if_neg h40]
    exact h.at (jour_byte rs n s hk (by omega))
theorem slot_fit (zs : List Int) : (Tryz.prog.info? 91).map (·.size) = some (slotL zs).length := by
  rw [slotL_len]
  kernel_rfl
theorem slot_zero : (Tryz.prog.info? 91).map (fun i => (i.zero, i.size)) = some (some (.agg (slotL []).toArray), 41) := by kernel_rfl
theorem slot_row {g : Nat} {zs : List Int} {w : World} (h : At g (slotL zs) w) (hl : zs.length ≤ 40) (hw : ∀ z ∈ zs, (Lit.int .u8 z).wf = true) : Row .u8 w w.heap.size (some ⟨g, 0, none⟩) zs.length 40 zs :=
  ⟨rfl, hw, hl, by simp only [maxLen]; omega, fun hp => ⟨g, 0, rfl, h.lt (by rw [slotL_len]; omega), fun j hj => by
    rw [Nat.zero_add]
    refine h.cell j _ ?_
    rw [slotL_at zs (by omega), if_neg (by omega)]⟩⟩
attribute [irreducible] slotL
/-- A journal, a result and a disk that is made, each in a block of its own. -/
structure DSt (W : World) (j r d : Nat) (J : List Value) (v : Value) (s : Int) (zss : List (List Int)) (xs : List Value) (wr : World) : Prop where
  J : JB j J wr
  R : At r [.slice none 0 0, .int .i64 0] wr
  D : At d [v, .int .i64 s] wr
  G : OwnG wr W.heap.size wr.heap.size v zss xs
  B : Below W.heap.size W wr
  off : ∀ k, v.ownBlock = some k → k ≠ j ∧ k ≠ r ∧ k ≠ d
  offx : ∀ (i : Nat) (u : Value) (k : Nat), xs[i]? = some u → u.ownBlock = some k → k ≠ r ∧ k ≠ d
  le : W.heap.size ≤ d
section
variable {W wr w1 w2 : World} {j r d : Nat} {J : List Value} {v : Value} {s : Int} {zss : List (List Int)} {xs : List Value}
theorem DSt.on (h : DSt W j r d J v s zss xs wr) (hb : Below wr.heap.size wr w1) : DSt W j r d J v s zss xs w1 :=
  ⟨h.J.on hb, h.R.on hb, h.D.on hb, (h.G.below hb).more hb.size (Nat.le_refl _), btr h.B hb, h.off, h.offx, h.le⟩
/-- One more record was appended, and the slice stored. -/
theorem DSt.app (h : DSt W j r d J v s zss xs wr) {v' u : Value} {zs : List Int} (hb : Below wr.heap.size wr w1) (hu : OwnK .u8 w1 wr.heap.size u zs)
    (ho : Own w2 W.heap.size 1 v' (zss.length + 1) (xs ++ [u])) (hg : w1.grownBy w2 v.ownBlock) (hat : v'.ownBlock = v.ownBlock ∨ v'.ownBlock = some w1.heap.size)
    (hd : d ≠ j) (hr : d ≠ r) : DSt W j r d J v' s (zss ++ [zs]) (xs ++ [u]) (w2.setCell ⟨d, 0, none⟩ v') := by
  have T := h.on hb
  have hB := h.B.size
  have hsz := hb.size
  have hJ : JB j J w2 := (hg.block j T.J.lt (fun e => (h.off j e.symm).1 rfl)).trans T.J
  have hR := T.R.kept hg (fun e => (h.off r e.symm).2.1 rfl)
  have hD := T.D.kept hg (fun e => (h.off d e.symm).2.2 rfl)
  have lts : j < w1.heap.size ∧ r < w1.heap.size ∧ d < w1.heap.size := ⟨T.J.lt, T.R.lt (by simp), T.D.lt (by simp)⟩
  have G2 := OwnG.app h.G hB hb hu ho hg hat
  have off2 : ∀ k, v'.ownBlock = some k → k ≠ j ∧ k ≠ r ∧ k ≠ d := fun k e => by
    rcases hat with ha | ha
    · rw [ha] at e; exact h.off k e
    · rw [ha] at e; injection e with e; omega
  have ltd := h.D.lt (by simp)
  have ltr := h.R.lt (by simp)
  have off3 : ∀ (i : Nat) (x : Value) (k : Nat), (xs ++ [u])[i]? = some x → x.ownBlock = some k → k ≠ r ∧ k ≠ d := fun i x k hx e => by
    rcases Nat.lt_or_ge i xs.length with hi | hi
    · rw [List.getElem?_append_left hi] at hx
      exact h.offx i x k hx e
    · rw [List.getElem?_append_right hi] at hx
      have h0 := (List.getElem?_eq_some_iff.1 hx).1
      simp at h0
      rw [h0] at hx
      simp at hx
      subst hx
      have := (Own.lt hu k e).1
      omega
  have hB2 : Below W.heap.size W w2 := T.B.grown hg (Nat.le_trans hB hsz) fun k e => (h.G.own.lt k e).1
  refine ⟨hJ.setB (Ne.symm hd) _, hR.setB (Ne.symm hr) _, by simpa using hD.set 0 v', ?_, bset hB2 h.le _, off2, off3, h.le⟩
  have hk : ∀ k, k ≠ d → (w2.setCell ⟨d, 0, none⟩ v').heap[k]? = w2.heap[k]? := fun k hk => Below.heap_setCell w2 ⟨d, 0, none⟩ v' k hk
  have G3 := G2.keepP (w' := w2.setCell ⟨d, 0, none⟩ v') (by simp [World.setCell]) (fun k e => hk k (off2 k e).2.2) (fun i x k hx e => hk k (off3 i x k hx e).2)
  rw [show (w2.setCell ⟨d, 0, none⟩ v').heap.size = w2.heap.size by simp [World.setCell]]
  exact G3
end
theorem OwnG.fresh {w : World} {lo : Nat} {v : Value} (h : Own w lo 1 v 0 []) : OwnG w lo w.heap.size v [] [] :=
  ⟨h, Nat.le_refl _, fun k e => (h.lt k e).2, fun j u hu => by simp at hu, fun i j u1 u2 _ hu => by simp at hu⟩
theorem DSt.new {W x : World} {j r d : Nat} {J : List Value} {v v0 : Value} {s s0 : Int} (hJ : JB j J x) (hR : At r [.slice none 0 0, .int .i64 0] x) (hD : At d [v0, .int .i64 s0] x) (hO : Own x W.heap.size 1 v 0 []) (hB : Below W.heap.size W x)
    (off : ∀ k, v.ownBlock = some k → k ≠ j ∧ k ≠ r ∧ k ≠ d) (hj : d ≠ j) (hr : d ≠ r) (le : W.heap.size ≤ d) : DSt W j r d J v s [] [] ((x.setCell ⟨d, 0, none⟩ v).setCell ⟨d, 1, none⟩ (.int .i64 s)) := by
  have hO2 := (hO.setCell (p := ⟨d, 0, none⟩) (fun k e => (off k e).2.2) v).setCell (p := ⟨d, 1, none⟩) (fun k e => (off k e).2.2) (.int .i64 s)
  exact ⟨(hJ.setB (Ne.symm hj) _).setB (Ne.symm hj) _, (hR.setB (Ne.symm hr) _).setB (Ne.symm hr) _, by simpa using (hD.set 0 v).set 1 (.int .i64 s), OwnG.fresh hO2, bset (bset hB le _) le _, off, fun i u k hu => by simp at hu, le⟩
theorem slices_info : (Tryz.prog.info? 22).map (fun i => (i.zero, i.size, i.bytes)) = some (some (.slice none 0 0), 1, 24) := by kernel_rfl
/-- A disk of new memory was answered. -/
def DiskRes (rs : List (List Int)) (s : Int) (w : World) (e : Ending) (w' : World) : Prop :=
  ∃ a n c xs, e = .returned (.agg #[.slice a n c, .int .i64 s]) ∧ OwnG w' w.heap.size w'.heap.size (.slice a n c) rs xs ∧ Below w.heap.size w w'
theorem run_slots (g n : Nat) (hn : n ≤ 12) (W : World) : (Instr.sliceAt 92 (.pointer (some ⟨g, 0, none⟩)) none (some (.int .i64 (n : Int))) none).run Tryz.prog W = .ok (.slice (some ⟨g, 0, none⟩) n 12) W := by
  have hu : Tryz.prog.underlying 92 = some (.array (Tryz.prog.arrayLen 92) (Tryz.prog.elem 92)) := by kernel_rfl
  have hl : Tryz.prog.arrayLen 92 = 12 := by kernel_rfl
  have he : Tryz.prog.elem 92 = 91 := by kernel_rfl
  have hs : (sizeOf 91).run Tryz.prog W = .ok 41 W := by
    have h := (zero_of_info slot_zero).2
    cases hq : Tryz.prog.info? 91 with
    | none => rw [hq] at h; cases h
    | some i =>
      rw [hq] at h
      simp at h
      simp [sizeOf, typeInfo, hq, h]
  rw [run_sliceAt_array_h W _ _ hu .i64 n (by omega) (by rw [hl]; omega), he, hl, hs]
  simp [slicedAt, Result.andThen, Addr.add_lit]
theorem run_room (g n : Nat) (hn : n ≤ 40) (W : World) : (Instr.sliceAt 89 (.pointer (some ⟨g, 0, none⟩)) none (some (.int .i64 (n : Int))) none).run Tryz.prog W = .ok (.slice (some ⟨g, 0, none⟩) n 40) W := by
  have hu : Tryz.prog.underlying 89 = some (.array (Tryz.prog.arrayLen 89) (Tryz.prog.elem 89)) := by kernel_rfl
  have hl : Tryz.prog.arrayLen 89 = 40 := by kernel_rfl
  have he : Tryz.prog.elem 89 = 5 := by kernel_rfl
  have hs : (sizeOf 5).run Tryz.prog W = .ok 1 W := by
    obtain ⟨i0, hi0, hz0, hz1, hz2⟩ := info_parts u8_info
    simp [sizeOf, typeInfo, hi0, hz1]
  rw [run_sliceAt_array_h W _ _ hu .i64 n (by omega) (by rw [hl]; omega), he, hl, hs]
  simp [slicedAt, Result.andThen, Addr.add_lit]
set_option maxHeartbeats 1000000 in
theorem disk_any (rs : List (List Int)) (n : Nat) (s : Int) (w : World) (hn : n ≤ rs.length) (h12 : rs.length ≤ 12) (hl : rs.any longR = false) (hw : ∀ zs ∈ rs, ∀ z ∈ zs, (Lit.int .u8 z).wf = true) :
    Calls Tryz.prog 63 #[.agg (jour rs n s).toArray] w (DiskRes (rs.take n) s w) := by
  obtain ⟨i0, hi0, hz0, hz1, hz2⟩ := info_parts slices_info
  have hmk : ∀ W : World, (Instr.makeSlice 25 (.int .i64 0) (.int .i64 (n : Int))).run Tryz.prog W = .ok (.slice (some ⟨W.heap.size, 0, none⟩) 0 n) (W.alloc (.cells (madeCells #[.slice none 0 0] n) 22)) := by
    intro W
    have := run_make (P := Tryz.prog) W 25 22 i0 (.slice none 0 0) Tryz.underlying25 hi0 hz0 .i64 .i64 0 n (by omega) (by omega) (by rw [hz2]; omega) (by omega)
    simpa [hz1, Value.cells] using this
  have hzs := (zero_of_info slot_zero).1
  have b0 := bal (bal (Below.refl _ w) (.cells (jour rs n s).toArray 94)) (.cells #[.slice none 0 0, .int .i64 0] 27)
  have Q0 := (JB.new w (jour rs n s)).on (bal (Below.refl _ _) (.cells #[.slice none 0 0, .int .i64 0] 27))
  have R0 := At.new (w.alloc (.cells (jour rs n s).toArray 94)) [.slice none 0 0, .int .i64 0] 27
  rw [World.size_alloc] at R0
  have sz0 : ((w.alloc (.cells (jour rs n s).toArray 94)).alloc (.cells #[.slice none 0 0, .int .i64 0] 27)).heap.size = w.heap.size + 2 := by simp
  have d0 := Q0.at (jour_count rs n s)
  have d1 := Q0.at (jour_safe rs n s)
  have HJC := Lib.hid (jour_count rs n s)
  have HSLOT := Lib.hid (fun (g : Nat) (wr : World) (k : Nat) (h : JB g (jour rs n s) wr) (hk : k < 12) => JB.slot (g := g) (rs := rs) (n := n) (s := s) (w := wr) h hk)
  have HN := Lib.hid hn
  have H12 := Lib.hid h12
  have HLL := Lib.hid hl
  have HW := Lib.hid hw
  clear hn hl hw
  have hn12 : n ≤ 12 := by have := HN.out; omega
  clear h12
  generalize jour rs n s = J at *
  go_enter Tryz.func63, Tryz.ntmps63
  go_upto_region 1 with fail
  generalize (w.alloc (.cells J.toArray 94)).alloc (.cells #[.slice none 0 0, .int .i64 0] 27) = W0 at *
  have HQ := Lib.hid Q0
  have HR := Lib.hid R0
  have HB := Lib.hid b0
  have HZ := Lib.hid sz0
  clear Q0 R0 b0 sz0
  go_cut [3] from 6 to 11 (fun v' wx => ∃ d g, v' = .pointer (some ⟨d, 0, none⟩) ∧ d ≠ w.heap.size ∧ d ≠ w.heap.size + 1 ∧ DSt w w.heap.size (w.heap.size + 1) d J (.slice (some ⟨g, 0, none⟩) 0 n) s [] [] wx)
  case first =>
    refine wp_region_fork (Bel W0) (by kernel_rfl) (Bel.drew W0) ?_
    have hst : (Bel W0) _ := (Bel.drew W0)
    have inst : Nonempty (Of (Bel W0)) := ⟨⟨_, hst⟩⟩
    have u0 := bel_cell d0
    have u1 := bel_cell d1
    have HV := Lib.hid (show W0.drew.heap.size = w.heap.size + 2 from HZ.out)
    have HQ1 := Lib.hid (HQ.out.on (bdrew W0))
    have HR1 := Lib.hid (HR.out.on (bdrew W0))
    have HB1 := Lib.hid (btr HB.out (bdrew W0))
    have hm4 : n ≤ maxLen := by simp only [maxLen]; omega
    generalize W0.drew = V1 at *
    refine any_seg 4 [(0, true), (1, true), (3, true), (4, true)] (by kernel_rfl) (fun _ _ d _ _ h => by cases d <;> exact h) ?_
    iterate 4 (refine line_read rfl (by kernel_rfl) (fun K hK => ?_); go_big_quiet_op; refine hK _ ?_; clear hK K)
    refine line_nil ?_
    clear u0 u1 d0 d1
    refine any_fork 2 6 (by kernel_rfl) rfl rfl (by kernel_rfl) (by kernel_rfl) (fun K hK => ?_) (fun K hK => ?_)
    · go_big_op
      have O1 := Own.made (size := 1) (B := w.heap.size) V1 (madeCells #[.slice none 0 0] n) 22 n (by have := HV.out; omega) hm4 (by rw [size_madeCells]; simp)
      have hst2 := hst.on (bal (Below.refl _ V1) (.cells (madeCells #[.slice none 0 0] n) 22))
      have HQ2 := Lib.hid (HQ1.out.on (bal (Below.refl _ V1) (.cells (madeCells #[.slice none 0 0] n) 22)))
      have HR2 := Lib.hid (HR1.out.on (bal (Below.refl _ V1) (.cells (madeCells #[.slice none 0 0] n) 22)))
      have HB2 := Lib.hid (bal HB1.out (.cells (madeCells #[.slice none 0 0] n) 22))
      have HV2 := Lib.hid (show (V1.alloc (.cells (madeCells #[.slice none 0 0] n) 22)).heap.size = V1.heap.size + 1 by simp)
      refine hK _ _ hst2 ?_
      clear hK K hst hmk
      have hst := hst2
      clear hst2
      generalize V1.alloc (.cells (madeCells #[.slice none 0 0] n) 22) = x1 at *
      generalize V1.heap.size = mg at *
      refine any_rest [(5, true), (6, false), (7, false)] (by kernel_rfl) (fun _ _ d _ _ h => by cases d <;> exact h) ?_
      refine line_readv (v := .agg #[.slice (some ⟨mg, 0, none⟩) 0 n, .int .i64 s]) rfl (by kernel_rfl) (fun _ => by kernel_rfl) ?_
      simp only [Act.put, List.setIfInBounds_toArray, List.set_cons_zero, List.set_cons_succ]
      refine line_alone rfl (by kernel_rfl) (fun K hK => ?_)
      go_big_op
      have A := At.new x1 [.slice none 0 0, .int .i64 0] 27
      have b3 := bal (Below.refl _ x1) (.cells #[.slice none 0 0, .int .i64 0] 27)
      have hst2 := hst.on b3
      have leA : W0.heap.size ≤ x1.heap.size := hst.out.size
      have DN := Lib.hid (DSt.new (s := s) (HQ2.out.on b3) (HR2.out.on b3) A (O1.below b3) (btr HB2.out b3) (fun k e => by simp [Value.ownBlock] at e; have := HV.out; have := HV2.out; omega) (by have := HV.out; have := HV2.out; omega) (by have := HV.out; have := HV2.out; omega) (by have := HV.out; have := HV2.out; omega))
      refine hK _ _ hst2 ?_
      clear hK K hst b3 O1 HQ2 HR2 HB2
      have hst := hst2
      clear hst2
      have hd1 : x1.heap.size ≠ w.heap.size := by have := HV.out; have := HV2.out; omega
      have hd2 : x1.heap.size ≠ w.heap.size + 1 := by have := HV.out; have := HV2.out; omega
      generalize x1.alloc (.cells #[.slice none 0 0, .int .i64 0] 27) = xa at *
      generalize x1.heap.size = d at *
      have p0 := A.cell 0 _ rfl
      have p1 := A.cell 1 _ rfl
      have f0 := A.free 0 _ rfl
      have f1 := A.free 1 _ rfl
      refine line_alone rfl (by kernel_rfl) (fun K hK => ?_)
      go_big_op
      refine hK _ _ (⟨(by (iterate 2 (refine bset ?_ (by dsimp only; omega) _)); exact hst.out)⟩) ?_
      clear hK K
      refine line_nil ?_
      clear hst A p0 p1 f0 f1
      go_wp2_with fail
      go_meet
      case rel => exact ⟨d, mg, rfl, hd1, hd2, DN.out⟩
    · go_big_op
      have A := At.new V1 [.slice none 0 0, .int .i64 0] 27
      have b3 := bal (Below.refl _ V1) (.cells #[.slice none 0 0, .int .i64 0] 27)
      have hst2 := hst.on b3
      have HQ2 := Lib.hid (HQ1.out.on b3)
      have HR2 := Lib.hid (HR1.out.on b3)
      have HB2 := Lib.hid (btr HB1.out b3)
      have HV2 := Lib.hid (show (V1.alloc (.cells #[.slice none 0 0, .int .i64 0] 27)).heap.size = V1.heap.size + 1 by simp)
      have leA : W0.heap.size ≤ V1.heap.size := hst.out.size
      refine hK _ _ hst2 ?_
      clear hK K hst b3
      have hst := hst2
      clear hst2
      have hd1 : V1.heap.size ≠ w.heap.size := by have := HV.out; omega
      have hd2 : V1.heap.size ≠ w.heap.size + 1 := by have := HV.out; omega
      generalize V1.alloc (.cells #[.slice none 0 0, .int .i64 0] 27) = x1 at *
      generalize V1.heap.size = d at *
      refine any_rest [(2, false), (5, true), (7, false)] (by kernel_rfl) (fun _ _ d _ _ h => by cases d <;> exact h) ?_
      refine line_alone rfl (by kernel_rfl) (fun K hK => ?_)
      go_big_op
      have O1 := Own.made (size := 1) (B := w.heap.size) x1 (madeCells #[.slice none 0 0] n) 22 n (by have := HV.out; have := HV2.out; omega) hm4 (by rw [size_madeCells]; simp)
      have b4 := bal (Below.refl _ x1) (.cells (madeCells #[.slice none 0 0] n) 22)
      have hst2 := hst.on b4
      have A4 := A.on b4
      have DN := Lib.hid (DSt.new (s := s) (HQ2.out.on b4) (HR2.out.on b4) A4 O1 (btr HB2.out b4) (fun k e => by simp [Value.ownBlock] at e; have := HV.out; have := HV2.out; omega) (by have := HV.out; omega) (by have := HV.out; omega) (by have := HV.out; omega))
      refine hK _ _ hst2 ?_
      clear hK K hst hmk b4 O1 HQ2 HR2 HB2 A
      have hst := hst2
      clear hst2
      generalize x1.alloc (.cells (madeCells #[.slice none 0 0] n) 22) = xa at *
      generalize x1.heap.size = mg at *
      refine line_readv (v := .agg #[.slice (some ⟨mg, 0, none⟩) 0 n, .int .i64 s]) rfl (by kernel_rfl) (fun _ => by kernel_rfl) ?_
      simp only [Act.put, List.setIfInBounds_toArray, List.set_cons_zero, List.set_cons_succ]
      have p0 := A4.cell 0 _ rfl
      have p1 := A4.cell 1 _ rfl
      have f0 := A4.free 0 _ rfl
      have f1 := A4.free 1 _ rfl
      refine line_alone rfl (by kernel_rfl) (fun K hK => ?_)
      go_big_op
      refine hK _ _ (⟨(by (iterate 2 (refine bset ?_ (by dsimp only; omega) _)); exact hst.out)⟩) ?_
      clear hK K
      refine line_nil ?_
      clear hst A4 p0 p1 f0 f1
      go_wp2_with fail
      go_meet
      case rel => exact ⟨d, mg, rfl, hd1, hd2, DN.out⟩
  case rest =>
    obtain ⟨d, g, rfl, hd1, hd2, T0⟩ := hcut
    clear HQ HR HB HZ d0 d1 hmk
    have q0 := T0.J.at HJC.out
    have HT0 := Lib.hid T0
    clear T0
    have hsl := fun W => run_slots w.heap.size n hn12 W
    go_wp2_with fail
    go_loopw [17] (fun i wr => ∃ (k : Nat) (v : Value) (xs : List Value), k ≤ n ∧ i = .int .i64 k ∧ DSt w w.heap.size (w.heap.size + 1) d J v s (rs.take k) xs wr) (fun i _ => n - (intOf i).toNat)
    case atStart => exact ⟨0, _, _, Nat.zero_le _, rfl, HT0.out⟩
    case round =>
      obtain ⟨k, v, xs, hk, rfl, hT⟩ := hrel
      clear HT0 q0
      by_cases hlt : k < n
      · have hl2 : k < rs.length := by have := HN.out; omega
        have RG := Lib.hid (HSLOT.out w.heap.size wr k hT.J (by omega))
        have hz40 := long_no HLL.out hl2
        have HTK := Lib.hid (M.take_snoc rs [] k hl2)
        have HLK := Lib.hid (show (rs.take k).length = k by simp; omega)
        have hzw := HW.out (rs[k]?.getD []) (by rw [List.getElem?_eq_getElem hl2]; exact List.getElem_mem hl2)
        have HT := Lib.hid hT
        generalize rs[k]?.getD [] = zs at *
        have HZW := Lib.hid hzw
        have HSF := Lib.hid (slot_fit zs)
        have HSO := Lib.hid (slotL_one zs)
        have HSF2 := Lib.hid (show (Tryz.prog.info? 91).map (·.size) = some (slotL zs).toArray.size by rw [slot_fit zs]; simp)
        have HSZ := Lib.hid (show (slotL []).toArray.size = (slotL zs).toArray.size by simp [slotL_len])
        clear hT hl2 hzw
        go_upto_region 5 with (first | (refine wpList_load_mid rfl 91 (.tmp 19) rfl w.heap.size (k * 41) rfl (slotL zs) _ RG.out Tryz.underlying91 rfl HSF.out ?_) | (refine wpList_store_row rfl 91 (.tmp 5) (.tmp 20) rfl wr.heap.size (slotL zs).toArray rfl rfl 91 (slotL []).toArray (MapKept.heap_alloc wr _).1 HSF2.out HSZ.out HSO.out ?_; rw [World.setRow_alloc_new]))
        have L0 := At.new wr (slotL zs) 91
        have HT2 := Lib.hid (HT.out.on (bal (Below.refl _ wr) (.cells (slotL zs).toArray 91)))
        have B2 := bal (Below.refl _ wr) (.cells (slotL zs).toArray 91)
        clear RG HSF HSF2 HSO HSZ
        have hld : d ≠ wr.heap.size := by have := HT.out.D.lt (by simp); omega
        have hlv : ∀ k, v.ownBlock = some k → k ≠ wr.heap.size := fun k e => by have := (HT.out.G.own.lt k e).2; omega
        have hd0 : w.heap.size ≤ d := HT.out.le
        clear HT
        generalize wr.alloc (.cells (slotL zs).toArray 91) = W4 at *
        generalize wr.heap.size = lb at *
        simp only [Act.put]
        refine wp_region_fork (Hold w lb (slotL zs)) (by kernel_rfl) (⟨HT2.out.B.drew, L0.on (bdrew _)⟩) ?_
        have hst : (Hold w lb (slotL zs)) _ := (⟨HT2.out.B.drew, L0.on (bdrew _)⟩)
        have inst : Nonempty (Of (Hold w lb (slotL zs))) := ⟨⟨_, hst⟩⟩
        have HT1 := Lib.hid (HT2.out.on (bdrew W4))
        clear HT2
        generalize W4.drew = V1 at *
        have u4 := hold_cell (W := w) (g := lb) 40 _ (slotL_size zs)
        have u5 := fun W => run_room lb zs.length hz40 W
        refine any_seg 6 [(0, true), (2, true), (3, true), (4, true), (5, true)] (by kernel_rfl) (fun _ _ d _ _ h => by cases d <;> exact h) ?_
        iterate 5 (refine line_read rfl (by kernel_rfl) (fun K hK => ?_); go_big_quiet_op; refine hK _ ?_; clear hK K)
        refine line_nil ?_
        clear u4 u5
        refine any_fork 1 6 (by kernel_rfl) rfl rfl (by kernel_rfl) (by kernel_rfl) (fun K hK => ?_) (fun K hK => ?_)
        · have e1 := (HT1.out).D.cell 0 _ rfl
          go_big_op
          refine hK _ _ hst ?_
          clear hK K e1
          refine any_rest [(6, false), (7, false), (8, false), (9, true), (10, false)] (by kernel_rfl) (fun _ _ d _ _ h => by cases d <;> exact h) ?_
          refine line_alone rfl (by kernel_rfl) (fun K hK => ?_)
          refine call_any (args := #[.slice (some ⟨lb, 0, none⟩) zs.length 40]) rfl (by kernel_rfl) (by kernel_rfl) (copyBytes_any _ _ _ _ zs _ (slot_row hst.at' hz40 HZW.out) (Nat.le_refl _) (by omega)) ?_
          rintro e x6 ⟨rfl, O6, b6⟩
          have hst2 := hst.on b6
          refine ⟨_, rfl, hK _ _ hst2 ?_⟩
          clear hK K hst
          have hst := hst2
          clear hst2
          simp only [Act.put, List.setIfInBounds_toArray, List.set_cons_zero, List.set_cons_succ]
          refine line_alone rfl (by kernel_rfl) (fun K hK => ?_)
          go_big_op
          have SR := Lib.hid (src_new (P := Tryz.prog) x6 [.slice (some ⟨V1.heap.size, 0, none⟩) zs.length zs.length] 1 1 22 25 22 Tryz.underlying25 rfl (by intro u hu; simp at hu; subst hu; rfl))
          have b7 := btr b6 (bal (Below.refl _ x6) (.cells #[.slice (some ⟨V1.heap.size, 0, none⟩) zs.length zs.length] 22))
          have O7 := Lib.hid (O6.alloc (.cells #[.slice (some ⟨V1.heap.size, 0, none⟩) zs.length zs.length] 22))
          have hst2 := hst.on (bal (Below.refl _ x6) (.cells #[.slice (some ⟨V1.heap.size, 0, none⟩) zs.length zs.length] 22))
          refine hK _ _ hst2 ?_
          clear hK K hst O6 b6
          have hst := hst2
          clear hst2
          have hc7 : (x6.alloc (.cells [Value.slice (some ⟨V1.heap.size, 0, none⟩) zs.length zs.length].toArray 22)) = x6.alloc (.cells #[.slice (some ⟨V1.heap.size, 0, none⟩) zs.length zs.length] 22) := rfl
          rw [hc7] at SR
          clear hc7
          generalize x6.alloc (.cells #[.slice (some ⟨V1.heap.size, 0, none⟩) zs.length zs.length] 22) = x7 at *
          generalize x6.heap.size = lit at *
          refine line_alone rfl (by kernel_rfl) (fun K hK => ?_)
          have HT7 := Lib.hid (HT1.out.on b7)
          refine wp_append_src _ (.tmp 22) (.tmp 28) 25 25 rfl w.heap.size 22 i0 (.slice none 0 0) 1 24 Tryz.underlying25 hi0 hz0 hz1 hz2 rfl v k xs rfl (by have := HT7.out.G.own; rwa [HLK.out] at this) _ 1 [.slice (some ⟨V1.heap.size, 0, none⟩) zs.length zs.length] rfl SR.out (by simp only [maxLen]; omega) (by omega) (Nat.le_trans HT7.out.B.size (Nat.le_refl _)) (fun v8 w8 hown hgrow hat => ?_)
          obtain ⟨a8, c8, hv8, -⟩ := Own.form hown
          subst hv8
          have T8 := Lib.hid (HT1.out.app b7 O7.out (by rw [HLK.out]; exact hown) hgrow hat hd1 hd2)
          have D8 := HT7.out.D.kept hgrow (fun e => (HT7.out.off d e.symm).2.2 rfl)
          have B8 : Below w.heap.size w w8 := HT7.out.B.grown hgrow HT7.out.B.size fun k e => (HT7.out.G.own.lt k e).1
          have L8 := hst.at'.kept hgrow (fun e => hlv lb e.symm rfl)
          have hst2 : Hold w lb (slotL zs) w8 := ⟨B8, L8⟩
          refine hK _ _ hst2 ?_
          clear hK K hst hown hgrow hat O7 SR HT7 b7 B8 L8
          have hst := hst2
          clear hst2
          simp only [Act.put, List.setIfInBounds_toArray, List.set_cons_zero, List.set_cons_succ]
          have p0 := D8.cell 0 _ rfl
          have p1 := D8.cell 1 _ rfl
          have f0 := D8.free 0 _ rfl
          have f1 := D8.free 1 _ rfl
          iterate 1 (refine line_read rfl (by kernel_rfl) (fun K hK => ?_); go_big_quiet_op; refine hK _ ?_; clear hK K)
          refine line_alone rfl (by kernel_rfl) (fun K hK => ?_)
          go_big_op
          refine hK _ _ (hst.setB (p := ⟨d, 0, none⟩) hd0 (fun e => hld e.symm) _) ?_
          clear hK K
          refine line_nil ?_
          clear p0 p1 f0 f1 D8
          go_wp2_with fail
          go_roundw
          case rel => exact ⟨k + 1, _, _, by omega, by go_num, by rw [HTK.out]; exact T8.out⟩
          case measure => simp [intOf]; omega
        · refine call_any (args := #[.slice (some ⟨lb, 0, none⟩) zs.length 40]) rfl (by kernel_rfl) (by kernel_rfl) (copyBytes_any _ _ _ _ zs _ (slot_row hst.at' hz40 HZW.out) (Nat.le_refl _) (by omega)) ?_
          rintro e x6 ⟨rfl, O6, b6⟩
          have hst2 := hst.on b6
          refine ⟨_, rfl, hK _ _ hst2 ?_⟩
          clear hK K hst
          have hst := hst2
          clear hst2
          simp only [Act.put, List.setIfInBounds_toArray, List.set_cons_zero, List.set_cons_succ]
          refine any_fork 1 7 (by kernel_rfl) rfl rfl (by kernel_rfl) (by kernel_rfl) (fun K hK => ?_) (fun K hK => ?_)
          · have e1 := (HT1.out.on b6).D.cell 0 _ rfl
            go_big_op
            refine hK _ _ hst ?_
            clear hK K e1
            refine any_rest [(7, false), (8, false), (9, true), (10, false)] (by kernel_rfl) (fun _ _ d _ _ h => by cases d <;> exact h) ?_
            refine line_alone rfl (by kernel_rfl) (fun K hK => ?_)
            go_big_op
            have SR := Lib.hid (src_new (P := Tryz.prog) x6 [.slice (some ⟨V1.heap.size, 0, none⟩) zs.length zs.length] 1 1 22 25 22 Tryz.underlying25 rfl (by intro u hu; simp at hu; subst hu; rfl))
            have b7 := btr b6 (bal (Below.refl _ x6) (.cells #[.slice (some ⟨V1.heap.size, 0, none⟩) zs.length zs.length] 22))
            have O7 := Lib.hid (O6.alloc (.cells #[.slice (some ⟨V1.heap.size, 0, none⟩) zs.length zs.length] 22))
            have hst2 := hst.on (bal (Below.refl _ x6) (.cells #[.slice (some ⟨V1.heap.size, 0, none⟩) zs.length zs.length] 22))
            refine hK _ _ hst2 ?_
            clear hK K hst O6 b6
            have hst := hst2
            clear hst2
            have hc7 : (x6.alloc (.cells [Value.slice (some ⟨V1.heap.size, 0, none⟩) zs.length zs.length].toArray 22)) = x6.alloc (.cells #[.slice (some ⟨V1.heap.size, 0, none⟩) zs.length zs.length] 22) := rfl
            rw [hc7] at SR
            clear hc7
            generalize x6.alloc (.cells #[.slice (some ⟨V1.heap.size, 0, none⟩) zs.length zs.length] 22) = x7 at *
            generalize x6.heap.size = lit at *
            refine line_alone rfl (by kernel_rfl) (fun K hK => ?_)
            have HT7 := Lib.hid (HT1.out.on b7)
            refine wp_append_src _ (.tmp 22) (.tmp 28) 25 25 rfl w.heap.size 22 i0 (.slice none 0 0) 1 24 Tryz.underlying25 hi0 hz0 hz1 hz2 rfl v k xs rfl (by have := HT7.out.G.own; rwa [HLK.out] at this) _ 1 [.slice (some ⟨V1.heap.size, 0, none⟩) zs.length zs.length] rfl SR.out (by simp only [maxLen]; omega) (by omega) (Nat.le_trans HT7.out.B.size (Nat.le_refl _)) (fun v8 w8 hown hgrow hat => ?_)
            obtain ⟨a8, c8, hv8, -⟩ := Own.form hown
            subst hv8
            have T8 := Lib.hid (HT1.out.app b7 O7.out (by rw [HLK.out]; exact hown) hgrow hat hd1 hd2)
            have D8 := HT7.out.D.kept hgrow (fun e => (HT7.out.off d e.symm).2.2 rfl)
            have B8 : Below w.heap.size w w8 := HT7.out.B.grown hgrow HT7.out.B.size fun k e => (HT7.out.G.own.lt k e).1
            have L8 := hst.at'.kept hgrow (fun e => hlv lb e.symm rfl)
            have hst2 : Hold w lb (slotL zs) w8 := ⟨B8, L8⟩
            refine hK _ _ hst2 ?_
            clear hK K hst hown hgrow hat O7 SR HT7 b7 B8 L8
            have hst := hst2
            clear hst2
            simp only [Act.put, List.setIfInBounds_toArray, List.set_cons_zero, List.set_cons_succ]
            have p0 := D8.cell 0 _ rfl
            have p1 := D8.cell 1 _ rfl
            have f0 := D8.free 0 _ rfl
            have f1 := D8.free 1 _ rfl
            iterate 1 (refine line_read rfl (by kernel_rfl) (fun K hK => ?_); go_big_quiet_op; refine hK _ ?_; clear hK K)
            refine line_alone rfl (by kernel_rfl) (fun K hK => ?_)
            go_big_op
            refine hK _ _ (hst.setB (p := ⟨d, 0, none⟩) hd0 (fun e => hld e.symm) _) ?_
            clear hK K
            refine line_nil ?_
            clear p0 p1 f0 f1 D8
            go_wp2_with fail
            go_roundw
            case rel => exact ⟨k + 1, _, _, by omega, by go_num, by rw [HTK.out]; exact T8.out⟩
            case measure => simp [intOf]; omega
          · go_big_op
            have SR := Lib.hid (src_new (P := Tryz.prog) x6 [.slice (some ⟨V1.heap.size, 0, none⟩) zs.length zs.length] 1 1 22 25 22 Tryz.underlying25 rfl (by intro u hu; simp at hu; subst hu; rfl))
            have b7 := btr b6 (bal (Below.refl _ x6) (.cells #[.slice (some ⟨V1.heap.size, 0, none⟩) zs.length zs.length] 22))
            have O7 := Lib.hid (O6.alloc (.cells #[.slice (some ⟨V1.heap.size, 0, none⟩) zs.length zs.length] 22))
            have hst2 := hst.on (bal (Below.refl _ x6) (.cells #[.slice (some ⟨V1.heap.size, 0, none⟩) zs.length zs.length] 22))
            refine hK _ _ hst2 ?_
            clear hK K hst O6 b6
            have hst := hst2
            clear hst2
            have hc7 : (x6.alloc (.cells [Value.slice (some ⟨V1.heap.size, 0, none⟩) zs.length zs.length].toArray 22)) = x6.alloc (.cells #[.slice (some ⟨V1.heap.size, 0, none⟩) zs.length zs.length] 22) := rfl
            rw [hc7] at SR
            clear hc7
            generalize x6.alloc (.cells #[.slice (some ⟨V1.heap.size, 0, none⟩) zs.length zs.length] 22) = x7 at *
            generalize x6.heap.size = lit at *
            refine any_rest [(1, false), (8, false), (9, true), (10, false)] (by kernel_rfl) (fun _ _ d _ _ h => by cases d <;> exact h) ?_
            refine line_alone rfl (by kernel_rfl) (fun K hK => ?_)
            have e1 := (HT1.out.on b7).D.cell 0 _ rfl
            go_big_op
            refine hK _ _ hst ?_
            clear hK K e1
            refine line_alone rfl (by kernel_rfl) (fun K hK => ?_)
            have HT7 := Lib.hid (HT1.out.on b7)
            refine wp_append_src _ (.tmp 22) (.tmp 28) 25 25 rfl w.heap.size 22 i0 (.slice none 0 0) 1 24 Tryz.underlying25 hi0 hz0 hz1 hz2 rfl v k xs rfl (by have := HT7.out.G.own; rwa [HLK.out] at this) _ 1 [.slice (some ⟨V1.heap.size, 0, none⟩) zs.length zs.length] rfl SR.out (by simp only [maxLen]; omega) (by omega) (Nat.le_trans HT7.out.B.size (Nat.le_refl _)) (fun v8 w8 hown hgrow hat => ?_)
            obtain ⟨a8, c8, hv8, -⟩ := Own.form hown
            subst hv8
            have T8 := Lib.hid (HT1.out.app b7 O7.out (by rw [HLK.out]; exact hown) hgrow hat hd1 hd2)
            have D8 := HT7.out.D.kept hgrow (fun e => (HT7.out.off d e.symm).2.2 rfl)
            have B8 : Below w.heap.size w w8 := HT7.out.B.grown hgrow HT7.out.B.size fun k e => (HT7.out.G.own.lt k e).1
            have L8 := hst.at'.kept hgrow (fun e => hlv lb e.symm rfl)
            have hst2 : Hold w lb (slotL zs) w8 := ⟨B8, L8⟩
            refine hK _ _ hst2 ?_
            clear hK K hst hown hgrow hat O7 SR HT7 b7 B8 L8
            have hst := hst2
            clear hst2
            simp only [Act.put, List.setIfInBounds_toArray, List.set_cons_zero, List.set_cons_succ]
            have p0 := D8.cell 0 _ rfl
            have p1 := D8.cell 1 _ rfl
            have f0 := D8.free 0 _ rfl
            have f1 := D8.free 1 _ rfl
            iterate 1 (refine line_read rfl (by kernel_rfl) (fun K hK => ?_); go_big_quiet_op; refine hK _ ?_; clear hK K)
            refine line_alone rfl (by kernel_rfl) (fun K hK => ?_)
            go_big_op
            refine hK _ _ (hst.setB (p := ⟨d, 0, none⟩) hd0 (fun e => hld e.symm) _) ?_
            clear hK K
            refine line_nil ?_
            clear p0 p1 f0 f1 D8
            go_wp2_with fail
            go_roundw
            case rel => exact ⟨k + 1, _, _, by omega, by go_num, by rw [HTK.out]; exact T8.out⟩
            case measure => simp [intOf]; omega
      · obtain rfl : k = n := by omega
        obtain ⟨a, c, hv, -⟩ := hT.G.form
        rw [show (rs.take k).length = k by have := HN.out; simp; omega] at hv
        subst hv
        have HF := Lib.hid hT
        have R1 := hT.R
        have D1 := hT.D
        clear hT
        have p0 := D1.cell 0 _ rfl
        have p1 := D1.cell 1 _ rfl
        have q0 := R1.cell 0 _ rfl
        have q1 := R1.cell 1 _ rfl
        have f0 := R1.free 0 _ rfl
        have f1 := R1.free 1 _ rfl
        clear D1 R1
        have hne : w.heap.size + 1 ≠ d := Ne.symm hd2
        have G1 := HF.out.G.keepP (w' := (wr.setCell ⟨w.heap.size + 1, 0, none⟩ (.slice a k c)).setCell ⟨w.heap.size + 1, 1, none⟩ (.int .i64 s)) (by simp [World.setCell])
          (fun g e => by
            have hg : g ≠ w.heap.size + 1 := (HF.out.off g e).2.1
            rw [Below.heap_setCell _ _ _ g hg, Below.heap_setCell _ _ _ g hg])
          (fun i x g hx e => by
            have hg : g ≠ w.heap.size + 1 := (HF.out.offx i x g hx e).1
            rw [Below.heap_setCell _ _ _ g hg, Below.heap_setCell _ _ _ g hg])
        have G2 := G1.more (hi' := ((wr.setCell ⟨w.heap.size + 1, 0, none⟩ (.slice a k c)).setCell ⟨w.heap.size + 1, 1, none⟩ (.int .i64 s)).heap.size) G1.top (Nat.le_refl _)
        have B2 : Below w.heap.size w ((wr.setCell ⟨w.heap.size + 1, 0, none⟩ (.slice a k c)).setCell ⟨w.heap.size + 1, 1, none⟩ (.int .i64 s)) := (by (iterate 2 (refine bset ?_ (by dsimp only; omega) _)); exact HF.out.B)
        have GB := Lib.hid (And.intro G2 B2)
        clear G1 G2 B2 HF
        go_wp2_with fail
        exact bodyPost_ret (v := .agg #[.slice a k c, .int .i64 s]) (by simp [results, Tryz.results63, go_sem, q0, q1]) rfl ⟨a, k, c, xs, rfl, GB.out.1, GB.out.2⟩
end Go.Proofs.YtefgimpodhjdpaaGreatDoor
namespace Go.Proofs.YtefgimpodhjdpaaGreatDoor
open Go.RowKit
set_option maxRecDepth 100000
set_option linter.unusedVariables false

/-- A slice that holds two bytes does not lie in a block of one. -/
theorem two_else {w : World} {B : Nat} {v : Value} {a : Int} {x : Value} {t : TypeId} {g k : Nat} (h : OwnK .u8 w B v ([] ++ M.two a)) (he : w.heap[g]? = some (.cells #[x] t)) (hk : v.ownBlock = some k) (ek : k = g) : False := by
  subst ek
  rcases h.2 with ⟨rfl, h0⟩ | ⟨g', c, rfl, _, _, _, _, hcell, _⟩
  · simp [Value.ownBlock] at hk
  · simp [Value.ownBlock] at hk
    subst hk
    have := hcell 1 (.int .u8 (a % 256)) (by simp [M.two])
    unfold World.cell? at this
    rw [he] at this
    simp at this
theorem implPackPin_any (p : PinD) (w : World) (hn : p.n.size ≤ maxLen) :
    Calls Tryz.prog 105 #[P5 p] w (BytesRes p.f (packPL p) w) := by
  have b0 := bal (bal (Below.refl _ w) (.cells #[.string p.n, .int .i64 p.a, .int .i64 p.b, .int .i64 p.e, .int .i64 p.u] 31)) (.cells #[.int .i64 0, .slice none 0 0] 146)
  have A1 : At w.heap.size p.vals ((w.alloc (.cells #[.string p.n, .int .i64 p.a, .int .i64 p.b, .int .i64 p.e, .int .i64 p.u] 31)).alloc (.cells #[.int .i64 0, .slice none 0 0] 146)) := (At.new w p.vals 31).alloc _
  have A2 := At.new (w.alloc (.cells #[.string p.n, .int .i64 p.a, .int .i64 p.b, .int .i64 p.e, .int .i64 p.u] 31)) [.int .i64 0, .slice none 0 0] 146
  simp only [World.size_alloc] at A2
  have F := fun w => implPinFault_any p w hn
  by_cases h : p.f = 0
  · have e : packPL p = packP p := by simp [packPL, h]
    rw [e]
    obtain ⟨hn20, ha, hb, ⟨he0, he1⟩, hu⟩ := pin_bounds h
    have he2 : 0 ≤ p.e := by omega
    obtain ⟨i0, hi0, hz0, hz1, hz2⟩ := info_parts u8_info
    have hmk : ∀ W : World, (Instr.makeSlice 22 (.int .i64 0) (.int .i64 (7 + (p.n.size : Int)))).run Tryz.prog W = .ok (.slice (some ⟨W.heap.size, 0, none⟩) 0 (7 + p.n.size)) (W.alloc (.cells (madeCells #[.int .u8 0] (7 + p.n.size)) 5)) := by
      intro W
      have := run_make (P := Tryz.prog) W 22 5 i0 (.int .u8 0) Tryz.underlying22 hi0 hz0 .i64 .i64 0 (7 + p.n.size) (by omega) (by omega) (by rw [hz2]; omega) (by omega)
      simpa [hz1, Value.cells, show (7 + (p.n.size : Int)).toNat = 7 + p.n.size by omega] using this
    simp only [h] at F ⊢
    clear e h
    go_enter Tryz.func105, Tryz.ntmps105
    go_wp2_with fail
    generalize (w.alloc (.cells #[.string p.n, .int .i64 p.a, .int .i64 p.b, .int .i64 p.e, .int .i64 p.u] 31)).alloc (.cells #[.int .i64 0, .slice none 0 0] 146) = W0 at *
    refine (F _).mono ?_
    rintro r V ⟨rfl, h1⟩
    have bV := btr b0 h1
    have AV := A1.on h1
    have AR := A2.on h1
    have ltV := AR.lt (by simp)
    have d0 := AV.cell 0 _ rfl
    have d1 := AV.cell 1 _ rfl
    have d2 := AV.cell 2 _ rfl
    have d3 := AV.cell 3 _ rfl
    have d4 := AV.cell 4 _ rfl
    clear b0 h1 A1 A2 F
    have O1 : OwnK .u8 (V.alloc (.cells (madeCells #[.int .u8 0] (7 + p.n.size)) 5)).drew V.heap.size (.slice (some ⟨V.heap.size, 0, none⟩) 0 (7 + p.n.size)) [] := by
      have := Own.made (size := 1) (B := V.heap.size) V (madeCells #[.int .u8 0] (7 + p.n.size)) 5 (7 + p.n.size) (Nat.le_refl _) (by simp only [maxLen]; omega) (by rw [size_madeCells]; omega)
      simpa [OwnK] using this.drew
    have S0 : Bel V (V.alloc (.cells (madeCells #[.int .u8 0] (7 + p.n.size)) 5)).drew := ⟨(bal (Below.refl _ V) _).drew⟩
    go_wp2_with fail
    refine wp_region_fork (Bel V) (by kernel_rfl) (S0) ?_
    have hst : (Bel V) _ := (S0)
    have inst : Nonempty (Of (Bel V)) := ⟨⟨_, hst⟩⟩
    have u1 := bel_cell d1
    have u2 := bel_cell d2
    have u3 := bel_cell d3
    generalize (V.alloc (.cells (madeCells #[.int .u8 0] (7 + p.n.size)) 5)).drew = V1 at *
    clear S0
    refine any_seg 5 [(0, true), (1, true), (2, true), (4, true), (5, true), (7, true), (8, true), (9, true)] (by kernel_rfl) (fun _ _ d _ _ h => by cases d <;> exact h) ?_
    iterate 8 (refine line_read rfl (by kernel_rfl) (fun K hK => ?_); go_big_quiet_op; refine hK _ ?_; clear hK K)
    refine line_nil ?_
    clear u1 u2 u3 inst
    have hzV1 := hst.out.size
    refine any_fork 3 10 (by kernel_rfl) rfl rfl (by kernel_rfl) (by kernel_rfl) (fun K hK => ?_) (fun K hK => ?_)
    · refine call_any (args := #[.slice (some ⟨V.heap.size, 0, none⟩) 0 (7 + p.n.size), .int .i64 p.a]) rfl (by kernel_rfl) (by kernel_rfl) (appendTwo_any _ p.a V.heap.size [] _ O1 hzV1 ha (by simp)) ?_
      rintro e w3 ⟨v3, rfl, O3, g3⟩
      have b3 : Below V.heap.size V w3 := Own.grown O1 hst.out hzV1 g3
      refine ⟨_, rfl, hK _ _ ⟨b3⟩ ?_⟩
      clear hK K
      simp only [Act.put, List.setIfInBounds_toArray, List.set_cons_zero, List.set_cons_succ]
      have hz3 := b3.size
      clear O1 hst g3 hzV1
      refine any_fork 6 10 (by kernel_rfl) rfl rfl (by kernel_rfl) (by kernel_rfl) (fun K hK => ?_) (fun K hK => ?_)
      · refine call_any (args := #[v3, .int .i64 p.b]) rfl (by kernel_rfl) (by kernel_rfl) (appendTwo_any _ p.b V.heap.size ([] ++ M.two p.a) _ O3 hz3 hb (by simp [M.two])) ?_
        rintro e w6 ⟨v6, rfl, O6, g6⟩
        have b6 : Below V.heap.size V w6 := Own.grown O3 b3 hz3 g6
        refine ⟨_, rfl, hK _ _ ⟨b6⟩ ?_⟩
        clear hK K
        simp only [Act.put, List.setIfInBounds_toArray, List.set_cons_zero, List.set_cons_succ]
        have hz6 := b6.size
        clear O3 b3 hz3 g6
        refine any_rest [(10, false), (11, false), (12, true)] (by kernel_rfl) (fun _ _ d _ _ h => by cases d <;> exact h) ?_
        refine line_alone rfl (by kernel_rfl) (fun K hK => ?_)
        go_big_op
        refine hK _ _ (⟨bal b6 _⟩) ?_
        clear hK K
        have O10 : OwnK .u8 (w6.alloc (.cells #[.int .u8 p.e] 5)) V.heap.size v6 (M.two p.a ++ M.two p.b) := Own.alloc O6 _
        have b10 := bal b6 (.cells #[.int .u8 p.e] 5)
        have hz10 := b10.size
        have hsr := src_new (P := Tryz.prog) w6 [.int .u8 p.e] 1 1 5 22 5 Tryz.underlying22 rfl (ints_oneCell .u8 [p.e])
        refine line_alone rfl (by kernel_rfl) (fun K hK => ?_)
        refine wp_append_src _ (.tmp 22) (.tmp 26) 22 22 rfl V.heap.size 5 i0 (.int .u8 0) 1 1 Tryz.underlying22 hi0 hz0 hz1 hz2 rfl _ 4 ((M.two p.a ++ M.two p.b).map (Value.int .u8)) rfl O10 _ 1 [.int .u8 p.e] rfl hsr (by simp only [maxLen]; omega) (by omega) hz10 (fun v11 w11 hown hgrow hat => ?_)
        have b11 : Below V.heap.size V w11 := Own.grown O10 b10 hz10 hgrow
        have O11 : OwnK .u8 w11 V.heap.size v11 (M.two p.a ++ M.two p.b ++ [p.e]) := by unfold OwnK; simpa [M.two] using hown
        refine hK _ _ ⟨b11⟩ ?_
        clear hK K hown hgrow hat
        simp only [Act.put, List.setIfInBounds_toArray, List.set_cons_zero, List.set_cons_succ]
        clear O10 b10 hz10 hsr O6 b6 hz6
        have inst : Nonempty (Of (Bel V)) := ⟨⟨_, ⟨b11⟩⟩⟩
        iterate 1 (refine line_read rfl (by kernel_rfl) (fun K hK => ?_); go_big_quiet_op; refine hK _ ?_; clear hK K)
        refine line_nil ?_
        have S6 : Hold w w.heap.size p.vals w11.drew := ⟨(btr bV b11).drew, (AV.on b11).on (bdrew _)⟩
        have b11d : Below V.heap.size V w11.drew := b11.drew
        have O11d : OwnK .u8 w11.drew V.heap.size v11 (M.two p.a ++ M.two p.b ++ [p.e]) := O11
        have hz11 : V.heap.size ≤ w11.drew.heap.size := b11.size
        clear inst b11 O11
        go_wp2_with fail
        refine wp_region_line (Hold w w.heap.size p.vals) [(0, true), (1, true), (2, true), (4, true), (5, true), (3, false), (6, false), (7, true), (8, false)] (by kernel_rfl) (by kernel_rfl) (fun _ _ d _ _ h => by cases d <;> exact h) S6 ?_
        have hst := S6
        have inst : Nonempty (Of (Hold w w.heap.size p.vals)) := ⟨⟨_, hst⟩⟩
        have k0 := hold_cell (W := w) (g := w.heap.size) (cs := p.vals) 0 _ rfl
        have k4 := hold_cell (W := w) (g := w.heap.size) (cs := p.vals) 4 _ rfl
        generalize w11.drew = V6 at *
        iterate 5 (refine line_read rfl (by kernel_rfl) (fun K hK => ?_); go_big_quiet_op; refine hK _ ?_; clear hK K)
        clear k0 k4 S6 hst
        refine line_alone rfl (by kernel_rfl) (fun K hK => ?_)
        refine call_any (args := #[v11, .int .i64 p.u]) rfl (by kernel_rfl) (by kernel_rfl) (appendTwo_any _ p.u V.heap.size _ V6 O11d hz11 hu (by simp [M.two])) ?_
        rintro e w12 ⟨v12, rfl, O12, g12⟩
        have b12 : Below V.heap.size V w12 := Own.grown O11d b11d hz11 g12
        refine ⟨_, rfl, hK _ _ ⟨btr bV b12, AV.on b12⟩ ?_⟩
        clear hK K O11d g12 b11d hz11
        simp only [Act.put, List.setIfInBounds_toArray, List.set_cons_zero, List.set_cons_succ]
        have hz12 := b12.size
        have O12' : OwnK .u8 w12 V.heap.size v12 (headP p.a p.b p.e p.u) := O12
        have hsrc := Src.ofString (P := Tryz.prog) w12 (tx := 9) Tryz.underlying9 p.n
        refine line_alone rfl (by kernel_rfl) (fun K hK => ?_)
        refine wp_append_src _ (.tmp 31) (.tmp 33) 22 9 rfl V.heap.size 5 i0 (.int .u8 0) 1 1 Tryz.underlying22 hi0 hz0 hz1 hz2 rfl _ _ _ rfl O12' _ p.n.size _ rfl hsrc (by rw [headP_length]; simp only [maxLen]; omega) (by rw [headP_length]; omega) hz12 (fun v13 w13 hown hgrow hat => ?_)
        have b13 : Below V.heap.size V w13 := O12'.grown b12 hz12 hgrow
        obtain ⟨a13, c13, hv13, -⟩ := Own.form hown
        have O13 : OwnK .u8 w13 V.heap.size v13 (packP p) := by
          unfold OwnK packP
          rw [List.length_append, M.textL_length, List.map_append]
          have e : (M.textL p.n).map (Value.int .u8) = byteCells p.n := by simp [M.textL, byteCells, List.map_map, Function.comp_def]
          rw [e]
          exact hown
        subst hv13
        refine hK _ _ ⟨btr bV b13, AV.on b13⟩ ?_
        clear hK K hown hgrow hat O12 O12' hsrc
        simp only [Act.put, List.setIfInBounds_toArray, List.set_cons_zero, List.set_cons_succ]
        refine line_readv (v := .agg #[.int .i64 0, .slice a13 ((headP p.a p.b p.e p.u).length + p.n.size) c13]) rfl (by kernel_rfl) (fun _ => by kernel_rfl) ?_
        simp only [Act.put, List.setIfInBounds_toArray, List.set_cons_zero, List.set_cons_succ]
        have AR13 := AR.on b13
        have q0 := AR13.cell 0 _ rfl
        have q1 := AR13.cell 1 _ rfl
        have z0 := AR13.free 0 _ rfl
        have z1 := AR13.free 1 _ rfl
        refine line_alone rfl (by kernel_rfl) (fun K hK => ?_)
        go_big_op
        refine hK _ _ ((by (iterate 2 (refine Hold.setB ?_ (by dsimp only; omega) (by dsimp only; omega) _)); exact ⟨btr bV b13, AV.on b13⟩)) ?_
        clear hK K
        refine line_nil ?_
        have HT := Lib.hid (And.intro O13 (btr bV b13))
        clear O13 b13 AR13 inst AV AR
        go_wp2_with fail
        refine bodyPost_ret (v := .agg #[.int .i64 0, .slice a13 ((headP p.a p.b p.e p.u).length + p.n.size) c13]) (by simp [results, Tryz.results105, go_sem, q0, q1]) rfl ?_
        exact ⟨_, _, _, rfl, (by (iterate 2 (refine Own.setCell ?_ (fun g hg => by have := (HT.out.1.lt g hg).1; dsimp only; omega) _)); exact HT.out.1.less (by omega)), (by (iterate 2 (refine bset ?_ (by dsimp only; omega) _)); exact HT.out.2)⟩
      · go_big_op
        have bX := bal b3 (.cells #[.int .u8 p.e] 5)
        have O3X : OwnK .u8 (w3.alloc (.cells #[.int .u8 p.e] 5)) V.heap.size v3 ([] ++ M.two p.a) := Own.alloc O3 _
        have eX : (w3.alloc (.cells #[.int .u8 p.e] 5)).heap[w3.heap.size]? = some (.cells #[.int .u8 p.e] 5) := (MapKept.heap_alloc w3 _).1
        have hlX : w3.heap.size < (w3.alloc (.cells #[.int .u8 p.e] 5)).heap.size := by simp
        have hnX : ∀ k, v3.ownBlock = some k → k ≠ w3.heap.size := fun k hk => by have := (Own.lt O3 k hk).2; omega
        refine hK _ _ ⟨bX⟩ ?_
        clear hK K O3 b3
        generalize w3.alloc (.cells #[.int .u8 p.e] 5) = X at *
        refine any_rest [(6, false), (11, false), (12, true)] (by kernel_rfl) (fun _ _ d _ _ h => by cases d <;> exact h) ?_
        have hzX := bX.size
        refine line_alone rfl (by kernel_rfl) (fun K hK => ?_)
        refine call_any (args := #[v3, .int .i64 p.b]) rfl (by kernel_rfl) (by kernel_rfl) (appendTwo_any _ p.b V.heap.size ([] ++ M.two p.a) _ O3X hzX hb (by simp [M.two])) ?_
        rintro e w6 ⟨v6, rfl, O6, g6⟩
        have b6 : Below V.heap.size V w6 := Own.grown O3X bX hzX g6
        refine ⟨_, rfl, hK _ _ ⟨b6⟩ ?_⟩
        clear hK K
        simp only [Act.put, List.setIfInBounds_toArray, List.set_cons_zero, List.set_cons_succ]
        have e6 := (g6.block w3.heap.size hlX (fun e => hnX _ e.symm rfl)).trans eX
        have hz6 := b6.size
        have O10 : OwnK .u8 w6 V.heap.size v6 (M.two p.a ++ M.two p.b) := O6
        have hsr := src_at (P := Tryz.prog) w3.heap.size [.int .u8 p.e] 1 1 5 22 5 Tryz.underlying22 rfl (ints_oneCell .u8 [p.e]) e6
        clear O3X bX eX hlX hnX hzX g6 e6
        refine line_alone rfl (by kernel_rfl) (fun K hK => ?_)
        refine wp_append_src _ (.tmp 22) (.tmp 26) 22 22 rfl V.heap.size 5 i0 (.int .u8 0) 1 1 Tryz.underlying22 hi0 hz0 hz1 hz2 rfl _ 4 ((M.two p.a ++ M.two p.b).map (Value.int .u8)) rfl O10 _ 1 [.int .u8 p.e] rfl hsr (by simp only [maxLen]; omega) (by omega) hz6 (fun v11 w11 hown hgrow hat => ?_)
        have b11 : Below V.heap.size V w11 := Own.grown O10 b6 hz6 hgrow
        have O11 : OwnK .u8 w11 V.heap.size v11 (M.two p.a ++ M.two p.b ++ [p.e]) := by unfold OwnK; simpa [M.two] using hown
        refine hK _ _ ⟨b11⟩ ?_
        clear hK K hown hgrow hat
        simp only [Act.put, List.setIfInBounds_toArray, List.set_cons_zero, List.set_cons_succ]
        clear O10 O6 b6 hz6 hsr
        have inst : Nonempty (Of (Bel V)) := ⟨⟨_, ⟨b11⟩⟩⟩
        iterate 1 (refine line_read rfl (by kernel_rfl) (fun K hK => ?_); go_big_quiet_op; refine hK _ ?_; clear hK K)
        refine line_nil ?_
        have S6 : Hold w w.heap.size p.vals w11.drew := ⟨(btr bV b11).drew, (AV.on b11).on (bdrew _)⟩
        have b11d : Below V.heap.size V w11.drew := b11.drew
        have O11d : OwnK .u8 w11.drew V.heap.size v11 (M.two p.a ++ M.two p.b ++ [p.e]) := O11
        have hz11 : V.heap.size ≤ w11.drew.heap.size := b11.size
        clear inst b11 O11
        go_wp2_with fail
        refine wp_region_line (Hold w w.heap.size p.vals) [(0, true), (1, true), (2, true), (4, true), (5, true), (3, false), (6, false), (7, true), (8, false)] (by kernel_rfl) (by kernel_rfl) (fun _ _ d _ _ h => by cases d <;> exact h) S6 ?_
        have hst := S6
        have inst : Nonempty (Of (Hold w w.heap.size p.vals)) := ⟨⟨_, hst⟩⟩
        have k0 := hold_cell (W := w) (g := w.heap.size) (cs := p.vals) 0 _ rfl
        have k4 := hold_cell (W := w) (g := w.heap.size) (cs := p.vals) 4 _ rfl
        generalize w11.drew = V6 at *
        iterate 5 (refine line_read rfl (by kernel_rfl) (fun K hK => ?_); go_big_quiet_op; refine hK _ ?_; clear hK K)
        clear k0 k4 S6 hst
        refine line_alone rfl (by kernel_rfl) (fun K hK => ?_)
        refine call_any (args := #[v11, .int .i64 p.u]) rfl (by kernel_rfl) (by kernel_rfl) (appendTwo_any _ p.u V.heap.size _ V6 O11d hz11 hu (by simp [M.two])) ?_
        rintro e w12 ⟨v12, rfl, O12, g12⟩
        have b12 : Below V.heap.size V w12 := Own.grown O11d b11d hz11 g12
        refine ⟨_, rfl, hK _ _ ⟨btr bV b12, AV.on b12⟩ ?_⟩
        clear hK K O11d g12 b11d hz11
        simp only [Act.put, List.setIfInBounds_toArray, List.set_cons_zero, List.set_cons_succ]
        have hz12 := b12.size
        have O12' : OwnK .u8 w12 V.heap.size v12 (headP p.a p.b p.e p.u) := O12
        have hsrc := Src.ofString (P := Tryz.prog) w12 (tx := 9) Tryz.underlying9 p.n
        refine line_alone rfl (by kernel_rfl) (fun K hK => ?_)
        refine wp_append_src _ (.tmp 31) (.tmp 33) 22 9 rfl V.heap.size 5 i0 (.int .u8 0) 1 1 Tryz.underlying22 hi0 hz0 hz1 hz2 rfl _ _ _ rfl O12' _ p.n.size _ rfl hsrc (by rw [headP_length]; simp only [maxLen]; omega) (by rw [headP_length]; omega) hz12 (fun v13 w13 hown hgrow hat => ?_)
        have b13 : Below V.heap.size V w13 := O12'.grown b12 hz12 hgrow
        obtain ⟨a13, c13, hv13, -⟩ := Own.form hown
        have O13 : OwnK .u8 w13 V.heap.size v13 (packP p) := by
          unfold OwnK packP
          rw [List.length_append, M.textL_length, List.map_append]
          have e : (M.textL p.n).map (Value.int .u8) = byteCells p.n := by simp [M.textL, byteCells, List.map_map, Function.comp_def]
          rw [e]
          exact hown
        subst hv13
        refine hK _ _ ⟨btr bV b13, AV.on b13⟩ ?_
        clear hK K hown hgrow hat O12 O12' hsrc
        simp only [Act.put, List.setIfInBounds_toArray, List.set_cons_zero, List.set_cons_succ]
        refine line_readv (v := .agg #[.int .i64 0, .slice a13 ((headP p.a p.b p.e p.u).length + p.n.size) c13]) rfl (by kernel_rfl) (fun _ => by kernel_rfl) ?_
        simp only [Act.put, List.setIfInBounds_toArray, List.set_cons_zero, List.set_cons_succ]
        have AR13 := AR.on b13
        have q0 := AR13.cell 0 _ rfl
        have q1 := AR13.cell 1 _ rfl
        have z0 := AR13.free 0 _ rfl
        have z1 := AR13.free 1 _ rfl
        refine line_alone rfl (by kernel_rfl) (fun K hK => ?_)
        go_big_op
        refine hK _ _ ((by (iterate 2 (refine Hold.setB ?_ (by dsimp only; omega) (by dsimp only; omega) _)); exact ⟨btr bV b13, AV.on b13⟩)) ?_
        clear hK K
        refine line_nil ?_
        have HT := Lib.hid (And.intro O13 (btr bV b13))
        clear O13 b13 AR13 inst AV AR
        go_wp2_with fail
        refine bodyPost_ret (v := .agg #[.int .i64 0, .slice a13 ((headP p.a p.b p.e p.u).length + p.n.size) c13]) (by simp [results, Tryz.results105, go_sem, q0, q1]) rfl ?_
        exact ⟨_, _, _, rfl, (by (iterate 2 (refine Own.setCell ?_ (fun g hg => by have := (HT.out.1.lt g hg).1; dsimp only; omega) _)); exact HT.out.1.less (by omega)), (by (iterate 2 (refine bset ?_ (by dsimp only; omega) _)); exact HT.out.2)⟩
    · go_big_op
      have bX := bal hst.out (.cells #[.int .u8 p.e] 5)
      have O1X : OwnK .u8 (V1.alloc (.cells #[.int .u8 p.e] 5)) V.heap.size (.slice (some ⟨V.heap.size, 0, none⟩) 0 (7 + p.n.size)) [] := Own.alloc O1 _
      have eX : (V1.alloc (.cells #[.int .u8 p.e] 5)).heap[V1.heap.size]? = some (.cells #[.int .u8 p.e] 5) := (MapKept.heap_alloc V1 _).1
      have hlX : V1.heap.size < (V1.alloc (.cells #[.int .u8 p.e] 5)).heap.size := by simp
      have hltV := (Own.lt O1 V.heap.size rfl).2
      refine hK _ _ ⟨bX⟩ ?_
      clear hK K O1 hst
      generalize V1.alloc (.cells #[.int .u8 p.e] 5) = X at *
      refine any_rest [(3, false), (6, false), (11, false), (12, true)] (by kernel_rfl) (fun _ _ d _ _ h => by cases d <;> exact h) ?_
      have hzX := bX.size
      refine line_alone rfl (by kernel_rfl) (fun K hK => ?_)
      refine call_any (args := #[.slice (some ⟨V.heap.size, 0, none⟩) 0 (7 + p.n.size), .int .i64 p.a]) rfl (by kernel_rfl) (by kernel_rfl) (appendTwo_any _ p.a V.heap.size [] _ O1X hzX ha (by simp)) ?_
      rintro e w3 ⟨v3, rfl, O3, g3⟩
      have b3 : Below V.heap.size V w3 := Own.grown O1X bX hzX g3
      refine ⟨_, rfl, hK _ _ ⟨b3⟩ ?_⟩
      clear hK K
      simp only [Act.put, List.setIfInBounds_toArray, List.set_cons_zero, List.set_cons_succ]
      have hz3 := b3.size
      have e3 := (g3.block V1.heap.size hlX (fun e => by simp [Value.ownBlock] at e; omega)).trans eX
      have hl3 : V1.heap.size < w3.heap.size := Nat.lt_of_lt_of_le hlX g3.size
      have hn3 : ∀ k, v3.ownBlock = some k → k ≠ V1.heap.size := fun k hk ek => two_else O3 e3 hk ek
      refine line_alone rfl (by kernel_rfl) (fun K hK => ?_)
      refine call_any (args := #[v3, .int .i64 p.b]) rfl (by kernel_rfl) (by kernel_rfl) (appendTwo_any _ p.b V.heap.size ([] ++ M.two p.a) _ O3 hz3 hb (by simp [M.two])) ?_
      rintro e w6 ⟨v6, rfl, O6, g6⟩
      have b6 : Below V.heap.size V w6 := Own.grown O3 b3 hz3 g6
      refine ⟨_, rfl, hK _ _ ⟨b6⟩ ?_⟩
      clear hK K
      simp only [Act.put, List.setIfInBounds_toArray, List.set_cons_zero, List.set_cons_succ]
      have e6 := (g6.block V1.heap.size hl3 (fun e => hn3 _ e.symm rfl)).trans e3
      have hz6 := b6.size
      have O10 : OwnK .u8 w6 V.heap.size v6 (M.two p.a ++ M.two p.b) := O6
      have hsr := src_at (P := Tryz.prog) V1.heap.size [.int .u8 p.e] 1 1 5 22 5 Tryz.underlying22 rfl (ints_oneCell .u8 [p.e]) e6
      clear O1X bX eX hlX hzX g3 g6 e3 e6 hl3 hn3 O3 b3 hz3
      refine line_alone rfl (by kernel_rfl) (fun K hK => ?_)
      refine wp_append_src _ (.tmp 22) (.tmp 26) 22 22 rfl V.heap.size 5 i0 (.int .u8 0) 1 1 Tryz.underlying22 hi0 hz0 hz1 hz2 rfl _ 4 ((M.two p.a ++ M.two p.b).map (Value.int .u8)) rfl O10 _ 1 [.int .u8 p.e] rfl hsr (by simp only [maxLen]; omega) (by omega) hz6 (fun v11 w11 hown hgrow hat => ?_)
      have b11 : Below V.heap.size V w11 := Own.grown O10 b6 hz6 hgrow
      have O11 : OwnK .u8 w11 V.heap.size v11 (M.two p.a ++ M.two p.b ++ [p.e]) := by unfold OwnK; simpa [M.two] using hown
      refine hK _ _ ⟨b11⟩ ?_
      clear hK K hown hgrow hat
      simp only [Act.put, List.setIfInBounds_toArray, List.set_cons_zero, List.set_cons_succ]
      clear O10 O6 b6 hz6 hsr
      have inst : Nonempty (Of (Bel V)) := ⟨⟨_, ⟨b11⟩⟩⟩
      iterate 1 (refine line_read rfl (by kernel_rfl) (fun K hK => ?_); go_big_quiet_op; refine hK _ ?_; clear hK K)
      refine line_nil ?_
      have S6 : Hold w w.heap.size p.vals w11.drew := ⟨(btr bV b11).drew, (AV.on b11).on (bdrew _)⟩
      have b11d : Below V.heap.size V w11.drew := b11.drew
      have O11d : OwnK .u8 w11.drew V.heap.size v11 (M.two p.a ++ M.two p.b ++ [p.e]) := O11
      have hz11 : V.heap.size ≤ w11.drew.heap.size := b11.size
      clear inst b11 O11
      go_wp2_with fail
      refine wp_region_line (Hold w w.heap.size p.vals) [(0, true), (1, true), (2, true), (4, true), (5, true), (3, false), (6, false), (7, true), (8, false)] (by kernel_rfl) (by kernel_rfl) (fun _ _ d _ _ h => by cases d <;> exact h) S6 ?_
      have hst := S6
      have inst : Nonempty (Of (Hold w w.heap.size p.vals)) := ⟨⟨_, hst⟩⟩
      have k0 := hold_cell (W := w) (g := w.heap.size) (cs := p.vals) 0 _ rfl
      have k4 := hold_cell (W := w) (g := w.heap.size) (cs := p.vals) 4 _ rfl
      generalize w11.drew = V6 at *
      iterate 5 (refine line_read rfl (by kernel_rfl) (fun K hK => ?_); go_big_quiet_op; refine hK _ ?_; clear hK K)
      clear k0 k4 S6 hst
      refine line_alone rfl (by kernel_rfl) (fun K hK => ?_)
      refine call_any (args := #[v11, .int .i64 p.u]) rfl (by kernel_rfl) (by kernel_rfl) (appendTwo_any _ p.u V.heap.size _ V6 O11d hz11 hu (by simp [M.two])) ?_
      rintro e w12 ⟨v12, rfl, O12, g12⟩
      have b12 : Below V.heap.size V w12 := Own.grown O11d b11d hz11 g12
      refine ⟨_, rfl, hK _ _ ⟨btr bV b12, AV.on b12⟩ ?_⟩
      clear hK K O11d g12 b11d hz11
      simp only [Act.put, List.setIfInBounds_toArray, List.set_cons_zero, List.set_cons_succ]
      have hz12 := b12.size
      have O12' : OwnK .u8 w12 V.heap.size v12 (headP p.a p.b p.e p.u) := O12
      have hsrc := Src.ofString (P := Tryz.prog) w12 (tx := 9) Tryz.underlying9 p.n
      refine line_alone rfl (by kernel_rfl) (fun K hK => ?_)
      refine wp_append_src _ (.tmp 31) (.tmp 33) 22 9 rfl V.heap.size 5 i0 (.int .u8 0) 1 1 Tryz.underlying22 hi0 hz0 hz1 hz2 rfl _ _ _ rfl O12' _ p.n.size _ rfl hsrc (by rw [headP_length]; simp only [maxLen]; omega) (by rw [headP_length]; omega) hz12 (fun v13 w13 hown hgrow hat => ?_)
      have b13 : Below V.heap.size V w13 := O12'.grown b12 hz12 hgrow
      obtain ⟨a13, c13, hv13, -⟩ := Own.form hown
      have O13 : OwnK .u8 w13 V.heap.size v13 (packP p) := by
        unfold OwnK packP
        rw [List.length_append, M.textL_length, List.map_append]
        have e : (M.textL p.n).map (Value.int .u8) = byteCells p.n := by simp [M.textL, byteCells, List.map_map, Function.comp_def]
        rw [e]
        exact hown
      subst hv13
      refine hK _ _ ⟨btr bV b13, AV.on b13⟩ ?_
      clear hK K hown hgrow hat O12 O12' hsrc
      simp only [Act.put, List.setIfInBounds_toArray, List.set_cons_zero, List.set_cons_succ]
      refine line_readv (v := .agg #[.int .i64 0, .slice a13 ((headP p.a p.b p.e p.u).length + p.n.size) c13]) rfl (by kernel_rfl) (fun _ => by kernel_rfl) ?_
      simp only [Act.put, List.setIfInBounds_toArray, List.set_cons_zero, List.set_cons_succ]
      have AR13 := AR.on b13
      have q0 := AR13.cell 0 _ rfl
      have q1 := AR13.cell 1 _ rfl
      have z0 := AR13.free 0 _ rfl
      have z1 := AR13.free 1 _ rfl
      refine line_alone rfl (by kernel_rfl) (fun K hK => ?_)
      go_big_op
      refine hK _ _ ((by (iterate 2 (refine Hold.setB ?_ (by dsimp only; omega) (by dsimp only; omega) _)); exact ⟨btr bV b13, AV.on b13⟩)) ?_
      clear hK K
      refine line_nil ?_
      have HT := Lib.hid (And.intro O13 (btr bV b13))
      clear O13 b13 AR13 inst AV AR
      go_wp2_with fail
      refine bodyPost_ret (v := .agg #[.int .i64 0, .slice a13 ((headP p.a p.b p.e p.u).length + p.n.size) c13]) (by simp [results, Tryz.results105, go_sem, q0, q1]) rfl ?_
      exact ⟨_, _, _, rfl, (by (iterate 2 (refine Own.setCell ?_ (fun g hg => by have := (HT.out.1.lt g hg).1; dsimp only; omega) _)); exact HT.out.1.less (by omega)), (by (iterate 2 (refine bset ?_ (by dsimp only; omega) _)); exact HT.out.2)⟩
  · have e : packPL p = [] := by simp [packPL, h]
    rw [e]
    generalize p.f = cd at *
    clear e
    go_enter Tryz.func105, Tryz.ntmps105
    go_wp2_with fail
    generalize (w.alloc (.cells #[.string p.n, .int .i64 p.a, .int .i64 p.b, .int .i64 p.e, .int .i64 p.u] 31)).alloc (.cells #[.int .i64 0, .slice none 0 0] 146) = W0 at *
    refine (F _).mono ?_
    rintro r w1 ⟨rfl, b1⟩
    have q0 := (A2.on b1).cell 0 _ rfl
    have q1 := (A2.on b1).cell 1 _ rfl
    have z0 := (A2.on b1).free 0 _ rfl
    have z1 := (A2.on b1).free 1 _ rfl
    have hb := btr b0 b1
    clear A1 A2 b0 b1 F
    go_wp2_with fail
    refine bodyPost_ret (v := .agg #[.int .i64 cd, .slice none 0 0]) (by simp [results, Tryz.results105, go_sem, q0, q1]) rfl ?_
    exact ⟨_, _, _, rfl, Own.nil _ _ _, (by (iterate 2 (refine bset ?_ (by dsimp only; omega) _)); exact hb)⟩
end Go.Proofs.YtefgimpodhjdpaaGreatDoor
