/- Plain facts on how data is turned by a stream, and on the tags of records. No condition. -/
import Derived.Test.YtjlhldndomaknaaDoorMath4
namespace Go.Proofs.YtjlhldndomaknaaDoor.M

def xorB (x y : Int) : Int := ((x.toNat ^^^ y.toNat : Nat) : Int)
theorem xorB_byte {x y : Int} (hx : byteB x) (hy : byteB y) : byteB (xorB x y) := by
  unfold byteB at *
  have : x.toNat ^^^ y.toNat < 2 ^ 8 := Nat.xor_lt_two_pow (by omega) (by omega)
  unfold xorB
  omega
theorem xorB_comm (x y : Int) : xorB x y = xorB y x := by unfold xorB; rw [Nat.xor_comm]
theorem xorB_twice {x : Int} (hx : 0 ≤ x) (y : Int) : xorB (xorB x y) y = x := by
  unfold xorB
  rw [Int.toNat_natCast, Nat.xor_assoc, Nat.xor_self, Nat.xor_zero]
  omega
/-- Data turned by the stream of a key. -/
def turnB (key seq : Int) (i : Nat) : Int := streamB (tagL streamS [key]) seq i
def turnL (key seq : Int) (zs : List Int) : List Int := (List.range zs.length).map fun i => xorB (zs.getD i 0) (turnB key seq i)
theorem turnL_length (key seq : Int) (zs : List Int) : (turnL key seq zs).length = zs.length := by simp [turnL]
theorem getD_byte {zs : List Int} (h : ∀ z ∈ zs, byteB z) (i : Nat) : byteB (zs.getD i 0) := by
  rcases Nat.lt_or_ge i zs.length with hi | hi
  · exact h _ (by simp [List.getD, hi])
  · simp [List.getD, hi, byteB]
theorem turnB_byte (key seq : Int) (i : Nat) : byteB (turnB key seq i) := streamB_byte _ _ _
theorem turnL_byte {key seq : Int} {zs : List Int} (h : ∀ z ∈ zs, byteB z) : ∀ z ∈ turnL key seq zs, byteB z := by
  intro z hz
  simp only [turnL, List.mem_map] at hz
  obtain ⟨i, _, rfl⟩ := hz
  exact xorB_byte (getD_byte h i) (turnB_byte _ _ _)
theorem turnL_twice {key seq : Int} {zs : List Int} (h : ∀ z ∈ zs, byteB z) : turnL key seq (turnL key seq zs) = zs := by
  refine List.ext_getElem? fun i => ?_
  rcases Nat.lt_or_ge i zs.length with hi | hi
  · have e : (turnL key seq zs).getD i 0 = xorB (zs.getD i 0) (turnB key seq i) := by simp [turnL, List.getD, hi]
    have hb := getD_byte h i
    unfold byteB at hb
    have e2 : ∀ ys : List Int, i < ys.length → (turnL key seq ys)[i]? = some (xorB (ys.getD i 0) (turnB key seq i)) := fun ys hy => by simp [turnL, hy]
    rw [e2 _ (by rw [turnL_length]; exact hi), e, xorB_twice hb.1]
    simp [List.getD, hi]
  · rw [List.getElem?_eq_none (by rw [turnL_length, turnL_length]; exact hi), List.getElem?_eq_none hi]
/-- The first k bytes turned. -/
def mixL (f g : Nat → Int) (n k : Nat) : List Int := (List.range n).map fun i => if i < k then g i else f i
theorem mixL_length (f g : Nat → Int) (n k : Nat) : (mixL f g n k).length = n := by simp [mixL]
theorem mixL_zero (f g : Nat → Int) (n : Nat) : mixL f g n 0 = (List.range n).map f := by simp [mixL]
theorem mixL_all (f g : Nat → Int) (n : Nat) : mixL f g n n = (List.range n).map g := by
  unfold mixL
  refine List.map_congr_left fun i hi => ?_
  rw [if_pos (List.mem_range.1 hi)]
theorem mixL_at (f g : Nat → Int) (n k : Nat) (h : k < n) : (mixL f g n k)[k]?.getD 0 = f k := by simp [mixL, h]
theorem mixL_set (f g : Nat → Int) (n k : Nat) : (mixL f g n k).set k (g k) = mixL f g n (k + 1) := by
  refine List.ext_getElem? fun i => ?_
  rcases Nat.lt_or_ge i n with hi | hi
  · by_cases e : k = i
    · subst e
      rw [List.getElem?_set_self (by rw [mixL_length]; exact hi)]
      simp [mixL, hi]
    · rw [List.getElem?_set_ne e]
      simp only [mixL, List.getElem?_map, List.getElem?_range hi, Option.map_some]
      congr 1
      by_cases h2 : i < k
      · rw [if_pos h2, if_pos (by omega)]
      · rw [if_neg h2, if_neg (by omega)]
  · rw [List.getElem?_eq_none (by simp [mixL_length]; exact hi), List.getElem?_eq_none (by rw [mixL_length]; exact hi)]
theorem mixL_byte {f g : Nat → Int} (hf : ∀ i, byteB (f i)) (hg : ∀ i, byteB (g i)) (n k : Nat) : ∀ z ∈ mixL f g n k, byteB z := by
  intro z hz
  simp only [mixL, List.mem_map] at hz
  obtain ⟨i, _, rfl⟩ := hz
  split
  · exact hg i
  · exact hf i

/-- A record's tag. -/
def recT (key s k : Int) (zs : List Int) : Int := tagL sealS [tagL macS [key], s, k, sumL zs]
theorem recT_bd (key s k : Int) (zs : List Int) : 0 ≤ recT key s k zs ∧ recT key s k zs < 65521 := tagL_bd _ _
theorem recT_sum (key s k : Int) (zs : List Int) : sumB (recT key s k zs) = true := by
  have := recT_bd key s k zs
  simp [sumB]; omega
theorem kind_sum {k : Int} (h : kindB k = true) : sumB k = true := by
  have := kindB_bd h
  simp [sumB]; omega
theorem tag_sum (s : ByteArray) (zs : List Int) : sumB (tagL s zs) = true := by
  have := tagL_bd s zs
  simp [sumB]; omega
theorem sumL_sum (zs : List Int) : sumB (sumL zs) = true := by
  have := sumL_bd zs
  simp [sumB]; omega
/-- What sealing answers: a code, and a record's data and tag. -/
def sealC (key s k : Int) (n : Nat) : Int := if sumB key && sumB s && kindB k then (if 60 < n then 2 else 0) else 3
def openC (key q s k : Int) (zs : List Int) (t : Int) : Int :=
  if sumB key && sumB q then (if recF s k t zs.length = 0 then (if s = q then (if t = recT key s k zs then 0 else 9) else 8) else recF s k t zs.length) else 3
def openL (key q s k : Int) (zs : List Int) (t : Int) : List Int := if openC key q s k zs t = 0 then turnL key q zs else []
/-- Bytes turned one by one, at the places that are told. -/
def xfold (f : Nat → Int) (zs : List Int) (ns : List Nat) : List Int := ns.foldl (fun l i => l.set i (xorB (l.getD i 0) (f i))) zs
theorem xfold_snoc (f : Nat → Int) (zs : List Int) (ns : List Nat) (i : Nat) : xfold f zs (ns ++ [i]) = (xfold f zs ns).set i (xorB ((xfold f zs ns).getD i 0) (f i)) := by simp [xfold]
theorem xfold_length (f : Nat → Int) : ∀ (ns : List Nat) (zs : List Int), (xfold f zs ns).length = zs.length
  | [], _ => rfl
  | i :: r, zs => by
    show (xfold f (zs.set i _) r).length = _
    rw [xfold_length f r]; simp
theorem xfold_byte {f : Nat → Int} (hf : ∀ i, byteB (f i)) : ∀ (ns : List Nat) (zs : List Int), (∀ z ∈ zs, byteB z) → ∀ z ∈ xfold f zs ns, byteB z
  | [], _, h => h
  | i :: r, zs, h => xfold_byte hf r _ (fun z hz => by
    rcases List.mem_or_eq_of_mem_set hz with h2 | h2
    · exact h z h2
    · subst h2; exact xorB_byte (getD_byte h i) (hf i))
theorem xfold_mix (f : Nat → Int) (zs : List Int) : ∀ k, xfold f zs (List.range k) = mixL (fun i => zs.getD i 0) (fun i => xorB (zs.getD i 0) (f i)) zs.length k
  | 0 => by
    rw [mixL_zero]
    refine List.ext_getElem? fun i => ?_
    rcases Nat.lt_or_ge i zs.length with hi | hi
    · simp [xfold, List.getD, hi]
    · simp [xfold, hi]
  | k + 1 => by
    rw [List.range_succ, xfold_snoc, xfold_mix f zs k]
    rcases Nat.lt_or_ge k zs.length with hk | hk
    · have e := mixL_at (fun i => zs.getD i 0) (fun i => xorB (zs.getD i 0) (f i)) zs.length k hk
      rw [List.getD_eq_getElem?_getD, e]
      exact mixL_set (fun i => zs.getD i 0) (fun i => xorB (zs.getD i 0) (f i)) zs.length k
    · rw [List.set_eq_of_length_le (by rw [mixL_length]; exact hk)]
      unfold mixL
      refine List.map_congr_left fun i hi => ?_
      have := List.mem_range.1 hi
      rw [if_pos (by omega), if_pos (by omega)]
theorem xfold_turn (key seq : Int) (zs : List Int) : xfold (turnB key seq) zs (List.range zs.length) = turnL key seq zs := by
  rw [xfold_mix, mixL_all]; rfl
end Go.Proofs.YtjlhldndomaknaaDoor.M
