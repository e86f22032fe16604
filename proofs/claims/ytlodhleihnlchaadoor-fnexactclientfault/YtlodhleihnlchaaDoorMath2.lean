/- Plain facts on sums, labels and tagged bytes, with no program in them. No condition. -/
import Derived.Test.YtlodhleihnlchaaDoorMath
namespace Go.Proofs.YtlodhleihnlchaaDoor.M

def sumStep (n b : Int) : Int := (n * 251 + b + 1) % 65521
/-- The sum of bytes. -/
def sumL (zs : List Int) : Int := zs.foldl sumStep 17
theorem sumFold_bd : ∀ (zs : List Int) (n : Int), 0 ≤ n → n < 65521 → 0 ≤ zs.foldl sumStep n ∧ zs.foldl sumStep n < 65521
  | [], n, h0, h1 => ⟨h0, h1⟩
  | b :: r, n, _, _ => sumFold_bd r _ (Int.emod_nonneg _ (by omega)) (Int.emod_lt_of_pos _ (by omega))
theorem sumL_bd (zs : List Int) : 0 ≤ sumL zs ∧ sumL zs < 65521 := sumFold_bd zs 17 (by omega) (by omega)
theorem sumL_nil : sumL [] = 17 := rfl
theorem sumL_snoc (zs : List Int) (b : Int) : sumL (zs ++ [b]) = (sumL zs * 251 + b + 1) % 65521 := by
  simp [sumL, List.foldl_append, sumStep]
theorem take_snoc {α : Type} (zs : List α) (d : α) (k : Nat) (h : k < zs.length) : zs.take (k + 1) = zs.take k ++ [zs[k]?.getD d] := by
  rw [List.take_succ_eq_append_getElem h]; simp [h]
theorem sumL_take (zs : List Int) (k : Nat) (h : k < zs.length) : (sumL (zs.take k) * 251 + zs[k]?.getD 0 + 1) % 65521 = sumL (zs.take (k + 1)) := by
  rw [take_snoc zs 0 k h, sumL_snoc]

/-- A byte a to z. -/
def lowB (c : UInt8) : Bool := decide (97 ≤ (c.toNat : Int) ∧ (c.toNat : Int) ≤ 122)
def lowTo (s : ByteArray) (k : Nat) : Bool := (s.data.toList.take k).all lowB
/-- A label: 1 to 12 bytes a to z. -/
def labB (s : ByteArray) : Bool := decide (1 ≤ s.size ∧ s.size ≤ 12) && lowTo s s.size
theorem lowTo_zero (s : ByteArray) : lowTo s 0 = true := by simp [lowTo]
theorem data_take (s : ByteArray) (k : Nat) (h : k < s.size) : s.data.toList.take (k + 1) = s.data.toList.take k ++ [s[k]] := by
  rw [List.take_succ_eq_append_getElem (by simpa using h)]; rfl
theorem lowTo_succ (s : ByteArray) (k : Nat) (h : k < s.size) : lowTo s (k + 1) = (lowTo s k && lowB s[k]) := by
  simp [lowTo, data_take s k h, List.all_append]
theorem lowTo_next (s : ByteArray) (k : Nat) (h : k < s.size) (hl : lowTo s k = true) (h0 : 97 ≤ (s[k].toNat : Int)) (h1 : (s[k].toNat : Int) ≤ 122) : lowTo s (k + 1) = true := by
  rw [lowTo_succ s k h, hl]; simp [lowB]; omega
theorem lowTo_mono (s : ByteArray) : ∀ (d k : Nat), lowTo s (k + d) = true → lowTo s k = true
  | 0, _, h => h
  | d + 1, k, h => by
    have h2 := lowTo_mono s d (k + 1) (by rw [← h]; congr 1; omega)
    rcases Nat.lt_or_ge k s.size with hk | hk
    · rw [lowTo_succ s k hk] at h2; simp only [Bool.and_eq_true] at h2; exact h2.1
    · unfold lowTo at h2 ⊢
      rw [List.take_of_length_le (by simpa using (show s.size ≤ k from hk))]
      rw [List.take_of_length_le (by have : s.data.toList.length = s.size := (by simp); omega)] at h2
      exact h2
theorem labB_stop (s : ByteArray) (k : Nat) (h : k < s.size) (hb : (s[k].toNat : Int) < 97 ∨ 122 < (s[k].toNat : Int)) : labB s = false := by
  have h1 : lowTo s (k + 1) = false := by
    rw [lowTo_succ s k h]
    have : lowB s[k] = false := by simp only [lowB, decide_eq_false_iff_not]; omega
    rw [this]; simp
  have h2 : lowTo s s.size = false := by
    cases he : lowTo s s.size
    · rfl
    · have := lowTo_mono s (s.size - (k + 1)) (k + 1) (by rw [show k + 1 + (s.size - (k + 1)) = s.size by omega]; exact he)
      rw [h1] at this; cases this
  simp [labB, h2]
theorem labB_all (s : ByteArray) (h : lowTo s s.size = true) (h0 : 1 ≤ s.size) (h1 : s.size ≤ 12) : labB s = true := by simp [labB, h, h0, h1]
theorem labB_short (s : ByteArray) (h : s.size < 1) : labB s = false := by simp [labB]; omega
theorem labB_long (s : ByteArray) (h : 12 < s.size) : labB s = false := by simp [labB]; omega
theorem labB_size {s : ByteArray} (h : labB s = true) : 1 ≤ s.size ∧ s.size ≤ 12 := by simp [labB] at h; exact h.1

/-- A sum. -/
def sumB (v : Int) : Bool := decide (0 ≤ v ∧ v ≤ 65520)
/-- The bytes of a text. -/
def textL (s : ByteArray) : List Int := s.data.toList.map fun c => (c.toNat : Int)
def two (n : Int) : List Int := [n / 256, n % 256]
/-- A tag, a byte 0, and each number in two bytes. -/
def tagBytes (s : ByteArray) (zs : List Int) : List Int := textL s ++ [0] ++ zs.flatMap two
def tagL (s : ByteArray) (zs : List Int) : Int := sumL (tagBytes s zs)
theorem tagBytes_nil (s : ByteArray) : tagBytes s [] = textL s ++ [0] := by simp [tagBytes]
theorem tagBytes_snoc (s : ByteArray) (zs : List Int) (n : Int) : tagBytes s (zs ++ [n]) = tagBytes s zs ++ two n := by
  simp [tagBytes, List.flatMap_append]
theorem tagBytes_take (s : ByteArray) (zs : List Int) (k : Nat) (h : k < zs.length) : tagBytes s (zs.take k) ++ two (zs[k]?.getD 0) = tagBytes s (zs.take (k + 1)) := by
  rw [take_snoc zs 0 k h, tagBytes_snoc]
theorem textL_length (s : ByteArray) : (textL s).length = s.size := by simp [textL]
theorem two_length (zs : List Int) : (zs.flatMap two).length = 2 * zs.length := by
  induction zs with
  | nil => rfl
  | cons a r ih => simp only [List.flatMap_cons, List.length_append, ih, two, List.length_cons, List.length_nil]; omega
theorem tagBytes_length (s : ByteArray) (zs : List Int) : (tagBytes s zs).length = s.size + 1 + 2 * zs.length := by
  simp only [tagBytes, List.length_append, textL_length, two_length, List.length_cons, List.length_nil]
def byteB (b : Int) : Prop := 0 ≤ b ∧ b ≤ 255
theorem two_byte {n : Int} (h : sumB n = true) : ∀ b ∈ two n, byteB b := by
  simp only [sumB, decide_eq_true_eq] at h
  intro b hb
  simp only [two, List.mem_cons, List.not_mem_nil, or_false] at hb
  unfold byteB
  omega
theorem textL_byte (s : ByteArray) : ∀ b ∈ textL s, byteB b := by
  intro b hb
  simp only [textL, List.mem_map] at hb
  obtain ⟨c, _, rfl⟩ := hb
  have := c.toNat_lt
  unfold byteB
  omega
theorem tagBytes_byte (s : ByteArray) (zs : List Int) (h : ∀ z ∈ zs, sumB z = true) : ∀ b ∈ tagBytes s zs, byteB b := by
  intro b hb
  simp only [tagBytes, List.mem_append, List.mem_cons, List.not_mem_nil, or_false, List.mem_flatMap] at hb
  rcases hb with (hb | rfl) | ⟨a, ha, hb⟩
  · exact textL_byte s b hb
  · unfold byteB; omega
  · exact two_byte (h a ha) b hb
theorem tagL_bd (s : ByteArray) (zs : List Int) : 0 ≤ tagL s zs ∧ tagL s zs < 65521 := sumL_bd _

def sumR (zs : List Int) : Int × Int := if 1000 < zs.length then (2, 0) else (0, sumL zs)
def tagR (s : ByteArray) (zs : List Int) : Int × Int :=
  if labB s = false then (5, 0) else if 40 < zs.length then (2, 0) else if zs.all sumB then (0, tagL s zs) else (3, 0)
def keyD (k : Int) (s : ByteArray) : Int × Int := if sumB k = false then (3, 0) else if labB s = false then (5, 0) else (0, tagL s [k])
theorem keyD_tag {k : Int} (s : ByteArray) (h : sumB k = true) : keyD k s = tagR s [k] := by
  simp [keyD, tagR, h]
theorem all_take (p : Int → Bool) (zs : List Int) (k : Nat) (h : k < zs.length) (hk : (zs.take k).all p = true) (hp : p (zs[k]?.getD 0) = true) : (zs.take (k + 1)).all p = true := by
  rw [take_snoc zs 0 k h, List.all_append, hk]; simp [hp]
theorem all_stop (p : Int → Bool) (zs : List Int) (k : Nat) (h : k < zs.length) (hp : p (zs[k]?.getD 0) = false) : zs.all p = false := by
  rw [List.all_eq_false]
  refine ⟨zs[k]?.getD 0, by simp [h], by simp [hp]⟩
end Go.Proofs.YtlodhleihnlchaaDoor.M
namespace Go.Proofs.YtlodhleihnlchaaDoor.M

abbrev streamS : ByteArray := { data := #[115, 116, 114, 101, 97, 109] }
abbrev heardS : ByteArray := { data := #[104, 101, 97, 114, 100] }
abbrev nonceS : ByteArray := { data := #[110, 111, 110, 99, 101] }
abbrev signS : ByteArray := { data := #[115, 105, 103, 110] }
abbrev macS : ByteArray := { data := #[109, 97, 99] }
abbrev sealS : ByteArray := { data := #[115, 101, 97, 108] }
abbrev spkiS : ByteArray := { data := #[115, 112, 107, 105] }
abbrev rollS : ByteArray := { data := #[114, 111, 108, 108] }
abbrev masterS : ByteArray := { data := #[109, 97, 115, 116, 101, 114] }
abbrev verifyS : ByteArray := { data := #[118, 101, 114, 105, 102, 121] }
abbrev finishS : ByteArray := { data := #[102, 105, 110, 105, 115, 104] }
abbrev upS : ByteArray := { data := #[117, 112] }
abbrev downS : ByteArray := { data := #[100, 111, 119, 110] }
def streamB (key seq : Int) (i : Nat) : Int := tagL streamS [key, seq, i] % 256
/-- The first n bytes of a stream. -/
def streamL (key seq : Int) (n : Nat) : List Int := (List.range n).map (streamB key seq)
theorem streamL_zero (key seq : Int) : streamL key seq 0 = [] := rfl
theorem streamL_succ (key seq : Int) (n : Nat) : streamL key seq (n + 1) = streamL key seq n ++ [streamB key seq n] := by simp [streamL, List.range_succ]
theorem streamL_length (key seq : Int) (n : Nat) : (streamL key seq n).length = n := by simp [streamL]
theorem streamB_byte (key seq : Int) (i : Nat) : 0 ≤ streamB key seq i ∧ streamB key seq i ≤ 255 := by unfold streamB; omega
theorem streamL_byte (key seq : Int) (n : Nat) : ∀ b ∈ streamL key seq n, byteB b := by
  intro b hb
  simp only [streamL, List.mem_map] at hb
  obtain ⟨i, _, rfl⟩ := hb
  exact streamB_byte key seq i
theorem streamL_take (key seq : Int) (n k : Nat) (h : k ≤ n) : (streamL key seq n).take k = streamL key seq k := by
  simp [streamL, ← List.map_take, List.take_range, Nat.min_eq_left h]
def strB (key seq n : Int) : Bool := sumB key && sumB seq && decide (0 ≤ n ∧ n ≤ 200)
def strC (key seq n : Int) : Int := if strB key seq n then 0 else 3
def strL (key seq n : Int) : List Int := if strB key seq n then streamL key seq n.toNat else []
theorem strL_byte (key seq n : Int) : ∀ b ∈ strL key seq n, byteB b := by
  unfold strL; split
  · exact streamL_byte _ _ _
  · intro b hb; cases hb

def longB (zs : List Int) : Bool := decide (1000 < zs.length)
def heardL (zss : List (List Int)) : Int := tagL heardS (zss.map sumL)
def heardR (zss : List (List Int)) : Int × Int := if 10 < zss.length then (2, 0) else if zss.any longB then (2, 0) else (0, heardL zss)
theorem sums_ok (zss : List (List Int)) : (zss.map sumL).all sumB = true := by
  rw [List.all_eq_true]
  intro x hx
  obtain ⟨zs, _, rfl⟩ := List.mem_map.1 hx
  have := sumL_bd zs
  simp [sumB]; omega
theorem heard_label : labB heardS = true := by decide +kernel
theorem heardR_tag (zss : List (List Int)) (h : zss.length ≤ 10) (hl : zss.any longB = false) : heardR zss = tagR heardS (zss.map sumL) := by
  have h1 : ¬ 10 < zss.length := by omega
  have h2 : ¬ 40 < zss.length := by omega
  simp only [heardR, tagR, heard_label, h1, hl, if_false, Bool.false_eq_true, List.length_map, h2, sums_ok, if_true, Bool.true_eq_false, heardL]
theorem any_take {α : Type} (p : α → Bool) (zs : List α) (d : α) (k : Nat) (h : k < zs.length) (hk : (zs.take k).any p = false) (hp : p (zs[k]?.getD d) = false) : (zs.take (k + 1)).any p = false := by
  rw [take_snoc zs d k h, List.any_append, hk]; simp [hp]
theorem any_stop {α : Type} (p : α → Bool) (zs : List α) (d : α) (k : Nat) (h : k < zs.length) (hp : p (zs[k]?.getD d) = true) : zs.any p = true := by
  rw [List.any_eq_true]
  exact ⟨zs[k]?.getD d, by simp [h], hp⟩
theorem map_take_snoc {α β : Type} (f : α → β) (zs : List α) (d : α) (k : Nat) (h : k < zs.length) : (zs.take k).map f ++ [f (zs[k]?.getD d)] = (zs.take (k + 1)).map f := by
  rw [take_snoc zs d k h]; simp
end Go.Proofs.YtlodhleihnlchaaDoor.M
