/- Contracts of what is wrong with a record, of copies of bytes, and of what the laws do with records. Conditions: as each theorem states. -/
import Derived.Test.YtjlhldndomaknaaDoorG2
import Derived.Test.YtjlhldndomaknaaDoorMath4
import Derived.Test.YtjlhldndomaknaaDoorL0
namespace Go.Proofs.YtjlhldndomaknaaDoor
open Go.RowKit
set_option maxRecDepth 100000
set_option linter.unusedVariables false

abbrev R4 (s k : Int) (a : Option Addr) (n c : Nat) (t : Int) : Value := .agg #[.int .i64 s, .int .i64 k, .slice a n c, .int .i64 t]
abbrev R5 (e s k : Int) (a : Option Addr) (n c : Nat) (t : Int) : Value := .agg #[.int .i64 e, .int .i64 s, .int .i64 k, .slice a n c, .int .i64 t]
abbrev L4 (s k : Int) (a : Option Addr) (n c : Nat) (t : Int) : List Value := [.int .i64 s, .int .i64 k, .slice a n c, .int .i64 t]
abbrev L5 (e s k : Int) (a : Option Addr) (n c : Nat) (t : Int) : List Value := [.int .i64 e, .int .i64 s, .int .i64 k, .slice a n c, .int .i64 t]

theorem isSeq_any (v : Int) (w : World) :
    Calls Tryd.prog 113 #[.int .i64 v] w fun e w' => e = .returned (.bool (M.sumB v)) ∧ w = w' := by
  by_cases h1 : 0 ≤ v
  · by_cases h2 : v ≤ 65520
    · have e : M.sumB v = true := by simp [M.sumB, h1, h2]
      rw [e]; clear e
      go_enter Tryd.func113, Tryd.ntmps113
      go_wp2_with fail
      go_ret
      simp
    · have e : M.sumB v = false := by simp [M.sumB, h2]
      rw [e]; clear e
      go_enter Tryd.func113, Tryd.ntmps113
      go_wp2_with fail
      go_ret
      simp
  · have e : M.sumB v = false := by simp [M.sumB, h1]
    rw [e]; clear e
    go_enter Tryd.func113, Tryd.ntmps113
    go_wp2_with fail
    go_ret
    simp

theorem isKind_any (v : Int) (w : World) :
    Calls Tryd.prog 114 #[.int .i64 v] w fun e w' => e = .returned (.bool (M.kindB v)) ∧ w = w' := by
  by_cases h1 : 1 ≤ v
  · by_cases h2 : v ≤ 9
    · have e : M.kindB v = true := by simp [M.kindB, h1, h2]
      rw [e]; clear e
      go_enter Tryd.func114, Tryd.ntmps114
      go_wp2_with fail
      go_ret
      simp
    · have e : M.kindB v = false := by simp [M.kindB, h2]
      rw [e]; clear e
      go_enter Tryd.func114, Tryd.ntmps114
      go_wp2_with fail
      go_ret
      simp
  · have e : M.kindB v = false := by simp [M.kindB, h1]
    rw [e]; clear e
    go_enter Tryd.func114, Tryd.ntmps114
    go_wp2_with fail
    go_ret
    simp
theorem l1In_kind (v : Int) (w : World) :
    Calls Tryd.prog 94 #[.int .i64 v, .int .i64 1, .int .i64 9] w fun e w' => e = .returned (.bool (M.kindB v)) ∧ w = w' := l1In_any v 1 9 w

theorem l4Fault_any (g : Nat) (s k : Int) (a : Option Addr) (n c : Nat) (t : Int) (w : World) (h : At g (L4 s k a n c t) w) (hn : n ≤ maxLen) :
    Calls Tryd.prog 126 #[.pointer (some ⟨g, 0, none⟩)] w fun e w' => e = .returned (.int .i64 (M.recF s k t n)) ∧ w = w' := by
  have c0 := h.cell 0 _ rfl
  have c1 := h.cell 1 _ rfl
  have c2 := h.cell 2 _ rfl
  have c3 := h.cell 3 _ rfl
  unfold maxLen at hn
  clear h
  cases h0 : M.sumB s
  · have E : M.recF s k t n = 3 := M.recF_no (by simp [M.recB, h0])
    rw [E]; clear E
    go_enter Tryd.func126, Tryd.ntmps126
    go_wp2_with fail
    refine (l2Is_any _ _).mono ?_
    rintro r w' ⟨rfl, rfl⟩
    go_wp2_with fail
    go_ret
    simp
  cases h1 : M.kindB k
  · have E : M.recF s k t n = 3 := M.recF_no (by simp [M.recB, h1])
    rw [E]; clear E
    go_enter Tryd.func126, Tryd.ntmps126
    go_wp2_with fail
    refine (l2Is_any _ _).mono ?_
    rintro r w' ⟨rfl, rfl⟩
    go_wp2_with fail
    refine (l1In_kind _ _).mono ?_
    rintro r w' ⟨rfl, rfl⟩
    go_wp2_with fail
    go_ret
    simp
  cases h2 : M.sumB t
  · have E : M.recF s k t n = 3 := M.recF_no (by simp [M.recB, h2])
    rw [E]; clear E
    go_enter Tryd.func126, Tryd.ntmps126
    go_wp2_with fail
    refine (l2Is_any _ _).mono ?_
    rintro r w' ⟨rfl, rfl⟩
    go_wp2_with fail
    refine (l1In_kind _ _).mono ?_
    rintro r w' ⟨rfl, rfl⟩
    go_wp2_with fail
    refine (l2Is_any _ _).mono ?_
    rintro r w' ⟨rfl, rfl⟩
    go_wp2_with fail
    go_ret
    simp
  by_cases h3 : 60 < n
  · have E : M.recF s k t n = 2 := M.recF_long (by simp [M.recB, h0, h1, h2]) h3
    rw [E]; clear E
    go_enter Tryd.func126, Tryd.ntmps126
    go_wp2_with fail
    refine (l2Is_any _ _).mono ?_
    rintro r w' ⟨rfl, rfl⟩
    go_wp2_with fail
    refine (l1In_kind _ _).mono ?_
    rintro r w' ⟨rfl, rfl⟩
    go_wp2_with fail
    refine (l2Is_any _ _).mono ?_
    rintro r w' ⟨rfl, rfl⟩
    go_wp2_with fail
    go_ret
    simp
  · have E : M.recF s k t n = 0 := M.recF_yes (by simp [M.recB, h0, h1, h2]) h3
    rw [E]; clear E
    go_enter Tryd.func126, Tryd.ntmps126
    go_wp2_with fail
    refine (l2Is_any _ _).mono ?_
    rintro r w' ⟨rfl, rfl⟩
    go_wp2_with fail
    refine (l1In_kind _ _).mono ?_
    rintro r w' ⟨rfl, rfl⟩
    go_wp2_with fail
    refine (l2Is_any _ _).mono ?_
    rintro r w' ⟨rfl, rfl⟩
    go_wp2_with fail
    go_ret
    simp
theorem specRecordFault_any (s k : Int) (a : Option Addr) (n c : Nat) (t : Int) (w : World) (hn : n ≤ maxLen) :
    Calls Tryd.prog 57 #[R4 s k a n c t] w fun e w' => e = .returned (.int .i64 (M.recF s k t n)) ∧ Below w.heap.size w w' := by
  have F := l4Fault_any _ s k a n c t _ (At.new w (L4 s k a n c t) 66) hn
  have hb := bal (Below.refl _ w) (.cells #[.int .i64 s, .int .i64 k, .slice a n c, .int .i64 t] 66)
  go_enter Tryd.func57, Tryd.ntmps57
  go_wp2_with fail
  refine (F).mono ?_
  rintro r w' ⟨rfl, rfl⟩
  go_wp2_with fail
  go_ret
  exact ⟨rfl, hb⟩
theorem implRecordFault_any (s k : Int) (a : Option Addr) (n c : Nat) (t : Int) (w : World) (hn : n ≤ maxLen) :
    Calls Tryd.prog 56 #[R4 s k a n c t] w fun e w' => e = .returned (.int .i64 (M.recF s k t n)) ∧ Below w.heap.size w w' := by
  have hb := bal (Below.refl _ w) (.cells #[.int .i64 s, .int .i64 k, .slice a n c, .int .i64 t] 66)
  unfold maxLen at hn
  cases h0 : M.sumB s
  · have E : M.recF s k t n = 3 := M.recF_no (by simp [M.recB, h0])
    rw [E]; clear E
    go_enter Tryd.func56, Tryd.ntmps56
    go_wp2_with fail
    refine (isSeq_any _ _).mono ?_
    rintro r w' ⟨rfl, rfl⟩
    go_wp2_with fail
    go_ret
    exact ⟨rfl, hb⟩
  cases h1 : M.kindB k
  · have E : M.recF s k t n = 3 := M.recF_no (by simp [M.recB, h1])
    rw [E]; clear E
    go_enter Tryd.func56, Tryd.ntmps56
    go_wp2_with fail
    refine (isSeq_any _ _).mono ?_
    rintro r w' ⟨rfl, rfl⟩
    go_wp2_with fail
    refine (isKind_any _ _).mono ?_
    rintro r w' ⟨rfl, rfl⟩
    go_wp2_with fail
    go_ret
    exact ⟨rfl, hb⟩
  cases h2 : M.sumB t
  · have E : M.recF s k t n = 3 := M.recF_no (by simp [M.recB, h2])
    rw [E]; clear E
    go_enter Tryd.func56, Tryd.ntmps56
    go_wp2_with fail
    refine (isSeq_any _ _).mono ?_
    rintro r w' ⟨rfl, rfl⟩
    go_wp2_with fail
    refine (isKind_any _ _).mono ?_
    rintro r w' ⟨rfl, rfl⟩
    go_wp2_with fail
    refine (isSum_any _ _).mono ?_
    rintro r w' ⟨rfl, rfl⟩
    go_wp2_with fail
    go_ret
    exact ⟨rfl, hb⟩
  by_cases h3 : 60 < n
  · have E : M.recF s k t n = 2 := M.recF_long (by simp [M.recB, h0, h1, h2]) h3
    rw [E]; clear E
    go_enter Tryd.func56, Tryd.ntmps56
    go_wp2_with fail
    refine (isSeq_any _ _).mono ?_
    rintro r w' ⟨rfl, rfl⟩
    go_wp2_with fail
    refine (isKind_any _ _).mono ?_
    rintro r w' ⟨rfl, rfl⟩
    go_wp2_with fail
    refine (isSum_any _ _).mono ?_
    rintro r w' ⟨rfl, rfl⟩
    go_wp2_with fail
    go_ret
    exact ⟨rfl, hb⟩
  · have E : M.recF s k t n = 0 := M.recF_yes (by simp [M.recB, h0, h1, h2]) h3
    rw [E]; clear E
    go_enter Tryd.func56, Tryd.ntmps56
    go_wp2_with fail
    refine (isSeq_any _ _).mono ?_
    rintro r w' ⟨rfl, rfl⟩
    go_wp2_with fail
    refine (isKind_any _ _).mono ?_
    rintro r w' ⟨rfl, rfl⟩
    go_wp2_with fail
    refine (isSum_any _ _).mono ?_
    rintro r w' ⟨rfl, rfl⟩
    go_wp2_with fail
    go_ret
    exact ⟨rfl, hb⟩

theorem szByteS_any (a : Option Addr) (n c : Nat) (l : Int) (w : World) (hn : n ≤ maxLen) (l0 : 0 ≤ l) (l1 : l ≤ 1048576) :
    Calls Tryd.prog 129 #[.slice a n c, .int .i64 l] w fun e w' => e = .returned (.int .i64 (if l < n then -1 else l - n)) ∧ w = w' := by
  unfold maxLen at hn
  by_cases h : l < n
  · have h' : l - n < 0 := by omega
    rw [if_pos h]
    go_enter Tryd.func129, Tryd.ntmps129
    go_wp2_with fail
    go_ret
    simp
  · have h' : ¬ l - n < 0 := by omega
    rw [if_neg h]
    go_enter Tryd.func129, Tryd.ntmps129
    go_wp2_with fail
    go_ret
    simp
theorem szRecord_any (s k : Int) (a : Option Addr) (n c : Nat) (t : Int) (l : Int) (w : World) (hn : n ≤ maxLen) (l0 : 0 ≤ l) (l1 : l ≤ 1048576) :
    Calls Tryd.prog 75 #[R4 s k a n c t, .int .i64 l] w fun e w' => e = .returned (.int .i64 (if l < n then -1 else l - n)) ∧ Below w.heap.size w w' := by
  have hb := bal (Below.refl _ w) (.cells #[.int .i64 s, .int .i64 k, .slice a n c, .int .i64 t] 94)
  have F := fun w => szByteS_any a n c l w hn l0 l1
  unfold maxLen at hn
  by_cases h : l < n
  · simp only [if_pos h] at F ⊢
    go_enter Tryd.func75, Tryd.ntmps75
    go_wp2_with fail
    refine (F _).mono ?_
    rintro r w' ⟨rfl, rfl⟩
    go_wp2_with fail
    go_ret
    exact ⟨rfl, hb⟩
  · simp only [if_neg h] at F ⊢
    have h' : ¬ l - n < 0 := by omega
    go_enter Tryd.func75, Tryd.ntmps75
    go_wp2_with fail
    refine (F _).mono ?_
    rintro r w' ⟨rfl, rfl⟩
    go_wp2_with fail
    go_ret
    exact ⟨rfl, hb⟩

/-- A record whose data lies in new memory. -/
def RecMade (s k : Int) (n : Nat) (zs : List Int) (t : Int) (w : World) (r : Ending) (w' : World) : Prop :=
  ∃ a c, r = .returned (R4 s k a n c t) ∧ OwnK .u8 w' w.heap.size (.slice a n c) zs ∧ Below w.heap.size w w'

theorem toRecord_any (s k : Int) (a : Option Addr) (n c : Nat) (t : Int) (B : Nat) (zs : List Int) (w : World) (hR : Row .u8 w B a n c zs) (hB : B ≤ w.heap.size) (hl : n ≤ 1048576) :
    Calls Tryd.prog 76 #[R4 s k a n c t] w (RecMade s k n zs t w) := by
  have b0 := bal (bal (bal (Below.refl _ w) (.cells #[.int .i64 s, .int .i64 k, .slice a n c, .int .i64 t] 94)) (.cells #[.int .i64 0, .int .i64 0, .slice none 0 0, .int .i64 0] 66)) (.cells #[.int .i64 s, .int .i64 k, .slice none 0 0, .int .i64 0] 66)
  have A1 := ((At.new w (L4 s k a n c t) 94).alloc (.cells #[.int .i64 0, .int .i64 0, .slice none 0 0, .int .i64 0] 66)).alloc (.cells #[.int .i64 s, .int .i64 k, .slice none 0 0, .int .i64 0] 66)
  have A2 := (At.new (w.alloc (.cells #[.int .i64 s, .int .i64 k, .slice a n c, .int .i64 t] 94)) (L4 0 0 none 0 0 0) 66).alloc (.cells #[.int .i64 s, .int .i64 k, .slice none 0 0, .int .i64 0] 66)
  have A3 := At.new ((w.alloc (.cells #[.int .i64 s, .int .i64 k, .slice a n c, .int .i64 t] 94)).alloc (.cells #[.int .i64 0, .int .i64 0, .slice none 0 0, .int .i64 0] 66)) (L4 s k none 0 0 0) 66
  simp only [World.size_alloc] at A1 A2 A3
  go_enter Tryd.func76, Tryd.ntmps76
  go_wp2_with fail
  generalize ((w.alloc (.cells #[.int .i64 s, .int .i64 k, .slice a n c, .int .i64 t] 94)).alloc (.cells #[.int .i64 0, .int .i64 0, .slice none 0 0, .int .i64 0] 66)).alloc (.cells #[.int .i64 s, .int .i64 k, .slice none 0 0, .int .i64 0] 66) = W0 at *
  refine (toByteS_any a n c B zs _ (hR.below (b0.mono hB)) (by have := b0.size; omega) hl).mono ?_
  rintro r u1 ⟨rfl, O1, b1⟩
  have lt3 : w.heap.size + 1 + 1 < W0.heap.size := A3.lt (by simp)
  have a3 := (A1.on b1).cell 3 _ rfl
  have p0 := (A2.on b1).cell 0 _ rfl
  have p1 := (A2.on b1).cell 1 _ rfl
  have p2 := (A2.on b1).cell 2 _ rfl
  have p3 := (A2.on b1).cell 3 _ rfl
  have f0 := (A2.on b1).free 0 _ rfl
  have f1 := (A2.on b1).free 1 _ rfl
  have f2 := (A2.on b1).free 2 _ rfl
  have f3 := (A2.on b1).free 3 _ rfl
  have q0 := (A3.on b1).cell 0 _ rfl
  have q1 := (A3.on b1).cell 1 _ rfl
  have q2 := (A3.on b1).cell 2 _ rfl
  have q3 := (A3.on b1).cell 3 _ rfl
  have z0 := (A3.on b1).free 0 _ rfl
  have z1 := (A3.on b1).free 1 _ rfl
  have z2 := (A3.on b1).free 2 _ rfl
  have z3 := (A3.on b1).free 3 _ rfl
  have HT := Lib.hid (And.intro O1 (btr b0 b1))
  clear A1 A2 A3 O1 b1 b0 hR
  go_wp2_with fail
  refine bodyPost_ret (v := R4 s k (some ⟨W0.heap.size, 0, none⟩) n n t) (by simp [results, Tryd.results76, go_sem, p0, p1, p2, p3]) rfl ?_
  exact ⟨_, _, rfl, (by (iterate 6 (refine Own.setCell ?_ (fun g hg => by have := (HT.out.1.lt g hg).1; dsimp only; omega) _)); exact HT.out.1.less (by omega)), (by (iterate 6 (refine bset ?_ (by dsimp only; omega) _)); exact HT.out.2)⟩

theorem eqRecord_any (s k : Int) (a1 a2 : Option Addr) (n c1 c2 : Nat) (t : Int) (B : Nat) (zs : List Int) (w : World) (hR : Row .u8 w B a1 n c1 zs) (hQ : Row .u8 w B a2 n c2 zs) (hB : B ≤ w.heap.size) :
    Calls Tryd.prog 77 #[R4 s k a1 n c1 t, R4 s k a2 n c2 t] w fun e w' => e = .returned (.bool true) ∧ Below w.heap.size w w' := by
  have b0 := bal (bal (Below.refl _ w) (.cells #[.int .i64 s, .int .i64 k, .slice a1 n c1, .int .i64 t] 66)) (.cells #[.int .i64 s, .int .i64 k, .slice a2 n c2, .int .i64 t] 66)
  have A1 := (At.new w (L4 s k a1 n c1 t) 66).alloc (.cells #[.int .i64 s, .int .i64 k, .slice a2 n c2, .int .i64 t] 66)
  have A2 := At.new (w.alloc (.cells #[.int .i64 s, .int .i64 k, .slice a1 n c1, .int .i64 t] 66)) (L4 s k a2 n c2 t) 66
  simp only [World.size_alloc] at A1 A2
  have R2 := hR.below (b0.mono hB)
  have Q2 := hQ.below (b0.mono hB)
  clear hR hQ
  go_enter Tryd.func77, Tryd.ntmps77
  go_wp2_with fail
  generalize (w.alloc (.cells #[.int .i64 s, .int .i64 k, .slice a1 n c1, .int .i64 t] 66)).alloc (.cells #[.int .i64 s, .int .i64 k, .slice a2 n c2, .int .i64 t] 66) = W0 at *
  refine (eqByteS_any _ _ _ _ _ _ _ _ R2 Q2 (by have := b0.size; omega)).mono ?_
  rintro r u1 ⟨rfl, b1⟩
  have a3 := (A1.on b1).cell 3 _ rfl
  have q3 := (A2.on b1).cell 3 _ rfl
  have hb := btr b0 b1
  clear A1 A2 R2 Q2 b0 b1
  go_wp2_with fail
  go_ret
  exact ⟨rfl, hb⟩

theorem eqRecordResult_any (e s k : Int) (a1 a2 : Option Addr) (n c1 c2 : Nat) (t : Int) (B : Nat) (zs : List Int) (w : World) (hR : Row .u8 w B a1 n c1 zs) (hQ : Row .u8 w B a2 n c2 zs) (hB : B ≤ w.heap.size) :
    Calls Tryd.prog 70 #[R5 e s k a1 n c1 t, R5 e s k a2 n c2 t] w fun e w' => e = .returned (.bool true) ∧ Below w.heap.size w w' := by
  have b0 := bal (bal (Below.refl _ w) (.cells #[.int .i64 e, .int .i64 s, .int .i64 k, .slice a1 n c1, .int .i64 t] 68)) (.cells #[.int .i64 e, .int .i64 s, .int .i64 k, .slice a2 n c2, .int .i64 t] 68)
  have R2 := hR.below (b0.mono hB)
  have Q2 := hQ.below (b0.mono hB)
  clear hR hQ
  go_enter Tryd.func70, Tryd.ntmps70
  go_wp2_with fail
  refine (eqRecord_any _ _ _ _ _ _ _ _ _ _ _ R2 Q2 (by have := b0.size; omega)).mono ?_
  rintro r u1 ⟨rfl, b1⟩
  have hb := btr b0 b1
  clear R2 Q2 b0 b1
  go_wp2_with fail
  go_ret
  exact ⟨rfl, hb⟩

theorem markRecord_any (e s k t : Int) (a : Option Addr) (n c B : Nat) (m : Int) (zs : List Int) (w : World) (ho : OwnK .u8 w B (.slice a n c) zs) (k0 : 0 ≤ m) (k1 : m ≤ 1000000000) (hn : n ≤ 1048576) :
    Calls Tryd.prog 78 #[R4 s k a n c t, .int .i64 m] w (Marked B m (.slice a n c) n w) := by
  have ho2 := ho.alloc (.cells #[.int .i64 s, .int .i64 k, .slice a n c, .int .i64 t] 66)
  go_enter Tryd.func78, Tryd.ntmps78
  go_wp2_with fail
  refine (markByteS_any _ _ _ _ _ _ _ ho2 k0 k1 hn).mono ?_
  rintro r w1 ⟨rfl, ho3, hg⟩
  have hg2 := grown_alloc hg
  clear ho ho2 hg
  go_wp2_with fail
  go_ret
  exact ⟨rfl, ho3, hg2⟩

theorem markRecordResult_any (e s k t : Int) (a : Option Addr) (n c B : Nat) (m : Int) (zs : List Int) (w : World) (ho : OwnK .u8 w B (.slice a n c) zs) (k0 : 0 ≤ m) (k1 : m ≤ 1000000000) (hn : n ≤ 1048576) :
    Calls Tryd.prog 73 #[R5 e s k a n c t, .int .i64 m] w (Marked B m (.slice a n c) n w) := by
  have ho2 := ho.alloc (.cells #[.int .i64 e, .int .i64 s, .int .i64 k, .slice a n c, .int .i64 t] 68)
  go_enter Tryd.func73, Tryd.ntmps73
  go_wp2_with fail
  refine (markRecord_any 0 _ _ _ _ _ _ _ _ _ _ ho2 k0 k1 hn).mono ?_
  rintro r w1 ⟨rfl, ho3, hg⟩
  have hg2 := grown_alloc hg
  clear ho ho2 hg
  go_wp2_with fail
  go_ret
  exact ⟨rfl, ho3, hg2⟩

theorem heldRecord_any (e s k t : Int) (a : Option Addr) (n c B : Nat) (m : Int) (w : World) (hR : Row .u8 w B a n c (marks m n)) (hB : B ≤ w.heap.size) (k0 : 0 ≤ m) (k1 : m ≤ 1000000000) (hn : n ≤ 1048576) :
    Calls Tryd.prog 131 #[R4 s k a n c t, .int .i64 m] w fun r w' => r = .returned (.int .i64 (m + n)) ∧ Below w.heap.size w w' := by
  have R2 := hR.alloc hB (.cells #[.int .i64 s, .int .i64 k, .slice a n c, .int .i64 t] 66)
  have hb := bal (Below.refl _ w) (.cells #[.int .i64 s, .int .i64 k, .slice a n c, .int .i64 t] 66)
  clear hR
  have h0 : ¬ m + n < 0 := by omega
  go_enter Tryd.func131, Tryd.ntmps131
  go_wp2_with fail
  refine (heldByteS_any _ _ _ _ _ _ R2 k0 k1 hn).mono ?_
  rintro r w1 ⟨rfl, rfl⟩
  clear R2
  go_wp2_with fail
  go_ret
  exact ⟨rfl, hb⟩

theorem heldRecordResult_any (e s k t : Int) (a : Option Addr) (n c B : Nat) (m : Int) (w : World) (hR : Row .u8 w B a n c (marks m n)) (hB : B ≤ w.heap.size) (k0 : 0 ≤ m) (k1 : m ≤ 1000000000) (hn : n ≤ 1048576) :
    Calls Tryd.prog 74 #[R5 e s k a n c t, .int .i64 m] w fun r w' => r = .returned (.int .i64 (m + n)) ∧ Below w.heap.size w w' := by
  have R2 := hR.alloc hB (.cells #[.int .i64 e, .int .i64 s, .int .i64 k, .slice a n c, .int .i64 t] 68)
  have hb := bal (Below.refl _ w) (.cells #[.int .i64 e, .int .i64 s, .int .i64 k, .slice a n c, .int .i64 t] 68)
  clear hR
  have h0 : ¬ m + n < 0 := by omega
  go_enter Tryd.func74, Tryd.ntmps74
  go_wp2_with fail
  refine (heldRecord_any 0 _ _ _ _ _ _ _ _ _ R2 (by simp; omega) k0 k1 hn).mono ?_
  rintro r w1 ⟨rfl, b1⟩
  clear R2
  go_wp2_with fail
  go_ret
  exact ⟨rfl, btr hb b1⟩

end Go.Proofs.YtjlhldndomaknaaDoor
