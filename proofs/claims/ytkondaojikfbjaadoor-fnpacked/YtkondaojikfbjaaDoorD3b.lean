/- Contracts of the draws of signatures and of their bytes. Conditions: as each theorem states. -/
import Derived.Test.YtkondaojikfbjaaDoorD3
import Derived.Test.YtkondaojikfbjaaDoorD2
import Derived.Test.YtkondaojikfbjaaDoorL0
namespace Go.Proofs.YtkondaojikfbjaaDoor
open Go.RowKit
set_option maxRecDepth 100000
set_option linter.unusedVariables false

theorem DrawCheckSign_any {a : Option Addr} {len cap : Nat} {zs : List Int} {w : World} (hR : Row .u8 w w.heap.size a len cap zs) :
    Calls Tryd.prog 36 #[.slice a len cap] w (DrawnSig w) := by
  have R0 := fun o => hR.on (bal (Below.refl _ w) o)
  have hQ := Res2.new w 49
  have hb0 := bal (Below.refl _ w) (.cells #[.int .i64 0, .int .i64 0] 49)
  go_enter Tryd.func36, Tryd.ntmps36
  go_wp2_with fail
  refine (dsource (R0 _)).mono ?_
  rintro r w1 ⟨rfl, D⟩
  generalize w.alloc (.cells #[.int .i64 0, .int .i64 0] 49) = W at *
  go_wp2_with fail
  refine (l3Bent_any D).mono ?_
  rintro r w2 ⟨x, y, p, q, rfl, h2⟩
  obtain ⟨q0, q1, z0, z1⟩ := hQ.on h2
  have b2 := btr hb0 h2
  clear hQ hb0 h2 D R0
  go_wp2_with fail
  exact bodyPost_ret (v := .tuple #[.int .i64 x, .int .i64 y, I2 p q]) (by simp [results, Tryd.results36, go_sem, q0, q1]) rfl ⟨_, _, _, _, rfl, bset (bset b2 (Nat.le_refl _) _) (Nat.le_refl _) _⟩

def DrawnPair (w : World) (r : Ending) (w' : World) : Prop := ∃ p q : Int, r = .returned (I2 p q) ∧ Below w.heap.size w w'
theorem DrawPackSign_any {a : Option Addr} {len cap : Nat} {zs : List Int} {w : World} (hR : Row .u8 w w.heap.size a len cap zs) :
    Calls Tryd.prog 47 #[.slice a len cap] w (DrawnPair w) := by
  have R0 := fun o => hR.on (bal (Below.refl _ w) o)
  have hQ := Res2.new w 49
  have hb0 := bal (Below.refl _ w) (.cells #[.int .i64 0, .int .i64 0] 49)
  go_enter Tryd.func47, Tryd.ntmps47
  go_wp2_with fail
  refine (dsource (R0 _)).mono ?_
  rintro r w1 ⟨rfl, D⟩
  generalize w.alloc (.cells #[.int .i64 0, .int .i64 0] 49) = W at *
  go_wp2_with fail
  refine (l3Bent_any D).mono ?_
  rintro r w2 ⟨x, y, p, q, rfl, h2⟩
  obtain ⟨q0, q1, z0, z1⟩ := hQ.on h2
  have b2 := btr hb0 h2
  have hz : w.heap.size < w2.heap.size := cell_lt q0
  clear hQ hb0 h2 D R0
  go_wp2_with fail
  exact bodyPost_ret (v := I2 p q) (by simp [results, Tryd.results47, go_sem, q0, q1, hz]) rfl ⟨_, _, rfl, by first | exact bset (bset (bal b2 _) (Nat.le_refl _) _) (Nat.le_refl _) _ | exact bal (bset (bset b2 (Nat.le_refl _) _) (Nat.le_refl _) _) _⟩

theorem OwnK.put {k : IntKind} {w : World} {B g n c : Nat} {zs : List Int} {i : Nat} {m : Int} (h : OwnK k w B (.slice (some ⟨g, 0, none⟩) n c) zs) (hi : i < zs.length) : OwnK k (w.setCell ⟨g, i, none⟩ (.int k m)) B (.slice (some ⟨g, 0, none⟩) n c) (zs.set i m) := by
  unfold OwnK at *
  rcases h.2 with ⟨e, h0⟩ | ⟨g', c', e, hB, hg, hn, hm, hcell, hroom⟩
  · cases e
  injection e with e1 e2 e3
  injection e1 with e1
  injection e1 with e1 _ _
  subst e1
  subst e3
  refine ⟨by simp, .inr ⟨g, c, by rw [e2]; simp, hB, by simpa [World.setCell] using hg, by simpa using hn, hm, fun j u hu => ?_, fun j hj => ?_⟩⟩
  · have hj := (List.getElem?_eq_some_iff.1 hu).1
    simp at hj
    by_cases hji : j = i
    · subst hji
      obtain ⟨u0, hu0⟩ := Option.isSome_iff_exists.1 (hroom j (by omega)).1
      rw [World.cell?_setCell_same _ _ _ (by rw [hu0]), ← hu]
      simp [hj]
    · rw [World.cell?_setCell_other _ _ _ _ (fun e => by injection e with _ e2; omega)]
      refine hcell j u ?_
      rw [← hu]
      simp [show ¬ i = j by omega]
  · obtain ⟨q1, q2⟩ := hroom j hj
    refine ⟨?_, by rw [World.frozen?_setCell]; exact q2⟩
    obtain ⟨u0, hu0⟩ := Option.isSome_iff_exists.1 q1
    obtain ⟨v, hv⟩ := cell?_setCell_some (w := w) (p := ⟨g, i, none⟩) (x := .int k m) (q := ⟨g, j, none⟩) (v := u0) hu0
    rw [hv]; rfl

theorem DrawReadSign_any {a : Option Addr} {len cap : Nat} {zs : List Int} {w : World} (hR : Row .u8 w w.heap.size a len cap zs) :
    Calls Tryd.prog 45 #[.slice a len cap] w (DrawnRow w) := by
  go_enter Tryd.func45, Tryd.ntmps45
  go_wp2_with fail
  refine (dsource hR).mono ?_
  rintro r w1 ⟨rfl, D1⟩
  go_wp2_with fail
  refine (dnextS D1 (by omega)).mono ?_
  rintro r w2 ⟨x, x0, x1, rfl, D2, O2⟩
  clear D1 O2
  go_wp2_with fail
  refine (dnext 65521 D2 (by omega)).mono ?_
  rintro r w3 ⟨t, t0, t1, rfl, D3, O3⟩
  have hx : inB x 1 1438 = true := by simp only [inB, decide_eq_true_eq]; omega
  have ht : M.sumB t = true := by simp only [M.sumB, decide_eq_true_eq]; omega
  have hS := M.sigB_bd (M.sigB_signed x t)
  have S1 := fun w => l3Sign_any x t w hx ht
  generalize M.sigPt x t = P at *
  generalize M.sigPr x t = R at *
  obtain ⟨p0, p1, r0, r1⟩ := hS
  have sp : M.sumB P = true := by simp only [M.sumB, decide_eq_true_eq]; omega
  have sr : M.sumB R = true := by simp only [M.sumB, decide_eq_true_eq]; omega
  clear D2 O3 hx ht x0 x1 t0 t1
  go_wp2_with fail
  refine (S1 _).mono ?_
  rintro r w4 ⟨rfl, h4⟩
  have D4 := (D3.below h4).alloc (.cells #[.int .i64 P, .int .i64 R] 49)
  have d0 : (w4.alloc (.cells #[.int .i64 P, .int .i64 R] 49)).cell? ⟨w4.heap.size, 0, none⟩ = some (.int .i64 P) := by go_simp
  have d1 : (w4.alloc (.cells #[.int .i64 P, .int .i64 R] 49)).cell? ⟨w4.heap.size, 1, none⟩ = some (.int .i64 R) := by go_simp
  clear S1 D3 h4
  go_wp2_with fail
  generalize w4.alloc (.cells #[.int .i64 P, .int .i64 R] 49) = v4 at *
  refine (l3Pack_any _ P R _ d0 d1 sp sr).mono ?_
  rintro r w5 ⟨a5, n5, c5, rfl, O5, h5⟩
  have hl5 : n5 = 4 := OwnK.len O5
  subst hl5
  have D5 := D4.below h5
  have lt4 := D4.src.lt
  have hw5 : ∀ z ∈ M.two P ++ M.two R, (Lit.int .u8 z).wf = true := fun z hz => byte_wf (by
    rcases List.mem_append.1 hz with h | h
    · exact M.two_byte sp z h
    · exact M.two_byte sr z h)
  have hlen5 : (M.two P ++ M.two R).length = 4 := rfl
  generalize M.two P ++ M.two R = ys at *
  rcases O5.2 with ⟨e, h0⟩ | ⟨g, c, e, hB5, hg5, hn5, hm5, hcell, hroom⟩
  · omega
  injection e with e1 e2 e3
  subst e1
  subst e3
  have hgne : w.heap.size < g := by omega
  have O5' : Own w5 (w.heap.size + 1) 1 (.slice (some ⟨g, 0, none⟩) 4 c5) _ _ := O5.less (by omega)
  clear D4 h5 d0 d1 e2 hB5 lt4 O5
  go_wp2_with fail
  refine (dnext 5 D5 (by omega)).mono ?_
  rintro r w6 ⟨k, k0, k1, rfl, D6, O6⟩
  have Q6 : OwnK .u8 w6 (w.heap.size + 1) (.slice (some ⟨g, 0, none⟩) 4 c5) ys := O5'.only O6 (by omega)
  clear D5 O6 O5' hcell hroom hg5
  by_cases e0 : k = 0
  · subst e0
    go_wp2_with fail
    refine (dnext 4 D6 (by omega)).mono ?_
    rintro r w7 ⟨i, i0, i1, rfl, D7, O7⟩
    have i2 : i < 4 := by omega
    have Q7 : OwnK .u8 w7 (w.heap.size + 1) (.slice (some ⟨g, 0, none⟩) 4 c5) ys := Q6.only O7 (by omega)
    obtain ⟨i, rfl⟩ := Int.eq_ofNat_of_zero_le i0
    clear D6 Q6 O7 i0 i1
    go_wp2_with fail
    refine (dpick [0, 255, 11] 3 D7 (by omega) (by omega) (by omega) rfl 2).mono ?_
    rintro r w8 ⟨m, hm, rfl, D8, O8⟩
    have Q8 : OwnK .u8 w8 (w.heap.size + 1) (.slice (some ⟨g, 0, none⟩) 4 c5) ys := (Q7.alloc (.cells #[.int .i64 0, .int .i64 255, .int .i64 11] 2)).only O8 (by omega)
    have hm' : 0 ≤ m ∧ m ≤ 255 := by simp at hm; omega
    obtain ⟨m0, m1⟩ := hm'
    clear hm D7 Q7 O8
    rcases Q8.2 with ⟨e, h0⟩ | ⟨g', c', e, hB8, hg8, hn8, hm8, hcell, hroom⟩
    · cases e
    injection e with e1 e2 e3
    injection e1 with e1
    injection e1 with e1 _ _
    subst e1
    subst e3
    obtain ⟨u, hu⟩ := Option.isSome_iff_exists.1 (hroom i (by omega)).1
    have hf := (hroom i (by omega)).2
    have Q9 := Q8.put (i := i) (m := m) (by omega)
    have b9 := bset D8.bel (p := ⟨g, i, none⟩) (by show w.heap.size ≤ g; omega) (.int .u8 m)
    have hw9 : ∀ z ∈ ys.set i m, (Lit.int .u8 z).wf = true := fun z hz => by
      rcases List.mem_or_eq_of_mem_set hz with h | h
      · exact hw5 z h
      · subst h; exact u8_wf m0 (by omega)
    clear D8 Q8 hcell hroom e2
    unfold maxLen at hm5
    go_wp2_with fail
    go_ret
    exact ⟨_, _, _, _, rfl, Own.row Q9 hw9, b9⟩
  by_cases e1 : k = 1
  · subst e1
    obtain ⟨i0, hi0, hz0, hz1, hz2⟩ := info_parts u8_info
    have b6 := D6.bel
    have lt6 := D6.src.lt
    clear hn5 hm5
    go_wp2_with (at_builtin; refine wpList_append_src _ rfl (.tmp 28) (.tmp 29) 22 22 rfl (w.heap.size + 1) 5 i0 (.int .u8 0) 1 1 Tryd.underlying22 hi0 hz0 hz1 hz2 rfl _ _ _ rfl (Q6.alloc _) _ 1 [.int .u8 1] rfl (src_new w6 _ 1 1 _ _ _ Tryd.underlying22 rfl (ints_oneCell .u8 [1])) (by rw [hlen5]; simp only [maxLen]; omega) (by rw [hlen5]; omega) (by simp; omega) ?_; intro v7 w7 hown hgrow hat)
    have Q7 : OwnK .u8 w7 (w.heap.size + 1) v7 (ys ++ [1]) := by unfold OwnK; simpa using hown
    have b7 : Below w.heap.size w w7 := (bal b6 (.cells #[.int .u8 1] 5)).grown hgrow (by simp; omega) (fun k hk => by have := (Q6.lt k hk).1; omega)
    have hw7 : ∀ z ∈ ys ++ [1], (Lit.int .u8 z).wf = true := fun z hz => by
      rcases List.mem_append.1 hz with h | h
      · exact hw5 z h
      · simp at h; subst h; exact u8_wf (by omega) (by omega)
    clear hown hgrow hat Q6 D6 b6
    obtain ⟨a7, c7, hv, -⟩ := Q7.form
    subst hv
    go_ret
    exact ⟨_, _, _, _, rfl, Own.row Q7 hw7, b7⟩
  · have n0 : (k == 0) = false := by rw [beq_eq_false_iff_ne]; exact e0
    have n1 : (k == 1) = false := by rw [beq_eq_false_iff_ne]; exact e1
    have F := Lib.hid (And.intro (Own.row Q6 hw5) D6.bel)
    clear Q6 D6
    go_wp2_with fail
    go_ret
    exact ⟨_, _, _, _, rfl, F.out.1, F.out.2⟩
end Go.Proofs.YtkondaojikfbjaaDoor
