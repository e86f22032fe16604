/- Contracts of whether two stores are the same, by the program and by its model. Conditions: as each theorem states. -/
import Derived.Test.YtefgimpodhjdpabG9
import Derived.Test.YtefgimpodhjdpabC4b
import Derived.Test.YtefgimpodhjdpabC7s
namespace Go.Proofs.Ytefgimpodhjdpab
open Go.RowKit
set_option maxRecDepth 100000
set_option linter.unusedVariables false

theorem take_eq_all {rs qs : List (List Int)} (hl : rs.length = qs.length) (h : rs.take rs.length = qs.take rs.length) : rs = qs := by
  rw [List.take_length, hl, List.take_length] at h
  exact h
theorem take_eq_next {rs qs : List (List Int)} {k : Nat} (h1 : k < rs.length) (h2 : k < qs.length) (h : rs.take k = qs.take k) (he : rs[k]?.getD [] = qs[k]?.getD []) : rs.take (k + 1) = qs.take (k + 1) := by
  rw [M.take_snoc rs [] k h1, M.take_snoc qs [] k h2, h, he]
theorem equalFunc_any (a1 : Option Addr) (n1 c1 : Nat) (a2 : Option Addr) (n2 c2 B : Nat) (rs qs : List (List Int)) (w : World) (hG : Grid w B a1 n1 c1 rs) (hH : Grid w B a2 n2 c2 qs) :
    Calls Try.prog 15 #[.slice a1 n1 c1, .slice a2 n2 c2, .func (.func 16) #[] #[]] w fun r w' => r = .returned (.bool (decide (rs = qs))) ∧ w = w' := by
  have hl1 := hG.length
  have hl2 := hH.length
  have hf1 := hG.fits
  have hm1 := hG.most
  have hf2 := hH.fits
  have hm2 := hH.most
  unfold maxLen at hm1 hm2
  by_cases hn : n1 = n2
  case neg =>
    have e : decide (rs = qs) = false := decide_eq_false fun e => hn (by rw [← hl1, ← hl2, e])
    rw [e]
    have hn2 : ¬ ((n1 : Int) = n2) := by omega
    clear e
    go_enter Try.func15, Try.ntmps15
    go_wp2_with fail
    go_ret
    exact ⟨rfl, rfl⟩
  subst hn
  generalize hd : decide (rs = qs) = d at *
  have HD := Lib.hid hd
  clear hd
  go_enter Try.func15, Try.ntmps15
  go_wp2_with fail
  go_loopw [17] (fun i wr => ∃ k : Nat, k ≤ n1 ∧ i = .int .i64 k ∧ rs.take k = qs.take k ∧ wr = w) (fun i _ => n1 - (intOf i).toNat)
  case atStart => exact ⟨0, Nat.zero_le _, rfl, rfl, rfl⟩
  case round =>
    obtain ⟨k, hk, rfl, he, rfl⟩ := hrel
    by_cases hlt : k < n1
    · obtain ⟨b, off, ha, hb, hc⟩ := hG.cells (by omega)
      obtain ⟨b', off', ha', hb', hc'⟩ := hH.cells (by omega)
      obtain ⟨x1, m1, d1, g1, r1⟩ := hc k hlt
      obtain ⟨x2, m2, d2, g2, r2⟩ := hc' k hlt
      subst ha
      subst ha'
      have BE := bytesEqual_any r1 r2
      by_cases hq : rs[k]?.getD [] = qs[k]?.getD []
      · rw [decide_eq_true hq] at BE
        have HN := Lib.hid (take_eq_next (by omega) (by omega) he hq)
        clear hc hc' r1 r2 he hq
        go_wp2_with fail
        refine BE.mono ?_
        rintro e w' ⟨rfl, rfl⟩
        go_wp2_with fail
        go_roundw
        case rel => exact ⟨k + 1, by omega, by go_num, HN.out, trivial⟩
        case measure => simp [intOf]; omega
      · rw [decide_eq_false hq] at BE
        have e : d = false := by rw [← HD.out]; exact decide_eq_false fun e => hq (by rw [e])
        subst e
        clear hc hc' r1 r2 he hq
        go_wp2_with fail
        refine BE.mono ?_
        rintro e w' ⟨rfl, rfl⟩
        go_wp2_with fail
        go_ret
        exact ⟨rfl, rfl⟩
    · obtain rfl : k = n1 := by omega
      have e : d = true := by rw [← HD.out]; exact decide_eq_true (take_eq_all (by omega) (by rw [hl1]; exact he))
      subst e
      clear he
      go_wp2_with fail
      go_ret
      exact ⟨rfl, rfl⟩
def sameSt (a b : StoreD) : Bool := sameL a.ps b.ps && decide (a.d.s = b.d.s) && decide (a.d.rs = b.d.rs)
set_option maxHeartbeats 1000000 in
theorem implSameStores_any (a1 : Option Addr) (n1 c1 : Nat) (a2 : Option Addr) (n2 c2 : Nat) (b1 : Option Addr) (m1 k1 : Nat) (b2 : Option Addr) (m2 k2 B : Nat) (s t : StoreD) (w : World) (hR : SRow w B a1 n1 c1 a2 n2 c2 s) (hQ : SRow w B b1 m1 k1 b2 m2 k2 t) (hB : B ≤ w.heap.size) :
    Calls Try.prog 7 #[.agg #[.slice a1 n1 c1, .slice a2 n2 c2, .int .i64 s.d.s], .agg #[.slice b1 m1 k1, .slice b2 m2 k2, .int .i64 t.d.s]] w fun r w' => r = .returned (.bool (sameSt s t)) ∧ Below w.heap.size w w' := by
  have b0 := bal (bal (Below.refl _ w) (.cells #[.slice a1 n1 c1, .slice a2 n2 c2, .int .i64 s.d.s] 33)) (.cells #[.slice b1 m1 k1, .slice b2 m2 k2, .int .i64 t.d.s] 33)
  have A0 : At w.heap.size [.slice a1 n1 c1, .slice a2 n2 c2, .int .i64 s.d.s] ((w.alloc (.cells #[.slice a1 n1 c1, .slice a2 n2 c2, .int .i64 s.d.s] 33)).alloc (.cells #[.slice b1 m1 k1, .slice b2 m2 k2, .int .i64 t.d.s] 33)) := (At.new w [.slice a1 n1 c1, .slice a2 n2 c2, .int .i64 s.d.s] 33).alloc _
  have C0 := At.new (w.alloc (.cells #[.slice a1 n1 c1, .slice a2 n2 c2, .int .i64 s.d.s] 33)) [.slice b1 m1 k1, .slice b2 m2 k2, .int .i64 t.d.s] 33
  rw [World.size_alloc] at C0
  have SP := implSamePins_any a1 b1 n1 m1 c1 k1 B s.ps t.ps _ (hR.ps.below (b0.mono hB)) (hQ.ps.below (b0.mono hB)) (Nat.le_trans hB b0.size)
  have EF := Lib.hid (fun (w' : World) (h : Below w.heap.size w w') => equalFunc_any a2 n2 c2 b2 m2 k2 B s.d.rs t.d.rs w' (hR.rs.below (h.mono hB)) (hQ.rs.below (h.mono hB)))
  have HA0 := Lib.hid A0
  have HC0 := Lib.hid (show At (w.heap.size + 1) [.slice b1 m1 k1, .slice b2 m2 k2, .int .i64 t.d.s] ((w.alloc (.cells #[.slice a1 n1 c1, .slice a2 n2 c2, .int .i64 s.d.s] 33)).alloc (.cells #[.slice b1 m1 k1, .slice b2 m2 k2, .int .i64 t.d.s] 33)) from C0)
  have HB0 := Lib.hid b0
  unfold sameSt
  clear hR hQ A0 C0 b0
  generalize sameL s.ps t.ps = x at *
  generalize decide (s.d.rs = t.d.rs) = z at *
  generalize s.d.s = y1 at *
  generalize t.d.s = y2 at *
  cases x
  · have E : (false && decide (y1 = y2) && z) = false := by simp
    rw [E]; clear E EF
    have d0 := HA0.out.cell 0 _ rfl
    have d1 := HA0.out.cell 1 _ rfl
    have d2 := HA0.out.cell 2 _ rfl
    have e0 := HC0.out.cell 0 _ rfl
    have e1 := HC0.out.cell 1 _ rfl
    have e2 := HC0.out.cell 2 _ rfl
    go_enter Try.func7, Try.ntmps7
    go_wp2_with fail
    generalize (w.alloc (.cells #[.slice a1 n1 c1, .slice a2 n2 c2, .int .i64 y1] 33)).alloc (.cells #[.slice b1 m1 k1, .slice b2 m2 k2, .int .i64 y2] 33) = W0 at *
    refine SP.mono ?_
    rintro r u1 ⟨rfl, b1'⟩
    have B1 := Lib.hid (btr HB0.out b1')
    have A1 := HA0.out.on b1'
    have C1 := HC0.out.on b1'
    clear d0 d1 d2 e0 e1 e2 b1' SP HA0 HC0 HB0
    have d0 := A1.cell 0 _ rfl
    have d1 := A1.cell 1 _ rfl
    have d2 := A1.cell 2 _ rfl
    have e0 := C1.cell 0 _ rfl
    have e1 := C1.cell 1 _ rfl
    have e2 := C1.cell 2 _ rfl
    go_wp2_with fail
    go_ret
    exact ⟨rfl, B1.out⟩
  by_cases hy : y1 = y2
  · have E : (true && decide (y1 = y2) && z) = z := by simp [hy]
    rw [E]; clear E
    have q8 : decide (y1 = y2) = true := decide_eq_true hy
    have q7 : (y1 == y2) = true := by simpa using hy
    clear hy
    have d0 := HA0.out.cell 0 _ rfl
    have d1 := HA0.out.cell 1 _ rfl
    have d2 := HA0.out.cell 2 _ rfl
    have e0 := HC0.out.cell 0 _ rfl
    have e1 := HC0.out.cell 1 _ rfl
    have e2 := HC0.out.cell 2 _ rfl
    go_enter Try.func7, Try.ntmps7
    go_wp2_with fail
    generalize (w.alloc (.cells #[.slice a1 n1 c1, .slice a2 n2 c2, .int .i64 y1] 33)).alloc (.cells #[.slice b1 m1 k1, .slice b2 m2 k2, .int .i64 y2] 33) = W0 at *
    refine SP.mono ?_
    rintro r u1 ⟨rfl, b1'⟩
    have B1 := Lib.hid (btr HB0.out b1')
    have A1 := HA0.out.on b1'
    have C1 := HC0.out.on b1'
    clear d0 d1 d2 e0 e1 e2 b1' SP HA0 HC0 HB0
    have d0 := A1.cell 0 _ rfl
    have d1 := A1.cell 1 _ rfl
    have d2 := A1.cell 2 _ rfl
    have e0 := C1.cell 0 _ rfl
    have e1 := C1.cell 1 _ rfl
    have e2 := C1.cell 2 _ rfl
    go_wp2_with fail
    refine (EF.out _ B1.out).mono ?_
    rintro r u2 ⟨rfl, rfl⟩
    go_wp2_with fail
    go_ret
    exact ⟨rfl, B1.out⟩
  · have E : (true && decide (y1 = y2) && z) = false := by simp [hy]
    rw [E]; clear E EF
    have q8 : decide (y1 = y2) = false := decide_eq_false hy
    have d0 := HA0.out.cell 0 _ rfl
    have d1 := HA0.out.cell 1 _ rfl
    have d2 := HA0.out.cell 2 _ rfl
    have e0 := HC0.out.cell 0 _ rfl
    have e1 := HC0.out.cell 1 _ rfl
    have e2 := HC0.out.cell 2 _ rfl
    go_enter Try.func7, Try.ntmps7
    go_wp2_with fail
    generalize (w.alloc (.cells #[.slice a1 n1 c1, .slice a2 n2 c2, .int .i64 y1] 33)).alloc (.cells #[.slice b1 m1 k1, .slice b2 m2 k2, .int .i64 y2] 33) = W0 at *
    refine SP.mono ?_
    rintro r u1 ⟨rfl, b1'⟩
    have B1 := Lib.hid (btr HB0.out b1')
    have A1 := HA0.out.on b1'
    have C1 := HC0.out.on b1'
    clear d0 d1 d2 e0 e1 e2 b1' SP HA0 HC0 HB0
    have d0 := A1.cell 0 _ rfl
    have d1 := A1.cell 1 _ rfl
    have d2 := A1.cell 2 _ rfl
    have e0 := C1.cell 0 _ rfl
    have e1 := C1.cell 1 _ rfl
    have e2 := C1.cell 2 _ rfl
    go_wp2_with fail
    go_ret
    exact ⟨rfl, B1.out⟩
end Go.Proofs.Ytefgimpodhjdpab
