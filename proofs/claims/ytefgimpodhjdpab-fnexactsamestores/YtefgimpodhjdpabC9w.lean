/- Contracts of whether two stores are the same, by the model. Conditions: as each theorem states. -/
import Derived.Test.YtefgimpodhjdpabC9v
import Derived.Deep.DeepCutAuto
namespace Go.Proofs.Ytefgimpodhjdpab
open Go.RowKit
set_option maxRecDepth 100000
set_option linter.unusedVariables false

set_option maxHeartbeats 1000000 in
theorem specSameStores_any (a1 : Option Addr) (n1 c1 : Nat) (a2 : Option Addr) (n2 c2 : Nat) (b1 : Option Addr) (m1 k1 : Nat) (b2 : Option Addr) (m2 k2 B : Nat) (s t : StoreD) (w : World) (hR : SRow w B a1 n1 c1 a2 n2 c2 s) (hQ : SRow w B b1 m1 k1 b2 m2 k2 t) (hB : B ≤ w.heap.size) :
    Calls Try.prog 5 #[.agg #[.slice a1 n1 c1, .slice a2 n2 c2, .int .i64 s.d.s], .agg #[.slice b1 m1 k1, .slice b2 m2 k2, .int .i64 t.d.s]] w fun r w' => r = .returned (.bool (sameSt s t)) ∧ Below w.heap.size w w' := by
  have b0 := bal (bal (Below.refl _ w) (.cells #[.slice a1 n1 c1, .slice a2 n2 c2, .int .i64 s.d.s] 33)) (.cells #[.slice b1 m1 k1, .slice b2 m2 k2, .int .i64 t.d.s] 33)
  have A0 : At w.heap.size [.slice a1 n1 c1, .slice a2 n2 c2, .int .i64 s.d.s] ((w.alloc (.cells #[.slice a1 n1 c1, .slice a2 n2 c2, .int .i64 s.d.s] 33)).alloc (.cells #[.slice b1 m1 k1, .slice b2 m2 k2, .int .i64 t.d.s] 33)) := (At.new w [.slice a1 n1 c1, .slice a2 n2 c2, .int .i64 s.d.s] 33).alloc _
  have C0 := At.new (w.alloc (.cells #[.slice a1 n1 c1, .slice a2 n2 c2, .int .i64 s.d.s] 33)) [.slice b1 m1 k1, .slice b2 m2 k2, .int .i64 t.d.s] 33
  rw [World.size_alloc] at C0
  have SP := specSamePins_any a1 b1 n1 m1 c1 k1 B s.ps t.ps _ (hR.ps.below (b0.mono hB)) (hQ.ps.below (b0.mono hB)) (Nat.le_trans hB b0.size)
  have HG := Lib.hid (fun (w' : World) (h : Below w.heap.size w w') => hR.rs.below (h.mono hB))
  have HH := Lib.hid (fun (w' : World) (h : Below w.heap.size w w') => hQ.rs.below (h.mono hB))
  have hl1 := hR.rs.length
  have hl2 := hQ.rs.length
  have hf1 := hR.rs.fits
  have hm1 := hR.rs.most
  have hf2 := hQ.rs.fits
  have hm2 := hQ.rs.most
  unfold maxLen at hm1 hm2
  have HA0 := Lib.hid A0
  have HC0 := Lib.hid (show At (w.heap.size + 1) [.slice b1 m1 k1, .slice b2 m2 k2, .int .i64 t.d.s] ((w.alloc (.cells #[.slice a1 n1 c1, .slice a2 n2 c2, .int .i64 s.d.s] 33)).alloc (.cells #[.slice b1 m1 k1, .slice b2 m2 k2, .int .i64 t.d.s] 33)) from C0)
  have HB0 := Lib.hid b0
  unfold sameSt
  clear hR hQ A0 C0 b0
  generalize sameL s.ps t.ps = x at *
  generalize hd : decide (s.d.rs = t.d.rs) = z at *
  have HD := Lib.hid hd
  generalize s.d.s = y1 at *
  generalize t.d.s = y2 at *
  generalize s.d.rs = rs at *
  generalize t.d.rs = qs at *
  clear hd
  cases x
  · have E : (false && decide (y1 = y2) && z) = false := by simp
    rw [E]; clear E HG HH
    have d0 := HA0.out.cell 0 _ rfl
    have d1 := HA0.out.cell 1 _ rfl
    have d2 := HA0.out.cell 2 _ rfl
    have e0 := HC0.out.cell 0 _ rfl
    have e1 := HC0.out.cell 1 _ rfl
    have e2 := HC0.out.cell 2 _ rfl
    go_enter Try.func5, Try.ntmps5
    go_wp2_with fail
    generalize (w.alloc (.cells #[.slice a1 n1 c1, .slice a2 n2 c2, .int .i64 y1] 33)).alloc (.cells #[.slice b1 m1 k1, .slice b2 m2 k2, .int .i64 y2] 33) = W0 at *
    refine SP.mono ?_
    rintro r u1 ⟨rfl, b1'⟩
    have B1 := Lib.hid (btr HB0.out b1')
    have A1 := Lib.hid (HA0.out.on b1')
    have C1 := Lib.hid (HC0.out.on b1')
    clear d0 d1 d2 e0 e1 e2 b1' SP HA0 HC0 HB0
    have d0 := A1.out.cell 0 _ rfl
    have d1 := A1.out.cell 1 _ rfl
    have d2 := A1.out.cell 2 _ rfl
    have e0 := C1.out.cell 0 _ rfl
    have e1 := C1.out.cell 1 _ rfl
    have e2 := C1.out.cell 2 _ rfl
    go_wp2_with fail
    go_ret
    exact ⟨rfl, B1.out⟩
  by_cases hy : y1 = y2
  case neg =>
    have E : (true && decide (y1 = y2) && z) = false := by simp [hy]
    rw [E]; clear E HG HH
    have q8 : decide (y1 = y2) = false := decide_eq_false hy
    have q7 : (y1 != y2) = true := by simpa using hy
    have d0 := HA0.out.cell 0 _ rfl
    have d1 := HA0.out.cell 1 _ rfl
    have d2 := HA0.out.cell 2 _ rfl
    have e0 := HC0.out.cell 0 _ rfl
    have e1 := HC0.out.cell 1 _ rfl
    have e2 := HC0.out.cell 2 _ rfl
    go_enter Try.func5, Try.ntmps5
    go_wp2_with fail
    generalize (w.alloc (.cells #[.slice a1 n1 c1, .slice a2 n2 c2, .int .i64 y1] 33)).alloc (.cells #[.slice b1 m1 k1, .slice b2 m2 k2, .int .i64 y2] 33) = W0 at *
    refine SP.mono ?_
    rintro r u1 ⟨rfl, b1'⟩
    have B1 := Lib.hid (btr HB0.out b1')
    have A1 := Lib.hid (HA0.out.on b1')
    have C1 := Lib.hid (HC0.out.on b1')
    clear d0 d1 d2 e0 e1 e2 b1' SP HA0 HC0 HB0
    have d0 := A1.out.cell 0 _ rfl
    have d1 := A1.out.cell 1 _ rfl
    have d2 := A1.out.cell 2 _ rfl
    have e0 := C1.out.cell 0 _ rfl
    have e1 := C1.out.cell 1 _ rfl
    have e2 := C1.out.cell 2 _ rfl
    go_wp2_with fail
    go_ret
    exact ⟨rfl, B1.out⟩
  have E : (true && decide (y1 = y2) && z) = z := by simp [hy]
  rw [E]; clear E
  have q8 : decide (y1 = y2) = true := decide_eq_true hy
  have q7 : (y1 != y2) = false := by simpa using hy
  clear hy
  by_cases hn : n2 = m2
  case neg =>
    have e : z = false := by rw [← HD.out]; exact decide_eq_false fun e => hn (by rw [← hl1, ← hl2, e])
    subst e
    have hn2 : ¬ ((n2 : Int) = m2) := by omega
    have hn3 : ((n2 : Int) != m2) = true := by simpa using hn2
    clear HG HH
    have d0 := HA0.out.cell 0 _ rfl
    have d1 := HA0.out.cell 1 _ rfl
    have d2 := HA0.out.cell 2 _ rfl
    have e0 := HC0.out.cell 0 _ rfl
    have e1 := HC0.out.cell 1 _ rfl
    have e2 := HC0.out.cell 2 _ rfl
    go_enter Try.func5, Try.ntmps5
    go_wp2_with fail
    generalize (w.alloc (.cells #[.slice a1 n1 c1, .slice a2 n2 c2, .int .i64 y1] 33)).alloc (.cells #[.slice b1 m1 k1, .slice b2 m2 k2, .int .i64 y2] 33) = W0 at *
    refine SP.mono ?_
    rintro r u1 ⟨rfl, b1'⟩
    have B1 := Lib.hid (btr HB0.out b1')
    have A1 := Lib.hid (HA0.out.on b1')
    have C1 := Lib.hid (HC0.out.on b1')
    clear d0 d1 d2 e0 e1 e2 b1' SP HA0 HC0 HB0
    have d0 := A1.out.cell 0 _ rfl
    have d1 := A1.out.cell 1 _ rfl
    have d2 := A1.out.cell 2 _ rfl
    have e0 := C1.out.cell 0 _ rfl
    have e1 := C1.out.cell 1 _ rfl
    have e2 := C1.out.cell 2 _ rfl
    go_wp2_with fail
    go_ret
    exact ⟨rfl, B1.out⟩
  have hn2 : (n2 : Int) = m2 := by omega
  have hn3 : ((n2 : Int) != m2) = false := by simpa using hn2
  have HN := Lib.hid hn
  clear hn2 hn
  have d0 := HA0.out.cell 0 _ rfl
  have d1 := HA0.out.cell 1 _ rfl
  have d2 := HA0.out.cell 2 _ rfl
  have e0 := HC0.out.cell 0 _ rfl
  have e1 := HC0.out.cell 1 _ rfl
  have e2 := HC0.out.cell 2 _ rfl
  go_enter Try.func5, Try.ntmps5
  go_wp2_with fail
  generalize (w.alloc (.cells #[.slice a1 n1 c1, .slice a2 n2 c2, .int .i64 y1] 33)).alloc (.cells #[.slice b1 m1 k1, .slice b2 m2 k2, .int .i64 y2] 33) = W0 at *
  refine SP.mono ?_
  rintro r u1 ⟨rfl, b1'⟩
  have B1 := Lib.hid (btr HB0.out b1')
  have A1 := Lib.hid (HA0.out.on b1')
  have C1 := Lib.hid (HC0.out.on b1')
  clear d0 d1 d2 e0 e1 e2 b1' SP HA0 HC0 HB0
  have d0 := A1.out.cell 0 _ rfl
  have d1 := A1.out.cell 1 _ rfl
  have d2 := A1.out.cell 2 _ rfl
  have e0 := C1.out.cell 0 _ rfl
  have e1 := C1.out.cell 1 _ rfl
  have e2 := C1.out.cell 2 _ rfl
  go_upto_region 4 with fail
  clear d0 d1 d2 e0 e1 e2
  go_loopw [5] (fun i wr => ∃ k : Nat, k ≤ n2 ∧ i = .int .i64 k ∧ rs.take k = qs.take k ∧ Below u1.heap.size u1 wr) (fun i _ => n2 - (intOf i).toNat)
  case atStart => exact ⟨0, Nat.zero_le _, rfl, rfl, Below.refl _ _⟩
  case round =>
    obtain ⟨k, hk, rfl, he, hbw⟩ := hrel
    have A2 := A1.out.on hbw
    have C2 := C1.out.on hbw
    have B2 := btr B1.out hbw
    have d0 := A2.cell 0 _ rfl
    have d1 := A2.cell 1 _ rfl
    have d2 := A2.cell 2 _ rfl
    have e0 := C2.cell 0 _ rfl
    have e1 := C2.cell 1 _ rfl
    have e2 := C2.cell 2 _ rfl
    by_cases hlt : k < n2
    · obtain ⟨b, off, ha, hb, hc⟩ := (HG.out _ B2).cells (by omega)
      obtain ⟨b', off', ha', hb', hc'⟩ := (HH.out _ B2).cells (by have := HN.out; omega)
      obtain ⟨x1, v1, w1, g1, r1⟩ := hc k hlt
      obtain ⟨x2, v2, w2, g2, r2⟩ := hc' k (by have := HN.out; omega)
      subst ha
      subst ha'
      have hBw : B ≤ wr.heap.size := Nat.le_trans hB B2.size
      have k3 := strOf_beq r1.bytes r2.bytes
      have kc1 := fun z : Of (Bel wr) => conv_row (r1.below (z.prop.out.mono hBw))
      have kc2 := fun z : Of (Bel wr) => conv_row (r2.below (z.prop.out.mono hBw))
      have hk2 : k < m2 := by have := HN.out; omega
      have HE := Lib.hid he
      have HB2 := Lib.hid B2
      have HBW := Lib.hid hbw
      clear hc hc' r1 r2 he A2 C2 B2 hbw
      generalize hX : rs[k]?.getD [] = X at *
      generalize hY : qs[k]?.getD [] = Y at *
      generalize strOf X = SX at *
      generalize strOf Y = SY at *
      have HX := Lib.hid hX
      have HY := Lib.hid hY
      clear hX hY
      by_cases hq : X = Y
      · rw [decide_eq_true hq] at k3
        have HQ := Lib.hid hq
        clear hq
        go_wp2_with fail
        refine wp_region_line (Bel wr) [(0, true), (1, true), (2, true), (3, true), (4, true), (5, true), (6, true), (7, true), (8, true), (9, true), (10, true), (11, true), (12, true), (13, true), (14, true)] (by kernel_rfl) (by kernel_rfl) (fun _ _ d _ _ h => by cases d <;> exact h) (Bel.drew wr) ?_
        have hst := Bel.drew wr
        have inst : Nonempty (Of (Bel wr)) := ⟨⟨_, hst⟩⟩
        have vd := bel_cell d1
        have ve := bel_cell e1
        have vg := bel_cell g1
        have vh := bel_cell g2
        clear d0 d1 d2 e0 e1 e2 g1 g2
        generalize wr.drew = V1 at *
        iterate 15 (refine line_read rfl (by kernel_rfl) (fun K hK => ?_); go_big_quiet_op; refine hK _ ?_; clear hK K)
        refine line_nil ?_
        have HB9 := Lib.hid (btr HBW.out hst.out)
        have HN9 := Lib.hid (take_eq_next (k := k) (rs := rs) (qs := qs) (by omega) (by omega) HE.out (by rw [HX.out, HY.out]; exact HQ.out))
        clear hst inst vd ve vg vh kc1 kc2
        go_wp2_with fail
        go_roundw
        case rel => exact ⟨k + 1, by omega, by go_num, HN9.out, HB9.out⟩
        case measure => simp [intOf]; omega
      · rw [decide_eq_false hq] at k3
        have e : z = false := by rw [← HD.out]; exact decide_eq_false fun e => hq (by rw [← HX.out, ← HY.out, e])
        subst e
        go_wp2_with fail
        refine wp_region_line (Bel wr) [(0, true), (1, true), (2, true), (3, true), (4, true), (5, true), (6, true), (7, true), (8, true), (9, true), (10, true), (11, true), (12, true), (13, true), (14, true)] (by kernel_rfl) (by kernel_rfl) (fun _ _ d _ _ h => by cases d <;> exact h) (Bel.drew wr) ?_
        have hst := Bel.drew wr
        have inst : Nonempty (Of (Bel wr)) := ⟨⟨_, hst⟩⟩
        have vd := bel_cell d1
        have ve := bel_cell e1
        have vg := bel_cell g1
        have vh := bel_cell g2
        clear d0 d1 d2 e0 e1 e2 g1 g2
        generalize wr.drew = V1 at *
        iterate 15 (refine line_read rfl (by kernel_rfl) (fun K hK => ?_); go_big_quiet_op; refine hK _ ?_; clear hK K)
        refine line_nil ?_
        have HB9 := Lib.hid (btr HB2.out hst.out)
        clear hst inst vd ve vg vh kc1 kc2
        go_wp2_with fail
        go_ret
        exact ⟨rfl, HB9.out⟩
    · obtain rfl : k = n2 := by omega
      have e : z = true := by
        rw [← HD.out]
        exact decide_eq_true (take_eq_all (by rw [hl1, hl2]; exact HN.out) (by rw [hl1]; exact he))
      subst e
      have HB9 := Lib.hid B2
      clear he hbw A2 C2 B2
      go_wp2_with fail
      go_ret
      exact ⟨rfl, HB9.out⟩
end Go.Proofs.Ytefgimpodhjdpab
