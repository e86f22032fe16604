/- Draws of the bytes of supplied keys, and of what a supplied key is held against. Conditions: as each theorem states. -/
import Derived.Test.YtdkgiiikcapjcaaDoorD5b
import Derived.Test.YtdkgiiikcapjcaaDoorL0
namespace Go.Proofs.YtdkgiiikcapjcaaDoor
open Go.RowKit
set_option maxRecDepth 100000
set_option linter.unusedVariables false

theorem packT_byte {n : ByteArray} {u m v : Int} (h : M.tlsaF n.data.toList u m v = 0) : ∀ z ∈ packT n u m v, M.byteB z := by
  intro z hz
  obtain ⟨hn, hu0, hu1, hm0, hm1, hv⟩ := tlsa_bounds h
  unfold packT headT at hz
  simp only [M.sumB, decide_eq_true_eq] at hv
  rcases List.mem_append.1 hz with hz | hz
  · simp only [M.two, List.cons_append, List.nil_append, List.mem_cons, List.not_mem_nil, or_false] at hz
    unfold M.byteB
    omega
  · exact M.textL_byte n z hz
/-- The first n of a slice. -/
theorem Row.upto {k : IntKind} {w : World} {B : Nat} {a : Option Addr} {len cap : Nat} {zs : List Int} (h : Row k w B a len cap zs) (n : Nat) (hn : n ≤ len) : Row k w B a n cap (zs.take n) :=
  ⟨by simp [h.length]; omega, fun z hz => h.wf z (List.mem_of_mem_take hz), Nat.le_trans hn h.fits, h.most, fun hp => by
    obtain ⟨b, off, e, hb, hc⟩ := h.cells (by omega)
    refine ⟨b, off, e, hb, fun j hj => ?_⟩
    rw [hc j (by omega)]
    simp [List.getD, hj]⟩
def DrawnData (w : World) (r : Ending) (w' : World) : Prop := ∃ a n c zs, r = .returned (.slice a n c) ∧ n ≤ 100 ∧ Row .u8 w' w'.heap.size a n c zs ∧ Below w.heap.size w w'

set_option maxHeartbeats 1000000 in
theorem DrawReadTlsa_any {a : Option Addr} {len cap : Nat} {zs : List Int} {w : World} (hR : Row .u8 w w.heap.size a len cap zs) :
    Calls Tryd.prog 13 #[.slice a len cap] w (DrawnData w) := by
  go_enter Tryd.func13, Tryd.ntmps13
  go_wp2_with fail
  refine (dsource hR).mono ?_
  rintro r w1 ⟨rfl, D1⟩
  go_wp2_with fail
  refine (dl5DrawTlsa D1).mono ?_
  rintro r w5 ⟨n, u, t, v, p, hf, hp, rfl, D4, g4⟩
  have D5 := D4.alloc (.cells #[.string n, .int .i64 u, .int .i64 t, .int .i64 v] 30)
  have A5 := At.new w5 (TL4 n u t v) 30
  have P1 := fun g w hA => l5Pack_any g n u t v w hA hf
  obtain ⟨m, hm⟩ : ∃ m, m = n.size := ⟨_, rfl⟩
  have hm20 : m ≤ 20 := by rw [hm]; exact (tlsa_bounds hf).1
  have hpl : (packT n u t v).length = m + 4 := by unfold packT; rw [List.length_append, headT_length, M.textL_length]; omega
  have hpw := fun z hz => byte_wf (packT_byte hf z hz)
  generalize packT n u t v = ps at *
  have HPL := Lib.hid hpl
  have HPW := Lib.hid hpw
  clear D1 D4 g4 hpl hpw hf hm
  go_wp2_with fail
  generalize w5.alloc (.cells #[.string n, .int .i64 u, .int .i64 t, .int .i64 v] 30) = v5 at *
  refine (P1 _ _ A5).mono ?_
  rintro r w6 ⟨a6, n6, c6, rfl, O6, b6⟩
  have l6 : n6 = m + 4 := O6.len.trans HPL.out
  subst l6
  have D6 := D5.below b6
  have lt5 := D5.src.lt
  obtain ⟨g, rfl⟩ : ∃ g, a6 = some ⟨g, 0, none⟩ := by
    rcases O6.2 with ⟨e, hz⟩ | ⟨g, cp, e, _⟩
    · rw [HPL.out] at hz; omega
    · injection e with e1; exact ⟨g, e1⟩
  have hgw : w.heap.size < g := by have := (O6.lt g rfl).1; omega
  have hc6 : m + 4 ≤ c6 ∧ c6 ≤ maxLen := by
    rcases O6.2 with ⟨e, hz⟩ | ⟨g', cp, e, _, _, h1, h2, _⟩
    · cases e
    · injection e with e1 e2 e3; exact ⟨by rw [← e3] at h1; omega, by rw [e3]; exact h2⟩
  obtain ⟨hc1, hc2⟩ := hc6
  unfold maxLen at hc2
  have Q6 : OwnK .u8 w6 (w.heap.size + 1) (.slice (some ⟨g, 0, none⟩) (m + 4) c6) ps := O6.less (by omega)
  clear P1 A5 D5 O6 b6
  go_wp2_with fail
  refine (dnext 5 D6 (by omega)).mono ?_
  rintro r w7 ⟨sw, t0, t1, rfl, D7, O7⟩
  have Q7 : OwnK .u8 w7 (w.heap.size + 1) (.slice (some ⟨g, 0, none⟩) (m + 4) c6) ps := Own.only Q6 O7 (by omega)
  clear D6 Q6 O7 t1
  by_cases e0 : sw = 0
  · subst e0
    go_wp2_with fail
    refine (dnext _ D7 (by omega)).mono ?_
    rintro r w8 ⟨i, i0, i1, rfl, D8, O8⟩
    have i2 : i < m + 4 := by omega
    obtain ⟨i, rfl⟩ := Int.eq_ofNat_of_zero_le i0
    have i3 : i < m + 4 := by omega
    have Q8 : OwnK .u8 w8 (w.heap.size + 1) (.slice (some ⟨g, 0, none⟩) (m + 4) c6) ps := Own.only Q7 O8 (by omega)
    clear D7 Q7 O8 i0 i1
    go_wp2_with fail
    refine (dpick [0, 255, 65, 46] 4 D8 (by omega) (by omega) (by omega) rfl 2).mono ?_
    rintro r w9 ⟨x, hx, rfl, D9, O9⟩
    have hx' : 0 ≤ x ∧ x ≤ 255 := by simp at hx; omega
    obtain ⟨x0, x1⟩ := hx'
    have Q9 : OwnK .u8 w9 (w.heap.size + 1) (.slice (some ⟨g, 0, none⟩) (m + 4) c6) ps := Own.only (Own.alloc Q8 (.cells #[.int .i64 0, .int .i64 255, .int .i64 65, .int .i64 46] 2)) O9 (by omega)
    rcases Q9.2 with ⟨e, h0⟩ | ⟨g', c', e, hB8, hg8, hn8, hm8, hcell, hroom⟩
    · cases e
    injection e with e1 e2 e3
    injection e1 with e1
    injection e1 with e1 _ _
    subst e1
    subst e3
    obtain ⟨y, hy⟩ := Option.isSome_iff_exists.1 (hroom i (by omega)).1
    have hf := (hroom i (by omega)).2
    have Q10 := Q9.put (i := i) (m := x) (by rw [HPL.out]; exact i3)
    have b10 := bset D9.bel (p := ⟨g, i, none⟩) (by show w.heap.size ≤ g; omega) (.int .u8 x)
    have hw10 : ∀ z ∈ ps.set i x, (Lit.int .u8 z).wf = true := fun z hz => by
      rcases List.mem_or_eq_of_mem_set hz with h | h
      · exact HPW.out z h
      · subst h; exact u8_wf x0 (by omega)
    have F := Lib.hid (And.intro (Own.row Q10 hw10) b10)
    clear hx D8 D9 Q8 Q9 O9 hcell hroom e2 Q10 b10 hw10
    go_wp2_with fail
    go_ret
    exact ⟨_, _, _, _, rfl, by omega, F.out.1, F.out.2⟩
  by_cases e1 : sw = 1
  · subst e1
    go_wp2_with fail
    refine (dnext _ D7 (by omega)).mono ?_
    rintro r w8 ⟨i, i0, i1, rfl, D8, O8⟩
    obtain ⟨i, rfl⟩ := Int.eq_ofNat_of_zero_le i0
    have i3 : i < m + 4 := by omega
    have Q8 : OwnK .u8 w8 (w.heap.size + 1) (.slice (some ⟨g, 0, none⟩) (m + 4) c6) ps := Own.only Q7 O8 (by omega)
    have F := Lib.hid (And.intro ((Own.row Q8 HPW.out).upto i (by omega)) D8.bel)
    clear D7 Q7 O8 D8 Q8 i1
    go_wp2_with fail
    go_ret
    exact ⟨_, _, _, _, rfl, by omega, F.out.1, F.out.2⟩
  · have n0 : (sw == 0) = false := by rw [beq_eq_false_iff_ne]; exact e0
    have n1 : (sw == 1) = false := by rw [beq_eq_false_iff_ne]; exact e1
    have F := Lib.hid (And.intro (Own.row Q7 HPW.out) D7.bel)
    clear D7 Q7 e0 e1
    go_wp2_with fail
    go_ret
    exact ⟨_, _, _, _, rfl, by omega, F.out.1, F.out.2⟩

theorem l1Chance_any {w0 : World} {a : Option Addr} {len cap : Nat} {zs : List Int} {p : Nat} {w : World} (n : Int) (D : Draw w0 a len cap zs p w) (hp : p ≤ 1000000) :
    Calls Tryd.prog 50 #[.pointer (some ⟨w0.heap.size, 0, none⟩), .int .i64 n] w fun r w' => ∃ b : Bool, r = .returned (.bool b) ∧ Draw w0 a len cap zs (p + 1) w' ∧ Only w0.heap.size w w' := by
  go_enter Tryd.func50, Tryd.ntmps50
  go_wp2_with fail
  refine (dnext n D hp).mono ?_
  rintro r w1 ⟨x, x0, x1, rfl, D1, O1⟩
  have HD := Lib.hid (And.intro D1 O1)
  clear D D1 O1 x0 x1
  go_wp2_with fail
  go_ret
  exact ⟨_, rfl, HD.out.1, HD.out.2⟩

def DrawnMatch (w : World) (r : Ending) (w' : World) : Prop := ∃ (n : ByteArray) (u m v : Int) (s : ByteArray) (x : Int), r = .returned (.tuple #[T4 n u m v, .string s, .int .i64 x]) ∧ n.size ≤ 21 ∧ s.size ≤ 21 ∧ Below w.heap.size w w'
/-- Ahead of what is handed back: the result's block, the key's, the source. -/
structure MatchRel (w W0 : World) (a : Option Addr) (len cap : Nat) (zs : List Int) (p tb : Nat) (n : ByteArray) (u m v : Int) (cur : World) : Prop where
  draw : Draw W0 a len cap zs p cur
  bel : Below w.heap.size w cur
  res : At w.heap.size (TL4 { data := #[] } 0 0 0) cur
  one : At tb (TL4 n u m v) cur
theorem DrawMatchesTlsa_any {a : Option Addr} {len cap : Nat} {zs : List Int} {w : World} (hR : Row .u8 w w.heap.size a len cap zs) :
    Calls Tryd.prog 17 #[.slice a len cap] w (DrawnMatch w) := by
  have g1 := key1
  have A0 := At.new w (TL4 { data := #[] } 0 0 0) 30
  have b0 := bal (Below.refl _ w) (.cells #[.string { data := #[] }, .int .i64 0, .int .i64 0, .int .i64 0] 30)
  have R0 := hR.on b0
  clear hR
  go_enter Tryd.func17, Tryd.ntmps17
  go_wp2_with fail
  generalize w.alloc (.cells #[.string { data := #[] }, .int .i64 0, .int .i64 0, .int .i64 0] 30) = W0 at *
  refine (dsource R0).mono ?_
  rintro r w1 ⟨rfl, D⟩
  go_wp2_with fail
  refine (dl5BentTlsa D).mono ?_
  rintro r w2 ⟨n, u, m, v, p, hn, hp, rfl, D2, g2⟩
  have lt0 : w.heap.size < W0.heap.size := A0.lt (by simp)
  have lt2 := D2.src.lt
  have M0 : MatchRel w W0 a len cap zs p w2.heap.size n u m v (w2.alloc (.cells #[.string n, .int .i64 u, .int .i64 m, .int .i64 v] 30)) :=
    ⟨D2.alloc _, bal (btr b0 D2.bel) _, (A0.on D2.bel).alloc _, At.new w2 (TL4 n u m v) 30⟩
  clear D D2 g2 A0 R0 b0
  go_wp2_with fail
  generalize w2.alloc (.cells #[.string n, .int .i64 u, .int .i64 m, .int .i64 v] 30) = v2 at *
  refine (l1Chance_any 4 M0.draw (by omega)).mono ?_
  rintro r w3 ⟨ch, rfl, D3, O3⟩
  have M3 : MatchRel w W0 a len cap zs (p + 1) w2.heap.size n u m v w3 := ⟨D3, M0.bel.trans (O3.below (by omega)), M0.res.only5 O3 (by omega), M0.one.only5 O3 (by omega)⟩
  clear M0 D3 O3
  cases ch
  · have y0 := M3.one.cell 0 _ rfl
    have y1 := M3.one.cell 1 _ rfl
    have y2 := M3.one.cell 2 _ rfl
    have y3 := M3.one.cell 3 _ rfl
    go_wp2_with fail
    clear y0 y1 y2 y3
    have M4 : MatchRel w W0 a len cap zs (p + 1) w2.heap.size n u m v w3.drew := ⟨M3.draw.below (bdrew w3), btr M3.bel (bdrew w3), M3.res.on (bdrew w3), M3.one.on (bdrew w3)⟩
    clear M3
    have S0 : Hold w w2.heap.size (TL4 n u m v) w3.drew := ⟨M4.bel, M4.one⟩
    refine wp_region_line (Hold w w2.heap.size (TL4 n u m v)) [(0, true), (1, true), (2, true), (3, false), (4, true), (5, false), (6, true), (7, false), (8, true), (9, true)] (by kernel_rfl) (by kernel_rfl) (fun _ _ d _ _ h => by cases d <;> exact h) S0 ?_
    generalize w3.drew = V at *
    have inst : Nonempty (Of (Hold w w2.heap.size (TL4 n u m v))) := ⟨⟨_, S0⟩⟩
    clear S0
    have q0 := hold_cell (W := w) (g := w2.heap.size) (cs := TL4 n u m v) 0 _ rfl
    have q1 := hold_cell (W := w) (g := w2.heap.size) (cs := TL4 n u m v) 1 _ rfl
    have q2 := hold_cell (W := w) (g := w2.heap.size) (cs := TL4 n u m v) 2 _ rfl
    have q3 := hold_cell (W := w) (g := w2.heap.size) (cs := TL4 n u m v) 3 _ rfl
    iterate 3 (refine line_read rfl (by kernel_rfl) (fun K hK => ?_); go_big_quiet_op; refine hK _ ?_; clear hK K)
    clear q0 q1 q2 q3
    refine line_alone rfl (by kernel_rfl) (fun K hK => ?_)
    refine call_any (args := #[.pointer (some ⟨W0.heap.size, 0, none⟩), .int .i64 3]) rfl (by kernel_rfl) (by kernel_rfl) (dnext 3 M4.draw (by omega)) ?_
    rintro e x3 ⟨x, h0, h1, rfl, D5, O5⟩
    have M5 : MatchRel w W0 a len cap zs ((p + 1) + 1) w2.heap.size n u m v x3 := ⟨D5, M4.bel.trans (O5.below (by omega)), M4.res.only5 O5 (by omega), M4.one.only5 O5 (by omega)⟩
    have hx : x < 3 := by omega
    refine ⟨_, rfl, hK _ _ ⟨M5.bel, M5.one⟩ ?_⟩
    clear hK K M4 D5 O5 h1
    simp only [Act.put, List.setIfInBounds_toArray, List.set_cons_zero, List.set_cons_succ]
    iterate 1 (refine line_read rfl (by kernel_rfl) (fun K hK => ?_); go_big_quiet_op; refine hK _ ?_; clear hK K)
    refine line_alone rfl (by kernel_rfl) (fun K hK => ?_)
    refine call_any (args := #[.int .i64 (1 + x)]) rfl (by kernel_rfl) (by kernel_rfl) (l1Key_any _ _ (by omega) (by omega)) ?_
    rintro e x5 ⟨rfl, b6⟩
    have M6 : MatchRel w W0 a len cap zs ((p + 1) + 1) w2.heap.size n u m v x5 := ⟨M5.draw.below b6, btr M5.bel b6, M5.res.on b6, M5.one.on b6⟩
    refine ⟨_, rfl, hK _ _ ⟨M6.bel, M6.one⟩ ?_⟩
    clear hK K M5 b6
    simp only [Act.put, List.setIfInBounds_toArray, List.set_cons_zero, List.set_cons_succ]
    generalize M.pw 4 (1 + x).toNat 2879 = pp
    iterate 1 (refine line_read rfl (by kernel_rfl) (fun K hK => ?_); go_big_quiet_op; refine hK _ ?_; clear hK K)
    have hrb : w.heap.size ≠ w2.heap.size := by omega
    have r0 := M6.res.cell 0 _ rfl
    have r1 := M6.res.cell 1 _ rfl
    have r2 := M6.res.cell 2 _ rfl
    have r3 := M6.res.cell 3 _ rfl
    have z0 := M6.res.free 0 _ rfl
    have z1 := M6.res.free 1 _ rfl
    have z2 := M6.res.free 2 _ rfl
    have z3 := M6.res.free 3 _ rfl
    have hst : Hold w w2.heap.size (TL4 n u m v) x5 := ⟨M6.bel, M6.one⟩
    have HB := Lib.hid M6.bel
    clear M6
    refine line_alone rfl (by kernel_rfl) (fun K hK => ?_)
    go_big_op
    refine hK _ _ ((by (iterate 4 (refine Hold.setB ?_ (by dsimp only; omega) (by dsimp only; omega) _)); exact hst)) ?_
    clear hK K
    iterate 2 (refine line_read rfl (by kernel_rfl) (fun K hK => ?_); go_big_quiet_op; refine hK _ ?_; clear hK K)
    refine line_nil ?_
    clear hst
    go_wp2_with fail
    refine bodyPost_ret (v := .tuple #[T4 n u m v, .string n, .int .i64 pp]) (by simp [results, Tryd.results17, go_sem, r0, r1, r2, r3]) rfl ?_
    exact ⟨_, _, _, _, _, _, rfl, hn, hn, (by (iterate 4 (refine bset ?_ (by dsimp only; omega) _)); exact HB.out)⟩
  · go_wp2_with fail
    refine (dl5Bent M3.draw (by omega)).mono ?_
    rintro r w4 ⟨s, hs, rfl, D4, g4⟩
    have M4' : MatchRel w W0 a len cap zs (p + 2) w2.heap.size n u m v w4 := ⟨D4, M3.bel.grown g4 M3.bel.size (fun k e => by injection e with e; omega), M3.res.kept g4 (fun e => by injection e with e; omega), M3.one.kept g4 (fun e => by injection e with e; omega)⟩
    clear M3 D4 g4
    go_wp2_with fail
    have M4 : MatchRel w W0 a len cap zs (p + 2) w2.heap.size n u m v w4.drew := ⟨M4'.draw.below (bdrew w4), btr M4'.bel (bdrew w4), M4'.res.on (bdrew w4), M4'.one.on (bdrew w4)⟩
    clear M4'
    have S0 : Hold w w2.heap.size (TL4 n u m v) w4.drew := ⟨M4.bel, M4.one⟩
    refine wp_region_line (Hold w w2.heap.size (TL4 n u m v)) [(0, true), (1, true), (2, true), (3, false), (4, true), (5, false), (6, true), (7, false), (8, true), (9, true)] (by kernel_rfl) (by kernel_rfl) (fun _ _ d _ _ h => by cases d <;> exact h) S0 ?_
    generalize w4.drew = V at *
    have inst : Nonempty (Of (Hold w w2.heap.size (TL4 n u m v))) := ⟨⟨_, S0⟩⟩
    clear S0
    have q0 := hold_cell (W := w) (g := w2.heap.size) (cs := TL4 n u m v) 0 _ rfl
    have q1 := hold_cell (W := w) (g := w2.heap.size) (cs := TL4 n u m v) 1 _ rfl
    have q2 := hold_cell (W := w) (g := w2.heap.size) (cs := TL4 n u m v) 2 _ rfl
    have q3 := hold_cell (W := w) (g := w2.heap.size) (cs := TL4 n u m v) 3 _ rfl
    iterate 3 (refine line_read rfl (by kernel_rfl) (fun K hK => ?_); go_big_quiet_op; refine hK _ ?_; clear hK K)
    clear q0 q1 q2 q3
    refine line_alone rfl (by kernel_rfl) (fun K hK => ?_)
    refine call_any (args := #[.pointer (some ⟨W0.heap.size, 0, none⟩), .int .i64 3]) rfl (by kernel_rfl) (by kernel_rfl) (dnext 3 M4.draw (by omega)) ?_
    rintro e x3 ⟨x, h0, h1, rfl, D5, O5⟩
    have M5 : MatchRel w W0 a len cap zs ((p + 2) + 1) w2.heap.size n u m v x3 := ⟨D5, M4.bel.trans (O5.below (by omega)), M4.res.only5 O5 (by omega), M4.one.only5 O5 (by omega)⟩
    have hx : x < 3 := by omega
    refine ⟨_, rfl, hK _ _ ⟨M5.bel, M5.one⟩ ?_⟩
    clear hK K M4 D5 O5 h1
    simp only [Act.put, List.setIfInBounds_toArray, List.set_cons_zero, List.set_cons_succ]
    iterate 1 (refine line_read rfl (by kernel_rfl) (fun K hK => ?_); go_big_quiet_op; refine hK _ ?_; clear hK K)
    refine line_alone rfl (by kernel_rfl) (fun K hK => ?_)
    refine call_any (args := #[.int .i64 (1 + x)]) rfl (by kernel_rfl) (by kernel_rfl) (l1Key_any _ _ (by omega) (by omega)) ?_
    rintro e x5 ⟨rfl, b6⟩
    have M6 : MatchRel w W0 a len cap zs ((p + 2) + 1) w2.heap.size n u m v x5 := ⟨M5.draw.below b6, btr M5.bel b6, M5.res.on b6, M5.one.on b6⟩
    refine ⟨_, rfl, hK _ _ ⟨M6.bel, M6.one⟩ ?_⟩
    clear hK K M5 b6
    simp only [Act.put, List.setIfInBounds_toArray, List.set_cons_zero, List.set_cons_succ]
    generalize M.pw 4 (1 + x).toNat 2879 = pp
    iterate 1 (refine line_read rfl (by kernel_rfl) (fun K hK => ?_); go_big_quiet_op; refine hK _ ?_; clear hK K)
    have hrb : w.heap.size ≠ w2.heap.size := by omega
    have r0 := M6.res.cell 0 _ rfl
    have r1 := M6.res.cell 1 _ rfl
    have r2 := M6.res.cell 2 _ rfl
    have r3 := M6.res.cell 3 _ rfl
    have z0 := M6.res.free 0 _ rfl
    have z1 := M6.res.free 1 _ rfl
    have z2 := M6.res.free 2 _ rfl
    have z3 := M6.res.free 3 _ rfl
    have hst : Hold w w2.heap.size (TL4 n u m v) x5 := ⟨M6.bel, M6.one⟩
    have HB := Lib.hid M6.bel
    clear M6
    refine line_alone rfl (by kernel_rfl) (fun K hK => ?_)
    go_big_op
    refine hK _ _ ((by (iterate 4 (refine Hold.setB ?_ (by dsimp only; omega) (by dsimp only; omega) _)); exact hst)) ?_
    clear hK K
    iterate 2 (refine line_read rfl (by kernel_rfl) (fun K hK => ?_); go_big_quiet_op; refine hK _ ?_; clear hK K)
    refine line_nil ?_
    clear hst
    go_wp2_with fail
    refine bodyPost_ret (v := .tuple #[T4 n u m v, .string s, .int .i64 pp]) (by simp [results, Tryd.results17, go_sem, r0, r1, r2, r3]) rfl ?_
    exact ⟨_, _, _, _, _, _, rfl, hn, hs, (by (iterate 4 (refine bset ?_ (by dsimp only; omega) _)); exact HB.out)⟩
end Go.Proofs.YtdkgiiikcapjcaaDoor
