/- Contracts of how a pin is put among others, by the program. Conditions: as each theorem states. -/
import Derived.Test.YtcnpocppgghejaaDoorC7e
import Derived.Test.YtcnpocppgghejaaDoorC7h
namespace Go.Proofs.YtcnpocppgghejaaDoor
open Go.RowKit
set_option maxRecDepth 100000
set_option linter.unusedVariables false

/-- A code and a new slice of pins were answered. -/
def PinsRes (c : Int) (ps : List PinD) (w : World) (e : Ending) (w' : World) : Prop := ∃ a n cap, e = .returned (.agg #[.int .i64 c, .slice a n cap]) ∧ OwnP w' w.heap.size (.slice a n cap) ps ∧ Below w.heap.size w w'
theorem At.turned {g b : Nat} {cs : List Value} {w w' : World} (h : At g cs w) (ht : w.mapTurned w' b) (hne : g ≠ b) : At g cs w' := h.kept ht.grown (fun e => by injection e with e; exact hne e)
theorem putC_list {ps : List PinD} {p : PinD} (h : pinsF ps ≠ 0) : putC ps p = pinsF ps ∧ putR ps p = [] := by
  have e : putC ps p = pinsF ps := by unfold putC; rw [if_pos h]
  exact ⟨e, by unfold putR; rw [e, if_neg h]⟩
theorem putC_pin {ps : List PinD} {p : PinD} (h0 : pinsF ps = 0) (h : p.f ≠ 0) : putC ps p = p.f ∧ putR ps p = [] := by
  have e : putC ps p = p.f := by unfold putC; rw [if_neg (fun h => h h0), if_pos h]
  exact ⟨e, by unfold putR; rw [e, if_neg h]⟩
theorem putC_old {ps : List PinD} {p q : PinD} (h0 : pinsF ps = 0) (h1 : p.f = 0) (hq : findP ps p.nm = some q) (h : p.e ≤ q.e) : putC ps p = 11 ∧ putR ps p = [] := by
  have e : putC ps p = 11 := by unfold putC; rw [if_neg (fun h => h h0), if_neg (fun h => h h1), hq]; simp only; rw [if_pos h]
  exact ⟨e, by unfold putR; rw [e, if_neg (by decide)]⟩
theorem putC_young {ps : List PinD} {p q : PinD} (h0 : pinsF ps = 0) (h1 : p.f = 0) (hq : findP ps p.nm = some q) (h : ¬ p.e ≤ q.e) : putC ps p = 0 ∧ putR ps p = putL ps p := by
  have e : putC ps p = 0 := by unfold putC; rw [if_neg (fun h => h h0), if_neg (fun h => h h1), hq]; simp only; rw [if_neg h]
  exact ⟨e, by unfold putR; rw [if_pos e]⟩
theorem putC_full {ps : List PinD} {p : PinD} (h0 : pinsF ps = 0) (h1 : p.f = 0) (hq : findP ps p.nm = none) (h : ps.length = 4) : putC ps p = 7 ∧ putR ps p = [] := by
  have e : putC ps p = 7 := by unfold putC; rw [if_neg (fun h => h h0), if_neg (fun h => h h1), hq]; simp only; rw [if_pos h]
  exact ⟨e, by unfold putR; rw [e, if_neg (by decide)]⟩
theorem putC_new {ps : List PinD} {p : PinD} (h0 : pinsF ps = 0) (h1 : p.f = 0) (hq : findP ps p.nm = none) (h : ps.length ≠ 4) : putC ps p = 0 ∧ putR ps p = putL ps p := by
  have e : putC ps p = 0 := by unfold putC; rw [if_neg (fun h => h h0), if_neg (fun h => h h1), hq]; simp only; rw [if_neg h]
  exact ⟨e, by unfold putR; rw [if_pos e]⟩
abbrev Others (ps : List PinD) (p : PinD) : List PinD := ps.filter fun q => !decide (q.nm = p.nm)
theorem others_ne {ps : List PinD} {p : PinD} : ∀ q ∈ Others ps p, q.nm ≠ p.nm := by
  intro q hq
  have := (List.mem_filter.1 hq).2
  simpa using this
theorem others_none {ps : List PinD} {p : PinD} (h : findP ps p.nm = none) : Others ps p = ps := List.filter_eq_self.2 fun q hq => by simpa using findP_none h q hq
theorem others_lt {ps : List PinD} {p q : PinD} (h : findP ps p.nm = some q) : (Others ps p).length < ps.length := by
  obtain ⟨h1, h2⟩ := findP_mem h
  have h3 := List.length_filter_le (fun q => !decide (q.nm = p.nm)) ps
  have h4 : (Others ps p).length ≠ ps.length := fun e => by
    have := (List.length_filter_eq_length_iff.1 e) q h1
    simp [h2] at this
  have : (Others ps p).length ≤ ps.length := h3
  omega
/-- What is left, and the pin, in rising order: just what the model makes. -/
theorem put_eq {ps ys : List PinD} {p : PinD} (hr : Rise ps) (hp : ys.Perm (Others ps p ++ [p])) (hy : Rise ys) : ys = putL ps p := by
  refine rise_eq ?_ hy (putL_rise p hr)
  exact hp.trans ((List.perm_append_singleton p (Others ps p)).trans (putG_perm p ps).symm)

theorem implPutPin_any (a : Option Addr) (len cap B : Nat) (ps : List PinD) (p : PinD) (w : World) (hR : PRow w B a len cap ps) (hB : B ≤ w.heap.size) (hn : p.n.size ≤ maxLen) :
    Calls Tryd.prog 23 #[.slice a len cap, P5 p] w (PinsRes (putC ps p) (putR ps p) w) := by
  have hL := Lib.hid hR.length
  have b0 := bal (bal (Below.refl _ w) (.cells #[.string p.n, .int .i64 p.a, .int .i64 p.b, .int .i64 p.e, .int .i64 p.u] 26)) (.cells #[.int .i64 0, .slice none 0 0] 42)
  have A1 : At w.heap.size p.vals ((w.alloc (.cells #[.string p.n, .int .i64 p.a, .int .i64 p.b, .int .i64 p.e, .int .i64 p.u] 26)).alloc (.cells #[.int .i64 0, .slice none 0 0] 42)) := (At.new w p.vals 26).alloc _
  have A2 := At.new (w.alloc (.cells #[.string p.n, .int .i64 p.a, .int .i64 p.b, .int .i64 p.e, .int .i64 p.u] 26)) [.int .i64 0, .slice none 0 0] 42
  rw [show (w.alloc (.cells #[.string p.n, .int .i64 p.a, .int .i64 p.b, .int .i64 p.e, .int .i64 p.u] 26)).heap.size = w.heap.size + 1 by simp] at A2
  have F := implPinsFault_any a len cap B ps _ (hR.below (b0.mono hB)) (Nat.le_trans hB b0.size)
  by_cases h0 : pinsF ps = 0
  case neg =>
    rw [(putC_list h0).1, (putC_list h0).2]
    generalize pinsF ps = c at *
    clear hR
    go_enter Tryd.func23, Tryd.ntmps23
    go_wp2_with fail
    generalize (w.alloc (.cells #[.string p.n, .int .i64 p.a, .int .i64 p.b, .int .i64 p.e, .int .i64 p.u] 26)).alloc (.cells #[.int .i64 0, .slice none 0 0] 42) = W0 at *
    refine F.mono ?_
    rintro r u1 ⟨rfl, b1⟩
    have q0 := (A2.on b1).cell 0 _ rfl
    have q1 := (A2.on b1).cell 1 _ rfl
    have z0 := (A2.on b1).free 0 _ rfl
    have z1 := (A2.on b1).free 1 _ rfl
    have B1 := btr b0 b1
    clear A1 A2 b0 b1 F
    go_wp2_with fail
    refine bodyPost_ret (v := .agg #[.int .i64 c, .slice none 0 0]) (by simp [results, Tryd.results23, go_sem, q0, q1]) rfl ⟨none, 0, 0, rfl, OwnP.nil _ _, ?_⟩
    exact (by (iterate 2 (refine bset ?_ (by dsimp only; omega) _)); exact B1)
  rw [h0] at F
  have F2 := fun w => implPinFault_any p w hn
  by_cases h1 : p.f = 0
  case neg =>
    rw [(putC_pin h0 h1).1, (putC_pin h0 h1).2]
    clear hR
    go_enter Tryd.func23, Tryd.ntmps23
    go_wp2_with fail
    generalize (w.alloc (.cells #[.string p.n, .int .i64 p.a, .int .i64 p.b, .int .i64 p.e, .int .i64 p.u] 26)).alloc (.cells #[.int .i64 0, .slice none 0 0] 42) = W0 at *
    refine F.mono ?_
    rintro r u1 ⟨rfl, b1⟩
    have x0 := (A1.on b1).cell 0 _ rfl
    have x1 := (A1.on b1).cell 1 _ rfl
    have x2 := (A1.on b1).cell 2 _ rfl
    have x3 := (A1.on b1).cell 3 _ rfl
    have x4 := (A1.on b1).cell 4 _ rfl
    go_wp2_with fail
    refine (F2 _).mono ?_
    rintro r u2 ⟨rfl, b2⟩
    have bb := btr b1 b2
    have q0 := (A2.on bb).cell 0 _ rfl
    have q1 := (A2.on bb).cell 1 _ rfl
    have z0 := (A2.on bb).free 0 _ rfl
    have z1 := (A2.on bb).free 1 _ rfl
    have B1 := btr b0 bb
    clear A1 A2 b0 b1 b2 bb F F2 x0 x1 x2 x3 x4
    go_wp2_with fail
    refine bodyPost_ret (v := .agg #[.int .i64 p.f, .slice none 0 0]) (by simp [results, Tryd.results23, go_sem, q0, q1]) rfl ⟨none, 0, 0, rfl, OwnP.nil _ _, ?_⟩
    exact (by (iterate 2 (refine bset ?_ (by dsimp only; omega) _)); exact B1)
  rw [h1] at F2
  obtain ⟨hl4, hgood, hrise⟩ := pinsF_zero h0
  have LK := Lib.hid (fun (w : World) (b : Nat) (h : PMap w b ps) => h.look (s := p.n) hn)
  have BN := Lib.hid (fun (w1 : World) (h : Below w.heap.size w w1) => pinsByName_any a len cap B ps w1 (hR.below (h.mono hB)) (Nat.le_trans hB h.size) (by have := hL.out; omega) hrise.apart)
  clear hR
  cases hf : findP ps p.nm with
  | none =>
    have hf2 : findP ps p.n.data.toList = none := hf
    simp only [hf2] at LK
    by_cases h4 : ps.length = 4
    · rw [(putC_full h0 h1 hf h4).1, (putC_full h0 h1 hf h4).2]
      have ho : (Others ps p).length = 4 := by rw [others_none hf]; exact h4
      go_enter Tryd.func23, Tryd.ntmps23
      go_wp2_with fail
      generalize (w.alloc (.cells #[.string p.n, .int .i64 p.a, .int .i64 p.b, .int .i64 p.e, .int .i64 p.u] 26)).alloc (.cells #[.int .i64 0, .slice none 0 0] 42) = W0 at *
      refine F.mono ?_
      rintro r u1 ⟨rfl, b1⟩
      have x0 := (A1.on b1).cell 0 _ rfl
      have x1 := (A1.on b1).cell 1 _ rfl
      have x2 := (A1.on b1).cell 2 _ rfl
      have x3 := (A1.on b1).cell 3 _ rfl
      have x4 := (A1.on b1).cell 4 _ rfl
      go_wp2_with fail
      refine (F2 _).mono ?_
      rintro r u2 ⟨rfl, b2⟩
      have B0 := btr b0 (btr b1 b2)
      go_wp2_with fail
      refine (BN.out _ B0).mono ?_
      rintro r u3 ⟨rfl, M3, b3⟩
      have bb := btr b1 (btr b2 b3)
      have B3 := btr B0 b3
      have lk := LK.out _ _ M3
      have A13 := A1.on bb
      have A23 := A2.on bb
      have lt2 := (A2.on (btr b1 b2)).lt (by simp)
      have lt3 := M3.lt
      have ltp : w.heap.size < u3.heap.size := by omega
      have ltr : w.heap.size + 1 < u3.heap.size := by omega
      have y0 := A13.cell 0 _ rfl
      have y1 := A13.cell 1 _ rfl
      have y2 := A13.cell 2 _ rfl
      have y3 := A13.cell 3 _ rfl
      have y4 := A13.cell 4 _ rfl
      have q0 := A23.cell 0 _ rfl
      have q1 := A23.cell 1 _ rfl
      have z0 := A23.free 0 _ rfl
      have z1 := A23.free 1 _ rfl
      have B1 := B3
      clear x0 x1 x2 x3 x4 A1 A2 b0 b1 b2 b3 F F2 BN LK B0 bb
      have Mb := M3.alloc (.cells #[.string pin0.n, .int .i64 pin0.a, .int .i64 pin0.b, .int .i64 pin0.e, .int .i64 pin0.u] 26)
      obtain ⟨w4, hdel, M4', tn4⟩ := Mb.drop (s := p.n) hn 0
      have M4 : PMap w4 u2.heap.size (Others ps p) := M4'
      have B4 := turned_below tn4 (bal B3 _) (by omega)
      have A14 := (A13.alloc (.cells #[.string pin0.n, .int .i64 pin0.a, .int .i64 pin0.b, .int .i64 pin0.e, .int .i64 pin0.u] 26)).turned tn4 (by omega)
      have A24 := (A23.alloc (.cells #[.string pin0.n, .int .i64 pin0.a, .int .i64 pin0.b, .int .i64 pin0.e, .int .i64 pin0.u] 26)).turned tn4 (by omega)
      have hlen := fun ty => M4.len ty
      clear Mb M3 M4' A13 A23 B3 B1 tn4 q0 q1 z0 z1
      rw [ho] at hlen
      have B1 := B4
      have q0 := A24.cell 0 _ rfl
      have q1 := A24.cell 1 _ rfl
      have z0 := A24.free 0 _ rfl
      have z1 := A24.free 1 _ rfl
      go_wp2_with fail
      refine bodyPost_ret (v := .agg #[.int .i64 7, .slice none 0 0]) (by simp [results, Tryd.results23, go_sem, q0, q1]) rfl ⟨none, 0, 0, rfl, OwnP.nil _ _, ?_⟩
      exact (by (iterate 2 (refine bset ?_ (by dsimp only; omega) _)); exact B1)
    · rw [(putC_new h0 h1 hf h4).1, (putC_new h0 h1 hf h4).2]
      have ho4 : ¬ (((Others ps p).length : Nat) : Int) = 4 := by rw [others_none hf]; omega
      have ho5 : (Others ps p).length ≤ 4 := by rw [others_none hf]; omega
      go_enter Tryd.func23, Tryd.ntmps23
      go_wp2_with fail
      generalize (w.alloc (.cells #[.string p.n, .int .i64 p.a, .int .i64 p.b, .int .i64 p.e, .int .i64 p.u] 26)).alloc (.cells #[.int .i64 0, .slice none 0 0] 42) = W0 at *
      refine F.mono ?_
      rintro r u1 ⟨rfl, b1⟩
      have x0 := (A1.on b1).cell 0 _ rfl
      have x1 := (A1.on b1).cell 1 _ rfl
      have x2 := (A1.on b1).cell 2 _ rfl
      have x3 := (A1.on b1).cell 3 _ rfl
      have x4 := (A1.on b1).cell 4 _ rfl
      go_wp2_with fail
      refine (F2 _).mono ?_
      rintro r u2 ⟨rfl, b2⟩
      have B0 := btr b0 (btr b1 b2)
      go_wp2_with fail
      refine (BN.out _ B0).mono ?_
      rintro r u3 ⟨rfl, M3, b3⟩
      have bb := btr b1 (btr b2 b3)
      have B3 := btr B0 b3
      have lk := LK.out _ _ M3
      have A13 := A1.on bb
      have A23 := A2.on bb
      have lt2 := (A2.on (btr b1 b2)).lt (by simp)
      have lt3 := M3.lt
      have ltp : w.heap.size < u3.heap.size := by omega
      have ltr : w.heap.size + 1 < u3.heap.size := by omega
      have y0 := A13.cell 0 _ rfl
      have y1 := A13.cell 1 _ rfl
      have y2 := A13.cell 2 _ rfl
      have y3 := A13.cell 3 _ rfl
      have y4 := A13.cell 4 _ rfl
      have q0 := A23.cell 0 _ rfl
      have q1 := A23.cell 1 _ rfl
      have z0 := A23.free 0 _ rfl
      have z1 := A23.free 1 _ rfl
      have B1 := B3
      clear x0 x1 x2 x3 x4 A1 A2 b0 b1 b2 b3 F F2 BN LK B0 bb
      have Mb := M3.alloc (.cells #[.string pin0.n, .int .i64 pin0.a, .int .i64 pin0.b, .int .i64 pin0.e, .int .i64 pin0.u] 26)
      obtain ⟨w4, hdel, M4', tn4⟩ := Mb.drop (s := p.n) hn 0
      have M4 : PMap w4 u2.heap.size (Others ps p) := M4'
      have B4 := turned_below tn4 (bal B3 _) (by omega)
      have A14 := (A13.alloc (.cells #[.string pin0.n, .int .i64 pin0.a, .int .i64 pin0.b, .int .i64 pin0.e, .int .i64 pin0.u] 26)).turned tn4 (by omega)
      have A24 := (A23.alloc (.cells #[.string pin0.n, .int .i64 pin0.a, .int .i64 pin0.b, .int .i64 pin0.e, .int .i64 pin0.u] 26)).turned tn4 (by omega)
      have hlen := fun ty => M4.len ty
      clear Mb M3 M4' A13 A23 B3 B1 tn4 q0 q1 z0 z1
      obtain ⟨w5, hst, M5, tn5⟩ := M4.store (p := p) (by omega) hn others_ne
      have B5 := turned_below tn5 B4 (by omega)
      have A25 := A24.turned tn5 (by omega)
      have lt5 := A25.lt (by simp)
      have x0 := A14.cell 0 _ rfl
      have x1 := A14.cell 1 _ rfl
      have x2 := A14.cell 2 _ rfl
      have x3 := A14.cell 3 _ rfl
      have x4 := A14.cell 4 _ rfl
      have RP := risingPins_any _ _ _ M5 (by simp; omega) (by simp)
      have hob : (((Others ps p).length : Int) == 4) = false := by simpa using ho4
      generalize (Others ps p).length = n4 at *
      clear A14 A24 M4 tn5 B4 M5
      go_wp2_with fail
      refine RP.mono ?_
      rintro r u6 ⟨g, c, ys, rfl, hp, hr, hO, b6⟩
      have hys := put_eq hrise hp hr
      have A26 := A25.on b6
      have q0 := A26.cell 0 _ rfl
      have q1 := A26.cell 1 _ rfl
      have z0 := A26.free 0 _ rfl
      have z1 := A26.free 1 _ rfl
      have hgl := (Own.lt hO g rfl)
      have B1 := btr B5 b6
      have O6 := Lib.hid (hO.less B5.size)
      have HY := Lib.hid hys
      have hne : w.heap.size + 1 ≠ g := by omega
      clear hO hp hr hys A25 A26 b6 B5 RP
      go_wp2_with fail
      refine bodyPost_ret (v := .agg #[.int .i64 0, .slice (some ⟨g, 0, none⟩) ys.length c]) (by simp [results, Tryd.results23, go_sem, q0, q1]) rfl ⟨_, _, c, rfl, ?_, (by (iterate 2 (refine bset ?_ (by dsimp only; omega) _)); exact B1)⟩
      rw [← HY.out]
      refine Own.setCell (Own.setCell O6.out (fun k hk e => ?_) _) (fun k hk e => ?_) _
      · simp [Value.ownBlock] at hk; dsimp only at e; omega
      · simp [Value.ownBlock] at hk; dsimp only at e; omega
  | some q =>
    have hf2 : findP ps p.n.data.toList = some q := hf
    simp only [hf2] at LK
    by_cases he : p.e ≤ q.e
    · rw [(putC_old h0 h1 hf he).1, (putC_old h0 h1 hf he).2]
      go_enter Tryd.func23, Tryd.ntmps23
      go_wp2_with fail
      generalize (w.alloc (.cells #[.string p.n, .int .i64 p.a, .int .i64 p.b, .int .i64 p.e, .int .i64 p.u] 26)).alloc (.cells #[.int .i64 0, .slice none 0 0] 42) = W0 at *
      refine F.mono ?_
      rintro r u1 ⟨rfl, b1⟩
      have x0 := (A1.on b1).cell 0 _ rfl
      have x1 := (A1.on b1).cell 1 _ rfl
      have x2 := (A1.on b1).cell 2 _ rfl
      have x3 := (A1.on b1).cell 3 _ rfl
      have x4 := (A1.on b1).cell 4 _ rfl
      go_wp2_with fail
      refine (F2 _).mono ?_
      rintro r u2 ⟨rfl, b2⟩
      have B0 := btr b0 (btr b1 b2)
      go_wp2_with fail
      refine (BN.out _ B0).mono ?_
      rintro r u3 ⟨rfl, M3, b3⟩
      have bb := btr b1 (btr b2 b3)
      have B3 := btr B0 b3
      have lk := LK.out _ _ M3
      have A13 := A1.on bb
      have A23 := A2.on bb
      have lt2 := (A2.on (btr b1 b2)).lt (by simp)
      have lt3 := M3.lt
      have ltp : w.heap.size < u3.heap.size := by omega
      have ltr : w.heap.size + 1 < u3.heap.size := by omega
      have y0 := A13.cell 0 _ rfl
      have y1 := A13.cell 1 _ rfl
      have y2 := A13.cell 2 _ rfl
      have y3 := A13.cell 3 _ rfl
      have y4 := A13.cell 4 _ rfl
      have q0 := A23.cell 0 _ rfl
      have q1 := A23.cell 1 _ rfl
      have z0 := A23.free 0 _ rfl
      have z1 := A23.free 1 _ rfl
      have B1 := B3
      clear x0 x1 x2 x3 x4 A1 A2 b0 b1 b2 b3 F F2 BN LK B0 bb
      go_wp2_with fail
      refine bodyPost_ret (v := .agg #[.int .i64 11, .slice none 0 0]) (by simp [results, Tryd.results23, go_sem, q0, q1, ltr]) rfl ⟨none, 0, 0, rfl, OwnP.nil _ _, ?_⟩
      exact bal (by (iterate 2 (refine bset ?_ (by dsimp only; omega) _)); exact B1) _
    · rw [(putC_young h0 h1 hf he).1, (putC_young h0 h1 hf he).2]
      have ho := others_lt hf
      have ho4 : ¬ (((Others ps p).length : Nat) : Int) = 4 := by omega
      have ho5 : (Others ps p).length ≤ 4 := by omega
      go_enter Tryd.func23, Tryd.ntmps23
      go_wp2_with fail
      generalize (w.alloc (.cells #[.string p.n, .int .i64 p.a, .int .i64 p.b, .int .i64 p.e, .int .i64 p.u] 26)).alloc (.cells #[.int .i64 0, .slice none 0 0] 42) = W0 at *
      refine F.mono ?_
      rintro r u1 ⟨rfl, b1⟩
      have x0 := (A1.on b1).cell 0 _ rfl
      have x1 := (A1.on b1).cell 1 _ rfl
      have x2 := (A1.on b1).cell 2 _ rfl
      have x3 := (A1.on b1).cell 3 _ rfl
      have x4 := (A1.on b1).cell 4 _ rfl
      go_wp2_with fail
      refine (F2 _).mono ?_
      rintro r u2 ⟨rfl, b2⟩
      have B0 := btr b0 (btr b1 b2)
      go_wp2_with fail
      refine (BN.out _ B0).mono ?_
      rintro r u3 ⟨rfl, M3, b3⟩
      have bb := btr b1 (btr b2 b3)
      have B3 := btr B0 b3
      have lk := LK.out _ _ M3
      have A13 := A1.on bb
      have A23 := A2.on bb
      have lt2 := (A2.on (btr b1 b2)).lt (by simp)
      have lt3 := M3.lt
      have ltp : w.heap.size < u3.heap.size := by omega
      have ltr : w.heap.size + 1 < u3.heap.size := by omega
      have y0 := A13.cell 0 _ rfl
      have y1 := A13.cell 1 _ rfl
      have y2 := A13.cell 2 _ rfl
      have y3 := A13.cell 3 _ rfl
      have y4 := A13.cell 4 _ rfl
      have q0 := A23.cell 0 _ rfl
      have q1 := A23.cell 1 _ rfl
      have z0 := A23.free 0 _ rfl
      have z1 := A23.free 1 _ rfl
      have B1 := B3
      clear x0 x1 x2 x3 x4 A1 A2 b0 b1 b2 b3 F F2 BN LK B0 bb
      have Mb := M3.alloc (.cells #[.string q.n, .int .i64 q.a, .int .i64 q.b, .int .i64 q.e, .int .i64 q.u] 26)
      obtain ⟨w4, hdel, M4', tn4⟩ := Mb.drop (s := p.n) hn 0
      have M4 : PMap w4 u2.heap.size (Others ps p) := M4'
      have B4 := turned_below tn4 (bal B3 _) (by omega)
      have A14 := (A13.alloc (.cells #[.string q.n, .int .i64 q.a, .int .i64 q.b, .int .i64 q.e, .int .i64 q.u] 26)).turned tn4 (by omega)
      have A24 := (A23.alloc (.cells #[.string q.n, .int .i64 q.a, .int .i64 q.b, .int .i64 q.e, .int .i64 q.u] 26)).turned tn4 (by omega)
      have hlen := fun ty => M4.len ty
      clear Mb M3 M4' A13 A23 B3 B1 tn4 q0 q1 z0 z1
      obtain ⟨w5, hst, M5, tn5⟩ := M4.store (p := p) (by omega) hn others_ne
      have B5 := turned_below tn5 B4 (by omega)
      have A25 := A24.turned tn5 (by omega)
      have lt5 := A25.lt (by simp)
      have x0 := A14.cell 0 _ rfl
      have x1 := A14.cell 1 _ rfl
      have x2 := A14.cell 2 _ rfl
      have x3 := A14.cell 3 _ rfl
      have x4 := A14.cell 4 _ rfl
      have RP := risingPins_any _ _ _ M5 (by simp; omega) (by simp)
      have hob : (((Others ps p).length : Int) == 4) = false := by simpa using ho4
      generalize (Others ps p).length = n4 at *
      clear A14 A24 M4 tn5 B4 M5
      go_wp2_with fail
      refine RP.mono ?_
      rintro r u6 ⟨g, c, ys, rfl, hp, hr, hO, b6⟩
      have hys := put_eq hrise hp hr
      have A26 := A25.on b6
      have q0 := A26.cell 0 _ rfl
      have q1 := A26.cell 1 _ rfl
      have z0 := A26.free 0 _ rfl
      have z1 := A26.free 1 _ rfl
      have hgl := (Own.lt hO g rfl)
      have B1 := btr B5 b6
      have O6 := Lib.hid (hO.less B5.size)
      have HY := Lib.hid hys
      have hne : w.heap.size + 1 ≠ g := by omega
      clear hO hp hr hys A25 A26 b6 B5 RP
      go_wp2_with fail
      refine bodyPost_ret (v := .agg #[.int .i64 0, .slice (some ⟨g, 0, none⟩) ys.length c]) (by simp [results, Tryd.results23, go_sem, q0, q1]) rfl ⟨_, _, c, rfl, ?_, (by (iterate 2 (refine bset ?_ (by dsimp only; omega) _)); exact B1)⟩
      rw [← HY.out]
      refine Own.setCell (Own.setCell O6.out (fun k hk e => ?_) _) (fun k hk e => ?_) _
      · simp [Value.ownBlock] at hk; dsimp only at e; omega
      · simp [Value.ownBlock] at hk; dsimp only at e; omega
end Go.Proofs.YtcnpocppgghejaaDoor
