/- Texts of this seat that several laws rest on, laid into one. Conditions: as each theorem states. -/
import Derived.Test.YtmdknbgpddnplaaGreatDoorS4
import Derived.Test.YtmdknbgpddnplaaGreatDoorS8
import Derived.Deep.DeepCutAuto
namespace Go.Proofs.YtmdknbgpddnplaaGreatDoor
open Go.RowKit
set_option maxRecDepth 100000
set_option linter.unusedVariables false

/-- A code and a new slice of pins were answered. -/
def PinsRes (c : Int) (ps : List PinD) (w : World) (e : Ending) (w' : World) : Prop := ∃ a n cap, e = .returned (.agg #[.int .i64 c, .slice a n cap]) ∧ OwnP w' w.heap.size (.slice a n cap) ps ∧ Below w.heap.size w w'
theorem At.turned {g b : Nat} {cs : List Value} {w w' : World} (h : At g cs w) (ht : w.mapTurned w' b) (hne : g ≠ b) : At g cs w' := h.kept ht.grown (fun e => by injection e with e; exact hne e)
theorem putC_list {ps : List PinD} {p : PinD} (h : pinsF ps ≠ 0) : putC ps p = pinsF ps ∧ putR ps p = [] := by
  have e : putC ps p = pinsF ps := by unfold putC; rw [if_pos h]
  exact ⟨e, by unfold putR; rw [e, if_neg h]⟩
theorem putC_pin {ps : List PinD} {p : PinD} (h0 : pinsF ps = 0) (h : p.f ≠ 0) : putC ps p = p.f ∧ putR ps p = [] := by
  have e : putC ps p = p.f := by unfold putC; rw [if_neg (fun h => h h0), if_pos h]
  exact ⟨e, by unfold putR; rw [e, if_neg h]⟩
theorem putC_old {ps : List PinD} {p q : PinD} (h0 : pinsF ps = 0) (h1 : p.f = 0) (hq : findP ps p.nm = some q) (h : p.e ≤ q.e) : putC ps p = 11 ∧ putR ps p = [] := by
  have e : putC ps p = 11 := by unfold putC; rw [if_neg (fun h => h h0), if_neg (fun h => h h1), hq]; simp only; rw [if_pos h]
  exact ⟨e, by unfold putR; rw [e, if_neg (by decide)]⟩
theorem putC_young {ps : List PinD} {p q : PinD} (h0 : pinsF ps = 0) (h1 : p.f = 0) (hq : findP ps p.nm = some q) (h : ¬ p.e ≤ q.e) : putC ps p = 0 ∧ putR ps p = putL ps p := by
  have e : putC ps p = 0 := by unfold putC; rw [if_neg (fun h => h h0), if_neg (fun h => h h1), hq]; simp only; rw [if_neg h]
  exact ⟨e, by unfold putR; rw [if_pos e]⟩
theorem putC_full {ps : List PinD} {p : PinD} (h0 : pinsF ps = 0) (h1 : p.f = 0) (hq : findP ps p.nm = none) (h : ps.length = 4) : putC ps p = 7 ∧ putR ps p = [] := by
  have e : putC ps p = 7 := by unfold putC; rw [if_neg (fun h => h h0), if_neg (fun h => h h1), hq]; simp only; rw [if_pos h]
  exact ⟨e, by unfold putR; rw [e, if_neg (by decide)]⟩
theorem putC_new {ps : List PinD} {p : PinD} (h0 : pinsF ps = 0) (h1 : p.f = 0) (hq : findP ps p.nm = none) (h : ps.length ≠ 4) : putC ps p = 0 ∧ putR ps p = putL ps p := by
  have e : putC ps p = 0 := by unfold putC; rw [if_neg (fun h => h h0), if_neg (fun h => h h1), hq]; simp only; rw [if_neg h]
  exact ⟨e, by unfold putR; rw [if_pos e]⟩
abbrev Others (ps : List PinD) (p : PinD) : List PinD := ps.filter fun q => !decide (q.nm = p.nm)
theorem others_ne {ps : List PinD} {p : PinD} : ∀ q ∈ Others ps p, q.nm ≠ p.nm := by
  intro q hq
  have := (List.mem_filter.1 hq).2
  simpa using this
theorem others_none {ps : List PinD} {p : PinD} (h : findP ps p.nm = none) : Others ps p = ps := List.filter_eq_self.2 fun q hq => by simpa using findP_none h q hq
theorem others_lt {ps : List PinD} {p q : PinD} (h : findP ps p.nm = some q) : (Others ps p).length < ps.length := by
  obtain ⟨h1, h2⟩ := findP_mem h
  have h3 := List.length_filter_le (fun q => !decide (q.nm = p.nm)) ps
  have h4 : (Others ps p).length ≠ ps.length := fun e => by
    have := (List.length_filter_eq_length_iff.1 e) q h1
    simp [h2] at this
  have : (Others ps p).length ≤ ps.length := h3
  omega
/-- What is left, and the pin, in rising order: just what the model makes. -/
theorem put_eq {ps ys : List PinD} {p : PinD} (hr : Rise ps) (hp : ys.Perm (Others ps p ++ [p])) (hy : Rise ys) : ys = putL ps p := by
  refine rise_eq ?_ hy (putL_rise p hr)
  exact hp.trans ((List.perm_append_singleton p (Others ps p)).trans (putG_perm p ps).symm)

theorem implPutPin_any (a : Option Addr) (len cap B : Nat) (ps : List PinD) (p : PinD) (w : World) (hR : PRow w B a len cap ps) (hB : B ≤ w.heap.size) (hn : p.n.size ≤ maxLen) :
    Calls Tryz.prog 58 #[.slice a len cap, P5 p] w (PinsRes (putC ps p) (putR ps p) w) := by
  have hL := Lib.hid hR.length
  have b0 := bal (bal (Below.refl _ w) (.cells #[.string p.n, .int .i64 p.a, .int .i64 p.b, .int .i64 p.e, .int .i64 p.u] 25)) (.cells #[.int .i64 0, .slice none 0 0] 37)
  have A1 : At w.heap.size p.vals ((w.alloc (.cells #[.string p.n, .int .i64 p.a, .int .i64 p.b, .int .i64 p.e, .int .i64 p.u] 25)).alloc (.cells #[.int .i64 0, .slice none 0 0] 37)) := (At.new w p.vals 25).alloc _
  have A2 := At.new (w.alloc (.cells #[.string p.n, .int .i64 p.a, .int .i64 p.b, .int .i64 p.e, .int .i64 p.u] 25)) [.int .i64 0, .slice none 0 0] 37
  rw [show (w.alloc (.cells #[.string p.n, .int .i64 p.a, .int .i64 p.b, .int .i64 p.e, .int .i64 p.u] 25)).heap.size = w.heap.size + 1 by simp] at A2
  have F := implPinsFault_any a len cap B ps _ (hR.below (b0.mono hB)) (Nat.le_trans hB b0.size)
  by_cases h0 : pinsF ps = 0
  case neg =>
    rw [(putC_list h0).1, (putC_list h0).2]
    generalize pinsF ps = c at *
    clear hR
    go_enter Tryz.func58, Tryz.ntmps58
    go_wp2_with fail
    generalize (w.alloc (.cells #[.string p.n, .int .i64 p.a, .int .i64 p.b, .int .i64 p.e, .int .i64 p.u] 25)).alloc (.cells #[.int .i64 0, .slice none 0 0] 37) = W0 at *
    refine F.mono ?_
    rintro r u1 ⟨rfl, b1⟩
    have q0 := (A2.on b1).cell 0 _ rfl
    have q1 := (A2.on b1).cell 1 _ rfl
    have z0 := (A2.on b1).free 0 _ rfl
    have z1 := (A2.on b1).free 1 _ rfl
    have B1 := btr b0 b1
    clear A1 A2 b0 b1 F
    go_wp2_with fail
    refine bodyPost_ret (v := .agg #[.int .i64 c, .slice none 0 0]) (by simp [results, Tryz.results58, go_sem, q0, q1]) rfl ⟨none, 0, 0, rfl, OwnP.nil _ _, ?_⟩
    exact (by (iterate 2 (refine bset ?_ (by dsimp only; omega) _)); exact B1)
  rw [h0] at F
  have F2 := fun w => implPinFault_any p w hn
  by_cases h1 : p.f = 0
  case neg =>
    rw [(putC_pin h0 h1).1, (putC_pin h0 h1).2]
    clear hR
    go_enter Tryz.func58, Tryz.ntmps58
    go_wp2_with fail
    generalize (w.alloc (.cells #[.string p.n, .int .i64 p.a, .int .i64 p.b, .int .i64 p.e, .int .i64 p.u] 25)).alloc (.cells #[.int .i64 0, .slice none 0 0] 37) = W0 at *
    refine F.mono ?_
    rintro r u1 ⟨rfl, b1⟩
    have x0 := (A1.on b1).cell 0 _ rfl
    have x1 := (A1.on b1).cell 1 _ rfl
    have x2 := (A1.on b1).cell 2 _ rfl
    have x3 := (A1.on b1).cell 3 _ rfl
    have x4 := (A1.on b1).cell 4 _ rfl
    go_wp2_with fail
    refine (F2 _).mono ?_
    rintro r u2 ⟨rfl, b2⟩
    have bb := btr b1 b2
    have q0 := (A2.on bb).cell 0 _ rfl
    have q1 := (A2.on bb).cell 1 _ rfl
    have z0 := (A2.on bb).free 0 _ rfl
    have z1 := (A2.on bb).free 1 _ rfl
    have B1 := btr b0 bb
    clear A1 A2 b0 b1 b2 bb F F2 x0 x1 x2 x3 x4
    go_wp2_with fail
    refine bodyPost_ret (v := .agg #[.int .i64 p.f, .slice none 0 0]) (by simp [results, Tryz.results58, go_sem, q0, q1]) rfl ⟨none, 0, 0, rfl, OwnP.nil _ _, ?_⟩
    exact (by (iterate 2 (refine bset ?_ (by dsimp only; omega) _)); exact B1)
  rw [h1] at F2
  obtain ⟨hl4, hgood, hrise⟩ := pinsF_zero h0
  have LK := Lib.hid (fun (w : World) (b : Nat) (h : PMap w b ps) => h.look (s := p.n) hn)
  have BN := Lib.hid (fun (w1 : World) (h : Below w.heap.size w w1) => pinsByName_any a len cap B ps w1 (hR.below (h.mono hB)) (Nat.le_trans hB h.size) (by have := hL.out; omega) hrise.apart)
  clear hR
  cases hf : findP ps p.nm with
  | none =>
    have hf2 : findP ps p.n.data.toList = none := hf
    simp only [hf2] at LK
    by_cases h4 : ps.length = 4
    · rw [(putC_full h0 h1 hf h4).1, (putC_full h0 h1 hf h4).2]
      have ho : (Others ps p).length = 4 := by rw [others_none hf]; exact h4
      go_enter Tryz.func58, Tryz.ntmps58
      go_wp2_with fail
      generalize (w.alloc (.cells #[.string p.n, .int .i64 p.a, .int .i64 p.b, .int .i64 p.e, .int .i64 p.u] 25)).alloc (.cells #[.int .i64 0, .slice none 0 0] 37) = W0 at *
      refine F.mono ?_
      rintro r u1 ⟨rfl, b1⟩
      have x0 := (A1.on b1).cell 0 _ rfl
      have x1 := (A1.on b1).cell 1 _ rfl
      have x2 := (A1.on b1).cell 2 _ rfl
      have x3 := (A1.on b1).cell 3 _ rfl
      have x4 := (A1.on b1).cell 4 _ rfl
      go_wp2_with fail
      refine (F2 _).mono ?_
      rintro r u2 ⟨rfl, b2⟩
      have B0 := btr b0 (btr b1 b2)
      go_wp2_with fail
      refine (BN.out _ B0).mono ?_
      rintro r u3 ⟨rfl, M3, b3⟩
      have bb := btr b1 (btr b2 b3)
      have B3 := btr B0 b3
      have lk := LK.out _ _ M3
      have A13 := A1.on bb
      have A23 := A2.on bb
      have lt2 := (A2.on (btr b1 b2)).lt (by simp)
      have lt3 := M3.lt
      have ltp : w.heap.size < u3.heap.size := by omega
      have ltr : w.heap.size + 1 < u3.heap.size := by omega
      have y0 := A13.cell 0 _ rfl
      have y1 := A13.cell 1 _ rfl
      have y2 := A13.cell 2 _ rfl
      have y3 := A13.cell 3 _ rfl
      have y4 := A13.cell 4 _ rfl
      have q0 := A23.cell 0 _ rfl
      have q1 := A23.cell 1 _ rfl
      have z0 := A23.free 0 _ rfl
      have z1 := A23.free 1 _ rfl
      have B1 := B3
      clear x0 x1 x2 x3 x4 A1 A2 b0 b1 b2 b3 F F2 BN LK B0 bb
      have Mb := M3.alloc (.cells #[.string pin0.n, .int .i64 pin0.a, .int .i64 pin0.b, .int .i64 pin0.e, .int .i64 pin0.u] 25)
      obtain ⟨w4, hdel, M4', tn4⟩ := Mb.drop (s := p.n) hn 0
      have M4 : PMap w4 u2.heap.size (Others ps p) := M4'
      have B4 := turned_below tn4 (bal B3 _) (by omega)
      have A14 := (A13.alloc (.cells #[.string pin0.n, .int .i64 pin0.a, .int .i64 pin0.b, .int .i64 pin0.e, .int .i64 pin0.u] 25)).turned tn4 (by omega)
      have A24 := (A23.alloc (.cells #[.string pin0.n, .int .i64 pin0.a, .int .i64 pin0.b, .int .i64 pin0.e, .int .i64 pin0.u] 25)).turned tn4 (by omega)
      have hlen := fun ty => M4.len ty
      clear Mb M3 M4' A13 A23 B3 B1 tn4 q0 q1 z0 z1
      rw [ho] at hlen
      have B1 := B4
      have q0 := A24.cell 0 _ rfl
      have q1 := A24.cell 1 _ rfl
      have z0 := A24.free 0 _ rfl
      have z1 := A24.free 1 _ rfl
      go_wp2_with fail
      refine bodyPost_ret (v := .agg #[.int .i64 7, .slice none 0 0]) (by simp [results, Tryz.results58, go_sem, q0, q1]) rfl ⟨none, 0, 0, rfl, OwnP.nil _ _, ?_⟩
      exact (by (iterate 2 (refine bset ?_ (by dsimp only; omega) _)); exact B1)
    · rw [(putC_new h0 h1 hf h4).1, (putC_new h0 h1 hf h4).2]
      have ho4 : ¬ (((Others ps p).length : Nat) : Int) = 4 := by rw [others_none hf]; omega
      have ho5 : (Others ps p).length ≤ 4 := by rw [others_none hf]; omega
      go_enter Tryz.func58, Tryz.ntmps58
      go_wp2_with fail
      generalize (w.alloc (.cells #[.string p.n, .int .i64 p.a, .int .i64 p.b, .int .i64 p.e, .int .i64 p.u] 25)).alloc (.cells #[.int .i64 0, .slice none 0 0] 37) = W0 at *
      refine F.mono ?_
      rintro r u1 ⟨rfl, b1⟩
      have x0 := (A1.on b1).cell 0 _ rfl
      have x1 := (A1.on b1).cell 1 _ rfl
      have x2 := (A1.on b1).cell 2 _ rfl
      have x3 := (A1.on b1).cell 3 _ rfl
      have x4 := (A1.on b1).cell 4 _ rfl
      go_wp2_with fail
      refine (F2 _).mono ?_
      rintro r u2 ⟨rfl, b2⟩
      have B0 := btr b0 (btr b1 b2)
      go_wp2_with fail
      refine (BN.out _ B0).mono ?_
      rintro r u3 ⟨rfl, M3, b3⟩
      have bb := btr b1 (btr b2 b3)
      have B3 := btr B0 b3
      have lk := LK.out _ _ M3
      have A13 := A1.on bb
      have A23 := A2.on bb
      have lt2 := (A2.on (btr b1 b2)).lt (by simp)
      have lt3 := M3.lt
      have ltp : w.heap.size < u3.heap.size := by omega
      have ltr : w.heap.size + 1 < u3.heap.size := by omega
      have y0 := A13.cell 0 _ rfl
      have y1 := A13.cell 1 _ rfl
      have y2 := A13.cell 2 _ rfl
      have y3 := A13.cell 3 _ rfl
      have y4 := A13.cell 4 _ rfl
      have q0 := A23.cell 0 _ rfl
      have q1 := A23.cell 1 _ rfl
      have z0 := A23.free 0 _ rfl
      have z1 := A23.free 1 _ rfl
      have B1 := B3
      clear x0 x1 x2 x3 x4 A1 A2 b0 b1 b2 b3 F F2 BN LK B0 bb
      have Mb := M3.alloc (.cells #[.string pin0.n, .int .i64 pin0.a, .int .i64 pin0.b, .int .i64 pin0.e, .int .i64 pin0.u] 25)
      obtain ⟨w4, hdel, M4', tn4⟩ := Mb.drop (s := p.n) hn 0
      have M4 : PMap w4 u2.heap.size (Others ps p) := M4'
      have B4 := turned_below tn4 (bal B3 _) (by omega)
      have A14 := (A13.alloc (.cells #[.string pin0.n, .int .i64 pin0.a, .int .i64 pin0.b, .int .i64 pin0.e, .int .i64 pin0.u] 25)).turned tn4 (by omega)
      have A24 := (A23.alloc (.cells #[.string pin0.n, .int .i64 pin0.a, .int .i64 pin0.b, .int .i64 pin0.e, .int .i64 pin0.u] 25)).turned tn4 (by omega)
      have hlen := fun ty => M4.len ty
      clear Mb M3 M4' A13 A23 B3 B1 tn4 q0 q1 z0 z1
      obtain ⟨w5, hst, M5, tn5⟩ := M4.store (p := p) (by omega) hn others_ne
      have B5 := turned_below tn5 B4 (by omega)
      have A25 := A24.turned tn5 (by omega)
      have lt5 := A25.lt (by simp)
      have x0 := A14.cell 0 _ rfl
      have x1 := A14.cell 1 _ rfl
      have x2 := A14.cell 2 _ rfl
      have x3 := A14.cell 3 _ rfl
      have x4 := A14.cell 4 _ rfl
      have RP := risingPins_any _ _ _ M5 (by simp; omega) (by simp)
      have hob : (((Others ps p).length : Int) == 4) = false := by simpa using ho4
      generalize (Others ps p).length = n4 at *
      clear A14 A24 M4 tn5 B4 M5
      go_wp2_with fail
      refine RP.mono ?_
      rintro r u6 ⟨g, c, ys, rfl, hp, hr, hO, b6⟩
      have hys := put_eq hrise hp hr
      have A26 := A25.on b6
      have q0 := A26.cell 0 _ rfl
      have q1 := A26.cell 1 _ rfl
      have z0 := A26.free 0 _ rfl
      have z1 := A26.free 1 _ rfl
      have hgl := (Own.lt hO g rfl)
      have B1 := btr B5 b6
      have O6 := Lib.hid (hO.less B5.size)
      have HY := Lib.hid hys
      have hne : w.heap.size + 1 ≠ g := by omega
      clear hO hp hr hys A25 A26 b6 B5 RP
      go_wp2_with fail
      refine bodyPost_ret (v := .agg #[.int .i64 0, .slice (some ⟨g, 0, none⟩) ys.length c]) (by simp [results, Tryz.results58, go_sem, q0, q1]) rfl ⟨_, _, c, rfl, ?_, (by (iterate 2 (refine bset ?_ (by dsimp only; omega) _)); exact B1)⟩
      rw [← HY.out]
      refine Own.setCell (Own.setCell O6.out (fun k hk e => ?_) _) (fun k hk e => ?_) _
      · simp [Value.ownBlock] at hk; dsimp only at e; omega
      · simp [Value.ownBlock] at hk; dsimp only at e; omega
  | some q =>
    have hf2 : findP ps p.n.data.toList = some q := hf
    simp only [hf2] at LK
    by_cases he : p.e ≤ q.e
    · rw [(putC_old h0 h1 hf he).1, (putC_old h0 h1 hf he).2]
      go_enter Tryz.func58, Tryz.ntmps58
      go_wp2_with fail
      generalize (w.alloc (.cells #[.string p.n, .int .i64 p.a, .int .i64 p.b, .int .i64 p.e, .int .i64 p.u] 25)).alloc (.cells #[.int .i64 0, .slice none 0 0] 37) = W0 at *
      refine F.mono ?_
      rintro r u1 ⟨rfl, b1⟩
      have x0 := (A1.on b1).cell 0 _ rfl
      have x1 := (A1.on b1).cell 1 _ rfl
      have x2 := (A1.on b1).cell 2 _ rfl
      have x3 := (A1.on b1).cell 3 _ rfl
      have x4 := (A1.on b1).cell 4 _ rfl
      go_wp2_with fail
      refine (F2 _).mono ?_
      rintro r u2 ⟨rfl, b2⟩
      have B0 := btr b0 (btr b1 b2)
      go_wp2_with fail
      refine (BN.out _ B0).mono ?_
      rintro r u3 ⟨rfl, M3, b3⟩
      have bb := btr b1 (btr b2 b3)
      have B3 := btr B0 b3
      have lk := LK.out _ _ M3
      have A13 := A1.on bb
      have A23 := A2.on bb
      have lt2 := (A2.on (btr b1 b2)).lt (by simp)
      have lt3 := M3.lt
      have ltp : w.heap.size < u3.heap.size := by omega
      have ltr : w.heap.size + 1 < u3.heap.size := by omega
      have y0 := A13.cell 0 _ rfl
      have y1 := A13.cell 1 _ rfl
      have y2 := A13.cell 2 _ rfl
      have y3 := A13.cell 3 _ rfl
      have y4 := A13.cell 4 _ rfl
      have q0 := A23.cell 0 _ rfl
      have q1 := A23.cell 1 _ rfl
      have z0 := A23.free 0 _ rfl
      have z1 := A23.free 1 _ rfl
      have B1 := B3
      clear x0 x1 x2 x3 x4 A1 A2 b0 b1 b2 b3 F F2 BN LK B0 bb
      go_wp2_with fail
      refine bodyPost_ret (v := .agg #[.int .i64 11, .slice none 0 0]) (by simp [results, Tryz.results58, go_sem, q0, q1, ltr]) rfl ⟨none, 0, 0, rfl, OwnP.nil _ _, ?_⟩
      exact bal (by (iterate 2 (refine bset ?_ (by dsimp only; omega) _)); exact B1) _
    · rw [(putC_young h0 h1 hf he).1, (putC_young h0 h1 hf he).2]
      have ho := others_lt hf
      have ho4 : ¬ (((Others ps p).length : Nat) : Int) = 4 := by omega
      have ho5 : (Others ps p).length ≤ 4 := by omega
      go_enter Tryz.func58, Tryz.ntmps58
      go_wp2_with fail
      generalize (w.alloc (.cells #[.string p.n, .int .i64 p.a, .int .i64 p.b, .int .i64 p.e, .int .i64 p.u] 25)).alloc (.cells #[.int .i64 0, .slice none 0 0] 37) = W0 at *
      refine F.mono ?_
      rintro r u1 ⟨rfl, b1⟩
      have x0 := (A1.on b1).cell 0 _ rfl
      have x1 := (A1.on b1).cell 1 _ rfl
      have x2 := (A1.on b1).cell 2 _ rfl
      have x3 := (A1.on b1).cell 3 _ rfl
      have x4 := (A1.on b1).cell 4 _ rfl
      go_wp2_with fail
      refine (F2 _).mono ?_
      rintro r u2 ⟨rfl, b2⟩
      have B0 := btr b0 (btr b1 b2)
      go_wp2_with fail
      refine (BN.out _ B0).mono ?_
      rintro r u3 ⟨rfl, M3, b3⟩
      have bb := btr b1 (btr b2 b3)
      have B3 := btr B0 b3
      have lk := LK.out _ _ M3
      have A13 := A1.on bb
      have A23 := A2.on bb
      have lt2 := (A2.on (btr b1 b2)).lt (by simp)
      have lt3 := M3.lt
      have ltp : w.heap.size < u3.heap.size := by omega
      have ltr : w.heap.size + 1 < u3.heap.size := by omega
      have y0 := A13.cell 0 _ rfl
      have y1 := A13.cell 1 _ rfl
      have y2 := A13.cell 2 _ rfl
      have y3 := A13.cell 3 _ rfl
      have y4 := A13.cell 4 _ rfl
      have q0 := A23.cell 0 _ rfl
      have q1 := A23.cell 1 _ rfl
      have z0 := A23.free 0 _ rfl
      have z1 := A23.free 1 _ rfl
      have B1 := B3
      clear x0 x1 x2 x3 x4 A1 A2 b0 b1 b2 b3 F F2 BN LK B0 bb
      have Mb := M3.alloc (.cells #[.string q.n, .int .i64 q.a, .int .i64 q.b, .int .i64 q.e, .int .i64 q.u] 25)
      obtain ⟨w4, hdel, M4', tn4⟩ := Mb.drop (s := p.n) hn 0
      have M4 : PMap w4 u2.heap.size (Others ps p) := M4'
      have B4 := turned_below tn4 (bal B3 _) (by omega)
      have A14 := (A13.alloc (.cells #[.string q.n, .int .i64 q.a, .int .i64 q.b, .int .i64 q.e, .int .i64 q.u] 25)).turned tn4 (by omega)
      have A24 := (A23.alloc (.cells #[.string q.n, .int .i64 q.a, .int .i64 q.b, .int .i64 q.e, .int .i64 q.u] 25)).turned tn4 (by omega)
      have hlen := fun ty => M4.len ty
      clear Mb M3 M4' A13 A23 B3 B1 tn4 q0 q1 z0 z1
      obtain ⟨w5, hst, M5, tn5⟩ := M4.store (p := p) (by omega) hn others_ne
      have B5 := turned_below tn5 B4 (by omega)
      have A25 := A24.turned tn5 (by omega)
      have lt5 := A25.lt (by simp)
      have x0 := A14.cell 0 _ rfl
      have x1 := A14.cell 1 _ rfl
      have x2 := A14.cell 2 _ rfl
      have x3 := A14.cell 3 _ rfl
      have x4 := A14.cell 4 _ rfl
      have RP := risingPins_any _ _ _ M5 (by simp; omega) (by simp)
      have hob : (((Others ps p).length : Int) == 4) = false := by simpa using ho4
      generalize (Others ps p).length = n4 at *
      clear A14 A24 M4 tn5 B4 M5
      go_wp2_with fail
      refine RP.mono ?_
      rintro r u6 ⟨g, c, ys, rfl, hp, hr, hO, b6⟩
      have hys := put_eq hrise hp hr
      have A26 := A25.on b6
      have q0 := A26.cell 0 _ rfl
      have q1 := A26.cell 1 _ rfl
      have z0 := A26.free 0 _ rfl
      have z1 := A26.free 1 _ rfl
      have hgl := (Own.lt hO g rfl)
      have B1 := btr B5 b6
      have O6 := Lib.hid (hO.less B5.size)
      have HY := Lib.hid hys
      have hne : w.heap.size + 1 ≠ g := by omega
      clear hO hp hr hys A25 A26 b6 B5 RP
      go_wp2_with fail
      refine bodyPost_ret (v := .agg #[.int .i64 0, .slice (some ⟨g, 0, none⟩) ys.length c]) (by simp [results, Tryz.results58, go_sem, q0, q1]) rfl ⟨_, _, c, rfl, ?_, (by (iterate 2 (refine bset ?_ (by dsimp only; omega) _)); exact B1)⟩
      rw [← HY.out]
      refine Own.setCell (Own.setCell O6.out (fun k hk e => ?_) _) (fun k hk e => ?_) _
      · simp [Value.ownBlock] at hk; dsimp only at e; omega
      · simp [Value.ownBlock] at hk; dsimp only at e; omega
end Go.Proofs.YtmdknbgpddnplaaGreatDoor
namespace Go.Proofs.YtmdknbgpddnplaaGreatDoor
open Go.RowKit
set_option maxRecDepth 100000
set_option linter.unusedVariables false

/-- The digits of k, ahead of out. -/
def digs : Nat → Nat → ByteArray → ByteArray
  | 0, _, out => out
  | f + 1, k, out => if k = 0 then out else digs f (k / 10) ((⟨#[UInt8.ofNat (48 + k % 10)]⟩ : ByteArray) ++ out)
theorem digs_zero (f : Nat) (out : ByteArray) : digs f 0 out = out := by cases f <;> rfl
theorem digs_fuel : ∀ (f g k : Nat) (out : ByteArray), k ≤ f → k ≤ g → digs f k out = digs g k out
  | 0, g, k, out, h1, _ => by
    obtain rfl : k = 0 := by omega
    rw [digs_zero, digs_zero]
  | f + 1, 0, k, out, _, h2 => by
    obtain rfl : k = 0 := by omega
    rw [digs_zero, digs_zero]
  | f + 1, g + 1, k, out, h1, h2 => by
    unfold digs
    by_cases h : k = 0
    · rw [if_pos h, if_pos h]
    · rw [if_neg h, if_neg h]
      exact digs_fuel f g (k / 10) _ (by omega) (by omega)
def markT (k : Nat) : ByteArray := (⟨#[109]⟩ : ByteArray) ++ digs k k ⟨#[]⟩
theorem digs_step {k : Nat} (h : k ≠ 0) (out : ByteArray) : digs k k out = digs (k / 10) (k / 10) ((⟨#[UInt8.ofNat (48 + k % 10)]⟩ : ByteArray) ++ out) := by
  obtain ⟨f, rfl⟩ : ∃ f, k = f + 1 := ⟨k - 1, by omega⟩
  rw [digs, if_neg h]
  exact digs_fuel _ _ _ _ (by omega) (by omega)
theorem markText_any (k : Nat) (w : World) (h0 : 0 < k) (h1 : k ≤ 1000000000) :
    Calls Tryz.prog 91 #[.int .i64 k] w fun e w' => e = .returned (.string (markT k)) ∧ Below w.heap.size w w' := by
  have hk : ¬ (k : Int) ≤ 0 := by omega
  go_enter Tryz.func91, Tryz.ntmps91
  go_wp2_with fail
  go_loopw [0, 3] (fun kv ov wr => ∃ (j : Nat) (o : ByteArray), kv = .int .i64 j ∧ ov = .string o ∧ digs j j o = digs k k ⟨#[]⟩ ∧ o.size + j ≤ k ∧ Below w.heap.size w wr) (fun kv _ _ => (intOf kv).toNat)
  case atStart => exact ⟨k, ⟨#[]⟩, rfl, rfl, rfl, by show 0 + k ≤ k; omega, Below.refl _ _⟩
  case round =>
    obtain ⟨j, o, rfl, rfl, hd, hs, hb⟩ := hrel
    by_cases hj : 0 < j
    · have hj0 : (0 : Int) < j := by omega
      have hlt : j % 10 < 10 := Nat.mod_lt _ (by omega)
      have hst := digs_step (k := j) (by omega) o
      rw [hd] at hst
      have hO := own_lit (k := .u8) wr [48 + (j : Int) % 10] 1 5 (B := wr.heap.size) (Nat.le_refl _) rfl (by simp only [maxLen]; omega)
      have hrow := Own.row hO (by intro z hz; simp at hz; subst hz; exact byte_wf (show M.byteB _ by unfold M.byteB; omega))
      have es : strOf [48 + (j : Int) % 10] = (⟨#[UInt8.ofNat (48 + j % 10)]⟩ : ByteArray) := by
        show (⟨#[UInt8.ofNat (48 + (j : Int) % 10).toNat]⟩ : ByteArray) = _
        rw [show (48 + (j : Int) % 10).toNat = 48 + j % 10 by omega]
      have cv : (convert 22 9 (.slice (some ⟨wr.heap.size, 0, none⟩) 1 1)).run Tryz.prog (wr.alloc (.cells #[.int .u8 (48 + (j : Int) % 10)] 5)) = .ok (.string (⟨#[UInt8.ofNat (48 + j % 10)]⟩ : ByteArray)) (wr.alloc (.cells #[.int .u8 (48 + (j : Int) % 10)] 5)) := by rw [← es]; exact conv_row hrow
      have HS := Lib.hid hst
      have b2 := bal hb (.cells #[.int .u8 (48 + (j : Int) % 10)] 5)
      have hs2 : ((⟨#[UInt8.ofNat (48 + j % 10)]⟩ : ByteArray) ++ o).size + j / 10 ≤ k := by
        have : ((⟨#[UInt8.ofNat (48 + j % 10)]⟩ : ByteArray) ++ o).size = 1 + o.size := by simp [ByteArray.size_append]; rfl
        omega
      have hsz : (⟨#[UInt8.ofNat (48 + j % 10)]⟩ : ByteArray).size = 1 := rfl
      have HS2 := Lib.hid hs2
      have HB2 := Lib.hid b2
      clear hst hO hrow es hd hs2 b2
      generalize (⟨#[UInt8.ofNat (48 + j % 10)]⟩ : ByteArray) = ch at *
      have hsum : ch.size + o.size ≤ 9223372036854775807 := by omega
      have hadd := fun (W : World) => run_string_add_sum (P := Tryz.prog) W ch o hsum
      go_wp2_with fail
      go_roundw
      case rel => exact ⟨j / 10, ch ++ o, by go_num, rfl, HS.out.symm, HS2.out, HB2.out⟩
      case measure => simp [intOf]; omega
    · obtain rfl : j = 0 := by omega
      rw [digs_zero] at hd
      have em : markT k = (⟨#[109]⟩ : ByteArray) ++ o := by unfold markT; rw [← hd]
      have hsum : (⟨#[109]⟩ : ByteArray).size + o.size ≤ 9223372036854775807 := by show 1 + o.size ≤ _; omega
      have hadd := fun (W : World) => run_string_add_sum (P := Tryz.prog) W ⟨#[109]⟩ o hsum
      have HM := Lib.hid em
      clear em hd
      go_wp2_with fail
      go_ret
      exact ⟨by rw [HM.out]; rfl, hb⟩

/-- The pin that is written at place i, the marks beginning at k. -/
def markP (k i : Nat) : PinD := ⟨markT (k + 5 * i), (k : Int) + 5 * i + 1, (k : Int) + 5 * i + 1 + 1, (k : Int) + 5 * i + 1 + 1 + 1, (k : Int) + 5 * i + 1 + 1 + 1 + 1⟩
def marksP (k n : Nat) : List PinD := (List.range n).map (markP k)
theorem marksP_length (k n : Nat) : (marksP k n).length = n := by simp [marksP]
theorem marksP_at (k n j : Nat) (h : j < n) : (marksP k n)[j]?.getD pin0 = markP k j := by simp [marksP, h]
theorem marks_next (k : Nat) (ps : List PinD) (j : Nat) (h : j < ps.length) : (marksP k j ++ ps.drop j).set j (markP k j) = marksP k (j + 1) ++ ps.drop (j + 1) := by
  have e : ps.drop j = ps[j] :: ps.drop (j + 1) := List.drop_eq_getElem_cons h
  rw [e, List.set_append_right _ _ (by rw [marksP_length]; omega), marksP_length, Nat.sub_self, List.set_cons_zero]
  simp [marksP, List.range_succ]
structure MarkR (w : World) (B g n c : Nat) (ps : List PinD) (k j : Nat) (wr : World) : Prop where
  own : OwnP wr B (.slice (some ⟨g, 0, none⟩) n c) (marksP k j ++ ps.drop j)
  grew : w.grownBy wr (some g)
def MarkedP (B k : Nat) (v : Value) (n : Nat) (w : World) (r : Ending) (w' : World) : Prop := r = .returned (.int .i64 ((k + 5 * n : Nat) : Int)) ∧ OwnP w' B v (marksP k n) ∧ w.grownBy w' v.ownBlock
theorem gset1 {w w1 : World} {g : Nat} (h : w.grownBy w1 (some g)) (i : Nat) (v : Value) : w.grownBy (w1.setCell ⟨g, i, none⟩ v) (some g) :=
  ⟨h.os, h.tape, h.output, by simpa [World.setCell] using h.size, fun k hk hne => (Below.heap_setCell w1 ⟨g, i, none⟩ v k (fun e => hne (by rw [e]))).trans (h.block k hk hne)⟩
theorem gbe1 {w w1 w2 : World} {g : Nat} (h : w.grownBy w1 (some g)) (k : Below w1.heap.size w1 w2) : w.grownBy w2 (some g) :=
  ⟨k.os.trans h.os, k.tape.trans h.tape, k.output.trans h.output, Nat.le_trans h.size k.size, fun i hi hne => (k.block i (Nat.lt_of_lt_of_le hi h.size)).trans (h.block i hi hne)⟩
set_option maxHeartbeats 1000000 in
theorem markPinS_any (a : Option Addr) (n cap B k : Nat) (ps : List PinD) (w : World) (ho : OwnP w B (.slice a n cap) ps) (k0 : 0 < k) (k1 : k ≤ 1000000) (hn : n ≤ 1048576) :
    Calls Tryz.prog 41 #[.slice a n cap, .int .i64 k] w (MarkedP B k (.slice a n cap) n w) := by
  rcases ho.2 with ⟨e, h0⟩ | ⟨g, c, e, -, -, h1, h2, -, -⟩
  · injection e with e1 e2 e3
    subst e1; subst e2; subst e3
    have F : MarkedP B k (.slice none 0 0) 0 w (.returned (.int .i64 k)) w := ⟨by simp, OwnP.nil _ _, World.grownBy.refl _ _⟩
    clear ho h0
    go_enter Tryz.func41, Tryz.ntmps41
    go_wp2_with fail
    refine wp_loop_rounds 1 ?_
    rw [rounds_succ]; go_wp2_with fail
    go_ret
    exact F
  · injection e with e1 e2 e3
    subst e1; subst e3
    have hl : ps.length = n := e2.symm
    have T0 : MarkR w B g n cap ps k 0 w := ⟨by simpa [marksP] using ho, World.grownBy.refl _ _⟩
    have hm := h2
    unfold maxLen at hm
    have HL := Lib.hid hl
    clear ho e2 hl
    rw [HL.out] at h1
    go_enter Tryz.func41, Tryz.ntmps41
    go_wp2_with fail
    go_loopw [1, 5] (fun q i wr => ∃ j : Nat, j ≤ n ∧ i = .int .i64 j ∧ q = .int .i64 ((k + 5 * j : Nat) : Int) ∧ MarkR w B g n cap ps k j wr) (fun _ i _ => n - (intOf i).toNat)
    case atStart => exact ⟨0, Nat.zero_le _, rfl, by go_num, T0⟩
    case round =>
      obtain ⟨j, hj, rfl, rfl, hT⟩ := hrel
      clear T0
      by_cases hlt : j < n
      · have MT := markText_any (k + 5 * j) wr (by omega) (by omega)
        have hjl : j < (marksP k j ++ ps.drop j).length := by simp [marksP_length]; have := HL.out; omega
        have hnx := marks_next k ps j (by rw [HL.out]; exact hlt)
        have P2 := Lib.hid (fun (u1 : World) (b1 : Below wr.heap.size wr u1) => (OwnP.below hT.own b1).put (p := markP k j) hjl)
        have C2 := Lib.hid (fun (u1 : World) (b1 : Below wr.heap.size wr u1) (i : Nat) (u : Value) hu => (OwnP.below hT.own b1).cell (k := j) (i := i) hjl (u := u) hu)
        have G2 := Lib.hid hT.grew
        have HNX := Lib.hid hnx
        clear hT hnx hjl
        go_wp2_with fail
        refine MT.mono ?_
        rintro r u1 ⟨rfl, b1⟩
        generalize (marksP k j ++ ps.drop j)[j]?.getD pin0 = q0 at C2
        obtain ⟨c0, f0⟩ := C2.out u1 b1 0 _ rfl
        obtain ⟨c1, f1⟩ := C2.out u1 b1 1 _ rfl
        obtain ⟨c2, f2⟩ := C2.out u1 b1 2 _ rfl
        obtain ⟨c3, f3⟩ := C2.out u1 b1 3 _ rfl
        obtain ⟨c4, f4⟩ := C2.out u1 b1 4 _ rfl
        rw [Nat.add_zero] at c0 f0
        have O3 := P2.out u1 b1
        rw [HNX.out] at O3
        have G3 := gset1 (gset1 (gset1 (gset1 (gset1 (gbe1 G2.out b1) (j * 5) (.string (markP k j).n)) (j * 5 + 1) (.int .i64 (markP k j).a)) (j * 5 + 2) (.int .i64 (markP k j).b)) (j * 5 + 3) (.int .i64 (markP k j).e)) (j * 5 + 4) (.int .i64 (markP k j).u)
        have HT := Lib.hid (MarkR.mk (n := n) (c := cap) (B := B) O3 G3)
        clear MT P2 C2 G2 HNX b1 O3 G3
        go_wp2_with fail
        go_roundw
        case rel => exact ⟨j + 1, by omega, by go_num, by congr 1, HT.out⟩
        case measure => simp [intOf]; omega
      · obtain rfl : j = n := by omega
        have e : ps.drop j = [] := List.drop_of_length_le (by rw [HL.out]; omega)
        have T2 := hT.own
        rw [e, List.append_nil] at T2
        have T3 := hT.grew
        clear hT
        go_wp2_with fail
        go_ret
        exact ⟨rfl, T2, T3⟩
theorem digs_size : ∀ (f k : Nat) (out : ByteArray), (digs f k out).size ≤ out.size + f
  | 0, k, out => by unfold digs; omega
  | f + 1, k, out => by
    unfold digs
    split
    · omega
    · have h1 := digs_size f (k / 10) ((⟨#[UInt8.ofNat (48 + k % 10)]⟩ : ByteArray) ++ out)
      have h2 : ((⟨#[UInt8.ofNat (48 + k % 10)]⟩ : ByteArray) ++ out).size = 1 + out.size := by simp [ByteArray.size_append]; rfl
      omega
theorem markT_size (k : Nat) : (markT k).size ≤ k + 1 := by
  unfold markT
  have h1 := digs_size k k ⟨#[]⟩
  have h2 : (⟨#[]⟩ : ByteArray).size = 0 := rfl
  have h3 : ((⟨#[109]⟩ : ByteArray) ++ digs k k ⟨#[]⟩).size = 1 + (digs k k ⟨#[]⟩).size := by simp [ByteArray.size_append]; rfl
  omega
theorem marksP_names (k n : Nat) (hk : k ≤ 1000000) (hn : n ≤ 1048576) : ∀ p ∈ marksP k n, p.n.size ≤ maxLen := by
  intro p hp
  simp only [marksP, List.mem_map, List.mem_range] at hp
  obtain ⟨i, hi, rfl⟩ := hp
  have := markT_size (k + 5 * i)
  show (markT (k + 5 * i)).size ≤ maxLen
  unfold maxLen
  omega

set_option maxHeartbeats 1000000 in
theorem heldPinS_any (a : Option Addr) (n cap B k : Nat) (w : World) (hR : PRow w B a n cap (marksP k n)) (hB : B ≤ w.heap.size) (k0 : 0 < k) (k1 : k ≤ 1000000) (hn : n ≤ 1048576) :
    Calls Tryz.prog 92 #[.slice a n cap, .int .i64 k] w fun r w' => r = .returned (.int .i64 ((k + 5 * n : Nat) : Int)) ∧ Below w.heap.size w w' := by
  go_enter Tryz.func92, Tryz.ntmps92
  go_wp2_with fail
  go_loopw [1, 5] (fun q i wr => ∃ j : Nat, j ≤ n ∧ i = .int .i64 j ∧ q = .int .i64 ((k + 5 * j : Nat) : Int) ∧ Below w.heap.size w wr) (fun _ i _ => n - (intOf i).toNat)
  case atStart => exact ⟨0, Nat.zero_le _, rfl, by go_num, Below.refl _ _⟩
  case round =>
    obtain ⟨j, hj, rfl, rfl, hb⟩ := hrel
    by_cases hlt : j < n
    · obtain ⟨b, off, ha, hbB, c0, c1, c2, c3, c4⟩ := (hR.below (hb.mono hB)).at' hlt
      simp only [marksP_at k n j hlt, markP] at c0 c1 c2 c3 c4
      have MT := markText_any (k + 5 * j) wr (by omega) (by omega)
      subst ha
      clear hR
      go_wp2_with fail
      have MT2 := fun (u : World) => markText_any (k + 5 * j) u (by omega) (by omega)
      have HB := Lib.hid hb
      clear MT hb
      refine wp_region_line (Bel wr) [(0, true), (1, true), (2, true), (3, true), (4, true), (5, true), (6, false), (7, true)] (by kernel_rfl) (by kernel_rfl) (fun _ _ d _ _ h => by cases d <;> exact h) (Bel.drew wr) ?_
      have hst := Bel.drew wr
      have inst : Nonempty (Of (Bel wr)) := ⟨⟨_, hst⟩⟩
      have q0 := bel_cell c0
      iterate 6 (refine line_read rfl (by kernel_rfl) (fun K hK => ?_); go_big_quiet_op; refine hK _ ?_; clear hK K)
      refine line_alone rfl (by kernel_rfl) (fun K hK => ?_)
      refine call_wp (args := #[.int .i64 ((k + 5 * j : Nat) : Int)]) rfl (by kernel_rfl) (by kernel_rfl) (MT2 _) (fun wn hbn => ?_)
      have hst2 := hst.on hbn
      refine hK _ _ hst2 ?_
      clear hK K hst hbn
      have hst := hst2
      clear hst2
      simp only [Act.put, List.setIfInBounds_toArray, List.set_cons_zero, List.set_cons_succ]
      iterate 1 (refine line_read rfl (by kernel_rfl) (fun K hK => ?_); go_big_quiet_op; refine hK _ ?_; clear hK K)
      refine line_nil ?_
      have d1 := cell_keep hst.out c1
      have d2 := cell_keep hst.out c2
      have d3 := cell_keep hst.out c3
      have d4 := cell_keep hst.out c4
      have bb := Lib.hid (btr HB.out hst.out)
      clear hst inst q0 c0 c1 c2 c3 c4 MT2 HB
      go_wp2_with fail
      go_roundw
      case rel => exact ⟨j + 1, by omega, by go_num, by congr 1, bb.out⟩
      case measure => simp [intOf]; omega
    · obtain rfl : j = n := by omega
      clear hR
      go_wp2_with fail
      go_ret
      exact ⟨rfl, hb⟩

theorem eqPinsResult_any (c : Int) (a b : Option Addr) (len c1 c2 B : Nat) (ps : List PinD) (w : World) (hR : PRow w B a len c1 ps) (hQ : PRow w B b len c2 ps) (hB : B ≤ w.heap.size) :
    Calls Tryz.prog 39 #[.agg #[.int .i64 c, .slice a len c1], .agg #[.int .i64 c, .slice b len c2]] w fun e w' => e = .returned (.bool true) ∧ Below w.heap.size w w' := by
  have hb0 := bal (bal (Below.refl _ w) (.cells #[.int .i64 c, .slice a len c1] 37)) (.cells #[.int .i64 c, .slice b len c2] 37)
  have R2 := hR.below (hb0.mono hB)
  have Q2 := hQ.below (hb0.mono hB)
  go_enter Tryz.func39, Tryz.ntmps39
  go_wp2_with fail
  refine (eqPinS_any _ _ _ _ _ _ _ _ R2 Q2 (by simp; omega)).mono ?_
  rintro r w1 ⟨rfl, hb1⟩
  have hb2 := btr hb0 hb1
  clear hb1 R2 Q2 hR hQ hb0
  go_wp2_with fail
  go_ret
  exact ⟨rfl, hb2⟩
theorem markPinsResult_any (c : Int) (a : Option Addr) (n cap B k : Nat) (ps : List PinD) (w : World) (ho : OwnP w B (.slice a n cap) ps) (k0 : 0 < k) (k1 : k ≤ 1000000) (hn : n ≤ 1048576) :
    Calls Tryz.prog 42 #[.agg #[.int .i64 c, .slice a n cap], .int .i64 k] w (MarkedP B k (.slice a n cap) n w) := by
  have ho2 := ho.alloc (.cells #[.int .i64 c, .slice a n cap] 37)
  go_enter Tryz.func42, Tryz.ntmps42
  go_wp2_with fail
  refine (markPinS_any _ _ _ _ _ _ _ ho2 k0 k1 hn).mono ?_
  rintro r w1 ⟨rfl, ho3, hg⟩
  have hg2 := grown_alloc hg
  clear ho ho2 hg
  go_wp2_with fail
  go_ret
  exact ⟨rfl, ho3, hg2⟩
theorem heldPinsResult_any (c : Int) (a : Option Addr) (n cap B k : Nat) (w : World) (hR : PRow w B a n cap (marksP k n)) (hB : B ≤ w.heap.size) (k0 : 0 < k) (k1 : k ≤ 1000000) (hn : n ≤ 1048576) :
    Calls Tryz.prog 43 #[.agg #[.int .i64 c, .slice a n cap], .int .i64 k] w fun r w' => r = .returned (.int .i64 ((k + 5 * n : Nat) : Int)) ∧ Below w.heap.size w w' := by
  have R2 := hR.alloc hB (.cells #[.int .i64 c, .slice a n cap] 37)
  have hb := bal (Below.refl _ w) (.cells #[.int .i64 c, .slice a n cap] 37)
  clear hR
  go_enter Tryz.func43, Tryz.ntmps43
  go_wp2_with fail
  refine (heldPinS_any _ _ _ _ _ _ R2 (by simp; omega) k0 k1 hn).mono ?_
  rintro r w1 ⟨rfl, hb1⟩
  have hb2 := btr hb hb1
  have hk : ¬ (((k + 5 * n : Nat) : Int) < 0) := by omega
  clear R2 hb hb1
  go_wp2_with fail
  go_ret
  exact ⟨rfl, hb2⟩

/-- Pins that were answered lie in memory of their own, the answer in a block. -/
def PinsAt (V : World) (c : Int) (zs : List PinD) (v : Value) (wx : World) : Prop := ∃ g a cap, v = .pointer (some ⟨g, 0, none⟩) ∧ At g [.int .i64 c, .slice a zs.length cap] wx ∧ OwnP wx V.heap.size (.slice a zs.length cap) zs ∧ Below V.heap.size V wx ∧ V.heap.size ≤ g
/-- Two answers of pins, and the argument, lie in memory: the model's at block p1, below b; the argument's slice, and the program's, from b on, its answer at block p2; the argument's pins are xs by now, the program's ms. -/
structure TwoP (w : World) (c : Int) (ps : List PinD) (p1 b p2 : Nat) (a1 a2 a3 : Option Addr) (n c1 c2 m c3 : Nat) (xs ms : List PinD) (cur : World) : Prop where
  bel : Below w.heap.size w cur
  x0 : cur.cell? ⟨p1, 0, none⟩ = some (.int .i64 c)
  x1 : cur.cell? ⟨p1, 1, none⟩ = some (.slice a1 n c1)
  row : PRow cur b a1 n c1 ps
  y0 : cur.cell? ⟨p2, 0, none⟩ = some (.int .i64 c)
  y1 : cur.cell? ⟨p2, 1, none⟩ = some (.slice a2 n c2)
  own : OwnP cur b (.slice a2 n c2) ms
  arg : OwnP cur b (.slice a3 m c3) xs
  old : w.heap.size ≤ b
  hi : p1 < b
  sep : ∀ k, Value.ownBlock (.slice a2 n c2) = some k → k < p2
  sepA : ∀ k, Value.ownBlock (.slice a3 m c3) = some k → k < p2
  apart : ∀ k, Value.ownBlock (.slice a2 n c2) = some k → Value.ownBlock (.slice a3 m c3) ≠ some k
  ahead : b ≤ p2
section
variable {w : World} {c : Int} {ps : List PinD} {p1 b p2 : Nat} {a1 a2 a3 : Option Addr} {n c1 c2 m c3 : Nat} {xs ms : List PinD} {cur cur' : World}
theorem TwoP.lt1 (h : TwoP w c ps p1 b p2 a1 a2 a3 n c1 c2 m c3 xs ms cur) : b ≤ cur.heap.size := by
  have := cell_lt h.y0
  have := h.ahead
  simp at *
  omega
theorem TwoP.on (h : TwoP w c ps p1 b p2 a1 a2 a3 n c1 c2 m c3 xs ms cur) (hb : Below cur.heap.size cur cur') : TwoP w c ps p1 b p2 a1 a2 a3 n c1 c2 m c3 xs ms cur' :=
  ⟨btr h.bel hb, cell_keep hb h.x0, cell_keep hb h.x1, h.row.below (hb.mono h.lt1), cell_keep hb h.y0, cell_keep hb h.y1, h.own.below hb, h.arg.below hb, h.old, h.hi, h.sep, h.sepA, h.apart, h.ahead⟩
theorem OwnP.grown {B : Nat} {v : Value} {qs : List PinD} {g : Option Nat} (h : OwnP cur B v qs) (hg : cur.grownBy cur' g) (hne : ∀ k, v.ownBlock = some k → some k ≠ g) : OwnP cur' B v qs := Own.keep h hg.size fun k hk => hg.block k (Own.lt h k hk).2 (hne k hk)
theorem OwnP.lt {B : Nat} {v : Value} {qs : List PinD} (h : OwnP cur B v qs) : ∀ k, v.ownBlock = some k → B ≤ k ∧ k < cur.heap.size := Own.lt h
theorem TwoP.grew (h : TwoP w c ps p1 b p2 a1 a2 a3 n c1 c2 m c3 xs ms cur) {ms' : List PinD} (ho : OwnP cur' b (.slice a2 n c2) ms') (hg : cur.grownBy cur' (Value.ownBlock (.slice a2 n c2))) : TwoP w c ps p1 b p2 a1 a2 a3 n c1 c2 m c3 xs ms' cur' := by
  have hlo := fun k hk => (h.own.lt k hk).1
  have hhi := h.hi
  have hp1 : some p1 ≠ Value.ownBlock (.slice a2 n c2) := fun e => by have := hlo p1 e.symm; omega
  have hp2 : some p2 ≠ Value.ownBlock (.slice a2 n c2) := fun e => by have := h.sep p2 e.symm; omega
  have l1 := h.lt1
  have hold := h.old
  exact ⟨h.bel.grown hg h.bel.size (fun k hk => by have := hlo k hk; omega), hg.cell h.x0 hp1, hg.cell h.x1 hp1, h.row.keep (fun i hi => hg.block i (by omega) (fun e => by have := hlo i e.symm; omega)), hg.cell h.y0 hp2, hg.cell h.y1 hp2, ho, h.arg.grown hg (fun k hk e => h.apart k e.symm hk), h.old, h.hi, h.sep, h.sepA, h.apart, h.ahead⟩
theorem TwoP.grewA (h : TwoP w c ps p1 b p2 a1 a2 a3 n c1 c2 m c3 xs ms cur) {xs' : List PinD} (ho : OwnP cur' b (.slice a3 m c3) xs') (hg : cur.grownBy cur' (Value.ownBlock (.slice a3 m c3))) : TwoP w c ps p1 b p2 a1 a2 a3 n c1 c2 m c3 xs' ms cur' := by
  have hlo := fun k hk => (h.arg.lt k hk).1
  have hhi := h.hi
  have hp1 : some p1 ≠ Value.ownBlock (.slice a3 m c3) := fun e => by have := hlo p1 e.symm; omega
  have hp2 : some p2 ≠ Value.ownBlock (.slice a3 m c3) := fun e => by have := h.sepA p2 e.symm; omega
  have l1 := h.lt1
  have hold := h.old
  exact ⟨h.bel.grown hg h.bel.size (fun k hk => by have := hlo k hk; omega), hg.cell h.x0 hp1, hg.cell h.x1 hp1, h.row.keep (fun i hi => hg.block i (by omega) (fun e => by have := hlo i e.symm; omega)), hg.cell h.y0 hp2, hg.cell h.y1 hp2, h.own.grown hg (fun k hk e => h.apart k hk e.symm), ho, h.old, h.hi, h.sep, h.sepA, h.apart, h.ahead⟩
/-- The model's answer lies there; the argument, and then the program's answer are stored. -/
theorem TwoP.new {v1 u2 u3 : World} {t : TypeId} (b1 : Below w.heap.size w v1) (hX : At p1 [.int .i64 c, .slice a1 n c1] v1) (R1 : PRow v1 v1.heap.size a1 n c1 ps)
    (b2 : Below v1.heap.size v1 u2) (O2 : OwnP u2 v1.heap.size (.slice a3 m c3) xs) (b3 : Below u2.heap.size u2 u3) (O3 : OwnP u3 u2.heap.size (.slice a2 n c2) ps) :
    TwoP w c ps p1 v1.heap.size u3.heap.size a1 a2 a3 n c1 c2 m c3 xs ps (u3.alloc (.cells #[.int .i64 c, .slice a2 n c2] t)) := by
  have hs := b2.size
  have hs3 := b3.size
  have hlt : p1 < v1.heap.size := hX.lt (by simp)
  have b4 := btr b2 (bal b3 (.cells #[.int .i64 c, .slice a2 n c2] t))
  have X4 := hX.on b4
  have O4 := (O2.below b3).alloc (.cells #[.int .i64 c, .slice a2 n c2] t)
  have x0 := X4.cell 0 _ rfl
  have x1 := X4.cell 1 _ rfl
  exact ⟨btr b1 b4, x0, x1, R1.below b4, by simp, by simp, (O3.alloc _).less (by omega), O4, b1.size, hlt, fun k hk => (O3.lt k hk).2, fun k hk => Nat.lt_of_lt_of_le (O2.lt k hk).2 hs3, fun k hk e => by have := (O3.lt k hk).1; have := (O2.lt k e).2; omega, by omega⟩
end
theorem putR_len (ps : List PinD) (p : PinD) : (putR ps p).length ≤ 5 := by
  unfold putR
  split
  · rename_i h
    have h0 : pinsF ps = 0 := by
      by_cases e : pinsF ps = 0
      · exact e
      · unfold putC at h
        rw [if_pos e] at h
        exact absurd h e
    have h1 := (pinsF_zero h0).1
    have h2 := (putG_perm p ps).length_eq
    have h3 := List.length_filter_le (fun q => !decide (q.nm = p.nm)) ps
    unfold putL
    simp only [List.length_cons] at h2
    omega
  · simp
theorem putR_names {ps : List PinD} {p : PinD} (h : ∀ q ∈ ps, q.n.size ≤ maxLen) (hp : p.n.size ≤ maxLen) : ∀ q ∈ putR ps p, q.n.size ≤ maxLen := by
  intro q hq
  unfold putR at hq
  split at hq
  · rcases putL_mem hq with rfl | hq
    · exact hp
    · exact h q hq
  · cases hq
theorem OwnP.len {w : World} {B : Nat} {a : Option Addr} {len cap : Nat} {ps : List PinD} (h : OwnP w B (.slice a len cap) ps) : len = ps.length := by
  obtain ⟨a', c', e, -⟩ := h.form
  injection e
end Go.Proofs.YtmdknbgpddnplaaGreatDoor
namespace Go.Proofs.YtmdknbgpddnplaaGreatDoor
open Go.RowKit
set_option maxRecDepth 100000
set_option linter.unusedVariables false

/-- What putting a pin among any others answers. -/
def put0 (ps : List PinD) (p : PinD) : Int := match findP ps p.nm with
  | some q => if q.e ≥ p.e then 11 else 0
  | none => if 4 ≤ ps.length then 7 else 0
theorem put0_old {ps : List PinD} {p q : PinD} (hq : findP ps p.nm = some q) (h : p.e ≤ q.e) : put0 ps p = 11 := by unfold put0; rw [hq]; simp only; rw [if_pos h]
theorem put0_young {ps : List PinD} {p q : PinD} (hq : findP ps p.nm = some q) (h : ¬ p.e ≤ q.e) : put0 ps p = 0 := by unfold put0; rw [hq]; simp only; rw [if_neg h]
theorem put0_full {ps : List PinD} {p : PinD} (hq : findP ps p.nm = none) (h : 4 ≤ ps.length) : put0 ps p = 7 := by unfold put0; rw [hq]; simp only; rw [if_pos h]
theorem put0_new {ps : List PinD} {p : PinD} (hq : findP ps p.nm = none) (h : ¬ 4 ≤ ps.length) : put0 ps p = 0 := by unfold put0; rw [hq]; simp only; rw [if_neg h]
def put1 (ps : List PinD) (p : PinD) : List PinD := if put0 ps p = 0 then putL ps p else []
/-- Where the model stands behind k pins. -/
structure PutRel (w : World) (ps : List PinD) (p : PinD) (k : Nat) (d : Bool) (v : Value) (out : List PinD) (wr : World) : Prop where
  own : OwnP wr (w.heap.size + 1) v out
  box : At w.heap.size p.vals wr
  bel : Below w.heap.size w wr
  eq : out ++ putG p d (ps.drop k) = putL ps p
  len : out.length ≤ k + 1
  few : d = false → out.length ≤ k
theorem putG_step {ps : List PinD} {k : Nat} (hk : k < ps.length) (p : PinD) (d : Bool) : putG p d (ps.drop k) = (if !d && !nlt (ps[k]?.getD pin0).nm p.nm then [p] else []) ++ (if (ps[k]?.getD pin0).nm = p.nm then [] else [ps[k]?.getD pin0]) ++ putG p (d || !nlt (ps[k]?.getD pin0).nm p.nm) (ps.drop (k + 1)) := by
  have e : ps.drop k = (ps[k]?.getD pin0) :: ps.drop (k + 1) := by
    rw [List.drop_eq_getElem_cons hk, List.getElem?_eq_getElem hk]
    rfl
  rw [e]
  rfl
theorem put_app {w wr w3 : World} {p x : PinD} {v v3 : Value} {out : List PinD} {o : Obj} (hO : OwnP wr (w.heap.size + 1) v out) (hA : At w.heap.size p.vals wr) (hb : Below w.heap.size w wr)
    (hown : Own w3 (w.heap.size + 1) 5 v3 (out.length + 1) (flat out ++ x.vals)) (hg : (wr.alloc o).grownBy w3 v.ownBlock) : OwnP w3 (w.heap.size + 1) v3 (out ++ [x]) ∧ At w.heap.size p.vals w3 ∧ Below w.heap.size w w3 := by
  refine ⟨?_, (hA.alloc o).kept hg (fun e => ?_), (bal hb o).grown hg (bal hb o).size (fun k e => ?_)⟩
  · unfold OwnP
    rw [flat_append, List.length_append]
    simpa [flat] using hown
  · have := (Own.lt hO _ e.symm).1
    omega
  · have := (Own.lt hO k e).1
    omega
def Put0 (ps : List PinD) (p : PinD) (w : World) (e : Ending) (w' : World) : Prop := ∃ a n cap, e = .returned (.tuple #[.slice a n cap, .int .i64 (put0 ps p)]) ∧ OwnP w' w.heap.size (.slice a n cap) (put1 ps p) ∧ Below w.heap.size w w'
set_option maxHeartbeats 8000000 in
theorem l7Put_any (a : Option Addr) (len cap B : Nat) (ps : List PinD) (p : PinD) (w : World) (hR : PRow w B a len cap ps) (hB : B ≤ w.heap.size) (hl : len ≤ 1000) :
    Calls Tryz.prog 81 #[.slice a len cap, P5 p] w (Put0 ps p w) := by
  have hL := Lib.hid hR.length
  have hm := hR.most
  have hfit := hR.fits
  unfold maxLen at hm
  have b0 := bal (Below.refl _ w) (.cells #[.string p.n, .int .i64 p.a, .int .i64 p.b, .int .i64 p.e, .int .i64 p.u] 25)
  have A1 : At w.heap.size p.vals (w.alloc (.cells #[.string p.n, .int .i64 p.a, .int .i64 p.b, .int .i64 p.e, .int .i64 p.u] 25)) := At.new w p.vals 25
  have AT := l7At_any a len cap B ps p.n _ (hR.below (b0.mono hB)) (Nat.le_trans hB b0.size)
  have AS : (findP ps p.nm = none ∧ atI ps p.n.data.toList 0 = -1) ∨ _ := atI_spec ps p.n.data.toList 0
  generalize atI ps p.n.data.toList 0 = t at *
  rcases AS with ⟨hf, rfl⟩ | ⟨k, hk, rfl, hf⟩
  · by_cases h4 : 4 ≤ len
    · have e1 := put0_full hf (by rw [hL.out]; exact h4)
      have e2 : put1 ps p = [] := by unfold put1; rw [e1, if_neg (by decide)]
      have h4' : (4 : Int) ≤ len := by omega
      clear hR
      go_enter Tryz.func81, Tryz.ntmps81
      go_wp2_with fail
      generalize w.alloc (.cells #[.string p.n, .int .i64 p.a, .int .i64 p.b, .int .i64 p.e, .int .i64 p.u] 25) = W0 at *
      refine AT.mono ?_
      rintro r u1 ⟨rfl, b1⟩
      have A1' := A1.on b1
      have B1 := btr b0 b1
      have x0 := A1'.cell 0 _ rfl
      have x1 := A1'.cell 1 _ rfl
      have x2 := A1'.cell 2 _ rfl
      have x3 := A1'.cell 3 _ rfl
      have x4 := A1'.cell 4 _ rfl
      clear A1 b0 b1 AT
      go_wp2_with fail
      refine wp_region_line (Bel u1) [(0, true), (1, true), (2, true), (3, true), (4, true), (5, true), (6, true), (7, true), (8, true), (9, true), (10, true), (11, true)] (by kernel_rfl) (by kernel_rfl) (fun _ _ d _ _ h => by cases d <;> exact h) (Bel.drew u1) ?_
      have hst := Bel.drew u1
      have inst : Nonempty (Of (Bel u1)) := ⟨⟨_, hst⟩⟩
      iterate 3 (refine line_read rfl (by kernel_rfl) (fun K hK => ?_); go_big_quiet_op; refine hK _ ?_; clear hK K)
      iterate 8 (refine line_skip rfl (by kernel_rfl) ?_; simp only [Act.put, List.setIfInBounds_toArray, List.set_cons_zero, List.set_cons_succ])
      iterate 1 (refine line_read rfl (by kernel_rfl) (fun K hK => ?_); go_big_quiet_op; refine hK _ ?_; clear hK K)
      refine line_nil ?_
      have B2 := btr B1 hst.out
      have A2 := A1'.on hst.out
      clear hst inst A1' B1 x0 x1 x2 x3 x4
      have y0 := A2.cell 0 _ rfl
      have y1 := A2.cell 1 _ rfl
      have y2 := A2.cell 2 _ rfl
      have y3 := A2.cell 3 _ rfl
      have y4 := A2.cell 4 _ rfl
      go_wp2_with fail
      refine bodyPost_ret (v := .tuple #[.slice none 0 0, .int .i64 7]) (by simp [results, Tryz.results81, go_sem]) rfl ⟨none, 0, 0, by rw [e1], by rw [e2]; exact OwnP.nil _ _, B2⟩
    · have e1 := put0_new hf (by rw [hL.out]; exact h4)
      have h4' : ¬ (4 : Int) ≤ len := by omega
      have HR := Lib.hid hR
      clear hR
      go_enter Tryz.func81, Tryz.ntmps81
      go_wp2_with fail
      generalize w.alloc (.cells #[.string p.n, .int .i64 p.a, .int .i64 p.b, .int .i64 p.e, .int .i64 p.u] 25) = W0 at *
      refine AT.mono ?_
      rintro r u1 ⟨rfl, b1⟩
      have A1' := A1.on b1
      have B1 := btr b0 b1
      have x0 := A1'.cell 0 _ rfl
      have x1 := A1'.cell 1 _ rfl
      have x2 := A1'.cell 2 _ rfl
      have x3 := A1'.cell 3 _ rfl
      have x4 := A1'.cell 4 _ rfl
      clear A1 b0 b1 AT
      go_wp2_with fail
      refine wp_region_line (Bel u1) [(0, true), (1, true), (2, true), (3, true), (4, true), (5, true), (6, true), (7, true), (8, true), (9, true), (10, true), (11, true)] (by kernel_rfl) (by kernel_rfl) (fun _ _ d _ _ h => by cases d <;> exact h) (Bel.drew u1) ?_
      have hst := Bel.drew u1
      have inst : Nonempty (Of (Bel u1)) := ⟨⟨_, hst⟩⟩
      iterate 3 (refine line_read rfl (by kernel_rfl) (fun K hK => ?_); go_big_quiet_op; refine hK _ ?_; clear hK K)
      iterate 8 (refine line_skip rfl (by kernel_rfl) ?_; simp only [Act.put, List.setIfInBounds_toArray, List.set_cons_zero, List.set_cons_succ])
      iterate 1 (refine line_read rfl (by kernel_rfl) (fun K hK => ?_); go_big_quiet_op; refine hK _ ?_; clear hK K)
      refine line_nil ?_
      have B2 := btr B1 hst.out
      have A2 := A1'.on hst.out
      clear hst inst A1' B1 x0 x1 x2 x3 x4
      have y0 := A2.cell 0 _ rfl
      have y1 := A2.cell 1 _ rfl
      have y2 := A2.cell 2 _ rfl
      have y3 := A2.cell 3 _ rfl
      have y4 := A2.cell 4 _ rfl
      obtain ⟨i0, hi0, hz0, hz1, hz2⟩ := info_parts pin_info
      have lu : w.heap.size < u1.heap.size := A2.lt (by simp [PinD.vals])
      have B2' : Below w.heap.size w (u1.alloc (.cells #[] 25)).drew := bal B2 (.cells #[] 25)
      have T0 : PutRel w ps p 0 false (.slice (some ⟨u1.heap.size, 0, none⟩) 0 0) [] (u1.alloc (.cells #[] 25)).drew :=
        ⟨(Own.made u1 #[] 25 0 (by omega) (by simp) rfl).drew, (A2.alloc (.cells #[] 25)).keep (fun _ => rfl), B2', rfl, by simp, by simp⟩
      clear lu B2'
      go_wp2_with fail
      generalize (u1.alloc (.cells #[] 25)).drew = W1 at *
      clear A2 B2 y0 y1 y2 y3 y4
      go_loopw [7, 8, 9] (fun v dd i wr => ∃ (k : Nat) (d : Bool) (out : List PinD), k ≤ len ∧ i = .int .i64 k ∧ dd = .bool d ∧ PutRel w ps p k d v out wr) (fun _ _ i _ => len - (intOf i).toNat)
      case atStart => exact ⟨0, false, [], Nat.zero_le _, rfl, rfl, T0⟩
      case round =>
        obtain ⟨k, d, out, hk, rfl, rfl, hT⟩ := hrel
        clear T0
        have hbs := hT.bel.size
        have hlo := hT.len
        have hfw := hT.few
        have bsz := hT.box.lt (by simp [PinD.vals])
        obtain ⟨va, vc, hva, -⟩ := hT.own.form
        subst hva
        by_cases hlt : k < len
        · obtain ⟨b, off, hab, hbB, c0, c1, c2, c3, c4⟩ := (HR.out.below (hT.bel.mono hB)).at' hlt
          first | subst hab | (injection hab with hab; injection hab with ea eb; subst ea; subst eb)
          have heq := hT.eq
          rw [putG_step (ps := ps) (k := k) (by rw [hL.out]; exact hlt) p d] at heq
          have Q1 : Op.bytesLess (ps[k]?.getD pin0).n.toList p.n.toList = nlt (ps[k]?.getD pin0).nm p.nm := by rw [ByteArray.toList_eq, ByteArray.toList_eq]; rfl
          have Q2 : ((ps[k]?.getD pin0).n.toList == p.n.toList) = decide ((ps[k]?.getD pin0).nm = p.nm) := text_beq _ _
          generalize hq : ps[k]?.getD pin0 = q at *
          have p0 := hT.box.cell 0 _ rfl
          cases d
          · have hfw := hfw rfl
            cases hn : nlt q.nm p.nm
            · rw [hn] at Q1 heq
              by_cases he : q.nm = p.nm
              · rw [decide_eq_true he] at Q2
                have TE := Lib.hid (show (out ++ [p]) ++ putG p true (ps.drop (k + 1)) = putL ps p by rw [if_pos he] at heq; simpa using heq)
                have TL : (out ++ [p]).length ≤ k + 1 + 1 := by simp; omega
                clear heq he hn
                go_wp2_with fail
                refine wp_region_line (Bel wr) [(0, true), (1, true), (2, true), (3, true), (4, true), (5, true), (6, true), (7, true), (8, true), (9, true), (10, true), (11, true)] (by kernel_rfl) (by kernel_rfl) (fun _ _ d _ _ h => by cases d <;> exact h) (Bel.drew wr) ?_
                have hst := Bel.drew wr
                have inst : Nonempty (Of (Bel wr)) := ⟨⟨_, hst⟩⟩
                have g0 := bel_cell c0
                have g1 := bel_cell p0
                iterate 12 (refine line_read rfl (by kernel_rfl) (fun K hK => ?_); go_big_quiet_op; refine hK _ ?_; clear hK K)
                refine line_nil ?_
                have TO : OwnP wr.drew (w.heap.size + 1) (.slice va out.length vc) out := hT.own
                have TA : At w.heap.size p.vals wr.drew := hT.box.keep (fun _ => rfl)
                have TB := hT.bel.drew
                have ts : w.heap.size < wr.drew.heap.size := bsz
                clear hst inst g0 g1 c0 c1 c2 c3 c4 p0 hT hbs bsz
                generalize wr.drew = v1 at *
                have x0 := TA.cell 0 _ rfl
                have x1 := TA.cell 1 _ rfl
                have x2 := TA.cell 2 _ rfl
                have x3 := TA.cell 3 _ rfl
                have x4 := TA.cell 4 _ rfl
                go_wp2_with (at_builtin; refine wpList_append_src _ rfl (.tmp 52) (.tmp 54) 33 33 rfl (w.heap.size + 1) 25 i0 (P5 pin0) 5 48 Tryz.underlying33 hi0 hz0 hz1 hz2 rfl _ _ _ rfl (Own.alloc TO _) _ 1 p.vals rfl (src_new5 _ p _ _ _ Tryz.underlying33) (by simp only [maxLen]; first | omega | (simp only [List.length_append, List.length_cons, List.length_nil]; omega)) (by first | omega | (simp only [List.length_append, List.length_cons, List.length_nil]; omega)) (by simp; omega) ?_; intro v3 w3 hown hgrow hat)
                obtain ⟨TO', TA', TB'⟩ := put_app TO TA TB hown hgrow
                have ts' : w.heap.size < w3.heap.size := TA'.lt (by simp [PinD.vals])
                clear hown hgrow hat TO TA TB ts x0 x1 x2 x3 x4
                have TO := TO'
                have TA := TA'
                have TB := TB'
                have ts := ts'
                clear TO' TA' TB' ts'
                obtain ⟨b', off', hab', -, m0, m1, m2, m3, m4⟩ := (HR.out.below (TB.mono hB)).at' hlt
                injection hab' with hab'
                injection hab' with ea eb
                subst ea
                subst eb
                rw [hq] at m0 m1 m2 m3 m4
                have y0 := TA.cell 0 _ rfl
                go_wp2_with fail
                refine wp_region_line (Bel w3) [(0, true), (1, true), (2, true), (3, true), (4, true), (5, true), (6, true), (7, true)] (by kernel_rfl) (by kernel_rfl) (fun _ _ d _ _ h => by cases d <;> exact h) (Bel.drew w3) ?_
                have hst := Bel.drew w3
                have inst : Nonempty (Of (Bel w3)) := ⟨⟨_, hst⟩⟩
                have g0 := bel_cell m0
                have g1 := bel_cell y0
                iterate 8 (refine line_read rfl (by kernel_rfl) (fun K hK => ?_); go_big_quiet_op; refine hK _ ?_; clear hK K)
                refine line_nil ?_
                have TO2 : OwnP w3.drew (w.heap.size + 1) _ _ := TO
                have TA2 : At w.heap.size p.vals w3.drew := TA.keep (fun _ => rfl)
                have TB2 := TB.drew
                have ts2 : w.heap.size < w3.drew.heap.size := ts
                clear hst inst g0 g1 m0 m1 m2 m3 m4 y0 TO TA TB ts
                generalize w3.drew = v2 at *
                go_wp2_with fail
                go_roundw
                case rel => exact ⟨k + 1, true, _, by omega, by go_num, rfl, ⟨TO2, TA2, TB2, TE.out, TL, fun h => by cases h⟩⟩
                case measure => simp [intOf]; omega
              · rw [decide_eq_false he] at Q2
                have TE := Lib.hid (show ((out ++ [p]) ++ [q]) ++ putG p true (ps.drop (k + 1)) = putL ps p by rw [if_neg he] at heq; simpa using heq)
                have TL : ((out ++ [p]) ++ [q]).length ≤ k + 1 + 1 := by simp; omega
                clear heq he hn
                go_wp2_with fail
                refine wp_region_line (Bel wr) [(0, true), (1, true), (2, true), (3, true), (4, true), (5, true), (6, true), (7, true), (8, true), (9, true), (10, true), (11, true)] (by kernel_rfl) (by kernel_rfl) (fun _ _ d _ _ h => by cases d <;> exact h) (Bel.drew wr) ?_
                have hst := Bel.drew wr
                have inst : Nonempty (Of (Bel wr)) := ⟨⟨_, hst⟩⟩
                have g0 := bel_cell c0
                have g1 := bel_cell p0
                iterate 12 (refine line_read rfl (by kernel_rfl) (fun K hK => ?_); go_big_quiet_op; refine hK _ ?_; clear hK K)
                refine line_nil ?_
                have TO : OwnP wr.drew (w.heap.size + 1) (.slice va out.length vc) out := hT.own
                have TA : At w.heap.size p.vals wr.drew := hT.box.keep (fun _ => rfl)
                have TB := hT.bel.drew
                have ts : w.heap.size < wr.drew.heap.size := bsz
                clear hst inst g0 g1 c0 c1 c2 c3 c4 p0 hT hbs bsz
                generalize wr.drew = v1 at *
                have x0 := TA.cell 0 _ rfl
                have x1 := TA.cell 1 _ rfl
                have x2 := TA.cell 2 _ rfl
                have x3 := TA.cell 3 _ rfl
                have x4 := TA.cell 4 _ rfl
                go_wp2_with (at_builtin; refine wpList_append_src _ rfl (.tmp 52) (.tmp 54) 33 33 rfl (w.heap.size + 1) 25 i0 (P5 pin0) 5 48 Tryz.underlying33 hi0 hz0 hz1 hz2 rfl _ _ _ rfl (Own.alloc TO _) _ 1 p.vals rfl (src_new5 _ p _ _ _ Tryz.underlying33) (by simp only [maxLen]; first | omega | (simp only [List.length_append, List.length_cons, List.length_nil]; omega)) (by first | omega | (simp only [List.length_append, List.length_cons, List.length_nil]; omega)) (by simp; omega) ?_; intro v3 w3 hown hgrow hat)
                obtain ⟨TO', TA', TB'⟩ := put_app TO TA TB hown hgrow
                have ts' : w.heap.size < w3.heap.size := TA'.lt (by simp [PinD.vals])
                clear hown hgrow hat TO TA TB ts x0 x1 x2 x3 x4
                have TO := TO'
                have TA := TA'
                have TB := TB'
                have ts := ts'
                clear TO' TA' TB' ts'
                obtain ⟨b', off', hab', -, m0, m1, m2, m3, m4⟩ := (HR.out.below (TB.mono hB)).at' hlt
                injection hab' with hab'
                injection hab' with ea eb
                subst ea
                subst eb
                rw [hq] at m0 m1 m2 m3 m4
                have y0 := TA.cell 0 _ rfl
                go_wp2_with fail
                refine wp_region_line (Bel w3) [(0, true), (1, true), (2, true), (3, true), (4, true), (5, true), (6, true), (7, true)] (by kernel_rfl) (by kernel_rfl) (fun _ _ d _ _ h => by cases d <;> exact h) (Bel.drew w3) ?_
                have hst := Bel.drew w3
                have inst : Nonempty (Of (Bel w3)) := ⟨⟨_, hst⟩⟩
                have g0 := bel_cell m0
                have g1 := bel_cell y0
                iterate 8 (refine line_read rfl (by kernel_rfl) (fun K hK => ?_); go_big_quiet_op; refine hK _ ?_; clear hK K)
                refine line_nil ?_
                have TO2 : OwnP w3.drew (w.heap.size + 1) _ _ := TO
                have TA2 : At w.heap.size p.vals w3.drew := TA.keep (fun _ => rfl)
                have TB2 := TB.drew
                have ts2 : w.heap.size < w3.drew.heap.size := ts
                clear hst inst g0 g1 m0 m1 m2 m3 m4 y0 TO TA TB ts
                generalize w3.drew = v2 at *
                obtain ⟨b', off', hab', -, m0, m1, m2, m3, m4⟩ := (HR.out.below (TB2.mono hB)).at' hlt
                injection hab' with hab'
                injection hab' with ea eb
                subst ea
                subst eb
                rw [hq] at m0 m1 m2 m3 m4
                go_wp2_with (at_builtin; refine wpList_append_src _ rfl (.tmp 64) (.tmp 69) 33 33 rfl (w.heap.size + 1) 25 i0 (P5 pin0) 5 48 Tryz.underlying33 hi0 hz0 hz1 hz2 rfl _ _ _ rfl (Own.alloc TO2 _) _ 1 q.vals rfl (src_new5 _ q _ _ _ Tryz.underlying33) (by simp only [maxLen]; first | omega | (simp only [List.length_append, List.length_cons, List.length_nil]; omega)) (by first | omega | (simp only [List.length_append, List.length_cons, List.length_nil]; omega)) (by simp; omega) ?_; intro v3 w3 hown hgrow hat)
                obtain ⟨O3, A3, B3⟩ := put_app TO2 TA2 TB2 hown hgrow
                clear hown hgrow hat TO2 TA2 TB2 m0 m1 m2 m3 m4
                go_wp2_with fail
                go_roundw
                case rel => exact ⟨k + 1, true, _, by omega, by go_num, rfl, ⟨O3, A3, B3, TE.out, TL, fun h => by cases h⟩⟩
                case measure => simp [intOf]; omega
            · rw [hn] at Q1 heq
              have he : ¬ q.nm = p.nm := nlt_ne hn
              rw [decide_eq_false he] at Q2
              have TE := Lib.hid (show (out ++ [q]) ++ putG p false (ps.drop (k + 1)) = putL ps p by rw [if_neg he] at heq; simpa using heq)
              have TL : (out ++ [q]).length ≤ k + 1 + 1 := by simp; omega
              have TF : (out ++ [q]).length ≤ k + 1 := by simp; omega
              clear heq he hn
              go_wp2_with fail
              refine wp_region_line (Bel wr) [(0, true), (1, true), (2, true), (3, true), (4, true), (5, true), (6, true), (7, true), (8, true), (9, true), (10, true), (11, true)] (by kernel_rfl) (by kernel_rfl) (fun _ _ d _ _ h => by cases d <;> exact h) (Bel.drew wr) ?_
              have hst := Bel.drew wr
              have inst : Nonempty (Of (Bel wr)) := ⟨⟨_, hst⟩⟩
              have g0 := bel_cell c0
              have g1 := bel_cell p0
              iterate 12 (refine line_read rfl (by kernel_rfl) (fun K hK => ?_); go_big_quiet_op; refine hK _ ?_; clear hK K)
              refine line_nil ?_
              have TO : OwnP wr.drew (w.heap.size + 1) (.slice va out.length vc) out := hT.own
              have TA : At w.heap.size p.vals wr.drew := hT.box.keep (fun _ => rfl)
              have TB := hT.bel.drew
              have ts : w.heap.size < wr.drew.heap.size := bsz
              clear hst inst g0 g1 c0 c1 c2 c3 c4 p0 hT hbs bsz
              generalize wr.drew = v1 at *
              have x0 := TA.cell 0 _ rfl
              have x1 := TA.cell 1 _ rfl
              have x2 := TA.cell 2 _ rfl
              have x3 := TA.cell 3 _ rfl
              have x4 := TA.cell 4 _ rfl
              obtain ⟨b', off', hab', -, m0, m1, m2, m3, m4⟩ := (HR.out.below (TB.mono hB)).at' hlt
              injection hab' with hab'
              injection hab' with ea eb
              subst ea
              subst eb
              rw [hq] at m0 m1 m2 m3 m4
              have y0 := TA.cell 0 _ rfl
              go_wp2_with fail
              refine wp_region_line (Bel v1) [(0, true), (1, true), (2, true), (3, true), (4, true), (5, true), (6, true), (7, true)] (by kernel_rfl) (by kernel_rfl) (fun _ _ d _ _ h => by cases d <;> exact h) (Bel.drew v1) ?_
              have hst := Bel.drew v1
              have inst : Nonempty (Of (Bel v1)) := ⟨⟨_, hst⟩⟩
              have g0 := bel_cell m0
              have g1 := bel_cell y0
              iterate 8 (refine line_read rfl (by kernel_rfl) (fun K hK => ?_); go_big_quiet_op; refine hK _ ?_; clear hK K)
              refine line_nil ?_
              have TO2 : OwnP v1.drew (w.heap.size + 1) _ _ := TO
              have TA2 : At w.heap.size p.vals v1.drew := TA.keep (fun _ => rfl)
              have TB2 := TB.drew
              have ts2 : w.heap.size < v1.drew.heap.size := ts
              clear hst inst g0 g1 m0 m1 m2 m3 m4 y0 TO TA TB ts
              generalize v1.drew = v2 at *
              obtain ⟨b', off', hab', -, m0, m1, m2, m3, m4⟩ := (HR.out.below (TB2.mono hB)).at' hlt
              injection hab' with hab'
              injection hab' with ea eb
              subst ea
              subst eb
              rw [hq] at m0 m1 m2 m3 m4
              go_wp2_with (at_builtin; refine wpList_append_src _ rfl (.tmp 64) (.tmp 69) 33 33 rfl (w.heap.size + 1) 25 i0 (P5 pin0) 5 48 Tryz.underlying33 hi0 hz0 hz1 hz2 rfl _ _ _ rfl (Own.alloc TO2 _) _ 1 q.vals rfl (src_new5 _ q _ _ _ Tryz.underlying33) (by simp only [maxLen]; first | omega | (simp only [List.length_append, List.length_cons, List.length_nil]; omega)) (by first | omega | (simp only [List.length_append, List.length_cons, List.length_nil]; omega)) (by simp; omega) ?_; intro v3 w3 hown hgrow hat)
              obtain ⟨O3, A3, B3⟩ := put_app TO2 TA2 TB2 hown hgrow
              clear hown hgrow hat TO2 TA2 TB2 m0 m1 m2 m3 m4
              go_wp2_with fail
              go_roundw
              case rel => exact ⟨k + 1, false, _, by omega, by go_num, rfl, ⟨O3, A3, B3, TE.out, TL, fun _ => TF⟩⟩
              case measure => simp [intOf]; omega
          · by_cases he : q.nm = p.nm
            · rw [decide_eq_true he] at Q2
              have TE := Lib.hid (show out ++ putG p true (ps.drop (k + 1)) = putL ps p by rw [if_pos he] at heq; simpa using heq)
              have TL : out.length ≤ k + 1 + 1 := by omega
              clear heq he
              go_wp2_with fail
              refine wp_region_line (Bel wr) [(0, true), (1, true), (2, true), (3, true), (4, true), (5, true), (6, true), (7, true), (8, true), (9, true), (10, true), (11, true)] (by kernel_rfl) (by kernel_rfl) (fun _ _ d _ _ h => by cases d <;> exact h) (Bel.drew wr) ?_
              have hst := Bel.drew wr
              have inst : Nonempty (Of (Bel wr)) := ⟨⟨_, hst⟩⟩
              iterate 3 (refine line_read rfl (by kernel_rfl) (fun K hK => ?_); go_big_quiet_op; refine hK _ ?_; clear hK K)
              iterate 8 (refine line_skip rfl (by kernel_rfl) ?_; simp only [Act.put, List.setIfInBounds_toArray, List.set_cons_zero, List.set_cons_succ])
              iterate 1 (refine line_read rfl (by kernel_rfl) (fun K hK => ?_); go_big_quiet_op; refine hK _ ?_; clear hK K)
              refine line_nil ?_
              have TO : OwnP wr.drew (w.heap.size + 1) (.slice va out.length vc) out := hT.own
              have TA : At w.heap.size p.vals wr.drew := hT.box.keep (fun _ => rfl)
              have TB := hT.bel.drew
              have ts : w.heap.size < wr.drew.heap.size := bsz
              clear hst inst c0 c1 c2 c3 c4 p0 hT hbs bsz
              generalize wr.drew = v1 at *
              obtain ⟨b', off', hab', -, m0, m1, m2, m3, m4⟩ := (HR.out.below (TB.mono hB)).at' hlt
              injection hab' with hab'
              injection hab' with ea eb
              subst ea
              subst eb
              rw [hq] at m0 m1 m2 m3 m4
              have y0 := TA.cell 0 _ rfl
              go_wp2_with fail
              refine wp_region_line (Bel v1) [(0, true), (1, true), (2, true), (3, true), (4, true), (5, true), (6, true), (7, true)] (by kernel_rfl) (by kernel_rfl) (fun _ _ d _ _ h => by cases d <;> exact h) (Bel.drew v1) ?_
              have hst := Bel.drew v1
              have inst : Nonempty (Of (Bel v1)) := ⟨⟨_, hst⟩⟩
              have g0 := bel_cell m0
              have g1 := bel_cell y0
              iterate 8 (refine line_read rfl (by kernel_rfl) (fun K hK => ?_); go_big_quiet_op; refine hK _ ?_; clear hK K)
              refine line_nil ?_
              have TO2 : OwnP v1.drew (w.heap.size + 1) _ _ := TO
              have TA2 : At w.heap.size p.vals v1.drew := TA.keep (fun _ => rfl)
              have TB2 := TB.drew
              have ts2 : w.heap.size < v1.drew.heap.size := ts
              clear hst inst g0 g1 m0 m1 m2 m3 m4 y0 TO TA TB ts
              generalize v1.drew = v2 at *
              go_wp2_with fail
              go_roundw
              case rel => exact ⟨k + 1, true, _, by omega, by go_num, rfl, ⟨TO2, TA2, TB2, TE.out, TL, fun h => by cases h⟩⟩
              case measure => simp [intOf]; omega
            · rw [decide_eq_false he] at Q2
              have TE := Lib.hid (show (out ++ [q]) ++ putG p true (ps.drop (k + 1)) = putL ps p by rw [if_neg he] at heq; simpa using heq)
              have TL : (out ++ [q]).length ≤ k + 1 + 1 := by simp; omega
              clear heq he
              go_wp2_with fail
              refine wp_region_line (Bel wr) [(0, true), (1, true), (2, true), (3, true), (4, true), (5, true), (6, true), (7, true), (8, true), (9, true), (10, true), (11, true)] (by kernel_rfl) (by kernel_rfl) (fun _ _ d _ _ h => by cases d <;> exact h) (Bel.drew wr) ?_
              have hst := Bel.drew wr
              have inst : Nonempty (Of (Bel wr)) := ⟨⟨_, hst⟩⟩
              iterate 3 (refine line_read rfl (by kernel_rfl) (fun K hK => ?_); go_big_quiet_op; refine hK _ ?_; clear hK K)
              iterate 8 (refine line_skip rfl (by kernel_rfl) ?_; simp only [Act.put, List.setIfInBounds_toArray, List.set_cons_zero, List.set_cons_succ])
              iterate 1 (refine line_read rfl (by kernel_rfl) (fun K hK => ?_); go_big_quiet_op; refine hK _ ?_; clear hK K)
              refine line_nil ?_
              have TO : OwnP wr.drew (w.heap.size + 1) (.slice va out.length vc) out := hT.own
              have TA : At w.heap.size p.vals wr.drew := hT.box.keep (fun _ => rfl)
              have TB := hT.bel.drew
              have ts : w.heap.size < wr.drew.heap.size := bsz
              clear hst inst c0 c1 c2 c3 c4 p0 hT hbs bsz
              generalize wr.drew = v1 at *
              obtain ⟨b', off', hab', -, m0, m1, m2, m3, m4⟩ := (HR.out.below (TB.mono hB)).at' hlt
              injection hab' with hab'
              injection hab' with ea eb
              subst ea
              subst eb
              rw [hq] at m0 m1 m2 m3 m4
              have y0 := TA.cell 0 _ rfl
              go_wp2_with fail
              refine wp_region_line (Bel v1) [(0, true), (1, true), (2, true), (3, true), (4, true), (5, true), (6, true), (7, true)] (by kernel_rfl) (by kernel_rfl) (fun _ _ d _ _ h => by cases d <;> exact h) (Bel.drew v1) ?_
              have hst := Bel.drew v1
              have inst : Nonempty (Of (Bel v1)) := ⟨⟨_, hst⟩⟩
              have g0 := bel_cell m0
              have g1 := bel_cell y0
              iterate 8 (refine line_read rfl (by kernel_rfl) (fun K hK => ?_); go_big_quiet_op; refine hK _ ?_; clear hK K)
              refine line_nil ?_
              have TO2 : OwnP v1.drew (w.heap.size + 1) _ _ := TO
              have TA2 : At w.heap.size p.vals v1.drew := TA.keep (fun _ => rfl)
              have TB2 := TB.drew
              have ts2 : w.heap.size < v1.drew.heap.size := ts
              clear hst inst g0 g1 m0 m1 m2 m3 m4 y0 TO TA TB ts
              generalize v1.drew = v2 at *
              obtain ⟨b', off', hab', -, m0, m1, m2, m3, m4⟩ := (HR.out.below (TB2.mono hB)).at' hlt
              injection hab' with hab'
              injection hab' with ea eb
              subst ea
              subst eb
              rw [hq] at m0 m1 m2 m3 m4
              go_wp2_with (at_builtin; refine wpList_append_src _ rfl (.tmp 64) (.tmp 69) 33 33 rfl (w.heap.size + 1) 25 i0 (P5 pin0) 5 48 Tryz.underlying33 hi0 hz0 hz1 hz2 rfl _ _ _ rfl (Own.alloc TO2 _) _ 1 q.vals rfl (src_new5 _ q _ _ _ Tryz.underlying33) (by simp only [maxLen]; first | omega | (simp only [List.length_append, List.length_cons, List.length_nil]; omega)) (by first | omega | (simp only [List.length_append, List.length_cons, List.length_nil]; omega)) (by simp; omega) ?_; intro v3 w3 hown hgrow hat)
              obtain ⟨O3, A3, B3⟩ := put_app TO2 TA2 TB2 hown hgrow
              clear hown hgrow hat TO2 TA2 TB2 m0 m1 m2 m3 m4
              go_wp2_with fail
              go_roundw
              case rel => exact ⟨k + 1, true, _, by omega, by go_num, rfl, ⟨O3, A3, B3, TE.out, TL, fun h => by cases h⟩⟩
              case measure => simp [intOf]; omega
        · obtain rfl : k = len := by omega
          have e : ps.drop k = [] := List.drop_of_length_le (by rw [hL.out]; omega)
          have heq := hT.eq
          rw [e] at heq
          have e2 : put1 ps p = putL ps p := by unfold put1; rw [if_pos e1]
          cases d
          · have hO := hT.own
            have hA := hT.box
            have hb := hT.bel
            have HE := Lib.hid (show out ++ [p] = putL ps p from heq)
            have x0 := hA.cell 0 _ rfl
            have x1 := hA.cell 1 _ rfl
            have x2 := hA.cell 2 _ rfl
            have x3 := hA.cell 3 _ rfl
            have x4 := hA.cell 4 _ rfl
            clear hT heq
            go_wp2_with (at_builtin; refine wpList_append_src _ rfl (.tmp 73) (.tmp 75) 33 33 rfl (w.heap.size + 1) 25 i0 (P5 pin0) 5 48 Tryz.underlying33 hi0 hz0 hz1 hz2 rfl _ _ _ rfl (Own.alloc hO _) _ 1 p.vals rfl (src_new5 _ p _ _ _ Tryz.underlying33) (by simp only [maxLen]; first | omega | (simp only [List.length_append, List.length_cons, List.length_nil]; omega)) (by first | omega | (simp only [List.length_append, List.length_cons, List.length_nil]; omega)) (by simp; omega) ?_; intro v3 w3 hown hgrow hat)
            obtain ⟨O3, A3, B3⟩ := put_app hO hA hb hown hgrow
            obtain ⟨a3, c3, rfl, -⟩ := O3.form
            have H := Lib.hid (And.intro (O3.less (by omega : w.heap.size ≤ w.heap.size + 1)) B3)
            clear hown hgrow hat O3 A3 B3
            go_wp2_with fail
            refine bodyPost_ret (v := .tuple #[.slice a3 (out ++ [p]).length c3, .int .i64 0]) (by simp [results, Tryz.results81, go_sem]) rfl ⟨_, _, _, by rw [e1], by rw [e2, ← HE.out]; exact H.out.1, H.out.2⟩
          · have hO := hT.own
            have hb := hT.bel
            have HE := Lib.hid (show out = putL ps p by simpa [putG] using heq)
            have H := Lib.hid (And.intro (hO.less (by omega : w.heap.size ≤ w.heap.size + 1)) hb)
            clear hT heq hO hb
            go_wp2_with fail
            refine bodyPost_ret (v := .tuple #[.slice va out.length vc, .int .i64 0]) (by simp [results, Tryz.results81, go_sem]) rfl ⟨_, _, _, by rw [e1], by rw [e2, ← HE.out]; exact H.out.1, H.out.2⟩
  · have hkl : k < len := by rw [← hL.out]; exact hk
    have hf' : findP ps p.nm = some (ps[k]?.getD pin0) := hf
    obtain ⟨b, off, ha, -⟩ := hR.at' hkl
    subst ha
    have HR := Lib.hid hR
    have hk0 : ¬ (k : Int) < 0 := by omega
    have hk1 : (0 : Int) ≤ k := by omega
    clear hR hf
    generalize hq0 : ps[k]?.getD pin0 = q0 at *
    have HQ := Lib.hid hq0
    clear hq0
    by_cases he : p.e ≤ q0.e
    · have e1 := put0_old hf' he
      have e2 : put1 ps p = [] := by unfold put1; rw [e1, if_neg (by decide)]
      clear hf'
      go_enter Tryz.func81, Tryz.ntmps81
      go_wp2_with fail
      generalize w.alloc (.cells #[.string p.n, .int .i64 p.a, .int .i64 p.b, .int .i64 p.e, .int .i64 p.u] 25) = W0 at *
      refine AT.mono ?_
      rintro r u1 ⟨rfl, b1⟩
      have A1' := A1.on b1
      have B1 := btr b0 b1
      have x0 := A1'.cell 0 _ rfl
      have x1 := A1'.cell 1 _ rfl
      have x2 := A1'.cell 2 _ rfl
      have x3 := A1'.cell 3 _ rfl
      have x4 := A1'.cell 4 _ rfl
      clear A1 b0 b1 AT
      obtain ⟨b', off', hab', -, c0, c1, c2, c3, c4⟩ := (HR.out.below (B1.mono hB)).at' hkl
      injection hab' with hab'
      injection hab' with ea eb
      subst ea
      subst eb
      rw [HQ.out] at c3
      go_wp2_with fail
      refine wp_region_line (Bel u1) [(0, true), (1, true), (2, true), (3, true), (4, true), (5, true), (6, true), (7, true), (8, true), (9, true), (10, true), (11, true)] (by kernel_rfl) (by kernel_rfl) (fun _ _ d _ _ h => by cases d <;> exact h) (Bel.drew u1) ?_
      have hst := Bel.drew u1
      have inst : Nonempty (Of (Bel u1)) := ⟨⟨_, hst⟩⟩
      have g0 := bel_cell c3
      have g1 := bel_cell x3
      iterate 12 (refine line_read rfl (by kernel_rfl) (fun K hK => ?_); go_big_quiet_op; refine hK _ ?_; clear hK K)
      refine line_nil ?_
      have B2 := btr B1 hst.out
      have A2 := A1'.on hst.out
      clear hst inst A1' B1 x0 x1 x2 x3 x4 c0 c1 c2 c3 c4 g0 g1
      have y0 := A2.cell 0 _ rfl
      have y1 := A2.cell 1 _ rfl
      have y2 := A2.cell 2 _ rfl
      have y3 := A2.cell 3 _ rfl
      have y4 := A2.cell 4 _ rfl
      go_wp2_with fail
      refine bodyPost_ret (v := .tuple #[.slice none 0 0, .int .i64 11]) (by simp [results, Tryz.results81, go_sem]) rfl ⟨none, 0, 0, by rw [e1], by rw [e2]; exact OwnP.nil _ _, B2⟩
    · have e1 := put0_young hf' he
      clear hf'
      go_enter Tryz.func81, Tryz.ntmps81
      go_wp2_with fail
      generalize w.alloc (.cells #[.string p.n, .int .i64 p.a, .int .i64 p.b, .int .i64 p.e, .int .i64 p.u] 25) = W0 at *
      refine AT.mono ?_
      rintro r u1 ⟨rfl, b1⟩
      have A1' := A1.on b1
      have B1 := btr b0 b1
      have x0 := A1'.cell 0 _ rfl
      have x1 := A1'.cell 1 _ rfl
      have x2 := A1'.cell 2 _ rfl
      have x3 := A1'.cell 3 _ rfl
      have x4 := A1'.cell 4 _ rfl
      clear A1 b0 b1 AT
      obtain ⟨b', off', hab', -, c0, c1, c2, c3, c4⟩ := (HR.out.below (B1.mono hB)).at' hkl
      injection hab' with hab'
      injection hab' with ea eb
      subst ea
      subst eb
      rw [HQ.out] at c3
      go_wp2_with fail
      refine wp_region_line (Bel u1) [(0, true), (1, true), (2, true), (3, true), (4, true), (5, true), (6, true), (7, true), (8, true), (9, true), (10, true), (11, true)] (by kernel_rfl) (by kernel_rfl) (fun _ _ d _ _ h => by cases d <;> exact h) (Bel.drew u1) ?_
      have hst := Bel.drew u1
      have inst : Nonempty (Of (Bel u1)) := ⟨⟨_, hst⟩⟩
      have g0 := bel_cell c3
      have g1 := bel_cell x3
      iterate 12 (refine line_read rfl (by kernel_rfl) (fun K hK => ?_); go_big_quiet_op; refine hK _ ?_; clear hK K)
      refine line_nil ?_
      have B2 := btr B1 hst.out
      have A2 := A1'.on hst.out
      clear hst inst A1' B1 x0 x1 x2 x3 x4 c0 c1 c2 c3 c4 g0 g1
      have y0 := A2.cell 0 _ rfl
      have y1 := A2.cell 1 _ rfl
      have y2 := A2.cell 2 _ rfl
      have y3 := A2.cell 3 _ rfl
      have y4 := A2.cell 4 _ rfl
      obtain ⟨i0, hi0, hz0, hz1, hz2⟩ := info_parts pin_info
      have lu : w.heap.size < u1.heap.size := A2.lt (by simp [PinD.vals])
      have B2' : Below w.heap.size w (u1.alloc (.cells #[] 25)).drew := bal B2 (.cells #[] 25)
      have T0 : PutRel w ps p 0 false (.slice (some ⟨u1.heap.size, 0, none⟩) 0 0) [] (u1.alloc (.cells #[] 25)).drew :=
        ⟨(Own.made u1 #[] 25 0 (by omega) (by simp) rfl).drew, (A2.alloc (.cells #[] 25)).keep (fun _ => rfl), B2', rfl, by simp, by simp⟩
      clear lu B2'
      go_wp2_with fail
      generalize (u1.alloc (.cells #[] 25)).drew = W1 at *
      clear A2 B2 y0 y1 y2 y3 y4
      go_loopw [7, 8, 9] (fun v dd i wr => ∃ (k : Nat) (d : Bool) (out : List PinD), k ≤ len ∧ i = .int .i64 k ∧ dd = .bool d ∧ PutRel w ps p k d v out wr) (fun _ _ i _ => len - (intOf i).toNat)
      case atStart => exact ⟨0, false, [], Nat.zero_le _, rfl, rfl, T0⟩
      case round =>
        obtain ⟨k, d, out, hk, rfl, rfl, hT⟩ := hrel
        clear T0
        have hbs := hT.bel.size
        have hlo := hT.len
        have hfw := hT.few
        have bsz := hT.box.lt (by simp [PinD.vals])
        obtain ⟨va, vc, hva, -⟩ := hT.own.form
        subst hva
        by_cases hlt : k < len
        · obtain ⟨b, off, hab, hbB, c0, c1, c2, c3, c4⟩ := (HR.out.below (hT.bel.mono hB)).at' hlt
          first | subst hab | (injection hab with hab; injection hab with ea eb; subst ea; subst eb)
          have heq := hT.eq
          rw [putG_step (ps := ps) (k := k) (by rw [hL.out]; exact hlt) p d] at heq
          have Q1 : Op.bytesLess (ps[k]?.getD pin0).n.toList p.n.toList = nlt (ps[k]?.getD pin0).nm p.nm := by rw [ByteArray.toList_eq, ByteArray.toList_eq]; rfl
          have Q2 : ((ps[k]?.getD pin0).n.toList == p.n.toList) = decide ((ps[k]?.getD pin0).nm = p.nm) := text_beq _ _
          generalize hq : ps[k]?.getD pin0 = q at *
          have p0 := hT.box.cell 0 _ rfl
          cases d
          · have hfw := hfw rfl
            cases hn : nlt q.nm p.nm
            · rw [hn] at Q1 heq
              by_cases he : q.nm = p.nm
              · rw [decide_eq_true he] at Q2
                have TE := Lib.hid (show (out ++ [p]) ++ putG p true (ps.drop (k + 1)) = putL ps p by rw [if_pos he] at heq; simpa using heq)
                have TL : (out ++ [p]).length ≤ k + 1 + 1 := by simp; omega
                clear heq he hn
                go_wp2_with fail
                refine wp_region_line (Bel wr) [(0, true), (1, true), (2, true), (3, true), (4, true), (5, true), (6, true), (7, true), (8, true), (9, true), (10, true), (11, true)] (by kernel_rfl) (by kernel_rfl) (fun _ _ d _ _ h => by cases d <;> exact h) (Bel.drew wr) ?_
                have hst := Bel.drew wr
                have inst : Nonempty (Of (Bel wr)) := ⟨⟨_, hst⟩⟩
                have g0 := bel_cell c0
                have g1 := bel_cell p0
                iterate 12 (refine line_read rfl (by kernel_rfl) (fun K hK => ?_); go_big_quiet_op; refine hK _ ?_; clear hK K)
                refine line_nil ?_
                have TO : OwnP wr.drew (w.heap.size + 1) (.slice va out.length vc) out := hT.own
                have TA : At w.heap.size p.vals wr.drew := hT.box.keep (fun _ => rfl)
                have TB := hT.bel.drew
                have ts : w.heap.size < wr.drew.heap.size := bsz
                clear hst inst g0 g1 c0 c1 c2 c3 c4 p0 hT hbs bsz
                generalize wr.drew = v1 at *
                have x0 := TA.cell 0 _ rfl
                have x1 := TA.cell 1 _ rfl
                have x2 := TA.cell 2 _ rfl
                have x3 := TA.cell 3 _ rfl
                have x4 := TA.cell 4 _ rfl
                go_wp2_with (at_builtin; refine wpList_append_src _ rfl (.tmp 52) (.tmp 54) 33 33 rfl (w.heap.size + 1) 25 i0 (P5 pin0) 5 48 Tryz.underlying33 hi0 hz0 hz1 hz2 rfl _ _ _ rfl (Own.alloc TO _) _ 1 p.vals rfl (src_new5 _ p _ _ _ Tryz.underlying33) (by simp only [maxLen]; first | omega | (simp only [List.length_append, List.length_cons, List.length_nil]; omega)) (by first | omega | (simp only [List.length_append, List.length_cons, List.length_nil]; omega)) (by simp; omega) ?_; intro v3 w3 hown hgrow hat)
                obtain ⟨TO', TA', TB'⟩ := put_app TO TA TB hown hgrow
                have ts' : w.heap.size < w3.heap.size := TA'.lt (by simp [PinD.vals])
                clear hown hgrow hat TO TA TB ts x0 x1 x2 x3 x4
                have TO := TO'
                have TA := TA'
                have TB := TB'
                have ts := ts'
                clear TO' TA' TB' ts'
                obtain ⟨b', off', hab', -, m0, m1, m2, m3, m4⟩ := (HR.out.below (TB.mono hB)).at' hlt
                injection hab' with hab'
                injection hab' with ea eb
                subst ea
                subst eb
                rw [hq] at m0 m1 m2 m3 m4
                have y0 := TA.cell 0 _ rfl
                go_wp2_with fail
                refine wp_region_line (Bel w3) [(0, true), (1, true), (2, true), (3, true), (4, true), (5, true), (6, true), (7, true)] (by kernel_rfl) (by kernel_rfl) (fun _ _ d _ _ h => by cases d <;> exact h) (Bel.drew w3) ?_
                have hst := Bel.drew w3
                have inst : Nonempty (Of (Bel w3)) := ⟨⟨_, hst⟩⟩
                have g0 := bel_cell m0
                have g1 := bel_cell y0
                iterate 8 (refine line_read rfl (by kernel_rfl) (fun K hK => ?_); go_big_quiet_op; refine hK _ ?_; clear hK K)
                refine line_nil ?_
                have TO2 : OwnP w3.drew (w.heap.size + 1) _ _ := TO
                have TA2 : At w.heap.size p.vals w3.drew := TA.keep (fun _ => rfl)
                have TB2 := TB.drew
                have ts2 : w.heap.size < w3.drew.heap.size := ts
                clear hst inst g0 g1 m0 m1 m2 m3 m4 y0 TO TA TB ts
                generalize w3.drew = v2 at *
                go_wp2_with fail
                go_roundw
                case rel => exact ⟨k + 1, true, _, by omega, by go_num, rfl, ⟨TO2, TA2, TB2, TE.out, TL, fun h => by cases h⟩⟩
                case measure => simp [intOf]; omega
              · rw [decide_eq_false he] at Q2
                have TE := Lib.hid (show ((out ++ [p]) ++ [q]) ++ putG p true (ps.drop (k + 1)) = putL ps p by rw [if_neg he] at heq; simpa using heq)
                have TL : ((out ++ [p]) ++ [q]).length ≤ k + 1 + 1 := by simp; omega
                clear heq he hn
                go_wp2_with fail
                refine wp_region_line (Bel wr) [(0, true), (1, true), (2, true), (3, true), (4, true), (5, true), (6, true), (7, true), (8, true), (9, true), (10, true), (11, true)] (by kernel_rfl) (by kernel_rfl) (fun _ _ d _ _ h => by cases d <;> exact h) (Bel.drew wr) ?_
                have hst := Bel.drew wr
                have inst : Nonempty (Of (Bel wr)) := ⟨⟨_, hst⟩⟩
                have g0 := bel_cell c0
                have g1 := bel_cell p0
                iterate 12 (refine line_read rfl (by kernel_rfl) (fun K hK => ?_); go_big_quiet_op; refine hK _ ?_; clear hK K)
                refine line_nil ?_
                have TO : OwnP wr.drew (w.heap.size + 1) (.slice va out.length vc) out := hT.own
                have TA : At w.heap.size p.vals wr.drew := hT.box.keep (fun _ => rfl)
                have TB := hT.bel.drew
                have ts : w.heap.size < wr.drew.heap.size := bsz
                clear hst inst g0 g1 c0 c1 c2 c3 c4 p0 hT hbs bsz
                generalize wr.drew = v1 at *
                have x0 := TA.cell 0 _ rfl
                have x1 := TA.cell 1 _ rfl
                have x2 := TA.cell 2 _ rfl
                have x3 := TA.cell 3 _ rfl
                have x4 := TA.cell 4 _ rfl
                go_wp2_with (at_builtin; refine wpList_append_src _ rfl (.tmp 52) (.tmp 54) 33 33 rfl (w.heap.size + 1) 25 i0 (P5 pin0) 5 48 Tryz.underlying33 hi0 hz0 hz1 hz2 rfl _ _ _ rfl (Own.alloc TO _) _ 1 p.vals rfl (src_new5 _ p _ _ _ Tryz.underlying33) (by simp only [maxLen]; first | omega | (simp only [List.length_append, List.length_cons, List.length_nil]; omega)) (by first | omega | (simp only [List.length_append, List.length_cons, List.length_nil]; omega)) (by simp; omega) ?_; intro v3 w3 hown hgrow hat)
                obtain ⟨TO', TA', TB'⟩ := put_app TO TA TB hown hgrow
                have ts' : w.heap.size < w3.heap.size := TA'.lt (by simp [PinD.vals])
                clear hown hgrow hat TO TA TB ts x0 x1 x2 x3 x4
                have TO := TO'
                have TA := TA'
                have TB := TB'
                have ts := ts'
                clear TO' TA' TB' ts'
                obtain ⟨b', off', hab', -, m0, m1, m2, m3, m4⟩ := (HR.out.below (TB.mono hB)).at' hlt
                injection hab' with hab'
                injection hab' with ea eb
                subst ea
                subst eb
                rw [hq] at m0 m1 m2 m3 m4
                have y0 := TA.cell 0 _ rfl
                go_wp2_with fail
                refine wp_region_line (Bel w3) [(0, true), (1, true), (2, true), (3, true), (4, true), (5, true), (6, true), (7, true)] (by kernel_rfl) (by kernel_rfl) (fun _ _ d _ _ h => by cases d <;> exact h) (Bel.drew w3) ?_
                have hst := Bel.drew w3
                have inst : Nonempty (Of (Bel w3)) := ⟨⟨_, hst⟩⟩
                have g0 := bel_cell m0
                have g1 := bel_cell y0
                iterate 8 (refine line_read rfl (by kernel_rfl) (fun K hK => ?_); go_big_quiet_op; refine hK _ ?_; clear hK K)
                refine line_nil ?_
                have TO2 : OwnP w3.drew (w.heap.size + 1) _ _ := TO
                have TA2 : At w.heap.size p.vals w3.drew := TA.keep (fun _ => rfl)
                have TB2 := TB.drew
                have ts2 : w.heap.size < w3.drew.heap.size := ts
                clear hst inst g0 g1 m0 m1 m2 m3 m4 y0 TO TA TB ts
                generalize w3.drew = v2 at *
                obtain ⟨b', off', hab', -, m0, m1, m2, m3, m4⟩ := (HR.out.below (TB2.mono hB)).at' hlt
                injection hab' with hab'
                injection hab' with ea eb
                subst ea
                subst eb
                rw [hq] at m0 m1 m2 m3 m4
                go_wp2_with (at_builtin; refine wpList_append_src _ rfl (.tmp 64) (.tmp 69) 33 33 rfl (w.heap.size + 1) 25 i0 (P5 pin0) 5 48 Tryz.underlying33 hi0 hz0 hz1 hz2 rfl _ _ _ rfl (Own.alloc TO2 _) _ 1 q.vals rfl (src_new5 _ q _ _ _ Tryz.underlying33) (by simp only [maxLen]; first | omega | (simp only [List.length_append, List.length_cons, List.length_nil]; omega)) (by first | omega | (simp only [List.length_append, List.length_cons, List.length_nil]; omega)) (by simp; omega) ?_; intro v3 w3 hown hgrow hat)
                obtain ⟨O3, A3, B3⟩ := put_app TO2 TA2 TB2 hown hgrow
                clear hown hgrow hat TO2 TA2 TB2 m0 m1 m2 m3 m4
                go_wp2_with fail
                go_roundw
                case rel => exact ⟨k + 1, true, _, by omega, by go_num, rfl, ⟨O3, A3, B3, TE.out, TL, fun h => by cases h⟩⟩
                case measure => simp [intOf]; omega
            · rw [hn] at Q1 heq
              have he : ¬ q.nm = p.nm := nlt_ne hn
              rw [decide_eq_false he] at Q2
              have TE := Lib.hid (show (out ++ [q]) ++ putG p false (ps.drop (k + 1)) = putL ps p by rw [if_neg he] at heq; simpa using heq)
              have TL : (out ++ [q]).length ≤ k + 1 + 1 := by simp; omega
              have TF : (out ++ [q]).length ≤ k + 1 := by simp; omega
              clear heq he hn
              go_wp2_with fail
              refine wp_region_line (Bel wr) [(0, true), (1, true), (2, true), (3, true), (4, true), (5, true), (6, true), (7, true), (8, true), (9, true), (10, true), (11, true)] (by kernel_rfl) (by kernel_rfl) (fun _ _ d _ _ h => by cases d <;> exact h) (Bel.drew wr) ?_
              have hst := Bel.drew wr
              have inst : Nonempty (Of (Bel wr)) := ⟨⟨_, hst⟩⟩
              have g0 := bel_cell c0
              have g1 := bel_cell p0
              iterate 12 (refine line_read rfl (by kernel_rfl) (fun K hK => ?_); go_big_quiet_op; refine hK _ ?_; clear hK K)
              refine line_nil ?_
              have TO : OwnP wr.drew (w.heap.size + 1) (.slice va out.length vc) out := hT.own
              have TA : At w.heap.size p.vals wr.drew := hT.box.keep (fun _ => rfl)
              have TB := hT.bel.drew
              have ts : w.heap.size < wr.drew.heap.size := bsz
              clear hst inst g0 g1 c0 c1 c2 c3 c4 p0 hT hbs bsz
              generalize wr.drew = v1 at *
              have x0 := TA.cell 0 _ rfl
              have x1 := TA.cell 1 _ rfl
              have x2 := TA.cell 2 _ rfl
              have x3 := TA.cell 3 _ rfl
              have x4 := TA.cell 4 _ rfl
              obtain ⟨b', off', hab', -, m0, m1, m2, m3, m4⟩ := (HR.out.below (TB.mono hB)).at' hlt
              injection hab' with hab'
              injection hab' with ea eb
              subst ea
              subst eb
              rw [hq] at m0 m1 m2 m3 m4
              have y0 := TA.cell 0 _ rfl
              go_wp2_with fail
              refine wp_region_line (Bel v1) [(0, true), (1, true), (2, true), (3, true), (4, true), (5, true), (6, true), (7, true)] (by kernel_rfl) (by kernel_rfl) (fun _ _ d _ _ h => by cases d <;> exact h) (Bel.drew v1) ?_
              have hst := Bel.drew v1
              have inst : Nonempty (Of (Bel v1)) := ⟨⟨_, hst⟩⟩
              have g0 := bel_cell m0
              have g1 := bel_cell y0
              iterate 8 (refine line_read rfl (by kernel_rfl) (fun K hK => ?_); go_big_quiet_op; refine hK _ ?_; clear hK K)
              refine line_nil ?_
              have TO2 : OwnP v1.drew (w.heap.size + 1) _ _ := TO
              have TA2 : At w.heap.size p.vals v1.drew := TA.keep (fun _ => rfl)
              have TB2 := TB.drew
              have ts2 : w.heap.size < v1.drew.heap.size := ts
              clear hst inst g0 g1 m0 m1 m2 m3 m4 y0 TO TA TB ts
              generalize v1.drew = v2 at *
              obtain ⟨b', off', hab', -, m0, m1, m2, m3, m4⟩ := (HR.out.below (TB2.mono hB)).at' hlt
              injection hab' with hab'
              injection hab' with ea eb
              subst ea
              subst eb
              rw [hq] at m0 m1 m2 m3 m4
              go_wp2_with (at_builtin; refine wpList_append_src _ rfl (.tmp 64) (.tmp 69) 33 33 rfl (w.heap.size + 1) 25 i0 (P5 pin0) 5 48 Tryz.underlying33 hi0 hz0 hz1 hz2 rfl _ _ _ rfl (Own.alloc TO2 _) _ 1 q.vals rfl (src_new5 _ q _ _ _ Tryz.underlying33) (by simp only [maxLen]; first | omega | (simp only [List.length_append, List.length_cons, List.length_nil]; omega)) (by first | omega | (simp only [List.length_append, List.length_cons, List.length_nil]; omega)) (by simp; omega) ?_; intro v3 w3 hown hgrow hat)
              obtain ⟨O3, A3, B3⟩ := put_app TO2 TA2 TB2 hown hgrow
              clear hown hgrow hat TO2 TA2 TB2 m0 m1 m2 m3 m4
              go_wp2_with fail
              go_roundw
              case rel => exact ⟨k + 1, false, _, by omega, by go_num, rfl, ⟨O3, A3, B3, TE.out, TL, fun _ => TF⟩⟩
              case measure => simp [intOf]; omega
          · by_cases he : q.nm = p.nm
            · rw [decide_eq_true he] at Q2
              have TE := Lib.hid (show out ++ putG p true (ps.drop (k + 1)) = putL ps p by rw [if_pos he] at heq; simpa using heq)
              have TL : out.length ≤ k + 1 + 1 := by omega
              clear heq he
              go_wp2_with fail
              refine wp_region_line (Bel wr) [(0, true), (1, true), (2, true), (3, true), (4, true), (5, true), (6, true), (7, true), (8, true), (9, true), (10, true), (11, true)] (by kernel_rfl) (by kernel_rfl) (fun _ _ d _ _ h => by cases d <;> exact h) (Bel.drew wr) ?_
              have hst := Bel.drew wr
              have inst : Nonempty (Of (Bel wr)) := ⟨⟨_, hst⟩⟩
              iterate 3 (refine line_read rfl (by kernel_rfl) (fun K hK => ?_); go_big_quiet_op; refine hK _ ?_; clear hK K)
              iterate 8 (refine line_skip rfl (by kernel_rfl) ?_; simp only [Act.put, List.setIfInBounds_toArray, List.set_cons_zero, List.set_cons_succ])
              iterate 1 (refine line_read rfl (by kernel_rfl) (fun K hK => ?_); go_big_quiet_op; refine hK _ ?_; clear hK K)
              refine line_nil ?_
              have TO : OwnP wr.drew (w.heap.size + 1) (.slice va out.length vc) out := hT.own
              have TA : At w.heap.size p.vals wr.drew := hT.box.keep (fun _ => rfl)
              have TB := hT.bel.drew
              have ts : w.heap.size < wr.drew.heap.size := bsz
              clear hst inst c0 c1 c2 c3 c4 p0 hT hbs bsz
              generalize wr.drew = v1 at *
              obtain ⟨b', off', hab', -, m0, m1, m2, m3, m4⟩ := (HR.out.below (TB.mono hB)).at' hlt
              injection hab' with hab'
              injection hab' with ea eb
              subst ea
              subst eb
              rw [hq] at m0 m1 m2 m3 m4
              have y0 := TA.cell 0 _ rfl
              go_wp2_with fail
              refine wp_region_line (Bel v1) [(0, true), (1, true), (2, true), (3, true), (4, true), (5, true), (6, true), (7, true)] (by kernel_rfl) (by kernel_rfl) (fun _ _ d _ _ h => by cases d <;> exact h) (Bel.drew v1) ?_
              have hst := Bel.drew v1
              have inst : Nonempty (Of (Bel v1)) := ⟨⟨_, hst⟩⟩
              have g0 := bel_cell m0
              have g1 := bel_cell y0
              iterate 8 (refine line_read rfl (by kernel_rfl) (fun K hK => ?_); go_big_quiet_op; refine hK _ ?_; clear hK K)
              refine line_nil ?_
              have TO2 : OwnP v1.drew (w.heap.size + 1) _ _ := TO
              have TA2 : At w.heap.size p.vals v1.drew := TA.keep (fun _ => rfl)
              have TB2 := TB.drew
              have ts2 : w.heap.size < v1.drew.heap.size := ts
              clear hst inst g0 g1 m0 m1 m2 m3 m4 y0 TO TA TB ts
              generalize v1.drew = v2 at *
              go_wp2_with fail
              go_roundw
              case rel => exact ⟨k + 1, true, _, by omega, by go_num, rfl, ⟨TO2, TA2, TB2, TE.out, TL, fun h => by cases h⟩⟩
              case measure => simp [intOf]; omega
            · rw [decide_eq_false he] at Q2
              have TE := Lib.hid (show (out ++ [q]) ++ putG p true (ps.drop (k + 1)) = putL ps p by rw [if_neg he] at heq; simpa using heq)
              have TL : (out ++ [q]).length ≤ k + 1 + 1 := by simp; omega
              clear heq he
              go_wp2_with fail
              refine wp_region_line (Bel wr) [(0, true), (1, true), (2, true), (3, true), (4, true), (5, true), (6, true), (7, true), (8, true), (9, true), (10, true), (11, true)] (by kernel_rfl) (by kernel_rfl) (fun _ _ d _ _ h => by cases d <;> exact h) (Bel.drew wr) ?_
              have hst := Bel.drew wr
              have inst : Nonempty (Of (Bel wr)) := ⟨⟨_, hst⟩⟩
              iterate 3 (refine line_read rfl (by kernel_rfl) (fun K hK => ?_); go_big_quiet_op; refine hK _ ?_; clear hK K)
              iterate 8 (refine line_skip rfl (by kernel_rfl) ?_; simp only [Act.put, List.setIfInBounds_toArray, List.set_cons_zero, List.set_cons_succ])
              iterate 1 (refine line_read rfl (by kernel_rfl) (fun K hK => ?_); go_big_quiet_op; refine hK _ ?_; clear hK K)
              refine line_nil ?_
              have TO : OwnP wr.drew (w.heap.size + 1) (.slice va out.length vc) out := hT.own
              have TA : At w.heap.size p.vals wr.drew := hT.box.keep (fun _ => rfl)
              have TB := hT.bel.drew
              have ts : w.heap.size < wr.drew.heap.size := bsz
              clear hst inst c0 c1 c2 c3 c4 p0 hT hbs bsz
              generalize wr.drew = v1 at *
              obtain ⟨b', off', hab', -, m0, m1, m2, m3, m4⟩ := (HR.out.below (TB.mono hB)).at' hlt
              injection hab' with hab'
              injection hab' with ea eb
              subst ea
              subst eb
              rw [hq] at m0 m1 m2 m3 m4
              have y0 := TA.cell 0 _ rfl
              go_wp2_with fail
              refine wp_region_line (Bel v1) [(0, true), (1, true), (2, true), (3, true), (4, true), (5, true), (6, true), (7, true)] (by kernel_rfl) (by kernel_rfl) (fun _ _ d _ _ h => by cases d <;> exact h) (Bel.drew v1) ?_
              have hst := Bel.drew v1
              have inst : Nonempty (Of (Bel v1)) := ⟨⟨_, hst⟩⟩
              have g0 := bel_cell m0
              have g1 := bel_cell y0
              iterate 8 (refine line_read rfl (by kernel_rfl) (fun K hK => ?_); go_big_quiet_op; refine hK _ ?_; clear hK K)
              refine line_nil ?_
              have TO2 : OwnP v1.drew (w.heap.size + 1) _ _ := TO
              have TA2 : At w.heap.size p.vals v1.drew := TA.keep (fun _ => rfl)
              have TB2 := TB.drew
              have ts2 : w.heap.size < v1.drew.heap.size := ts
              clear hst inst g0 g1 m0 m1 m2 m3 m4 y0 TO TA TB ts
              generalize v1.drew = v2 at *
              obtain ⟨b', off', hab', -, m0, m1, m2, m3, m4⟩ := (HR.out.below (TB2.mono hB)).at' hlt
              injection hab' with hab'
              injection hab' with ea eb
              subst ea
              subst eb
              rw [hq] at m0 m1 m2 m3 m4
              go_wp2_with (at_builtin; refine wpList_append_src _ rfl (.tmp 64) (.tmp 69) 33 33 rfl (w.heap.size + 1) 25 i0 (P5 pin0) 5 48 Tryz.underlying33 hi0 hz0 hz1 hz2 rfl _ _ _ rfl (Own.alloc TO2 _) _ 1 q.vals rfl (src_new5 _ q _ _ _ Tryz.underlying33) (by simp only [maxLen]; first | omega | (simp only [List.length_append, List.length_cons, List.length_nil]; omega)) (by first | omega | (simp only [List.length_append, List.length_cons, List.length_nil]; omega)) (by simp; omega) ?_; intro v3 w3 hown hgrow hat)
              obtain ⟨O3, A3, B3⟩ := put_app TO2 TA2 TB2 hown hgrow
              clear hown hgrow hat TO2 TA2 TB2 m0 m1 m2 m3 m4
              go_wp2_with fail
              go_roundw
              case rel => exact ⟨k + 1, true, _, by omega, by go_num, rfl, ⟨O3, A3, B3, TE.out, TL, fun h => by cases h⟩⟩
              case measure => simp [intOf]; omega
        · obtain rfl : k = len := by omega
          have e : ps.drop k = [] := List.drop_of_length_le (by rw [hL.out]; omega)
          have heq := hT.eq
          rw [e] at heq
          have e2 : put1 ps p = putL ps p := by unfold put1; rw [if_pos e1]
          cases d
          · have hO := hT.own
            have hA := hT.box
            have hb := hT.bel
            have HE := Lib.hid (show out ++ [p] = putL ps p from heq)
            have x0 := hA.cell 0 _ rfl
            have x1 := hA.cell 1 _ rfl
            have x2 := hA.cell 2 _ rfl
            have x3 := hA.cell 3 _ rfl
            have x4 := hA.cell 4 _ rfl
            clear hT heq
            go_wp2_with (at_builtin; refine wpList_append_src _ rfl (.tmp 73) (.tmp 75) 33 33 rfl (w.heap.size + 1) 25 i0 (P5 pin0) 5 48 Tryz.underlying33 hi0 hz0 hz1 hz2 rfl _ _ _ rfl (Own.alloc hO _) _ 1 p.vals rfl (src_new5 _ p _ _ _ Tryz.underlying33) (by simp only [maxLen]; first | omega | (simp only [List.length_append, List.length_cons, List.length_nil]; omega)) (by first | omega | (simp only [List.length_append, List.length_cons, List.length_nil]; omega)) (by simp; omega) ?_; intro v3 w3 hown hgrow hat)
            obtain ⟨O3, A3, B3⟩ := put_app hO hA hb hown hgrow
            obtain ⟨a3, c3, rfl, -⟩ := O3.form
            have H := Lib.hid (And.intro (O3.less (by omega : w.heap.size ≤ w.heap.size + 1)) B3)
            clear hown hgrow hat O3 A3 B3
            go_wp2_with fail
            refine bodyPost_ret (v := .tuple #[.slice a3 (out ++ [p]).length c3, .int .i64 0]) (by simp [results, Tryz.results81, go_sem]) rfl ⟨_, _, _, by rw [e1], by rw [e2, ← HE.out]; exact H.out.1, H.out.2⟩
          · have hO := hT.own
            have hb := hT.bel
            have HE := Lib.hid (show out = putL ps p by simpa [putG] using heq)
            have H := Lib.hid (And.intro (hO.less (by omega : w.heap.size ≤ w.heap.size + 1)) hb)
            clear hT heq hO hb
            go_wp2_with fail
            refine bodyPost_ret (v := .tuple #[.slice va out.length vc, .int .i64 0]) (by simp [results, Tryz.results81, go_sem]) rfl ⟨_, _, _, by rw [e1], by rw [e2, ← HE.out]; exact H.out.1, H.out.2⟩

theorem put0_code {ps : List PinD} {p : PinD} (h0 : pinsF ps = 0) (h1 : p.f = 0) : putC ps p = put0 ps p ∧ putR ps p = put1 ps p := by
  have hl := (pinsF_zero h0).1
  have e : putC ps p = put0 ps p := by
    cases hf : findP ps p.nm with
    | none =>
      by_cases h4 : ps.length = 4
      · rw [(putC_full h0 h1 hf h4).1, put0_full hf (by omega)]
      · rw [(putC_new h0 h1 hf h4).1, put0_new hf (by omega)]
    | some q =>
      by_cases he : p.e ≤ q.e
      · rw [(putC_old h0 h1 hf he).1, put0_old hf he]
      · rw [(putC_young h0 h1 hf he).1, put0_young hf he]
  exact ⟨e, by unfold putR put1; rw [e]⟩
end Go.Proofs.YtmdknbgpddnplaaGreatDoor
