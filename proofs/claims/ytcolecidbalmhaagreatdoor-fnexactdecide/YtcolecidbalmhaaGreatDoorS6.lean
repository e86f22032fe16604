/- Texts of this seat that several laws rest on, laid into one. Conditions: as each theorem states. -/
import Derived.Test.YtcolecidbalmhaaGreatDoorS0
import Derived.Test.YtcolecidbalmhaaGreatDoorS1
import Derived.Test.YtcolecidbalmhaaGreatDoorS2
import Derived.Test.YtcolecidbalmhaaGreatDoorS3
import Derived.Test.YtcolecidbalmhaaGreatDoorS4
import Derived.Test.YtcolecidbalmhaaGreatDoorS5
namespace Go.Proofs.YtcolecidbalmhaaGreatDoor
open Go.RowKit
set_option maxRecDepth 100000
set_option linter.unusedVariables false

def liveB (p : PinD) (t : Int) : Bool := decide (p.f = 0) && timB t && decide (t ≤ p.u)
theorem implIsLive_any (p : PinD) (t : Int) (w : World) (hn : p.n.size ≤ maxLen) :
    Calls Tryz.prog 49 #[P5 p, .int .i64 t] w fun e w' => e = .returned (.bool (liveB p t)) ∧ Below w.heap.size w w' := by
  have b0 := bal (Below.refl _ w) (.cells #[.string p.n, .int .i64 p.a, .int .i64 p.b, .int .i64 p.e, .int .i64 p.u] 31)
  have A0 : At w.heap.size p.vals (w.alloc (.cells #[.string p.n, .int .i64 p.a, .int .i64 p.b, .int .i64 p.e, .int .i64 p.u] 31)) := At.new w p.vals 31
  have F := fun w => implPinFault_any p w hn
  by_cases h0 : p.f = 0
  · rw [h0] at F
    cases ht : timB t
    · rw [show liveB p t = false by simp [liveB, ht]]
      go_enter Tryz.func49, Tryz.ntmps49
      go_wp2_with fail
      generalize w.alloc (.cells #[.string p.n, .int .i64 p.a, .int .i64 p.b, .int .i64 p.e, .int .i64 p.u] 31) = W0 at *
      refine (F _).mono ?_
      rintro r u1 ⟨rfl, b1⟩
      have c4 := (A0.on b1).cell 4 _ rfl
      have B1 := btr b0 b1
      clear A0 b0 b1 F
      go_wp2_with fail
      refine (isTime_any _ _).mono ?_
      rintro r w' ⟨rfl, rfl⟩
      go_wp2_with fail
      go_ret
      exact ⟨rfl, B1⟩
    by_cases hu : t ≤ p.u
    · rw [show liveB p t = true by simp [liveB, h0, ht, hu]]
      go_enter Tryz.func49, Tryz.ntmps49
      go_wp2_with fail
      generalize w.alloc (.cells #[.string p.n, .int .i64 p.a, .int .i64 p.b, .int .i64 p.e, .int .i64 p.u] 31) = W0 at *
      refine (F _).mono ?_
      rintro r u1 ⟨rfl, b1⟩
      have c4 := (A0.on b1).cell 4 _ rfl
      have B1 := btr b0 b1
      clear A0 b0 b1 F
      go_wp2_with fail
      refine (isTime_any _ _).mono ?_
      rintro r w' ⟨rfl, rfl⟩
      go_wp2_with fail
      go_ret
      exact ⟨rfl, B1⟩
    · rw [show liveB p t = false by simp [liveB, hu]]
      go_enter Tryz.func49, Tryz.ntmps49
      go_wp2_with fail
      generalize w.alloc (.cells #[.string p.n, .int .i64 p.a, .int .i64 p.b, .int .i64 p.e, .int .i64 p.u] 31) = W0 at *
      refine (F _).mono ?_
      rintro r u1 ⟨rfl, b1⟩
      have c4 := (A0.on b1).cell 4 _ rfl
      have B1 := btr b0 b1
      clear A0 b0 b1 F
      go_wp2_with fail
      refine (isTime_any _ _).mono ?_
      rintro r w' ⟨rfl, rfl⟩
      go_wp2_with fail
      go_ret
      exact ⟨by simpa using hu, B1⟩
  · rw [show liveB p t = false by simp [liveB, h0]]
    generalize p.f = c at *
    have q0 : (c == 0) = false := by simpa using h0
    go_enter Tryz.func49, Tryz.ntmps49
    go_wp2_with fail
    generalize w.alloc (.cells #[.string p.n, .int .i64 p.a, .int .i64 p.b, .int .i64 p.e, .int .i64 p.u] 31) = W0 at *
    refine (F _).mono ?_
    rintro r u1 ⟨rfl, b1⟩
    have c4 := (A0.on b1).cell 4 _ rfl
    have B1 := btr b0 b1
    clear A0 b0 b1 F
    go_wp2_with fail
    go_ret
    exact ⟨rfl, B1⟩
end Go.Proofs.YtcolecidbalmhaaGreatDoor
namespace Go.Proofs.YtcolecidbalmhaaGreatDoor
open Go.RowKit
set_option maxRecDepth 100000
set_option linter.unusedVariables false

theorem pin_keys {p : PinD} (h : p.f = 0) (hn : p.n.size ≤ maxLen) : KeyOk (p.n, p.a) ∧ KeyOk (p.n, p.b) ∧ p.b ≠ p.a := by
  obtain ⟨_, h1, h2, _, _, h5⟩ := pinF_zero h
  have w : ∀ v : Int, 0 ≤ v ∧ v ≤ 2878 → (Lit.int .i64 v).wf = true := fun v hv => by
    simp only [Lit.wf, IntKind.min, IntKind.max, IntKind.signed, IntKind.bits, Bool.and_eq_true, decide_eq_true_eq, if_true]
    omega
  have b1 : 0 ≤ p.a ∧ p.a ≤ 2878 := by simp only [pubB, inB, Bool.and_eq_true, decide_eq_true_eq] at h1; omega
  have b2 : 0 ≤ p.b ∧ p.b ≤ 2878 := by
    unfold bakB at h2
    simp only [Bool.or_eq_true, decide_eq_true_eq] at h2
    rcases h2 with h2 | h2
    · omega
    · simp only [pubB, inB, Bool.and_eq_true, decide_eq_true_eq] at h2; omega
  exact ⟨⟨hn, w _ b1⟩, ⟨hn, w _ b2⟩, h5⟩
theorem pub_key {n : ByteArray} {x : Int} (hn : n.size ≤ maxLen) (h : pubB x = true) : KeyOk (n, x) := by
  refine ⟨hn, ?_⟩
  simp only [pubB, inB, Bool.and_eq_true, decide_eq_true_eq] at h
  simp only [Lit.wf, IntKind.min, IntKind.max, IntKind.signed, IntKind.bits, Bool.and_eq_true, decide_eq_true_eq, if_true]
  omega
/-- The map that holds what the first k pins say. -/
structure ByClaim (w : World) (ps : List PinD) (k : Nat) (wr : World) : Prop where
  map : CMap wr w.heap.size (claimsL (ps.take k))
  bel : Below w.heap.size w wr
theorem claims_apart {ps : List PinD} (h : Rise ps) {k : Nat} (hk : k < ps.length) (x : Int) : ∀ e ∈ claimsL (ps.take k), e.1 ≠ ((ps[k]?.getD pin0).n, x) := by
  intro e he h1
  obtain ⟨q, hq, h2⟩ := claimsL_name he
  have := take_apart h.apart hk q hq
  rw [h1] at h2
  exact this (by unfold PinD.nm; rw [← h2])
theorem claims_next {ps : List PinD} {k : Nat} (hk : k < ps.length) : claimsL (ps.take k) ++ [(((ps[k]?.getD pin0).n, (ps[k]?.getD pin0).a), 3)] ++ [(((ps[k]?.getD pin0).n, (ps[k]?.getD pin0).b), 4)] = claimsL (ps.take (k + 1)) := by
  rw [← take_snoc hk, claimsL_append]
  simp [claimsL]
theorem run_makeMap_claims (n : Int) (w : World) : (Instr.makeMap 276 (some (.int .i64 n))).run Tryz.prog w = .ok (.map (some w.heap.size)) (w.alloc (.map #[] 0)) := by
  simp [Instr.makeMap, run_underlying Tryz.underlying276, asInt, asIntOf]
set_option maxHeartbeats 2000000 in
theorem claimsOf_any (a : Option Addr) (len cap B : Nat) (ps : List PinD) (w : World) (hR : PRow w B a len cap ps) (hB : B ≤ w.heap.size) (hp : pinsF ps = 0) :
    Calls Tryz.prog 221 #[.slice a len cap] w fun e w' => e = .returned (.map (some w.heap.size)) ∧ CMap w' w.heap.size (claimsL ps) ∧ Below w.heap.size w w' := by
  obtain ⟨hl4, hgood, hrise⟩ := pinsF_zero hp
  have hL := Lib.hid hR.length
  have hl : len ≤ 4 := by rw [← hL.out]; exact hl4
  have hmm := fun w => run_makeMap_claims (2 * len) w
  have T0 : ByClaim w ps 0 (w.alloc (.map #[] 0)) := ⟨CMap.new w, bal (Below.refl _ _) _⟩
  clear hp hl4
  go_enter Tryz.func221, Tryz.ntmps221
  go_wp2_with fail
  generalize w.alloc (.map #[] 0) = w1 at *
  go_loopw [12] (fun i wr => ∃ k : Nat, k ≤ len ∧ i = .int .i64 k ∧ ByClaim w ps k wr) (fun i _ => len - (intOf i).toNat)
  case atStart => exact ⟨0, Nat.zero_le _, rfl, T0⟩
  case round =>
    obtain ⟨k, hk, rfl, hT⟩ := hrel
    clear T0
    by_cases hlt : k < len
    · obtain ⟨b, off, hab, hbB, c0, c1, c2, c3, c4⟩ := (hR.below (hT.bel.mono hB)).at' hlt
      subst hab
      have hkp : k < ps.length := by rw [hL.out]; exact hlt
      have hbs := hT.bel.size
      have hlm := hT.map.lt
      obtain ⟨k1, k2, kne⟩ := pin_keys (hgood _ (hR.mem hlt)) (hR.name hlt)
      have ap := claims_apart hrise hkp
      have nx := claims_next hkp
      have hcl := claimsL_length (ps.take k)
      have htk : (ps.take k).length ≤ 4 := by rw [List.length_take]; omega
      have M0 := hT.map.alloc (.cells #[.string (ps[k]?.getD pin0).n, .int .i64 (ps[k]?.getD pin0).a, .int .i64 (ps[k]?.getD pin0).b, .int .i64 (ps[k]?.getD pin0).e, .int .i64 (ps[k]?.getD pin0).u] 31)
      have X0 := At.new wr (ps[k]?.getD pin0).vals 31
      have B0 := bal hT.bel (.cells #[.string (ps[k]?.getD pin0).n, .int .i64 (ps[k]?.getD pin0).a, .int .i64 (ps[k]?.getD pin0).b, .int .i64 (ps[k]?.getD pin0).e, .int .i64 (ps[k]?.getD pin0).u] 31)
      generalize ps[k]?.getD pin0 = p at *
      obtain ⟨w2, run1, M2, tn1⟩ := M0.store (e := ((p.n, p.a), 3)) (by omega) k1 (ap p.a)
      have X2 : At wr.heap.size p.vals w2 := X0.kept tn1.grown (fun e => by injection e with e; omega)
      have B2 := turned_below tn1 B0 (Nat.le_refl _)
      obtain ⟨w3, run2, M3, tn2⟩ := M2.store (e := ((p.n, p.b), 4)) (by simp; omega) k2 (by
        intro q hq
        rcases List.mem_append.1 hq with hq | hq
        · exact ap p.b q hq
        · simp at hq
          subst hq
          intro h
          injection h with _ h
          exact kne h.symm)
      have B3 := turned_below tn2 B2 (Nat.le_refl _)
      rw [nx] at M3
      have T2 := Lib.hid (ByClaim.mk M3 B3)
      have x0 := X2.cell 0 _ rfl
      have x1 := X2.cell 1 _ rfl
      have x2 := X2.cell 2 _ rfl
      have x3 := X2.cell 3 _ rfl
      have x4 := X2.cell 4 _ rfl
      clear M0 M2 M3 X0 X2 B0 B2 B3 tn1 tn2 hT hmm k1 k2 kne ap nx hgood hrise
      dsimp only at run1 run2
      go_wp2_with fail
      go_roundw
      case rel => exact ⟨k + 1, by omega, by go_num, T2.out⟩
      case measure => simp [intOf]; omega
    · obtain rfl : k = len := by omega
      have e : ps.take k = ps := List.take_of_length_le (by rw [hL.out]; omega)
      have HM := Lib.hid (e ▸ hT.map)
      have HB := Lib.hid hT.bel
      clear hT hmm
      go_wp2_with fail
      go_ret
      exact ⟨rfl, HM.out, HB.out⟩
end Go.Proofs.YtcolecidbalmhaaGreatDoor
namespace Go.Proofs.YtcolecidbalmhaaGreatDoor
open Go.RowKit
set_option maxRecDepth 100000
set_option linter.unusedVariables false

theorem implAskFault_any (a1 : Option Addr) (n1 c1 : Nat) (a2 : Option Addr) (n2 c2 B : Nat) (q : AskD) (w : World) (hR : ARow w B a1 n1 c1 a2 n2 c2 q) (hB : B ≤ w.heap.size) :
    Calls Tryz.prog 47 #[A6 a1 n1 c1 a2 n2 c2 q] w fun r w' => r = .returned (.int .i64 (askF q)) ∧ Below w.heap.size w w' := by
  have b0 := bal (Below.refl _ w) (.cells #[.bool q.first, .slice a1 n1 c1, .slice a2 n2 c2, .string q.n, .int .i64 q.p, .int .i64 q.t] 60)
  have A0 : At w.heap.size (A6L a1 n1 c1 a2 n2 c2 q) (w.alloc (.cells #[.bool q.first, .slice a1 n1 c1, .slice a2 n2 c2, .string q.n, .int .i64 q.p, .int .i64 q.t] 60)) := At.new w (A6L a1 n1 c1 a2 n2 c2 q) 60
  have F := implPinsFault_any a1 n1 c1 B q.ps _ (hR.ps.below (b0.mono hB)) (Nat.le_trans hB b0.size)
  have G := fun w => implNameFault_any q.n w hR.nm
  have hl := hR.ts.length
  have hf := hR.ts.fits
  have hm := hR.ts.most
  unfold maxLen at hm
  have P := fun w => implIsPublic_any q.p w
  have Z := fun w => isTime_any q.t w
  clear hR
  obtain ⟨f, ps, ts, n, p, t⟩ := q
  unfold A6L at A0
  dsimp only at *
  by_cases h0 : pinsF ps = 0
  case neg =>
    rw [show askF ⟨f, ps, ts, n, p, t⟩ = pinsF ps from askF_pins h0]
    generalize pinsF ps = c at *
    clear G P Z hl
    have q0 : (c == 0) = false := by simpa using h0
    go_enter Tryz.func47, Tryz.ntmps47
    go_wp2_with fail
    generalize w.alloc (.cells #[.bool f, .slice a1 n1 c1, .slice a2 n2 c2, .string n, .int .i64 p, .int .i64 t] 60) = W0 at *
    refine F.mono ?_
    rintro r u1 ⟨rfl, b1⟩
    have A1 := A0.on b1
    have B1 := btr b0 b1
    have x0 := A1.cell 0 _ rfl
    have x1 := A1.cell 1 _ rfl
    have x2 := A1.cell 2 _ rfl
    have x3 := A1.cell 3 _ rfl
    have x4 := A1.cell 4 _ rfl
    have x5 := A1.cell 5 _ rfl
    clear A0 b0 b1 F
    go_wp2_with fail
    go_ret
    exact ⟨rfl, B1⟩
  rw [h0] at F
  by_cases h1 : 8 < n2
  · rw [show askF ⟨f, ps, ts, n, p, t⟩ = 2 from askF_many h0 (by show 8 < ts.length; omega)]
    have h1' : (8 : Int) < n2 := by omega
    clear G P Z hl h0
    go_enter Tryz.func47, Tryz.ntmps47
    go_wp2_with fail
    generalize w.alloc (.cells #[.bool f, .slice a1 n1 c1, .slice a2 n2 c2, .string n, .int .i64 p, .int .i64 t] 60) = W0 at *
    refine F.mono ?_
    rintro r u1 ⟨rfl, b1⟩
    have A1 := A0.on b1
    have B1 := btr b0 b1
    have x0 := A1.cell 0 _ rfl
    have x1 := A1.cell 1 _ rfl
    have x2 := A1.cell 2 _ rfl
    have x3 := A1.cell 3 _ rfl
    have x4 := A1.cell 4 _ rfl
    have x5 := A1.cell 5 _ rfl
    clear A0 b0 b1 F
    go_wp2_with fail
    go_ret
    exact ⟨rfl, B1⟩
  have h1' : ¬ (8 : Int) < n2 := by omega
  have h1t : ¬ 8 < ts.length := by omega
  by_cases h2 : M.nameF n.data.toList = 0
  case neg =>
    rw [show askF ⟨f, ps, ts, n, p, t⟩ = M.nameF n.data.toList from askF_name h0 h1t h2]
    generalize M.nameF n.data.toList = c at *
    have q0 : (c == 0) = false := by simpa using h2
    clear P Z hl h0 h1t
    go_enter Tryz.func47, Tryz.ntmps47
    go_wp2_with fail
    generalize w.alloc (.cells #[.bool f, .slice a1 n1 c1, .slice a2 n2 c2, .string n, .int .i64 p, .int .i64 t] 60) = W0 at *
    refine F.mono ?_
    rintro r u1 ⟨rfl, b1⟩
    have A1 := A0.on b1
    have B1 := btr b0 b1
    have x0 := A1.cell 0 _ rfl
    have x1 := A1.cell 1 _ rfl
    have x2 := A1.cell 2 _ rfl
    have x3 := A1.cell 3 _ rfl
    have x4 := A1.cell 4 _ rfl
    have x5 := A1.cell 5 _ rfl
    clear A0 b0 b1 F
    go_wp2_with fail
    refine (G _).mono ?_
    rintro r w' ⟨rfl, rfl⟩
    go_wp2_with fail
    go_ret
    exact ⟨rfl, B1⟩
  simp only [h2] at G
  cases h3 : pubB p
  · rw [show askF ⟨f, ps, ts, n, p, t⟩ = 3 from askF_range h0 h1t h2 (by show (pubB p && timB t) = false; rw [h3]; rfl)]
    rw [h3] at P
    clear Z hl h0 h1t h2
    go_enter Tryz.func47, Tryz.ntmps47
    go_wp2_with fail
    generalize w.alloc (.cells #[.bool f, .slice a1 n1 c1, .slice a2 n2 c2, .string n, .int .i64 p, .int .i64 t] 60) = W0 at *
    refine F.mono ?_
    rintro r u1 ⟨rfl, b1⟩
    have A1 := A0.on b1
    have B1 := btr b0 b1
    have x0 := A1.cell 0 _ rfl
    have x1 := A1.cell 1 _ rfl
    have x2 := A1.cell 2 _ rfl
    have x3 := A1.cell 3 _ rfl
    have x4 := A1.cell 4 _ rfl
    have x5 := A1.cell 5 _ rfl
    clear A0 b0 b1 F
    go_wp2_with fail
    refine (G _).mono ?_
    rintro r w' ⟨rfl, rfl⟩
    go_wp2_with fail
    refine (P _).mono ?_
    rintro r u2 ⟨rfl, b2⟩
    have B2 := btr B1 b2
    go_wp2_with fail
    go_ret
    exact ⟨rfl, B2⟩
  rw [h3] at P
  cases h4 : timB t
  · rw [show askF ⟨f, ps, ts, n, p, t⟩ = 3 from askF_range h0 h1t h2 (by show (pubB p && timB t) = false; rw [h4]; simp)]
    rw [h4] at Z
    clear hl h0 h1t h2
    go_enter Tryz.func47, Tryz.ntmps47
    go_wp2_with fail
    generalize w.alloc (.cells #[.bool f, .slice a1 n1 c1, .slice a2 n2 c2, .string n, .int .i64 p, .int .i64 t] 60) = W0 at *
    refine F.mono ?_
    rintro r u1 ⟨rfl, b1⟩
    have A1 := A0.on b1
    have B1 := btr b0 b1
    have x0 := A1.cell 0 _ rfl
    have x1 := A1.cell 1 _ rfl
    have x2 := A1.cell 2 _ rfl
    have x3 := A1.cell 3 _ rfl
    have x4 := A1.cell 4 _ rfl
    have x5 := A1.cell 5 _ rfl
    clear A0 b0 b1 F
    go_wp2_with fail
    refine (G _).mono ?_
    rintro r w' ⟨rfl, rfl⟩
    go_wp2_with fail
    refine (P _).mono ?_
    rintro r u2 ⟨rfl, b2⟩
    have B2 := btr B1 b2
    have A2 := A1.on b2
    clear x0 x1 x2 x3 x4 x5
    have x0 := A2.cell 0 _ rfl
    have x1 := A2.cell 1 _ rfl
    have x2 := A2.cell 2 _ rfl
    have x3 := A2.cell 3 _ rfl
    have x4 := A2.cell 4 _ rfl
    have x5 := A2.cell 5 _ rfl
    go_wp2_with fail
    refine (Z _).mono ?_
    rintro r w' ⟨rfl, rfl⟩
    go_wp2_with fail
    go_ret
    exact ⟨rfl, B2⟩
  · rw [show askF ⟨f, ps, ts, n, p, t⟩ = 0 from askF_yes h0 h1t h2 (by show (pubB p && timB t) = true; rw [h3, h4]; rfl)]
    rw [h4] at Z
    clear hl h0 h1t h2
    go_enter Tryz.func47, Tryz.ntmps47
    go_wp2_with fail
    generalize w.alloc (.cells #[.bool f, .slice a1 n1 c1, .slice a2 n2 c2, .string n, .int .i64 p, .int .i64 t] 60) = W0 at *
    refine F.mono ?_
    rintro r u1 ⟨rfl, b1⟩
    have A1 := A0.on b1
    have B1 := btr b0 b1
    have x0 := A1.cell 0 _ rfl
    have x1 := A1.cell 1 _ rfl
    have x2 := A1.cell 2 _ rfl
    have x3 := A1.cell 3 _ rfl
    have x4 := A1.cell 4 _ rfl
    have x5 := A1.cell 5 _ rfl
    clear A0 b0 b1 F
    go_wp2_with fail
    refine (G _).mono ?_
    rintro r w' ⟨rfl, rfl⟩
    go_wp2_with fail
    refine (P _).mono ?_
    rintro r u2 ⟨rfl, b2⟩
    have B2 := btr B1 b2
    have A2 := A1.on b2
    clear x0 x1 x2 x3 x4 x5
    have x0 := A2.cell 0 _ rfl
    have x1 := A2.cell 1 _ rfl
    have x2 := A2.cell 2 _ rfl
    have x3 := A2.cell 3 _ rfl
    have x4 := A2.cell 4 _ rfl
    have x5 := A2.cell 5 _ rfl
    go_wp2_with fail
    refine (Z _).mono ?_
    rintro r w' ⟨rfl, rfl⟩
    go_wp2_with fail
    go_ret
    exact ⟨rfl, B2⟩
theorem l10Fault_any (g : Nat) (a1 : Option Addr) (n1 c1 : Nat) (a2 : Option Addr) (n2 c2 B : Nat) (q : AskD) (w : World) (A0 : At g (A6L a1 n1 c1 a2 n2 c2 q) w) (hR : ARow w B a1 n1 c1 a2 n2 c2 q) (hB : B ≤ w.heap.size) :
    Calls Tryz.prog 111 #[.pointer (some ⟨g, 0, none⟩)] w fun r w' => r = .returned (.int .i64 (askF q)) ∧ Below w.heap.size w w' := by
  have F := l7Pins_any a1 n1 c1 B q.ps w hR.ps hB
  have G := fun w => l5Fault_any q.n w hR.nm
  have hl := hR.ts.length
  have hf := hR.ts.fits
  have hm := hR.ts.most
  unfold maxLen at hm
  have P := fun w => l1Public_any q.p w
  have Z := fun w => l7Time_any q.t w
  clear hR
  obtain ⟨f, ps, ts, n, p, t⟩ := q
  unfold A6L at A0
  dsimp only at *
  have y0 := A0.cell 0 _ rfl
  have y1 := A0.cell 1 _ rfl
  have y2 := A0.cell 2 _ rfl
  have y3 := A0.cell 3 _ rfl
  have y4 := A0.cell 4 _ rfl
  have y5 := A0.cell 5 _ rfl
  by_cases h0 : pinsF ps = 0
  case neg =>
    rw [show askF ⟨f, ps, ts, n, p, t⟩ = pinsF ps from askF_pins h0]
    generalize pinsF ps = c at *
    clear G P Z hl
    have q0 : (c == 0) = false := by simpa using h0
    have q1 : (c != 0) = true := by simp [h0]
    go_enter Tryz.func111, Tryz.ntmps111
    go_wp2_with fail
    refine F.mono ?_
    rintro r u1 ⟨rfl, b1⟩
    have A1 := A0.on b1
    have x0 := A1.cell 0 _ rfl
    have x1 := A1.cell 1 _ rfl
    have x2 := A1.cell 2 _ rfl
    have x3 := A1.cell 3 _ rfl
    have x4 := A1.cell 4 _ rfl
    have x5 := A1.cell 5 _ rfl
    clear A0 F y0 y1 y2 y3 y4 y5
    go_wp2_with fail
    go_ret
    exact ⟨rfl, b1⟩
  rw [h0] at F
  by_cases h1 : 8 < n2
  · rw [show askF ⟨f, ps, ts, n, p, t⟩ = 2 from askF_many h0 (by show 8 < ts.length; omega)]
    have h1' : (8 : Int) < n2 := by omega
    clear G P Z hl h0
    go_enter Tryz.func111, Tryz.ntmps111
    go_wp2_with fail
    refine F.mono ?_
    rintro r u1 ⟨rfl, b1⟩
    have A1 := A0.on b1
    have x0 := A1.cell 0 _ rfl
    have x1 := A1.cell 1 _ rfl
    have x2 := A1.cell 2 _ rfl
    have x3 := A1.cell 3 _ rfl
    have x4 := A1.cell 4 _ rfl
    have x5 := A1.cell 5 _ rfl
    clear A0 F y0 y1 y2 y3 y4 y5
    go_wp2_with fail
    go_ret
    exact ⟨rfl, b1⟩
  have h1' : ¬ (8 : Int) < n2 := by omega
  have h1t : ¬ 8 < ts.length := by omega
  by_cases h2 : M.nameF n.data.toList = 0
  case neg =>
    rw [show askF ⟨f, ps, ts, n, p, t⟩ = M.nameF n.data.toList from askF_name h0 h1t h2]
    generalize M.nameF n.data.toList = c at *
    have q0 : (c == 0) = false := by simpa using h2
    have q1 : (c != 0) = true := by simp [h2]
    clear P Z hl h0 h1t
    go_enter Tryz.func111, Tryz.ntmps111
    go_wp2_with fail
    refine F.mono ?_
    rintro r u1 ⟨rfl, b1⟩
    have A1 := A0.on b1
    have x0 := A1.cell 0 _ rfl
    have x1 := A1.cell 1 _ rfl
    have x2 := A1.cell 2 _ rfl
    have x3 := A1.cell 3 _ rfl
    have x4 := A1.cell 4 _ rfl
    have x5 := A1.cell 5 _ rfl
    clear A0 F y0 y1 y2 y3 y4 y5
    go_wp2_with fail
    refine (G _).mono ?_
    rintro r u2 ⟨rfl, b2⟩
    have A2 := A1.on b2
    have B2 := btr b1 b2
    clear A1 b1 b2 x0 x1 x2 x3 x4 x5
    have x0 := A2.cell 0 _ rfl
    have x1 := A2.cell 1 _ rfl
    have x2 := A2.cell 2 _ rfl
    have x3 := A2.cell 3 _ rfl
    have x4 := A2.cell 4 _ rfl
    have x5 := A2.cell 5 _ rfl
    go_wp2_with fail
    go_ret
    exact ⟨rfl, B2⟩
  simp only [h2] at G
  cases h3 : pubB p
  · rw [show askF ⟨f, ps, ts, n, p, t⟩ = 3 from askF_range h0 h1t h2 (by show (pubB p && timB t) = false; rw [h3]; rfl)]
    rw [h3] at P
    clear Z hl h0 h1t h2
    go_enter Tryz.func111, Tryz.ntmps111
    go_wp2_with fail
    refine F.mono ?_
    rintro r u1 ⟨rfl, b1⟩
    have A1 := A0.on b1
    have x0 := A1.cell 0 _ rfl
    have x1 := A1.cell 1 _ rfl
    have x2 := A1.cell 2 _ rfl
    have x3 := A1.cell 3 _ rfl
    have x4 := A1.cell 4 _ rfl
    have x5 := A1.cell 5 _ rfl
    clear A0 F y0 y1 y2 y3 y4 y5
    go_wp2_with fail
    refine (G _).mono ?_
    rintro r u2 ⟨rfl, b2⟩
    have A2 := A1.on b2
    have B2 := btr b1 b2
    clear A1 b1 b2 x0 x1 x2 x3 x4 x5
    have x0 := A2.cell 0 _ rfl
    have x1 := A2.cell 1 _ rfl
    have x2 := A2.cell 2 _ rfl
    have x3 := A2.cell 3 _ rfl
    have x4 := A2.cell 4 _ rfl
    have x5 := A2.cell 5 _ rfl
    go_wp2_with fail
    refine (P _).mono ?_
    rintro r w' ⟨rfl, rfl⟩
    go_wp2_with fail
    go_ret
    exact ⟨rfl, B2⟩
  rw [h3] at P
  cases h4 : timB t
  · rw [show askF ⟨f, ps, ts, n, p, t⟩ = 3 from askF_range h0 h1t h2 (by show (pubB p && timB t) = false; rw [h4]; simp)]
    rw [h4] at Z
    clear hl h0 h1t h2
    go_enter Tryz.func111, Tryz.ntmps111
    go_wp2_with fail
    refine F.mono ?_
    rintro r u1 ⟨rfl, b1⟩
    have A1 := A0.on b1
    have x0 := A1.cell 0 _ rfl
    have x1 := A1.cell 1 _ rfl
    have x2 := A1.cell 2 _ rfl
    have x3 := A1.cell 3 _ rfl
    have x4 := A1.cell 4 _ rfl
    have x5 := A1.cell 5 _ rfl
    clear A0 F y0 y1 y2 y3 y4 y5
    go_wp2_with fail
    refine (G _).mono ?_
    rintro r u2 ⟨rfl, b2⟩
    have A2 := A1.on b2
    have B2 := btr b1 b2
    clear A1 b1 b2 x0 x1 x2 x3 x4 x5
    have x0 := A2.cell 0 _ rfl
    have x1 := A2.cell 1 _ rfl
    have x2 := A2.cell 2 _ rfl
    have x3 := A2.cell 3 _ rfl
    have x4 := A2.cell 4 _ rfl
    have x5 := A2.cell 5 _ rfl
    go_wp2_with fail
    refine (P _).mono ?_
    rintro r w' ⟨rfl, rfl⟩
    go_wp2_with fail
    refine (Z _).mono ?_
    rintro r w' ⟨rfl, rfl⟩
    go_wp2_with fail
    go_ret
    exact ⟨rfl, B2⟩
  · rw [show askF ⟨f, ps, ts, n, p, t⟩ = 0 from askF_yes h0 h1t h2 (by show (pubB p && timB t) = true; rw [h3, h4]; rfl)]
    rw [h4] at Z
    clear hl h0 h1t h2
    go_enter Tryz.func111, Tryz.ntmps111
    go_wp2_with fail
    refine F.mono ?_
    rintro r u1 ⟨rfl, b1⟩
    have A1 := A0.on b1
    have x0 := A1.cell 0 _ rfl
    have x1 := A1.cell 1 _ rfl
    have x2 := A1.cell 2 _ rfl
    have x3 := A1.cell 3 _ rfl
    have x4 := A1.cell 4 _ rfl
    have x5 := A1.cell 5 _ rfl
    clear A0 F y0 y1 y2 y3 y4 y5
    go_wp2_with fail
    refine (G _).mono ?_
    rintro r u2 ⟨rfl, b2⟩
    have A2 := A1.on b2
    have B2 := btr b1 b2
    clear A1 b1 b2 x0 x1 x2 x3 x4 x5
    have x0 := A2.cell 0 _ rfl
    have x1 := A2.cell 1 _ rfl
    have x2 := A2.cell 2 _ rfl
    have x3 := A2.cell 3 _ rfl
    have x4 := A2.cell 4 _ rfl
    have x5 := A2.cell 5 _ rfl
    go_wp2_with fail
    refine (P _).mono ?_
    rintro r w' ⟨rfl, rfl⟩
    go_wp2_with fail
    refine (Z _).mono ?_
    rintro r w' ⟨rfl, rfl⟩
    go_wp2_with fail
    go_ret
    exact ⟨rfl, B2⟩
end Go.Proofs.YtcolecidbalmhaaGreatDoor
namespace Go.Proofs.YtcolecidbalmhaaGreatDoor
open Go.RowKit
set_option maxRecDepth 100000
set_option linter.unusedVariables false

theorem pub_sum {p : Int} (h : pubB p = true) : M.sumB p = true := by
  simp only [pubB, inB, Bool.and_eq_true, decide_eq_true_eq] at h
  simp only [M.sumB, decide_eq_true_eq]
  omega
theorem publicSum_any (p : Int) (w : World) (lab : Labels w) (hp : M.sumB p = true) :
    Calls Tryz.prog 179 #[.int .i64 p] w fun r w' => r = .returned (.int .i64 (M.tagL M.spkiS [p])) ∧ Below w.heap.size w w' := by
  have hlab := lab.spkiW
  have hlt := lab.lt
  have hR := row_one0 (w := w) p 2 hp
  have HA := Lib.hid (show [p].all M.sumB = true by simp [hp])
  obtain ⟨t0, t1⟩ := M.tagL_bd M.spkiS [p]
  clear lab hp
  go_enter Tryz.func179, Tryz.ntmps179
  go_wp2_with fail
  refine (sumTagged_any _ _ _ _ _ _ _ (by decide) hR (by simp) HA.out (by omega)).mono ?_
  rintro r w2 ⟨rfl, hb2⟩
  have hb := btr (bal (Below.refl _ _) _) hb2
  clear hb2 hR hlab HA
  go_wp2_with fail
  go_ret
  exact ⟨rfl, hb⟩
theorem l5Value_any (p m : Int) (w : World) (hp : M.sumB p = true) :
    Calls Tryz.prog 225 #[.int .i64 p, .int .i64 m] w fun r w' => r = .returned (.int .i64 (M.valM p m)) ∧ Below w.heap.size w w' := by
  by_cases hm : m = 1
  · subst hm
    have e : M.valM p 1 = M.tagL M.spkiS [p] := rfl
    rw [e]
    have hR := row_one0 (w := w) p 2 hp
    have HA := Lib.hid (show [p].all M.sumB = true by simp [hp])
    go_enter Tryz.func225, Tryz.ntmps225
    go_wp2_with fail
    refine (l2Tag_any M.spkiS _ _ _ _ _ _ (by decide) hR (by simp) HA.out (by omega)).mono ?_
    rintro r w2 ⟨rfl, hb2⟩
    have hb := btr (bal (Below.refl _ _) _) hb2
    clear hb2 hR HA
    go_wp2_with fail
    go_ret
    exact ⟨rfl, hb⟩
  · have e : M.valM p m = p := by simp [M.valM, hm]
    rw [e]
    have q : (m == 1) = false := by simpa using hm
    go_enter Tryz.func225, Tryz.ntmps225
    go_wp2_with fail
    go_ret
    exact ⟨rfl, Below.refl _ _⟩

abbrev forT (l : List UInt8) (p m : Int) : Value := T5 (M.forC l (pubB p) m) (M.bs (M.forN l (pubB p) m)) (M.forU l (pubB p) m) (M.forM l (pubB p) m) (M.forV l (pubB p) p m)
theorem forT_no {l : List UInt8} {p m : Int} (h : ¬ M.forC l (pubB p) m = 0) : forT l p m = T5 (M.forC l (pubB p) m) { data := #[] } 0 0 0 := by
  simp [forT, M.forN, M.forU, M.forM, M.forV, h, M.bs]
theorem forT_yes {l : List UInt8} {p m : Int} (h : M.forC l (pubB p) m = 0) : forT l p m = T5 0 (M.bs (M.nrm l)) 3 m (M.valM p m) := by
  simp [forT, M.forN, M.forU, M.forM, M.forV, h]

theorem implTlsaFor_any (s : ByteArray) (p m : Int) (w : World) (lab : Labels w) (hs : s.size ≤ maxLen) :
    Calls Tryz.prog 115 #[.string s, .int .i64 p, .int .i64 m] w fun e w' => e = .returned (forT s.data.toList p m) ∧ Below w.heap.size w w' := by
  have hL : s.data.toList.length = s.size := by simp
  have b0 := bal (Below.refl _ w) (.cells #[.int .i64 0, .string { data := #[] }, .int .i64 0, .int .i64 0, .int .i64 0] 162)
  have A0 := At.new w (TL5 0 { data := #[] } 0 0 0) 162
  have L0 := lab.on b0
  have F := fun w => implNameFault_any s w hs
  by_cases h0 : M.nameF s.data.toList = 0
  · obtain ⟨h20, hm⟩ := M.nameF_zero h0
    rw [hL] at h20
    simp only [h0] at F
    have P1 := fun w => implIsPublic_any p w
    cases hp : pubB p
    · have e := M.forC_no (m := m) (pb := pubB p) h0 (by rw [hp]; rfl)
      rw [forT_no (by rw [e]; omega), e]
      rw [hp] at P1
      clear h0 hm e hL
      go_enter Tryz.func115, Tryz.ntmps115
      go_wp2_with fail
      generalize w.alloc (.cells #[.int .i64 0, .string { data := #[] }, .int .i64 0, .int .i64 0, .int .i64 0] 162) = W0 at *
      refine (F _).mono ?_
      rintro r u1 ⟨rfl, rfl⟩
      go_wp2_with fail
      refine (P1 _).mono ?_
      rintro r u2 ⟨rfl, b2⟩
      have p0 := (A0.on b2).cell 0 _ rfl
      have p1 := (A0.on b2).cell 1 _ rfl
      have p2 := (A0.on b2).cell 2 _ rfl
      have p3 := (A0.on b2).cell 3 _ rfl
      have p4 := (A0.on b2).cell 4 _ rfl
      have z0 := (A0.on b2).free 0 _ rfl
      have z1 := (A0.on b2).free 1 _ rfl
      have z2 := (A0.on b2).free 2 _ rfl
      have z3 := (A0.on b2).free 3 _ rfl
      have z4 := (A0.on b2).free 4 _ rfl
      have B3 := btr b0 b2
      clear A0 F
      go_wp2_with fail
      refine bodyPost_ret (v := T5 3 { data := #[] } 0 0 0) (by simp [results, Tryz.results115, go_sem, p0, p1, p2, p3, p4]) rfl ⟨rfl, ?_⟩
      exact (by (iterate 5 (refine bset ?_ (by dsimp only; omega) _)); exact B3)
    rw [hp] at P1
    cases hq : M.matB m
    · have e := M.forC_no (m := m) (pb := pubB p) h0 (by rw [hq, Bool.and_false])
      rw [forT_no (by rw [e]; omega), e]
      clear h0 hm e hL
      go_enter Tryz.func115, Tryz.ntmps115
      go_wp2_with fail
      generalize w.alloc (.cells #[.int .i64 0, .string { data := #[] }, .int .i64 0, .int .i64 0, .int .i64 0] 162) = W0 at *
      refine (F _).mono ?_
      rintro r u1 ⟨rfl, rfl⟩
      go_wp2_with fail
      refine (P1 _).mono ?_
      rintro r u2 ⟨rfl, b2⟩
      go_wp2_with fail
      refine (isMatch_any _ _).mono ?_
      rintro r w' ⟨rfl, rfl⟩
      have p0 := (A0.on b2).cell 0 _ rfl
      have p1 := (A0.on b2).cell 1 _ rfl
      have p2 := (A0.on b2).cell 2 _ rfl
      have p3 := (A0.on b2).cell 3 _ rfl
      have p4 := (A0.on b2).cell 4 _ rfl
      have z0 := (A0.on b2).free 0 _ rfl
      have z1 := (A0.on b2).free 1 _ rfl
      have z2 := (A0.on b2).free 2 _ rfl
      have z3 := (A0.on b2).free 3 _ rfl
      have z4 := (A0.on b2).free 4 _ rfl
      have B3 := btr b0 b2
      clear A0 F
      go_wp2_with fail
      refine bodyPost_ret (v := T5 3 { data := #[] } 0 0 0) (by simp [results, Tryz.results115, go_sem, p0, p1, p2, p3, p4]) rfl ⟨rfl, ?_⟩
      exact (by (iterate 5 (refine bset ?_ (by dsimp only; omega) _)); exact B3)
    have e := M.forC_yes (m := m) (pb := pubB p) h0 (by rw [hp, hq]; rfl)
    rw [forT_yes e]
    have N := fun w : World => normalText_any s w h20 hm
    have S1 := pub_sum hp
    generalize M.bs (M.nrm s.data.toList) = R at *
    rcases M.matB_cases hq with rfl | rfl
    · rw [show M.valM p 0 = p from rfl]
      clear h0 hm e hL
      go_enter Tryz.func115, Tryz.ntmps115
      go_wp2_with fail
      generalize w.alloc (.cells #[.int .i64 0, .string { data := #[] }, .int .i64 0, .int .i64 0, .int .i64 0] 162) = W0 at *
      refine (F _).mono ?_
      rintro r u1 ⟨rfl, rfl⟩
      go_wp2_with fail
      refine (P1 _).mono ?_
      rintro r u2 ⟨rfl, b2⟩
      go_wp2_with fail
      refine (isMatch_any _ _).mono ?_
      rintro r w' ⟨rfl, rfl⟩
      go_wp2_with fail
      refine (N _).mono ?_
      rintro r u3 ⟨rfl, b3⟩
      have b4 := btr b2 b3
      have p0 := (A0.on b4).cell 0 _ rfl
      have p1 := (A0.on b4).cell 1 _ rfl
      have p2 := (A0.on b4).cell 2 _ rfl
      have p3 := (A0.on b4).cell 3 _ rfl
      have p4 := (A0.on b4).cell 4 _ rfl
      have z0 := (A0.on b4).free 0 _ rfl
      have z1 := (A0.on b4).free 1 _ rfl
      have z2 := (A0.on b4).free 2 _ rfl
      have z3 := (A0.on b4).free 3 _ rfl
      have z4 := (A0.on b4).free 4 _ rfl
      have B3 := btr b0 b4
      clear A0 F N b3 b4
      go_wp2_with fail
      refine bodyPost_ret (v := T5 0 R 3 0 p) (by simp [results, Tryz.results115, go_sem, p0, p1, p2, p3, p4]) rfl ⟨rfl, ?_⟩
      exact (by (iterate 5 (refine bset ?_ (by dsimp only; omega) _)); exact B3)
    · rw [show M.valM p 1 = M.tagL M.spkiS [p] from rfl]
      have V := fun w lab => publicSum_any p w lab S1
      generalize M.tagL M.spkiS [p] = x at *
      clear h0 hm e hL
      go_enter Tryz.func115, Tryz.ntmps115
      go_wp2_with fail
      generalize w.alloc (.cells #[.int .i64 0, .string { data := #[] }, .int .i64 0, .int .i64 0, .int .i64 0] 162) = W0 at *
      refine (F _).mono ?_
      rintro r u1 ⟨rfl, rfl⟩
      go_wp2_with fail
      refine (P1 _).mono ?_
      rintro r u2 ⟨rfl, b2⟩
      go_wp2_with fail
      refine (isMatch_any _ _).mono ?_
      rintro r w' ⟨rfl, rfl⟩
      go_wp2_with fail
      refine (V _ (L0.on b2)).mono ?_
      rintro r u4 ⟨rfl, b5⟩
      have b6 := btr b2 b5
      go_wp2_with fail
      refine (N _).mono ?_
      rintro r u3 ⟨rfl, b3⟩
      have b4 := btr b6 b3
      have p0 := (A0.on b4).cell 0 _ rfl
      have p1 := (A0.on b4).cell 1 _ rfl
      have p2 := (A0.on b4).cell 2 _ rfl
      have p3 := (A0.on b4).cell 3 _ rfl
      have p4 := (A0.on b4).cell 4 _ rfl
      have z0 := (A0.on b4).free 0 _ rfl
      have z1 := (A0.on b4).free 1 _ rfl
      have z2 := (A0.on b4).free 2 _ rfl
      have z3 := (A0.on b4).free 3 _ rfl
      have z4 := (A0.on b4).free 4 _ rfl
      have B3 := btr b0 b4
      clear A0 F N b3 b4
      go_wp2_with fail
      refine bodyPost_ret (v := T5 0 R 3 1 x) (by simp [results, Tryz.results115, go_sem, p0, p1, p2, p3, p4]) rfl ⟨rfl, ?_⟩
      exact (by (iterate 5 (refine bset ?_ (by dsimp only; omega) _)); exact B3)
  · have e := M.forC_name (m := m) (pb := pubB p) h0
    rw [forT_no (by rw [e]; exact h0), e]
    generalize M.nameF s.data.toList = c at *
    clear e
    go_enter Tryz.func115, Tryz.ntmps115
    go_wp2_with fail
    generalize w.alloc (.cells #[.int .i64 0, .string { data := #[] }, .int .i64 0, .int .i64 0, .int .i64 0] 162) = W0 at *
    refine (F _).mono ?_
    rintro r u1 ⟨rfl, rfl⟩
    have p0 := A0.cell 0 _ rfl
    have p1 := A0.cell 1 _ rfl
    have p2 := A0.cell 2 _ rfl
    have p3 := A0.cell 3 _ rfl
    have p4 := A0.cell 4 _ rfl
    have z0 := A0.free 0 _ rfl
    have z1 := A0.free 1 _ rfl
    have z2 := A0.free 2 _ rfl
    have z3 := A0.free 3 _ rfl
    have z4 := A0.free 4 _ rfl
    have B3 := b0
    clear A0 F
    go_wp2_with fail
    refine bodyPost_ret (v := T5 c { data := #[] } 0 0 0) (by simp [results, Tryz.results115, go_sem, p0, p1, p2, p3, p4]) rfl ⟨rfl, ?_⟩
    exact (by (iterate 5 (refine bset ?_ (by dsimp only; omega) _)); exact B3)
end Go.Proofs.YtcolecidbalmhaaGreatDoor
namespace Go.Proofs.YtcolecidbalmhaaGreatDoor
open Go.RowKit
set_option maxRecDepth 100000
set_option linter.unusedVariables false

theorem l5Tlsa_cells (g o : Nat) (n : ByteArray) (u m v : Int) (w : World) (hn : n.size ≤ maxLen)
    (d0 : w.cell? ⟨g, o, none⟩ = some (.string n)) (d1 : w.cell? ⟨g, o + 1, none⟩ = some (.int .i64 u)) (d2 : w.cell? ⟨g, o + 2, none⟩ = some (.int .i64 m)) (d3 : w.cell? ⟨g, o + 3, none⟩ = some (.int .i64 v)) :
    Calls Tryz.prog 175 #[.pointer (some ⟨g, o, none⟩)] w fun e w' => e = .returned (.int .i64 (M.tlsaF n.data.toList u m v)) ∧ Below w.heap.size w w' := by
  have hL : n.data.toList.length = n.size := by simp
  have F := fun w => l5Fault_any n w hn
  by_cases h0 : M.nameF n.data.toList = 0
  · obtain ⟨h20, hm⟩ := M.nameF_zero h0
    rw [hL] at h20
    have N := fun w : World => l5Normal_any n w h20
    have Q := text_beq (M.bs (M.nrm n.data.toList)) n
    rw [M.bs_list] at Q
    rw [h0] at F
    by_cases hq : M.nrm n.data.toList = n.data.toList
    · have h1 := M.normF_yes h0 hq
      rw [decide_eq_true hq] at Q
      generalize M.bs (M.nrm n.data.toList) = R at *
      clear h0 hm hq hL
      cases hu : M.useB u
      · rw [M.tlsaF_no h1 (by rw [M.tlsaB_eq, hu]; rfl)]
        go_enter Tryz.func175, Tryz.ntmps175
        go_wp2_with fail
        refine (F _).mono ?_
        rintro r u1 ⟨rfl, b1⟩
        have p0 := cell_keep b1 d0
        go_wp2_with fail
        refine wp_region_line (Bel u1) [(0, true), (1, true), (2, true), (3, true), (5, true), (6, true), (7, true), (8, true), (4, false), (9, true)] (by kernel_rfl) (by kernel_rfl) (fun _ _ d _ _ h => by cases d <;> exact h) (Bel.drew u1) ?_
        have hst := Bel.drew u1
        have inst : Nonempty (Of (Bel u1)) := ⟨⟨_, hst⟩⟩
        have q0 := bel_cell p0
        iterate 8 (refine line_read rfl (by kernel_rfl) (fun K hK => ?_); go_big_quiet_op; refine hK _ ?_; clear hK K)
        refine line_alone rfl (by kernel_rfl) (fun K hK => ?_)
        refine call_wp (args := #[.string n]) rfl (by kernel_rfl) (by kernel_rfl) (N _) (fun wn hbn => ?_)
        have hst2 := hst.on hbn
        refine hK _ _ hst2 ?_
        clear hK K hst hbn
        have hst := hst2
        clear hst2
        simp only [Act.put, List.setIfInBounds_toArray, List.set_cons_zero, List.set_cons_succ]
        iterate 1 (refine line_read rfl (by kernel_rfl) (fun K hK => ?_); go_big_quiet_op; refine hK _ ?_; clear hK K)
        refine line_nil ?_
        have bb := btr b1 hst.out
        have y1 := cell_keep bb d1
        have y2 := cell_keep bb d2
        have y3 := cell_keep bb d3
        clear hst inst q0 p0 b1 F N d0 d1 d2 d3
        go_wp2_with fail
        refine (l1In_use _ _).mono ?_
        rintro r w' ⟨rfl, rfl⟩
        go_wp2_with fail
        go_ret
        exact ⟨rfl, bb⟩
      cases hm : M.matB m
      · rw [M.tlsaF_no h1 (by rw [M.tlsaB_eq, hm]; simp)]
        go_enter Tryz.func175, Tryz.ntmps175
        go_wp2_with fail
        refine (F _).mono ?_
        rintro r u1 ⟨rfl, b1⟩
        have p0 := cell_keep b1 d0
        go_wp2_with fail
        refine wp_region_line (Bel u1) [(0, true), (1, true), (2, true), (3, true), (5, true), (6, true), (7, true), (8, true), (4, false), (9, true)] (by kernel_rfl) (by kernel_rfl) (fun _ _ d _ _ h => by cases d <;> exact h) (Bel.drew u1) ?_
        have hst := Bel.drew u1
        have inst : Nonempty (Of (Bel u1)) := ⟨⟨_, hst⟩⟩
        have q0 := bel_cell p0
        iterate 8 (refine line_read rfl (by kernel_rfl) (fun K hK => ?_); go_big_quiet_op; refine hK _ ?_; clear hK K)
        refine line_alone rfl (by kernel_rfl) (fun K hK => ?_)
        refine call_wp (args := #[.string n]) rfl (by kernel_rfl) (by kernel_rfl) (N _) (fun wn hbn => ?_)
        have hst2 := hst.on hbn
        refine hK _ _ hst2 ?_
        clear hK K hst hbn
        have hst := hst2
        clear hst2
        simp only [Act.put, List.setIfInBounds_toArray, List.set_cons_zero, List.set_cons_succ]
        iterate 1 (refine line_read rfl (by kernel_rfl) (fun K hK => ?_); go_big_quiet_op; refine hK _ ?_; clear hK K)
        refine line_nil ?_
        have bb := btr b1 hst.out
        have y1 := cell_keep bb d1
        have y2 := cell_keep bb d2
        have y3 := cell_keep bb d3
        clear hst inst q0 p0 b1 F N d0 d1 d2 d3
        go_wp2_with fail
        refine (l1In_use _ _).mono ?_
        rintro r w' ⟨rfl, rfl⟩
        go_wp2_with fail
        refine (l1In_mat _ _).mono ?_
        rintro r w' ⟨rfl, rfl⟩
        go_wp2_with fail
        go_ret
        exact ⟨rfl, bb⟩
      cases hv : M.sumB v
      · rw [M.tlsaF_no h1 (by rw [M.tlsaB_eq, hv]; simp)]
        go_enter Tryz.func175, Tryz.ntmps175
        go_wp2_with fail
        refine (F _).mono ?_
        rintro r u1 ⟨rfl, b1⟩
        have p0 := cell_keep b1 d0
        go_wp2_with fail
        refine wp_region_line (Bel u1) [(0, true), (1, true), (2, true), (3, true), (5, true), (6, true), (7, true), (8, true), (4, false), (9, true)] (by kernel_rfl) (by kernel_rfl) (fun _ _ d _ _ h => by cases d <;> exact h) (Bel.drew u1) ?_
        have hst := Bel.drew u1
        have inst : Nonempty (Of (Bel u1)) := ⟨⟨_, hst⟩⟩
        have q0 := bel_cell p0
        iterate 8 (refine line_read rfl (by kernel_rfl) (fun K hK => ?_); go_big_quiet_op; refine hK _ ?_; clear hK K)
        refine line_alone rfl (by kernel_rfl) (fun K hK => ?_)
        refine call_wp (args := #[.string n]) rfl (by kernel_rfl) (by kernel_rfl) (N _) (fun wn hbn => ?_)
        have hst2 := hst.on hbn
        refine hK _ _ hst2 ?_
        clear hK K hst hbn
        have hst := hst2
        clear hst2
        simp only [Act.put, List.setIfInBounds_toArray, List.set_cons_zero, List.set_cons_succ]
        iterate 1 (refine line_read rfl (by kernel_rfl) (fun K hK => ?_); go_big_quiet_op; refine hK _ ?_; clear hK K)
        refine line_nil ?_
        have bb := btr b1 hst.out
        have y1 := cell_keep bb d1
        have y2 := cell_keep bb d2
        have y3 := cell_keep bb d3
        clear hst inst q0 p0 b1 F N d0 d1 d2 d3
        go_wp2_with fail
        refine (l1In_use _ _).mono ?_
        rintro r w' ⟨rfl, rfl⟩
        go_wp2_with fail
        refine (l1In_mat _ _).mono ?_
        rintro r w' ⟨rfl, rfl⟩
        go_wp2_with fail
        refine (l2Is_any _ _).mono ?_
        rintro r w' ⟨rfl, rfl⟩
        go_wp2_with fail
        go_ret
        exact ⟨rfl, bb⟩
      · rw [M.tlsaF_yes h1 (by rw [M.tlsaB_eq, hu, hm, hv]; rfl)]
        go_enter Tryz.func175, Tryz.ntmps175
        go_wp2_with fail
        refine (F _).mono ?_
        rintro r u1 ⟨rfl, b1⟩
        have p0 := cell_keep b1 d0
        go_wp2_with fail
        refine wp_region_line (Bel u1) [(0, true), (1, true), (2, true), (3, true), (5, true), (6, true), (7, true), (8, true), (4, false), (9, true)] (by kernel_rfl) (by kernel_rfl) (fun _ _ d _ _ h => by cases d <;> exact h) (Bel.drew u1) ?_
        have hst := Bel.drew u1
        have inst : Nonempty (Of (Bel u1)) := ⟨⟨_, hst⟩⟩
        have q0 := bel_cell p0
        iterate 8 (refine line_read rfl (by kernel_rfl) (fun K hK => ?_); go_big_quiet_op; refine hK _ ?_; clear hK K)
        refine line_alone rfl (by kernel_rfl) (fun K hK => ?_)
        refine call_wp (args := #[.string n]) rfl (by kernel_rfl) (by kernel_rfl) (N _) (fun wn hbn => ?_)
        have hst2 := hst.on hbn
        refine hK _ _ hst2 ?_
        clear hK K hst hbn
        have hst := hst2
        clear hst2
        simp only [Act.put, List.setIfInBounds_toArray, List.set_cons_zero, List.set_cons_succ]
        iterate 1 (refine line_read rfl (by kernel_rfl) (fun K hK => ?_); go_big_quiet_op; refine hK _ ?_; clear hK K)
        refine line_nil ?_
        have bb := btr b1 hst.out
        have y1 := cell_keep bb d1
        have y2 := cell_keep bb d2
        have y3 := cell_keep bb d3
        clear hst inst q0 p0 b1 F N d0 d1 d2 d3
        go_wp2_with fail
        refine (l1In_use _ _).mono ?_
        rintro r w' ⟨rfl, rfl⟩
        go_wp2_with fail
        refine (l1In_mat _ _).mono ?_
        rintro r w' ⟨rfl, rfl⟩
        go_wp2_with fail
        refine (l2Is_any _ _).mono ?_
        rintro r w' ⟨rfl, rfl⟩
        go_wp2_with fail
        go_ret
        exact ⟨rfl, bb⟩
    · have h1 := M.normF_form h0 hq
      rw [decide_eq_false hq] at Q
      rw [M.tlsaF_norm (by rw [h1]; omega), h1]
      generalize M.bs (M.nrm n.data.toList) = R at *
      clear h0 hm hq hL h1
      go_enter Tryz.func175, Tryz.ntmps175
      go_wp2_with fail
      refine (F _).mono ?_
      rintro r u1 ⟨rfl, b1⟩
      have p0 := cell_keep b1 d0
      go_wp2_with fail
      refine wp_region_line (Bel u1) [(0, true), (1, true), (2, true), (3, true), (5, true), (6, true), (7, true), (8, true), (4, false), (9, true)] (by kernel_rfl) (by kernel_rfl) (fun _ _ d _ _ h => by cases d <;> exact h) (Bel.drew u1) ?_
      have hst := Bel.drew u1
      have inst : Nonempty (Of (Bel u1)) := ⟨⟨_, hst⟩⟩
      have q0 := bel_cell p0
      iterate 8 (refine line_read rfl (by kernel_rfl) (fun K hK => ?_); go_big_quiet_op; refine hK _ ?_; clear hK K)
      refine line_alone rfl (by kernel_rfl) (fun K hK => ?_)
      refine call_wp (args := #[.string n]) rfl (by kernel_rfl) (by kernel_rfl) (N _) (fun wn hbn => ?_)
      have hst2 := hst.on hbn
      refine hK _ _ hst2 ?_
      clear hK K hst hbn
      have hst := hst2
      clear hst2
      simp only [Act.put, List.setIfInBounds_toArray, List.set_cons_zero, List.set_cons_succ]
      iterate 1 (refine line_read rfl (by kernel_rfl) (fun K hK => ?_); go_big_quiet_op; refine hK _ ?_; clear hK K)
      refine line_nil ?_
      have bb := btr b1 hst.out
      have y1 := cell_keep bb d1
      have y2 := cell_keep bb d2
      have y3 := cell_keep bb d3
      clear hst inst q0 p0 b1 F N d0 d1 d2 d3
      go_wp2_with fail
      go_ret
      exact ⟨rfl, bb⟩
  · have h1 := M.normF_no h0
    rw [M.tlsaF_norm (by rw [h1]; exact h0), h1]
    clear h1
    generalize M.nameF n.data.toList = c at *
    go_enter Tryz.func175, Tryz.ntmps175
    go_wp2_with fail
    refine (F _).mono ?_
    rintro r u1 ⟨rfl, b1⟩
    go_wp2_with fail
    go_ret
    exact ⟨rfl, b1⟩
theorem l5Tlsa_at (g o : Nat) (q : TlsaD) (w : World) (hn : q.n.size ≤ maxLen)
    (d0 : w.cell? ⟨g, o, none⟩ = some (.string q.n)) (d1 : w.cell? ⟨g, o + 1, none⟩ = some (.int .i64 q.u)) (d2 : w.cell? ⟨g, o + 2, none⟩ = some (.int .i64 q.m)) (d3 : w.cell? ⟨g, o + 3, none⟩ = some (.int .i64 q.v)) :
    Calls Tryz.prog 175 #[.pointer (some ⟨g, o, none⟩)] w fun e w' => e = .returned (.int .i64 q.f) ∧ Below w.heap.size w w' := l5Tlsa_cells g o q.n q.u q.m q.v w hn d0 d1 d2 d3
theorem src_new4 {P : Program} (w : World) (p : TlsaD) (t tx e' : TypeId) (hk : P.underlying tx = some (.slice e')) :
    Go.Src P 4 tx (.slice (some ⟨w.heap.size, 0, none⟩) 1 1) 1 p.vals (w.alloc (.cells #[.string p.n, .int .i64 p.u, .int .i64 p.m, .int .i64 p.v] t)) := by
  refine Go.Src.ofSlice _ hk _ _ _ _ rfl (fun j u hu => ?_) p.oneCell
  have A : At w.heap.size p.vals (w.alloc (.cells #[.string p.n, .int .i64 p.u, .int .i64 p.m, .int .i64 p.v] t)) := At.new w p.vals t
  rw [Addr.add_lit, Nat.zero_add]
  exact A.cell j u hu
theorem usable_skip {l : List UInt8} {ts : List TlsaD} {k : Nat} (hk : k < ts.length) (h : useT l (ts[k]?.getD tls0) = false) : usable l (ts.take (k + 1)) = usable l (ts.take k) := by rw [usable_next hk, h]; simp
theorem usable_take {l : List UInt8} {ts : List TlsaD} {k : Nat} (hk : k < ts.length) (h : useT l (ts[k]?.getD tls0) = true) : usable l (ts.take (k + 1)) = usable l (ts.take k) ++ [ts[k]?.getD tls0] := by rw [usable_next hk, h]; rfl
theorem useT_f {l : List UInt8} {q : TlsaD} (h : q.f ≠ 0) : useT l q = false := by unfold useT; rw [decide_eq_false h]; rfl
theorem useT_u {l : List UInt8} {q : TlsaD} (h : q.u ≠ 3) : useT l q = false := by unfold useT; rw [decide_eq_false h]; simp
theorem useT_n {l : List UInt8} {q : TlsaD} (h : q.nm ≠ l) : useT l q = false := by unfold useT; rw [decide_eq_false h]; simp
theorem useT_yes {l : List UInt8} {q : TlsaD} (h : q.f = 0) (h1 : q.u = 3) (h2 : q.nm = l) : useT l q = true := by unfold useT; rw [decide_eq_true h, decide_eq_true h1, decide_eq_true h2]; rfl
/-- What has been taken so far; the block of a result, where there is one. -/
structure UseR (W : World) (lo : Nat) (Z : Option Nat) (us : List TlsaD) (v : Value) (wr : World) : Prop where
  own : OwnT wr lo v us
  bel : Below W.heap.size W wr
  res : ∀ g, Z = some g → At g [.int .i64 0, .slice none 0 0] wr ∧ g < lo
theorem UseR.on {W wr wn : World} {lo : Nat} {Z : Option Nat} {us : List TlsaD} {v : Value} (h : UseR W lo Z us v wr) (hb : Below wr.heap.size wr wn) : UseR W lo Z us v wn := ⟨h.own.below hb, btr h.bel hb, fun g e => ⟨(h.res g e).1.on hb, (h.res g e).2⟩⟩
theorem UseR.cast {W wr : World} {lo : Nat} {Z : Option Nat} {us vs : List TlsaD} {v : Value} (h : UseR W lo Z us v wr) (e : vs = us) : UseR W lo Z vs v wr := e ▸ h
theorem UseR.alloc {W wr : World} {lo : Nat} {Z : Option Nat} {us : List TlsaD} {v : Value} (h : UseR W lo Z us v wr) (o : Obj) : UseR W lo Z us v (wr.alloc o) := h.on (bal (Below.refl _ _) o)
theorem UseR.app {W wr w3 : World} {lo : Nat} {Z : Option Nat} {us : List TlsaD} {v v3 : Value} {o : Obj} {q : TlsaD} (h : UseR W lo Z us v wr) (hl : W.heap.size ≤ lo) (hown : Own w3 lo 4 v3 (us.length + 1) (flatT us ++ q.vals)) (hg : (wr.alloc o).grownBy w3 v.ownBlock) : UseR W lo Z (us ++ [q]) v3 w3 := by
  refine ⟨?_, (bal h.bel o).grown hg (bal h.bel o).size (fun k e => ?_), fun g e => ⟨((h.res g e).1.alloc o).kept hg (fun e2 => ?_), (h.res g e).2⟩⟩
  · unfold OwnT
    rw [flatT_append, List.length_append]
    simpa [flatT] using hown
  · have := (Own.lt h.own k e).1
    omega
  · have := (Own.lt h.own _ e2.symm).1
    have := (h.res g e).2
    omega
/-- Supplied keys in memory of their own were answered. -/
def TlsasIn (us : List TlsaD) (w : World) (e : Ending) (w' : World) : Prop := ∃ x n c, e = .returned (.slice x n c) ∧ OwnT w' w.heap.size (.slice x n c) us ∧ Below w.heap.size w w'
def TlsasRes (C : Int) (us : List TlsaD) (w : World) (e : Ending) (w' : World) : Prop := ∃ x n c, e = .returned (.agg #[.int .i64 C, .slice x n c]) ∧ OwnT w' w.heap.size (.slice x n c) us ∧ Below w.heap.size w w'
set_option maxHeartbeats 4000000 in
theorem l10Usable_any (a : Option Addr) (len cap B : Nat) (ts : List TlsaD) (s : ByteArray) (w : World) (hR : TRow w B a len cap ts) (hB : B ≤ w.heap.size) (hl8 : len ≤ 8) :
    Calls Tryz.prog 106 #[.slice a len cap, .string s] w (TlsasIn (usable s.data.toList ts) w) := by
  have hL := Lib.hid hR.length
  have hm := hR.most
  have hfit := hR.fits
  unfold maxLen at hm
  obtain ⟨i0, hi0, hz0, hz1, hz2⟩ := info_parts tlsa_info
  have HR := Lib.hid hR
  clear hR
  generalize hl : s.data.toList = l at *
  have T0 : UseR w w.heap.size none (usable l (ts.take 0)) (.slice (some ⟨w.heap.size, 0, none⟩) 0 0) (w.alloc (.cells #[] 78)) := ⟨Own.made w #[] 78 0 (by omega) (by simp) rfl, bal (Below.refl _ _) _, fun _ e => by cases e⟩
  go_enter Tryz.func106, Tryz.ntmps106
  go_wp2_with fail
  generalize w.alloc (.cells #[] 78) = W1 at *
  go_loopw [5, 6] (fun v i wr => ∃ k : Nat, k ≤ len ∧ i = .int .i64 k ∧ UseR w w.heap.size none (usable l (ts.take k)) v wr) (fun _ i => fun _ => len - (intOf i).toNat)
  case atStart => exact ⟨0, Nat.zero_le _, rfl, T0⟩
  case round =>
    obtain ⟨k, hk, rfl, hT⟩ := hrel
    clear T0
    have hlo := usable_le l (ts.take k)
    have htk : (ts.take k).length ≤ 8 := by rw [List.length_take]; omega
    have hus : (usable l (ts.take k)).length ≤ 8 := by omega
    have hbs := hT.bel.size
    obtain ⟨va, vc, hva, -⟩ := hT.own.form
    subst hva
    by_cases hlt : k < len
    · have hkt : k < ts.length := by rw [hL.out]; exact hlt
      obtain ⟨b, off, ha, hbB, c0, c1, c2, c3⟩ := (HR.out.below (hT.bel.mono hB)).at' hlt
      first | subst ha | (injection ha with ha; injection ha with ea eb; subst ea; subst eb)
      have hqn := HR.out.name hlt
      have SK := Lib.hid (usable_skip (l := l) hkt)
      have TK := Lib.hid (usable_take (l := l) hkt)
      generalize usable l (ts.take k) = us at *
      generalize ts[k]?.getD tls0 = q at *
      have Q := text_beq q.n s
      clear hlo htk hkt
      have F := l5Tlsa_at b (off + k * 4) q wr hqn c0 c1 c2 c3
      by_cases h1 : q.f = 0
      case neg =>
        have E := Lib.hid (SK.out (useT_f h1))
        have g0 : (q.f == 0) = false := by simpa using h1
        generalize q.f = qf at *
        clear Q SK TK
        go_wp2_with fail
        refine F.mono ?_
        rintro r u1 ⟨rfl, b1⟩
        have d0 := cell_keep b1 c0
        have d1 := cell_keep b1 c1
        have d2 := cell_keep b1 c2
        have d3 := cell_keep b1 c3
        have T1 := hT.on b1
        have hsz := T1.bel.size
        clear c0 c1 c2 c3 hT b1 F
        have T2 := Lib.hid ((T1).cast E.out)
        clear d0
        go_wp2_with fail
        go_roundw
        case rel => exact ⟨k + 1, by omega, by go_num, T2.out⟩
        case measure => simp [intOf]; omega
      rw [h1] at F
      by_cases h2 : q.u = 3
      case neg =>
        have E := Lib.hid (SK.out (useT_u h2))
        have g1 : (q.u == 3) = false := by simpa using h2
        clear Q SK TK
        go_wp2_with fail
        refine F.mono ?_
        rintro r u1 ⟨rfl, b1⟩
        have d0 := cell_keep b1 c0
        have d1 := cell_keep b1 c1
        have d2 := cell_keep b1 c2
        have d3 := cell_keep b1 c3
        have T1 := hT.on b1
        have hsz := T1.bel.size
        clear c0 c1 c2 c3 hT b1 F
        have T2 := Lib.hid ((T1).cast E.out)
        go_wp2_with fail
        go_roundw
        case rel => exact ⟨k + 1, by omega, by go_num, T2.out⟩
        case measure => simp [intOf]; omega
      have g1 : (q.u == 3) = true := by simpa using h2
      by_cases h3 : q.n.data.toList = s.data.toList
      case neg =>
        have E := Lib.hid (SK.out (useT_n (fun e => h3 (e.trans hl.symm))))
        rw [decide_eq_false h3] at Q
        clear SK TK h2
        go_wp2_with fail
        refine F.mono ?_
        rintro r u1 ⟨rfl, b1⟩
        have d0 := cell_keep b1 c0
        have d1 := cell_keep b1 c1
        have d2 := cell_keep b1 c2
        have d3 := cell_keep b1 c3
        have T1 := hT.on b1
        have hsz := T1.bel.size
        clear c0 c1 c2 c3 hT b1 F
        have T2 := Lib.hid ((T1).cast E.out)
        go_wp2_with fail
        go_roundw
        case rel => exact ⟨k + 1, by omega, by go_num, T2.out⟩
        case measure => simp [intOf]; omega
      have E := Lib.hid (TK.out (useT_yes h1 h2 (h3.trans hl)))
      rw [decide_eq_true h3] at Q
      clear SK TK h1 g1 h3
      obtain ⟨qn, qu, qm, qv⟩ := q
      (try dsimp only at c0 c1 c2 c3 F Q h2)
      subst h2
      go_wp2_with fail
      refine F.mono ?_
      rintro r u1 ⟨rfl, b1⟩
      have d0 := cell_keep b1 c0
      have d1 := cell_keep b1 c1
      have d2 := cell_keep b1 c2
      have d3 := cell_keep b1 c3
      have T1 := hT.on b1
      have hsz := T1.bel.size
      clear c0 c1 c2 c3 hT b1 F
      have hO := (T1).own
      go_wp2_with (at_builtin; refine wpList_append_src _ rfl (.tmp 36) (.tmp 41) 58 58 rfl w.heap.size 78 i0 (TV tls0) 4 40 Tryz.underlying58 hi0 hz0 hz1 hz2 rfl _ _ _ rfl (Own.alloc hO _) _ 1 (TlsaD.mk qn 3 qm qv).vals rfl (src_new4 _ (TlsaD.mk qn 3 qm qv) _ _ _ Tryz.underlying58) (by simp only [maxLen]; omega) (by omega) (by simp; omega) ?_; intro v3 w3 hown hgrow hat)
      have T2 := Lib.hid (((T1).app (Nat.le_refl _) hown hgrow).cast E.out)
      clear hown hgrow hat
      go_wp2_with fail
      go_roundw
      case rel => exact ⟨k + 1, by omega, by go_num, T2.out⟩
      case measure => simp [intOf]; omega
    · obtain rfl : k = len := by omega
      have e : ts.take k = ts := List.take_of_length_le (by rw [hL.out]; omega)
      have hO := hT.own
      have hb := hT.bel
      rw [e] at hO
      have H := Lib.hid (show TlsasIn (usable l ts) w (.returned (.slice va (usable l (ts.take k)).length vc)) wr from ⟨va, (usable l ts).length, vc, by rw [e], hO, hb⟩)
      clear hT hO hb
      go_wp2_with fail
      go_ret
      exact H.out
set_option maxHeartbeats 4000000 in
theorem implUsableOf_any (a : Option Addr) (len cap B : Nat) (ts : List TlsaD) (s : ByteArray) (w : World) (hR : TRow w B a len cap ts) (hB : B ≤ w.heap.size) (hs : s.size ≤ maxLen) :
    Calls Tryz.prog 39 #[.slice a len cap, .string s] w (TlsasRes (usableC ts s.data.toList) (usableR ts s.data.toList) w) := by
  have hL := Lib.hid hR.length
  have hm := hR.most
  have hfit := hR.fits
  unfold maxLen at hm
  have b0 := bal (Below.refl _ w) (.cells #[.int .i64 0, .slice none 0 0] 68)
  have A0 := At.new w [.int .i64 0, .slice none 0 0] 68
  have N0 := fun w => implNameFault_any s w hs
  by_cases h1 : 8 < len
  · have e := usableC_many (ts := ts) (l := s.data.toList) (by rw [hL.out]; omega)
    rw [usableR_no (by rw [e]; omega), e]
    have h1' : (8 : Int) < len := by omega
    clear hR e N0
    go_enter Tryz.func39, Tryz.ntmps39
    go_wp2_with fail
    refine bodyPost_ret (v := .agg #[.int .i64 2, .slice none 0 0]) (by simp [results, Tryz.results39, go_sem]) rfl ⟨none, 0, 0, rfl, OwnT.nil _ _, ?_⟩
    exact bal (Below.refl _ _) _
  have h1' : ¬ (8 : Int) < len := by omega
  have h1t : ¬ 8 < ts.length := by rw [hL.out]; omega
  by_cases h2 : M.nameF s.data.toList = 0
  case neg =>
    have e := usableC_name (l := s.data.toList) h1t
    rw [usableR_no (by rw [e]; exact h2), e]
    generalize M.nameF s.data.toList = c at *
    have g0 : (c == 0) = false := by simpa using h2
    have g1 : (c != 0) = true := by simp [h2]
    clear hR e h1t
    go_enter Tryz.func39, Tryz.ntmps39
    go_wp2_with fail
    generalize w.alloc (.cells #[.int .i64 0, .slice none 0 0] 68) = W0 at *
    refine (N0 _).mono ?_
    rintro r u1 ⟨rfl, rfl⟩
    have q0 := A0.cell 0 _ rfl
    have q1 := A0.cell 1 _ rfl
    have z0 := A0.free 0 _ rfl
    have z1 := A0.free 1 _ rfl
    have B1 := b0
    go_wp2_with fail
    refine bodyPost_ret (v := .agg #[.int .i64 c, .slice none 0 0]) (by simp [results, Tryz.results39, go_sem, q0, q1]) rfl ⟨none, 0, 0, rfl, OwnT.nil _ _, ?_⟩
    exact (by (iterate 2 (refine bset ?_ (by dsimp only; omega) _)); exact B1)
  have e : usableC ts s.data.toList = 0 := (usableC_name h1t).trans h2
  rw [usableR_yes e, e]
  rw [h2] at N0
  obtain ⟨h20, hmd⟩ := M.nameF_zero h2
  have hsz : s.data.toList.length = s.size := by simp
  have NT := fun w => normalText_any s w (by omega) hmd
  have HS2 : (M.bs (M.nrm s.data.toList)).data.toList = M.nrm s.data.toList := M.bs_list _
  generalize M.bs (M.nrm s.data.toList) = S2 at *
  generalize hl : M.nrm s.data.toList = l at *
  have lt0 := A0.lt (by simp)
  have hl8 : len ≤ 8 := by omega
  have HR := Lib.hid hR
  clear hR e h1t h2 h20 hsz hl hmd
  obtain ⟨i0, hi0, hz0, hz1, hz2⟩ := info_parts tlsa_info
  have hmk : ∀ W : World, (Instr.makeSlice 58 (.int .i64 0) (.int .i64 (len : Int))).run Tryz.prog W = .ok (.slice (some ⟨W.heap.size, 0, none⟩) 0 len) (W.alloc (.cells (madeCells (TV tls0).cells (len * 4)) 78)) := by
    intro W
    have := run_make (P := Tryz.prog) W 58 78 i0 (TV tls0) Tryz.underlying58 hi0 hz0 .i64 .i64 0 len (by omega) (by omega) (by rw [hz2]; omega) (by omega)
    simpa [hz1] using this
  have hms := size_madeCells (TV tls0).cells (len * 4)
  generalize madeCells (TV tls0).cells (len * 4) = mc at *
  have T00 : ∀ u : World, Below w.heap.size w u → At w.heap.size [.int .i64 0, .slice none 0 0] u → UseR w (w.heap.size + 1) (some w.heap.size) (usable l (ts.take 0)) (.slice (some ⟨u.heap.size, 0, none⟩) 0 len) (u.alloc (.cells mc 78)) := fun u hb hA => ⟨Own.made u mc 78 len (hA.lt (by simp)) (by simp only [maxLen]; omega) hms, bal hb _, fun g e => by injection e with e; subst e; exact ⟨hA.alloc _, by omega⟩⟩
  go_enter Tryz.func39, Tryz.ntmps39
  go_wp2_with fail
  generalize w.alloc (.cells #[.int .i64 0, .slice none 0 0] 68) = W0 at *
  refine (N0 _).mono ?_
  rintro r u1 ⟨rfl, rfl⟩
  go_wp2_with fail
  refine (NT _).mono ?_
  rintro r u2 ⟨rfl, b2⟩
  have T0 := T00 u2 (btr b0 b2) (A0.on b2)
  clear T00 A0 b0 b2 N0 NT hms
  go_wp2_with fail
  generalize u2.alloc (.cells mc 78) = W1 at *
  go_loopw [7, 27] (fun v i wr => ∃ k : Nat, k ≤ len ∧ i = .int .i64 k ∧ UseR w (w.heap.size + 1) (some w.heap.size) (usable l (ts.take k)) v wr) (fun _ i => fun _ => len - (intOf i).toNat)
  case atStart => exact ⟨0, Nat.zero_le _, rfl, T0⟩
  case round =>
    obtain ⟨k, hk, rfl, hT⟩ := hrel
    clear T0
    have hlo := usable_le l (ts.take k)
    have htk : (ts.take k).length ≤ 8 := by rw [List.length_take]; omega
    have hus : (usable l (ts.take k)).length ≤ 8 := by omega
    have hbs := hT.bel.size
    obtain ⟨va, vc, hva, -⟩ := hT.own.form
    subst hva
    by_cases hlt : k < len
    · have hkt : k < ts.length := by rw [hL.out]; exact hlt
      obtain ⟨b, off, ha, hbB, c0, c1, c2, c3⟩ := (HR.out.below (hT.bel.mono hB)).at' hlt
      first | subst ha | (injection ha with ha; injection ha with ea eb; subst ea; subst eb)
      have hqn := HR.out.name hlt
      have SK := Lib.hid (usable_skip (l := l) hkt)
      have TK := Lib.hid (usable_take (l := l) hkt)
      generalize usable l (ts.take k) = us at *
      generalize ts[k]?.getD tls0 = q at *
      have Q := text_beq q.n S2
      clear hlo htk hkt
      have F := fun w' : World => (show Calls Tryz.prog 104 #[TV q] w' fun e w'' => e = .returned (.int .i64 q.f) ∧ Below w'.heap.size w' w'' from implTlsaFault_any q.n q.u q.m q.v w' hqn)
      by_cases h1 : q.f = 0
      case neg =>
        have E := Lib.hid (SK.out (useT_f h1))
        have g0 : (q.f == 0) = false := by simpa using h1
        generalize q.f = qf at *
        clear Q SK TK
        have A1 : At wr.heap.size (TlsaD.vals q) (wr.alloc (.cells #[.string q.n, .int .i64 q.u, .int .i64 q.m, .int .i64 q.v] 78)) := At.new wr (TlsaD.vals q) 78
        have TA := hT.alloc (.cells #[.string q.n, .int .i64 q.u, .int .i64 q.m, .int .i64 q.v] 78)
        clear hT
        go_wp2_with fail
        generalize wr.alloc (.cells #[.string q.n, .int .i64 q.u, .int .i64 q.m, .int .i64 q.v] 78) = v0 at *
        generalize wr.heap.size = gb at *
        refine (F _).mono ?_
        rintro r u1 ⟨rfl, b1⟩
        have A2 := A1.on b1
        have d0 := A2.cell 0 _ rfl
        have d1 := A2.cell 1 _ rfl
        have d2 := A2.cell 2 _ rfl
        have d3 := A2.cell 3 _ rfl
        have T1 := TA.on b1
        have hsz : w.heap.size + 1 ≤ u1.heap.size := (T1.res _ rfl).1.lt (by simp)
        clear c0 c1 c2 c3 A1 A2 TA b1 F
        have T2 := Lib.hid ((T1).cast E.out)
        clear d0
        go_wp2_with fail
        go_roundw
        case rel => exact ⟨k + 1, by omega, by go_num, T2.out⟩
        case measure => simp [intOf]; omega
      rw [h1] at F
      by_cases h2 : q.u = 3
      case neg =>
        have E := Lib.hid (SK.out (useT_u h2))
        have g1 : (q.u == 3) = false := by simpa using h2
        clear Q SK TK
        have A1 : At wr.heap.size (TlsaD.vals q) (wr.alloc (.cells #[.string q.n, .int .i64 q.u, .int .i64 q.m, .int .i64 q.v] 78)) := At.new wr (TlsaD.vals q) 78
        have TA := hT.alloc (.cells #[.string q.n, .int .i64 q.u, .int .i64 q.m, .int .i64 q.v] 78)
        clear hT
        go_wp2_with fail
        generalize wr.alloc (.cells #[.string q.n, .int .i64 q.u, .int .i64 q.m, .int .i64 q.v] 78) = v0 at *
        generalize wr.heap.size = gb at *
        refine (F _).mono ?_
        rintro r u1 ⟨rfl, b1⟩
        have A2 := A1.on b1
        have d0 := A2.cell 0 _ rfl
        have d1 := A2.cell 1 _ rfl
        have d2 := A2.cell 2 _ rfl
        have d3 := A2.cell 3 _ rfl
        have T1 := TA.on b1
        have hsz : w.heap.size + 1 ≤ u1.heap.size := (T1.res _ rfl).1.lt (by simp)
        clear c0 c1 c2 c3 A1 A2 TA b1 F
        have T2 := Lib.hid ((T1).cast E.out)
        go_wp2_with fail
        go_roundw
        case rel => exact ⟨k + 1, by omega, by go_num, T2.out⟩
        case measure => simp [intOf]; omega
      have g1 : (q.u == 3) = true := by simpa using h2
      by_cases h3 : q.n.data.toList = S2.data.toList
      case neg =>
        have E := Lib.hid (SK.out (useT_n (fun e => h3 (e.trans HS2.symm))))
        rw [decide_eq_false h3] at Q
        clear SK TK h2
        have A1 : At wr.heap.size (TlsaD.vals q) (wr.alloc (.cells #[.string q.n, .int .i64 q.u, .int .i64 q.m, .int .i64 q.v] 78)) := At.new wr (TlsaD.vals q) 78
        have TA := hT.alloc (.cells #[.string q.n, .int .i64 q.u, .int .i64 q.m, .int .i64 q.v] 78)
        clear hT
        go_wp2_with fail
        generalize wr.alloc (.cells #[.string q.n, .int .i64 q.u, .int .i64 q.m, .int .i64 q.v] 78) = v0 at *
        generalize wr.heap.size = gb at *
        refine (F _).mono ?_
        rintro r u1 ⟨rfl, b1⟩
        have A2 := A1.on b1
        have d0 := A2.cell 0 _ rfl
        have d1 := A2.cell 1 _ rfl
        have d2 := A2.cell 2 _ rfl
        have d3 := A2.cell 3 _ rfl
        have T1 := TA.on b1
        have hsz : w.heap.size + 1 ≤ u1.heap.size := (T1.res _ rfl).1.lt (by simp)
        clear c0 c1 c2 c3 A1 A2 TA b1 F
        have T2 := Lib.hid ((T1).cast E.out)
        go_wp2_with fail
        go_roundw
        case rel => exact ⟨k + 1, by omega, by go_num, T2.out⟩
        case measure => simp [intOf]; omega
      have E := Lib.hid (TK.out (useT_yes h1 h2 (h3.trans HS2)))
      rw [decide_eq_true h3] at Q
      clear SK TK h1 g1 h3
      obtain ⟨qn, qu, qm, qv⟩ := q
      (try dsimp only at c0 c1 c2 c3 F Q h2)
      subst h2
      have A1 : At wr.heap.size (TlsaD.vals ⟨qn, 3, qm, qv⟩) (wr.alloc (.cells #[.string qn, .int .i64 3, .int .i64 qm, .int .i64 qv] 78)) := At.new wr (TlsaD.vals ⟨qn, 3, qm, qv⟩) 78
      have TA := hT.alloc (.cells #[.string qn, .int .i64 3, .int .i64 qm, .int .i64 qv] 78)
      clear hT
      go_wp2_with fail
      generalize wr.alloc (.cells #[.string qn, .int .i64 3, .int .i64 qm, .int .i64 qv] 78) = v0 at *
      generalize wr.heap.size = gb at *
      refine (F _).mono ?_
      rintro r u1 ⟨rfl, b1⟩
      have A2 := A1.on b1
      have d0 := A2.cell 0 _ rfl
      have d1 := A2.cell 1 _ rfl
      have d2 := A2.cell 2 _ rfl
      have d3 := A2.cell 3 _ rfl
      have T1 := TA.on b1
      have hsz : w.heap.size + 1 ≤ u1.heap.size := (T1.res _ rfl).1.lt (by simp)
      clear c0 c1 c2 c3 A1 A2 TA b1 F
      have hO := (T1).own
      go_wp2_with (at_builtin; refine wpList_append_src _ rfl (.tmp 45) (.tmp 47) 58 58 rfl (w.heap.size + 1) 78 i0 (TV tls0) 4 40 Tryz.underlying58 hi0 hz0 hz1 hz2 rfl _ _ _ rfl (Own.alloc hO _) _ 1 (TlsaD.mk qn 3 qm qv).vals rfl (src_new4 _ (TlsaD.mk qn 3 qm qv) _ _ _ Tryz.underlying58) (by simp only [maxLen]; omega) (by omega) (by simp; omega) ?_; intro v3 w3 hown hgrow hat)
      have T2 := Lib.hid (((T1).app (Nat.le_succ _) hown hgrow).cast E.out)
      clear hown hgrow hat
      go_wp2_with fail
      go_roundw
      case rel => exact ⟨k + 1, by omega, by go_num, T2.out⟩
      case measure => simp [intOf]; omega
    · obtain rfl : k = len := by omega
      have e : ts.take k = ts := List.take_of_length_le (by rw [hL.out]; omega)
      have hO := hT.own
      have hb := hT.bel
      have hr := (hT.res _ rfl).1
      rw [e] at hO
      have hn : (usable l (ts.take k)).length = (usable l ts).length := by rw [e]
      have q0 := hr.cell 0 _ rfl
      have q1 := hr.cell 1 _ rfl
      have z0 := hr.free 0 _ rfl
      have z1 := hr.free 1 _ rfl
      clear hT hr hlo hus
      generalize (usable l (ts.take k)).length = nn at *
      subst hn
      generalize usable l ts = us at *
      have HB := Lib.hid hb
      have HO := Lib.hid hO
      clear hO hb
      go_wp2_with fail
      refine bodyPost_ret (v := .agg #[.int .i64 0, .slice va us.length vc]) (by simp [results, Tryz.results39, go_sem, q0, q1]) rfl ⟨_, _, vc, rfl, ?_, (by (iterate 2 (refine bset ?_ (by dsimp only; omega) _)); exact HB.out)⟩
      refine Own.setCell (Own.setCell (OwnT.less HO.out (by omega)) (fun k hk e => ?_) _) (fun k hk e => ?_) _
      · have := (OwnT.lt HO.out k hk).1; dsimp only at e; omega
      · have := (OwnT.lt HO.out k hk).1; dsimp only at e; omega
end Go.Proofs.YtcolecidbalmhaaGreatDoor
namespace Go.Proofs.YtcolecidbalmhaaGreatDoor
open Go.RowKit
set_option maxRecDepth 100000
set_option linter.unusedVariables false

theorem implIsAccept_any (r : Int) (w : World) : Calls Tryz.prog 44 #[.int .i64 r] w fun e w' => e = .returned (.bool (acceptB r)) ∧ w = w' := by
  by_cases h1 : r = 1
  · subst h1
    rw [show acceptB 1 = true from rfl]
    go_enter Tryz.func44, Tryz.ntmps44
    go_wp2_with fail
    go_ret
    simp
  by_cases h3 : r = 3
  · subst h3
    rw [show acceptB 3 = true from rfl]
    go_enter Tryz.func44, Tryz.ntmps44
    go_wp2_with fail
    go_ret
    simp
  by_cases h4 : r = 4
  · subst h4
    rw [show acceptB 4 = true from rfl]
    go_enter Tryz.func44, Tryz.ntmps44
    go_wp2_with fail
    go_ret
    simp
  by_cases h7 : r = 7
  · subst h7
    rw [show acceptB 7 = true from rfl]
    go_enter Tryz.func44, Tryz.ntmps44
    go_wp2_with fail
    go_ret
    simp
  · have e : acceptB r = false := by simp [acceptB, h1, h3, h4, h7]
    rw [e]
    have q1 : (r == 1) = false := by simpa using h1
    have q3 : (r == 3) = false := by simpa using h3
    have q4 : (r == 4) = false := by simpa using h4
    have q7 : (r == 7) = false := by simpa using h7
    go_enter Tryz.func44, Tryz.ntmps44
    go_wp2_with fail
    go_ret
    simp
theorem l10Accept_any (r : Int) (w : World) : Calls Tryz.prog 110 #[.int .i64 r] w fun e w' => e = .returned (.bool (acceptB r)) ∧ w = w' := by
  by_cases h1 : r = 1
  · subst h1
    rw [show acceptB 1 = true from rfl]
    go_enter Tryz.func110, Tryz.ntmps110
    go_wp2_with fail
    go_ret
    simp
  by_cases h3 : r = 3
  · subst h3
    rw [show acceptB 3 = true from rfl]
    go_enter Tryz.func110, Tryz.ntmps110
    go_wp2_with fail
    go_ret
    simp
  by_cases h4 : r = 4
  · subst h4
    rw [show acceptB 4 = true from rfl]
    go_enter Tryz.func110, Tryz.ntmps110
    go_wp2_with fail
    go_ret
    simp
  by_cases h7 : r = 7
  · subst h7
    rw [show acceptB 7 = true from rfl]
    go_enter Tryz.func110, Tryz.ntmps110
    go_wp2_with fail
    go_ret
    simp
  · have e : acceptB r = false := by simp [acceptB, h1, h3, h4, h7]
    rw [e]
    have q1 : (r == 1) = false := by simpa using h1
    have q3 : (r == 3) = false := by simpa using h3
    have q4 : (r == 4) = false := by simpa using h4
    have q7 : (r == 7) = false := by simpa using h7
    go_enter Tryz.func110, Tryz.ntmps110
    go_wp2_with fail
    go_ret
    simp
end Go.Proofs.YtcolecidbalmhaaGreatDoor
namespace Go.Proofs.YtcolecidbalmhaaGreatDoor
open Go.RowKit
set_option maxRecDepth 100000
set_option linter.unusedVariables false

theorem dane_none {ts : List TlsaD} {p : Int} {k : Nat} (hk : k < ts.length) (h : daneB (ts.take k) p = false) (h1 : (ts[k]?.getD tls0).v ≠ M.valM p (ts[k]?.getD tls0).m) : daneB (ts.take (k + 1)) p = false := by
  unfold daneB at *
  rw [List.take_succ_eq_append_getElem hk, List.any_append, h]
  rw [List.getElem?_eq_getElem hk] at h1
  simpa using h1
theorem dane_some {ts : List TlsaD} {p : Int} {k : Nat} (hk : k < ts.length) (h1 : (ts[k]?.getD tls0).v = M.valM p (ts[k]?.getD tls0).m) : daneB ts p = true := by
  unfold daneB
  rw [List.getElem?_eq_getElem hk] at h1
  exact List.any_eq_true.2 ⟨ts[k], List.getElem_mem _, by simpa using h1⟩
set_option maxHeartbeats 2000000 in
theorem l10Dane_any (a : Option Addr) (len cap B : Nat) (ts : List TlsaD) (p : Int) (w : World) (hR : TRow w B a len cap ts) (hB : B ≤ w.heap.size) (hl8 : len ≤ 8) (hp : M.sumB p = true) :
    Calls Tryz.prog 176 #[.slice a len cap, .int .i64 p] w fun e w' => e = .returned (.int .i64 (if daneB ts p then 1 else 2)) ∧ Below w.heap.size w w' := by
  have hL := Lib.hid hR.length
  have hm := hR.most
  have hfit := hR.fits
  unfold maxLen at hm
  have HR := Lib.hid hR
  clear hR
  generalize hd : daneB ts p = d
  have HD := Lib.hid hd
  clear hd
  go_enter Tryz.func176, Tryz.ntmps176
  go_wp2_with fail
  go_loopw [5] (fun i wr => ∃ k : Nat, k ≤ len ∧ i = .int .i64 k ∧ daneB (ts.take k) p = false ∧ Below w.heap.size w wr) (fun i _ => len - (intOf i).toNat)
  case atStart => exact ⟨0, Nat.zero_le _, rfl, rfl, Below.refl _ _⟩
  case round =>
    obtain ⟨k, hk, rfl, hn, hb⟩ := hrel
    by_cases hlt : k < len
    · have hkt : k < ts.length := by rw [hL.out]; exact hlt
      obtain ⟨b, off, ha, hbB, c0, c1, c2, c3⟩ := (HR.out.below (hb.mono hB)).at' hlt
      subst ha
      have V := fun w => l5Value_any p (ts[k]?.getD tls0).m w hp
      by_cases hv : (ts[k]?.getD tls0).v = M.valM p (ts[k]?.getD tls0).m
      · have ed : d = true := by rw [← HD.out]; exact dane_some hkt hv
        subst ed
        have HB := Lib.hid hb
        clear hn hkt hb HD
        rw [hv] at c3
        generalize M.valM p (ts[k]?.getD tls0).m = x at *
        generalize ts[k]?.getD tls0 = q at *
        clear hv
        go_wp2_with fail
        refine wp_region_line (Bel wr) [(0, true), (1, true), (2, true), (3, true), (4, true), (5, true), (6, true), (7, true), (8, true), (9, true), (10, true), (11, false), (12, true)] (by kernel_rfl) (by kernel_rfl) (fun _ _ d _ _ h => by cases d <;> exact h) (Bel.drew wr) ?_
        have hst := Bel.drew wr
        have inst : Nonempty (Of (Bel wr)) := ⟨⟨_, hst⟩⟩
        have y2 := bel_cell c2
        have y3 := bel_cell c3
        iterate 11 (refine line_read rfl (by kernel_rfl) (fun K hK => ?_); go_big_quiet_op; refine hK _ ?_; clear hK K)
        refine line_alone rfl (by kernel_rfl) (fun K hK => ?_)
        refine call_wp (args := #[.int .i64 p, .int .i64 q.m]) rfl (by kernel_rfl) (by kernel_rfl) (V _) (fun wn hbn => ?_)
        have hst2 := hst.on hbn
        refine hK _ _ hst2 ?_
        clear hK K hst hbn
        have hst := hst2
        clear hst2
        simp only [Act.put, List.setIfInBounds_toArray, List.set_cons_zero, List.set_cons_succ]
        iterate 1 (refine line_read rfl (by kernel_rfl) (fun K hK => ?_); go_big_quiet_op; refine hK _ ?_; clear hK K)
        refine line_nil ?_
        have bb := Lib.hid (btr HB.out hst.out)
        clear hst inst y2 y3 c0 c1 c2 c3 V HB
        go_wp2_with fail
        go_ret
        exact ⟨rfl, bb.out⟩
      · have HN := Lib.hid (dane_none hkt hn hv)
        have q9 : ((ts[k]?.getD tls0).v == M.valM p (ts[k]?.getD tls0).m) = false := by simpa using hv
        have HB := Lib.hid hb
        clear hn hkt hb hv
        generalize M.valM p (ts[k]?.getD tls0).m = x at *
        generalize ts[k]?.getD tls0 = q at *
        go_wp2_with fail
        refine wp_region_line (Bel wr) [(0, true), (1, true), (2, true), (3, true), (4, true), (5, true), (6, true), (7, true), (8, true), (9, true), (10, true), (11, false), (12, true)] (by kernel_rfl) (by kernel_rfl) (fun _ _ d _ _ h => by cases d <;> exact h) (Bel.drew wr) ?_
        have hst := Bel.drew wr
        have inst : Nonempty (Of (Bel wr)) := ⟨⟨_, hst⟩⟩
        have y2 := bel_cell c2
        have y3 := bel_cell c3
        iterate 11 (refine line_read rfl (by kernel_rfl) (fun K hK => ?_); go_big_quiet_op; refine hK _ ?_; clear hK K)
        refine line_alone rfl (by kernel_rfl) (fun K hK => ?_)
        refine call_wp (args := #[.int .i64 p, .int .i64 q.m]) rfl (by kernel_rfl) (by kernel_rfl) (V _) (fun wn hbn => ?_)
        have hst2 := hst.on hbn
        refine hK _ _ hst2 ?_
        clear hK K hst hbn
        have hst := hst2
        clear hst2
        simp only [Act.put, List.setIfInBounds_toArray, List.set_cons_zero, List.set_cons_succ]
        iterate 1 (refine line_read rfl (by kernel_rfl) (fun K hK => ?_); go_big_quiet_op; refine hK _ ?_; clear hK K)
        refine line_nil ?_
        have bb := Lib.hid (btr HB.out hst.out)
        clear hst inst y2 y3 c0 c1 c2 c3 V HB
        go_wp2_with fail
        go_roundw
        case rel => exact ⟨k + 1, by omega, by go_num, HN.out, bb.out⟩
        case measure => simp [intOf]; omega
    · obtain rfl : k = len := by omega
      have e : ts.take k = ts := List.take_of_length_le (by rw [hL.out]; omega)
      rw [e, HD.out] at hn
      subst hn
      go_wp2_with fail
      go_ret
      exact ⟨rfl, hb⟩
theorem l7Live_at (g o : Nat) (u t : Int) (w : World) (c4 : w.cell? ⟨g, o + 4, none⟩ = some (.int .i64 u)) : Calls Tryz.prog 226 #[.pointer (some ⟨g, o, none⟩), .int .i64 t] w fun e w' => e = .returned (.bool (decide (t ≤ u))) ∧ Below w.heap.size w w' := by
  go_enter Tryz.func226, Tryz.ntmps226
  go_wp2_with fail
  go_ret
  exact ⟨rfl, Below.refl _ _⟩
theorem l10Pin_at (g o : Nat) (q : PinD) (p t : Int) (w : World) (c1 : w.cell? ⟨g, o + 1, none⟩ = some (.int .i64 q.a)) (c2 : w.cell? ⟨g, o + 2, none⟩ = some (.int .i64 q.b)) (c4 : w.cell? ⟨g, o + 4, none⟩ = some (.int .i64 q.u)) :
    Calls Tryz.prog 177 #[.pointer (some ⟨g, o, none⟩), .int .i64 p, .int .i64 t] w fun e w' => e = .returned (.int .i64 (pinReason q p t)) ∧ Below w.heap.size w w' := by
  have L := l7Live_at g o q.u t w c4
  unfold pinReason
  by_cases h1 : t ≤ q.u
  case neg =>
    rw [if_neg h1]
    rw [decide_eq_false h1] at L
    go_enter Tryz.func177, Tryz.ntmps177
    go_wp2_with fail
    refine L.mono ?_
    rintro r u1 ⟨rfl, b1⟩
    have d1 := cell_keep b1 c1
    have d2 := cell_keep b1 c2
    clear c1 c2 c4 L
    go_wp2_with fail
    go_ret
    exact ⟨rfl, b1⟩
  rw [if_pos h1]
  rw [decide_eq_true h1] at L
  clear h1
  by_cases h2 : q.a = p
  · rw [if_pos h2]
    rw [h2] at c1
    clear h2
    go_enter Tryz.func177, Tryz.ntmps177
    go_wp2_with fail
    refine L.mono ?_
    rintro r u1 ⟨rfl, b1⟩
    have d1 := cell_keep b1 c1
    have d2 := cell_keep b1 c2
    clear c1 c2 c4 L
    go_wp2_with fail
    go_ret
    exact ⟨rfl, b1⟩
  rw [if_neg h2]
  have g2 : (q.a == p) = false := by simpa using h2
  by_cases h3 : q.b = p
  · rw [if_pos h3]
    rw [h3] at c2
    clear h3
    go_enter Tryz.func177, Tryz.ntmps177
    go_wp2_with fail
    refine L.mono ?_
    rintro r u1 ⟨rfl, b1⟩
    have d1 := cell_keep b1 c1
    have d2 := cell_keep b1 c2
    clear c1 c2 c4 L
    go_wp2_with fail
    go_ret
    exact ⟨rfl, b1⟩
  · rw [if_neg h3]
    have g3 : (q.b == p) = false := by simpa using h3
    go_enter Tryz.func177, Tryz.ntmps177
    go_wp2_with fail
    refine L.mono ?_
    rintro r u1 ⟨rfl, b1⟩
    have d1 := cell_keep b1 c1
    have d2 := cell_keep b1 c2
    clear c1 c2 c4 L
    go_wp2_with fail
    go_ret
    exact ⟨rfl, b1⟩
set_option maxHeartbeats 4000000 in
theorem l10Reason_any (g : Nat) (a1 : Option Addr) (n1 c1 : Nat) (a2 : Option Addr) (n2 c2 B : Nat) (q : AskD) (w : World) (A0 : At g (A6L a1 n1 c1 a2 n2 c2 q) w) (hR : ARow w B a1 n1 c1 a2 n2 c2 q) (hB : B ≤ w.heap.size) (h0 : askF q = 0) :
    Calls Tryz.prog 112 #[.pointer (some ⟨g, 0, none⟩)] w fun r w' => r = .returned (.int .i64 (reason q)) ∧ Below w.heap.size w w' := by
  obtain ⟨hpf, ht8, hnf, hpub, htim⟩ := askF_zero h0
  obtain ⟨h20, -⟩ := M.nameF_zero hnf
  have hsz : q.nm.length = q.n.size := by simp [AskD.nm]
  have NT := fun w => l5Normal_any q.n w (by omega)
  have lt2 := hR.ts.length
  have lp2 := hR.ps.length
  have US := Lib.hid (fun (w1 : World) (h : Below w.heap.size w w1) => l10Usable_any a2 n2 c2 B q.ts (M.bs (M.nrm q.nm)) w1 (hR.ts.below (h.mono hB)) (Nat.le_trans hB h.size) (by omega))
  have AT := Lib.hid (fun (w1 : World) (h : Below w.heap.size w w1) => l7At_any a1 n1 c1 B q.ps (M.bs (M.nrm q.nm)) w1 (hR.ps.below (h.mono hB)) (Nat.le_trans hB h.size))
  have AS := atI_spec q.ps (M.nrm q.nm) 0
  rw [M.bs_list] at US AT
  have hul := usable_le (M.nrm q.nm) q.ts
  have hun : ∀ x ∈ usable (M.nrm q.nm) q.ts, x.n.size ≤ maxLen := fun x hx => hR.ts.names x (usable_mem hx).1
  have RD := reason_dane (a := q)
  have RP := fun (x : PinD) => reason_pin (a := q) (q := x)
  have RN := reason_none (a := q)
  have HR := Lib.hid hR.ps
  have hps := pub_sum hpub
  have HN := Lib.hid hun
  have DN := Lib.hid (fun (x : Option Addr) (c : Nat) (w' : World) (h : TRow w' w'.heap.size x (usable (M.nrm q.nm) q.ts).length c (usable (M.nrm q.nm) q.ts)) => l10Dane_any x _ c w'.heap.size _ q.p w' h (Nat.le_refl _) (by omega) hps)
  have e1 : q.nm = q.n.data.toList := rfl
  rw [← e1] at NT
  unfold TlsasIn at US
  clear hR hpf ht8 hnf hpub htim h20 hun hps h0
  generalize M.bs (M.nrm q.nm) = S2 at *
  generalize usable (M.nrm q.nm) q.ts = us at *
  generalize daneB us q.p = db at *
  generalize (if db = true then (1 : Int) else 2) = dv at *
  generalize atI q.ps (M.nrm q.nm) 0 = ix at *
  generalize findP q.ps (M.nrm q.nm) = fo at *
  clear e1 hsz
  obtain ⟨f, ps, ts, n, p, t⟩ := q
  unfold A6L at A0
  dsimp only at *
  have y0 := A0.cell 0 _ rfl
  have y1 := A0.cell 1 _ rfl
  have y2 := A0.cell 2 _ rfl
  have y3 := A0.cell 3 _ rfl
  have y4 := A0.cell 4 _ rfl
  have y5 := A0.cell 5 _ rfl
  generalize hm : us.length = m at *
  have HM := Lib.hid hm
  clear hm
  by_cases hu : m = 0
  case neg =>
    rw [RD hu]
    have hu' : (0 : Int) < m := by omega
    clear RD RP RN AS AT
    go_enter Tryz.func112, Tryz.ntmps112
    go_wp2_with fail
    refine (NT _).mono ?_
    rintro r u1 ⟨rfl, b1⟩
    have A1 := A0.on b1
    clear y0 y1 y2 y3 y4 y5
    have y0 := A1.cell 0 _ rfl
    have y1 := A1.cell 1 _ rfl
    have y2 := A1.cell 2 _ rfl
    have y3 := A1.cell 3 _ rfl
    have y4 := A1.cell 4 _ rfl
    have y5 := A1.cell 5 _ rfl
    go_wp2_with fail
    refine (US.out _ b1).mono ?_
    rintro r u2 ⟨xa, xn, xc, rfl, O2, b2⟩
    obtain rfl : xn = m := O2.len.trans HM.out
    have A2 := A1.on b2
    have B2 := btr b1 b2
    clear y0 y1 y2 y3 y4 y5 A0 A1 NT US b1
    have y0 := A2.cell 0 _ rfl
    have y1 := A2.cell 1 _ rfl
    have y2 := A2.cell 2 _ rfl
    have y3 := A2.cell 3 _ rfl
    have y4 := A2.cell 4 _ rfl
    have y5 := A2.cell 5 _ rfl
    have R2 := O2.row HN.out
    clear O2
    go_wp2_with fail
    refine (DN.out _ _ _ R2).mono ?_
    rintro r u3 ⟨rfl, b3⟩
    have bb := btr B2 b3
    clear b2 b3 R2 A2
    go_wp2_with fail
    go_ret
    exact ⟨rfl, bb⟩
  have hu' : ¬ (0 : Int) < m := by omega
  rcases AS with ⟨rfl, rfl⟩ | ⟨k, hk, rfl, rfl⟩
  · rw [RN hu rfl]
    clear RD RP RN DN
    cases f
    all_goals
      go_enter Tryz.func112, Tryz.ntmps112
      go_wp2_with fail
      refine (NT _).mono ?_
      rintro r u1 ⟨rfl, b1⟩
      have A1 := A0.on b1
      clear y0 y1 y2 y3 y4 y5
      have y0 := A1.cell 0 _ rfl
      have y1 := A1.cell 1 _ rfl
      have y2 := A1.cell 2 _ rfl
      have y3 := A1.cell 3 _ rfl
      have y4 := A1.cell 4 _ rfl
      have y5 := A1.cell 5 _ rfl
      go_wp2_with fail
      refine (US.out _ b1).mono ?_
      rintro r u2 ⟨xa, xn, xc, rfl, O2, b2⟩
      obtain rfl : xn = m := O2.len.trans HM.out
      have A2 := A1.on b2
      have B2 := btr b1 b2
      clear y0 y1 y2 y3 y4 y5 A0 A1 NT US b1
      have y0 := A2.cell 0 _ rfl
      have y1 := A2.cell 1 _ rfl
      have y2 := A2.cell 2 _ rfl
      have y3 := A2.cell 3 _ rfl
      have y4 := A2.cell 4 _ rfl
      have y5 := A2.cell 5 _ rfl
      clear O2
      go_wp2_with fail
      refine (AT.out _ B2).mono ?_
      rintro r u3 ⟨rfl, b3⟩
      have A3 := A2.on b3
      have B3 := btr B2 b3
      clear y0 y1 y2 y3 y4 y5 A2 b2 b3
      have y0 := A3.cell 0 _ rfl
      have y1 := A3.cell 1 _ rfl
      have y2 := A3.cell 2 _ rfl
      have y3 := A3.cell 3 _ rfl
      have y4 := A3.cell 4 _ rfl
      have y5 := A3.cell 5 _ rfl
      go_wp2_with fail
      go_ret
      exact ⟨rfl, B3⟩
  · rw [RP _ hu rfl]
    clear RD RP RN DN
    have hkl : k < n1 := by omega
    obtain ⟨b, off, ha, -⟩ := HR.out.at' hkl
    subst ha
    have hk0 : (0 : Int) ≤ 0 + k := by omega
    have hk1 : (0 : Int) ≤ k := by omega
    generalize hpp : ps[k]?.getD pin0 = pp at *
    have HP := Lib.hid hpp
    clear hpp
    have PN := fun (b o : Nat) (w' : World) (c1 : w'.cell? ⟨b, o + 1, none⟩ = some (.int .i64 pp.a)) (c2 : w'.cell? ⟨b, o + 2, none⟩ = some (.int .i64 pp.b)) (c4 : w'.cell? ⟨b, o + 4, none⟩ = some (.int .i64 pp.u)) => l10Pin_at b o pp p t w' c1 c2 c4
    generalize pinReason pp p t = rs at *
    go_enter Tryz.func112, Tryz.ntmps112
    go_wp2_with fail
    refine (NT _).mono ?_
    rintro r u1 ⟨rfl, b1⟩
    have A1 := A0.on b1
    clear y0 y1 y2 y3 y4 y5
    have y0 := A1.cell 0 _ rfl
    have y1 := A1.cell 1 _ rfl
    have y2 := A1.cell 2 _ rfl
    have y3 := A1.cell 3 _ rfl
    have y4 := A1.cell 4 _ rfl
    have y5 := A1.cell 5 _ rfl
    go_wp2_with fail
    refine (US.out _ b1).mono ?_
    rintro r u2 ⟨xa, xn, xc, rfl, O2, b2⟩
    obtain rfl : xn = m := O2.len.trans HM.out
    have A2 := A1.on b2
    have B2 := btr b1 b2
    clear y0 y1 y2 y3 y4 y5 A0 A1 NT US b1
    have y0 := A2.cell 0 _ rfl
    have y1 := A2.cell 1 _ rfl
    have y2 := A2.cell 2 _ rfl
    have y3 := A2.cell 3 _ rfl
    have y4 := A2.cell 4 _ rfl
    have y5 := A2.cell 5 _ rfl
    clear O2
    go_wp2_with fail
    refine (AT.out _ B2).mono ?_
    rintro r u3 ⟨rfl, b3⟩
    have A3 := A2.on b3
    have B3 := btr B2 b3
    obtain ⟨b', off', ha', hbB', z0, z1, z2, z3, z4⟩ := (HR.out.below (B3.mono hB)).at' hkl
    injection ha' with ha'
    injection ha' with e1 e2
    subst e1
    subst e2
    rw [HP.out] at z1 z2 z4
    clear y0 y1 y2 y3 y4 y5 A2 b2 b3 z0 z3
    go_wp2_with fail
    refine wp_region_line (Bel u3) [(0, true), (1, true), (2, true), (3, true), (4, true), (5, true), (6, true), (7, true), (8, true), (9, true), (10, true), (11, true), (12, true), (13, true), (14, false), (15, true)] (by kernel_rfl) (by kernel_rfl) (fun _ _ d _ _ h => by cases d <;> exact h) (Bel.drew u3) ?_
    have hst := Bel.drew u3
    have inst : Nonempty (Of (Bel u3)) := ⟨⟨_, hst⟩⟩
    have y1 := bel_cell (A3.cell 1 _ rfl)
    have y4 := bel_cell (A3.cell 4 _ rfl)
    have y5 := bel_cell (A3.cell 5 _ rfl)
    iterate 14 (refine line_read rfl (by kernel_rfl) (fun K hK => ?_); go_big_quiet_op; refine hK _ ?_; clear hK K)
    refine line_alone rfl (by kernel_rfl) (fun K hK => ?_)
    refine call_wp (args := #[.pointer (some ⟨b, off + k * 5, none⟩), .int .i64 p, .int .i64 t]) rfl (by kernel_rfl) (by kernel_rfl) (PN _ _ _ (cell_keep hst.out z1) (cell_keep hst.out z2) (cell_keep hst.out z4)) (fun wn hbn => ?_)
    have hst2 := hst.on hbn
    refine hK _ _ hst2 ?_
    clear hK K hst hbn
    have hst := hst2
    clear hst2
    simp only [Act.put, List.setIfInBounds_toArray, List.set_cons_zero, List.set_cons_succ]
    iterate 1 (refine line_read rfl (by kernel_rfl) (fun K hK => ?_); go_big_quiet_op; refine hK _ ?_; clear hK K)
    refine line_nil ?_
    have bb := btr B3 hst.out
    clear hst inst y1 y4 y5 z1 z2 z4 A3 B3 PN
    go_wp2_with fail
    go_ret
    exact ⟨rfl, bb⟩
abbrev Z3 (c : Int) (b : Bool) (r : Int) : Value := .agg #[.int .i64 c, .bool b, .int .i64 r]
set_option maxHeartbeats 2000000 in
theorem specDecide_any (a1 : Option Addr) (n1 c1 : Nat) (a2 : Option Addr) (n2 c2 B : Nat) (q : AskD) (w : World) (hR : ARow w B a1 n1 c1 a2 n2 c2 q) (hB : B ≤ w.heap.size) :
    Calls Tryz.prog 46 #[A6 a1 n1 c1 a2 n2 c2 q] w fun r w' => r = .returned (Z3 (askF q) (decA q) (decR q)) ∧ Below w.heap.size w w' := by
  have b0 := bal (bal (Below.refl _ w) (.cells #[.bool q.first, .slice a1 n1 c1, .slice a2 n2 c2, .string q.n, .int .i64 q.p, .int .i64 q.t] 60)) (.cells #[.int .i64 0, .bool false, .int .i64 0] 63)
  have A0 : At w.heap.size (A6L a1 n1 c1 a2 n2 c2 q) ((w.alloc (.cells #[.bool q.first, .slice a1 n1 c1, .slice a2 n2 c2, .string q.n, .int .i64 q.p, .int .i64 q.t] 60)).alloc (.cells #[.int .i64 0, .bool false, .int .i64 0] 63)) := (At.new w (A6L a1 n1 c1 a2 n2 c2 q) 60).alloc _
  have R0 := At.new (w.alloc (.cells #[.bool q.first, .slice a1 n1 c1, .slice a2 n2 c2, .string q.n, .int .i64 q.p, .int .i64 q.t] 60)) [.int .i64 0, .bool false, .int .i64 0] 63
  rw [World.size_alloc] at R0
  have HR0 := Lib.hid (show At (w.heap.size + 1) [.int .i64 0, .bool false, .int .i64 0] ((w.alloc (.cells #[.bool q.first, .slice a1 n1 c1, .slice a2 n2 c2, .string q.n, .int .i64 q.p, .int .i64 q.t] 60)).alloc (.cells #[.int .i64 0, .bool false, .int .i64 0] 63)) from R0)
  have F := l10Fault_any w.heap.size a1 n1 c1 a2 n2 c2 B q _ A0 (hR.below (b0.mono hB)) (Nat.le_trans hB b0.size)
  clear R0
  by_cases h0 : askF q = 0
  case neg =>
    rw [decA_no h0, decR_no h0]
    generalize askF q = c at *
    have g1 : (c != 0) = true := by simp [h0]
    have g0 : (c == 0) = false := by simpa using h0
    clear hR
    go_enter Tryz.func46, Tryz.ntmps46
    go_wp2_with fail
    generalize (w.alloc (.cells #[.bool q.first, .slice a1 n1 c1, .slice a2 n2 c2, .string q.n, .int .i64 q.p, .int .i64 q.t] 60)).alloc (.cells #[.int .i64 0, .bool false, .int .i64 0] 63) = W0 at *
    refine F.mono ?_
    rintro r u1 ⟨rfl, b1⟩
    have R1 := HR0.out.on b1
    have B1 := btr b0 b1
    have q0 := R1.cell 0 _ rfl
    have q1 := R1.cell 1 _ rfl
    have q2 := R1.cell 2 _ rfl
    have z0 := R1.free 0 _ rfl
    have z1 := R1.free 1 _ rfl
    have z2 := R1.free 2 _ rfl
    clear A0 R1 HR0
    go_wp2_with fail
    refine bodyPost_ret (v := Z3 c false 0) (by simp [results, Tryz.results46, go_sem, q0, q1, q2]) rfl ⟨rfl, ?_⟩
    exact (by (iterate 3 (refine bset ?_ (by dsimp only; omega) _)); exact B1)
  rw [decA_yes h0, decR_yes h0]
  have RR := Lib.hid (fun (w1 : World) (h : Below w.heap.size w w1) (A : At w.heap.size (A6L a1 n1 c1 a2 n2 c2 q) w1) => l10Reason_any w.heap.size a1 n1 c1 a2 n2 c2 B q w1 A (hR.below (h.mono hB)) (Nat.le_trans hB h.size) h0)
  rw [h0] at F ⊢
  generalize reason q = rs at *
  have AC := fun w => l10Accept_any rs w
  generalize acceptB rs = ab at *
  clear hR h0
  have HA0 := Lib.hid A0
  clear A0
  go_enter Tryz.func46, Tryz.ntmps46
  go_wp2_with fail
  generalize (w.alloc (.cells #[.bool q.first, .slice a1 n1 c1, .slice a2 n2 c2, .string q.n, .int .i64 q.p, .int .i64 q.t] 60)).alloc (.cells #[.int .i64 0, .bool false, .int .i64 0] 63) = W0 at *
  refine F.mono ?_
  rintro r u1 ⟨rfl, b1⟩
  go_wp2_with fail
  refine (RR.out _ (btr b0 b1) (HA0.out.on b1)).mono ?_
  rintro r u2 ⟨rfl, b2⟩
  go_wp2_with fail
  refine (AC _).mono ?_
  rintro r u3 ⟨rfl, rfl⟩
  have R1 := HR0.out.on (btr b1 b2)
  have B1 := btr b0 (btr b1 b2)
  have q0 := R1.cell 0 _ rfl
  have q1 := R1.cell 1 _ rfl
  have q2 := R1.cell 2 _ rfl
  have z0 := R1.free 0 _ rfl
  have z1 := R1.free 1 _ rfl
  have z2 := R1.free 2 _ rfl
  clear HA0 R1 HR0 F RR AC
  go_wp2_with fail
  refine bodyPost_ret (v := Z3 0 ab rs) (by simp [results, Tryz.results46, go_sem, q0, q1, q2]) rfl ⟨rfl, ?_⟩
  exact (by (iterate 3 (refine bset ?_ (by dsimp only; omega) _)); exact B1)
end Go.Proofs.YtcolecidbalmhaaGreatDoor
namespace Go.Proofs.YtcolecidbalmhaaGreatDoor
open Go.RowKit
set_option maxRecDepth 100000
set_option linter.unusedVariables false

theorem implMatchesTlsa_any (n : ByteArray) (u m v : Int) (s : ByteArray) (p : Int) (w : World) (lab : Labels w) (hs : s.size ≤ maxLen) :
    Calls Tryz.prog 48 #[T4 n u m v, .string s, .int .i64 p] w fun e w' => e = .returned (.bool (M.matchB n.data.toList u m v s.data.toList (pubB p) p)) ∧ Below w.heap.size w w' := by
  have b0 := bal (Below.refl _ w) (.cells #[.string n, .int .i64 u, .int .i64 m, .int .i64 v] 78)
  have A0 := At.new w (TL4 n u m v) 78
  have L0 := lab.on b0
  have F := fun w lab => implTlsaFor_any s p m w lab hs
  rw [M.matchB_for pub_sum]
  by_cases h0 : M.forC s.data.toList (pubB p) m = 0
  · simp only [forT_yes h0] at F
    rw [decide_eq_true h0, Bool.true_and]
    have Q := text_beq (M.bs (M.nrm s.data.toList)) n
    rw [M.bs_list] at Q
    rw [← Q]
    generalize M.bs (M.nrm s.data.toList) = R at *
    generalize M.valM p m = x at *
    clear h0 Q
    go_enter Tryz.func48, Tryz.ntmps48
    go_wp2_with fail
    generalize w.alloc (.cells #[.string n, .int .i64 u, .int .i64 m, .int .i64 v] 78) = W0 at *
    refine (F _ L0).mono ?_
    rintro r u1 ⟨rfl, b1⟩
    have A2 := (A0.on b1).alloc (.cells #[.int .i64 0, .string R, .int .i64 3, .int .i64 m, .int .i64 x] 162)
    have A3 := At.new u1 (TL5 0 R 3 m x) 162
    have p0 := A2.cell 0 _ rfl
    have p1 := A2.cell 1 _ rfl
    have p2 := A2.cell 2 _ rfl
    have p3 := A2.cell 3 _ rfl
    have q0 := A3.cell 0 _ rfl
    have q1 := A3.cell 1 _ rfl
    have q2 := A3.cell 2 _ rfl
    have q3 := A3.cell 3 _ rfl
    have q4 := A3.cell 4 _ rfl
    have B3 := bal (btr b0 b1) (.cells #[.int .i64 0, .string R, .int .i64 3, .int .i64 m, .int .i64 x] 162)
    clear A0 A2 A3 F L0 b0 b1
    have HB := Lib.hid B3
    clear B3
    go_wp2_with fail
    all_goals
      go_ret
      refine ⟨ret_bool ?_, ?_⟩
      · simp_all
      · have B4 := HB.out
        simp_all
  · simp only [forT_no h0] at F
    rw [decide_eq_false h0, Bool.false_and]
    generalize M.forC s.data.toList (pubB p) m = c at *
    go_enter Tryz.func48, Tryz.ntmps48
    go_wp2_with fail
    generalize w.alloc (.cells #[.string n, .int .i64 u, .int .i64 m, .int .i64 v] 78) = W0 at *
    refine (F _ L0).mono ?_
    rintro r u1 ⟨rfl, b1⟩
    have B3 := bal (btr b0 b1) (.cells #[.int .i64 c, .string { data := #[] }, .int .i64 0, .int .i64 0, .int .i64 0] 162)
    have q : (c == 0) = false := by simpa using h0
    clear A0 F L0 b0 b1
    go_wp2_with fail
    go_ret
    exact ⟨rfl, B3⟩

end Go.Proofs.YtcolecidbalmhaaGreatDoor
