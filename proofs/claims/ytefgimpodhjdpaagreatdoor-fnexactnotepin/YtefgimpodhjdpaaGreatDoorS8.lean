/- Texts of this seat that several laws rest on, laid into one. Conditions: as each theorem states. -/
import Derived.Test.YtefgimpodhjdpaaGreatDoorS0
import Derived.Test.YtefgimpodhjdpaaGreatDoorS1
import Derived.Test.YtefgimpodhjdpaaGreatDoorS2
import Derived.Test.YtefgimpodhjdpaaGreatDoorS3
import Derived.Test.YtefgimpodhjdpaaGreatDoorS4
import Derived.Test.YtefgimpodhjdpaaGreatDoorS5
import Derived.Test.YtefgimpodhjdpaaGreatDoorS7
import Derived.Deep.DeepCutAuto
namespace Go.Proofs.YtefgimpodhjdpaaGreatDoor
open Go.RowKit
set_option maxRecDepth 100000
set_option linter.unusedVariables false

def liveB (p : PinD) (t : Int) : Bool := decide (p.f = 0) && timB t && decide (t ≤ p.u)
theorem implIsLive_any (p : PinD) (t : Int) (w : World) (hn : p.n.size ≤ maxLen) :
    Calls Tryz.prog 196 #[P5 p, .int .i64 t] w fun e w' => e = .returned (.bool (liveB p t)) ∧ Below w.heap.size w w' := by
  have b0 := bal (Below.refl _ w) (.cells #[.string p.n, .int .i64 p.a, .int .i64 p.b, .int .i64 p.e, .int .i64 p.u] 31)
  have A0 : At w.heap.size p.vals (w.alloc (.cells #[.string p.n, .int .i64 p.a, .int .i64 p.b, .int .i64 p.e, .int .i64 p.u] 31)) := At.new w p.vals 31
  have F := fun w => implPinFault_any p w hn
  by_cases h0 : p.f = 0
  · rw [h0] at F
    cases ht : timB t
    · rw [show liveB p t = false by simp [liveB, ht]]
      go_enter Tryz.func196, Tryz.ntmps196
      go_wp2_with fail
      generalize w.alloc (.cells #[.string p.n, .int .i64 p.a, .int .i64 p.b, .int .i64 p.e, .int .i64 p.u] 31) = W0 at *
      refine (F _).mono ?_
      rintro r u1 ⟨rfl, b1⟩
      have c4 := (A0.on b1).cell 4 _ rfl
      have B1 := btr b0 b1
      clear A0 b0 b1 F
      go_wp2_with fail
      refine (isTime_any _ _).mono ?_
      rintro r w' ⟨rfl, rfl⟩
      go_wp2_with fail
      go_ret
      exact ⟨rfl, B1⟩
    by_cases hu : t ≤ p.u
    · rw [show liveB p t = true by simp [liveB, h0, ht, hu]]
      go_enter Tryz.func196, Tryz.ntmps196
      go_wp2_with fail
      generalize w.alloc (.cells #[.string p.n, .int .i64 p.a, .int .i64 p.b, .int .i64 p.e, .int .i64 p.u] 31) = W0 at *
      refine (F _).mono ?_
      rintro r u1 ⟨rfl, b1⟩
      have c4 := (A0.on b1).cell 4 _ rfl
      have B1 := btr b0 b1
      clear A0 b0 b1 F
      go_wp2_with fail
      refine (isTime_any _ _).mono ?_
      rintro r w' ⟨rfl, rfl⟩
      go_wp2_with fail
      go_ret
      exact ⟨rfl, B1⟩
    · rw [show liveB p t = false by simp [liveB, hu]]
      go_enter Tryz.func196, Tryz.ntmps196
      go_wp2_with fail
      generalize w.alloc (.cells #[.string p.n, .int .i64 p.a, .int .i64 p.b, .int .i64 p.e, .int .i64 p.u] 31) = W0 at *
      refine (F _).mono ?_
      rintro r u1 ⟨rfl, b1⟩
      have c4 := (A0.on b1).cell 4 _ rfl
      have B1 := btr b0 b1
      clear A0 b0 b1 F
      go_wp2_with fail
      refine (isTime_any _ _).mono ?_
      rintro r w' ⟨rfl, rfl⟩
      go_wp2_with fail
      go_ret
      exact ⟨by simpa using hu, B1⟩
  · rw [show liveB p t = false by simp [liveB, h0]]
    generalize p.f = c at *
    have q0 : (c == 0) = false := by simpa using h0
    go_enter Tryz.func196, Tryz.ntmps196
    go_wp2_with fail
    generalize w.alloc (.cells #[.string p.n, .int .i64 p.a, .int .i64 p.b, .int .i64 p.e, .int .i64 p.u] 31) = W0 at *
    refine (F _).mono ?_
    rintro r u1 ⟨rfl, b1⟩
    have c4 := (A0.on b1).cell 4 _ rfl
    have B1 := btr b0 b1
    clear A0 b0 b1 F
    go_wp2_with fail
    go_ret
    exact ⟨rfl, B1⟩
theorem l7Live_any (g : Nat) (p : PinD) (t : Int) (w : World) (A : At g p.vals w) : Calls Tryz.prog 199 #[.pointer (some ⟨g, 0, none⟩), .int .i64 t] w fun e w' => e = .returned (.bool (decide (t ≤ p.u))) ∧ Below w.heap.size w w' := by
  have c4 := A.cell 4 _ rfl
  go_enter Tryz.func199, Tryz.ntmps199
  go_wp2_with fail
  go_ret
  exact ⟨rfl, Below.refl _ _⟩
end Go.Proofs.YtefgimpodhjdpaaGreatDoor
namespace Go.Proofs.YtefgimpodhjdpaaGreatDoor
set_option linter.unusedVariables false

theorem put_len {ps : List PinD} {p q : PinD} (hr : Rise ps) (h : findP ps p.nm = some q) : (putL ps p).length = ps.length := by
  have e : ∀ {ps : List PinD}, Rise ps → (∃ x ∈ ps, x.nm = p.nm) → (ps.filter fun q => !decide (q.nm = p.nm)).length + 1 = ps.length := by
    intro ps
    induction ps with
    | nil => rintro _ ⟨x, hx, _⟩; cases hx
    | cons y r ih =>
      intro hr hx
      obtain ⟨h1, h2⟩ := List.pairwise_cons.1 hr
      by_cases hy : y.nm = p.nm
      · have hf : (y :: r).filter (fun q => !decide (q.nm = p.nm)) = r := by
          rw [List.filter_cons_of_neg (by simp [hy])]
          refine List.filter_eq_self.2 fun x hx => ?_
          have hx1 := h1 x hx
          simp only [Bool.not_eq_true', decide_eq_false_iff_not]
          intro e
          rw [e, ← hy, nlt_irrefl] at hx1
          cases hx1
        rw [hf]
        rfl
      · rw [List.filter_cons_of_pos (by simp [hy]), List.length_cons, List.length_cons]
        obtain ⟨x, hx, hxn⟩ := hx
        rcases List.mem_cons.1 hx with rfl | hx
        · exact absurd hxn hy
        · rw [ih h2 ⟨x, hx, hxn⟩]
  have hm := findP_mem h
  rw [show (putL ps p).length = _ from (putG_perm p ps).length_eq, List.length_cons]
  exact e hr ⟨q, hm.1, hm.2⟩
/-- What holds once a rollover was applied. -/
structure AppOk (ps : List PinD) (r : RollD) (t : Int) : Prop where
  res : applyL ps r t = putR ps r.p
  fr : pinsF (putR ps r.p) = 0
  ff : findR (putR ps r.p) r.p.n.data.toList = r.p
  len : (putR ps r.p).length = ps.length
  once : applyC (putR ps r.p) r t ≠ 0
theorem app_ok {ps : List PinD} {r : RollD} {t : Int} (h : applyC ps r t = 0) : AppOk ps r t := by
  obtain ⟨h0, h1, q, hq, hc, hp, he⟩ := applyC_zero h
  have P := put_ok hp
  have hrise := (pinsF_zero h0).2.2
  have er : putR ps r.p = putL ps r.p := by unfold putR; rw [if_pos hp]
  refine ⟨he, P.fr, P.ff, by rw [er]; exact put_len hrise hq, fun h2 => ?_⟩
  obtain ⟨_, _, q2, hq2, hc2, hp2, _⟩ := applyC_zero h2
  rw [P.old] at hp2
  cases hp2
theorem live_of {p : PinD} {t : Int} (h : p.f = 0) (h1 : timB t = true) (h2 : t ≤ p.u) : liveB p t = true := by simp [liveB, h, h1, h2]
/-- What holds of a rollover that may follow. -/
structure ChkOk (o : PinD) (r : RollD) (t : Int) : Prop where
  ep : r.p.e = o.e + 1
  who : r.b = o.a ∨ r.b = o.b
  live : liveB o t = true
  pf : r.p.f = 0
  sign : M.checkB r.b (rsumV r.p) r.x r.y = true
theorem chk_ok {o : PinD} {r : RollD} {t : Int} (h : checkF o r t = 0) : ChkOk o r t := by
  obtain ⟨h0, h1, h2, h3⟩ := checkF_zero h
  obtain ⟨c0, c1, c2, c3, c4⟩ := chk_zero h3
  have hp := (rollF_zero h1).1
  exact ⟨c1, c2, live_of h0 h2 c3, hp, by unfold rsumV; rw [if_pos hp]; exact c4⟩
theorem applyL_names8 {ps : List PinD} {r : RollD} {t : Int} (h : ∀ q ∈ ps, q.n.size ≤ maxLen) (hp : r.p.n.size ≤ maxLen) : ∀ q ∈ applyL ps r t, q.n.size ≤ maxLen := by
  intro q hq
  unfold applyL at hq
  split at hq
  · exact putR_names7 h hp q hq
  · cases hq
end Go.Proofs.YtefgimpodhjdpaaGreatDoor
namespace Go.Proofs.YtefgimpodhjdpaaGreatDoor
open Go.RowKit
set_option linter.unusedVariables false

theorem sameL_eq : ∀ {ps qs : List PinD}, sameL ps qs = true → ps = qs
  | [], [], _ => rfl
  | [], _ :: _, h => by cases h
  | _ :: _, [], h => by cases h
  | p :: r, q :: s, h => by
    rw [sameL, Bool.and_eq_true] at h
    rw [(pinEq_iff p q).1 h.1, sameL_eq h.2]
/-- What opening a disk answers. -/
def openC (d : DiskD) : Int := if diskF d = 0 then (openG [] d.rs).1 else diskF d
def openS (d : DiskD) : StoreD := if openC d = 0 then ⟨(openG [] d.rs).2, d⟩ else store0
theorem openC_bad {d : DiskD} (h : diskF d ≠ 0) : openC d = diskF d := by unfold openC; rw [if_neg h]
theorem openC_ok {d : DiskD} (h : diskF d = 0) : openC d = (openG [] d.rs).1 := by unfold openC; rw [if_pos h]
theorem openC_zero {d : DiskD} (h : openC d = 0) : diskF d = 0 ∧ (openG [] d.rs).1 = 0 := by
  by_cases h0 : diskF d = 0
  · rw [openC_ok h0] at h; exact ⟨h0, h⟩
  · rw [openC_bad h0] at h; exact absurd h h0
theorem openC_make {d : DiskD} (h : diskF d = 0) (h1 : (openG [] d.rs).1 = 0) : openC d = 0 := by rw [openC_ok h, h1]
theorem openS_yes {d : DiskD} (h : openC d = 0) : openS d = ⟨(openG [] d.rs).2, d⟩ := by unfold openS; rw [if_pos h]
theorem openS_no {d : DiskD} (h : openC d ≠ 0) : openS d = store0 := by unfold openS; rw [if_neg h]
/-- What is wrong with a store. -/
def storeF (s : StoreD) : Int := if openC s.d = 0 then (if sameL (openG [] s.d.rs).2 s.ps then 0 else 8) else openC s.d
theorem storeF_bad {s : StoreD} (h : openC s.d ≠ 0) : storeF s = openC s.d := by unfold storeF; rw [if_neg h]
theorem storeF_else {s : StoreD} (h : openC s.d = 0) (h1 : sameL (openG [] s.d.rs).2 s.ps = false) : storeF s = 8 := by unfold storeF; rw [if_pos h, h1]; rfl
theorem storeF_yes {s : StoreD} (h : openC s.d = 0) (h1 : sameL (openG [] s.d.rs).2 s.ps = true) : storeF s = 0 := by unfold storeF; rw [if_pos h, if_pos h1]
theorem storeF_zero {s : StoreD} (h : storeF s = 0) : openC s.d = 0 ∧ (openG [] s.d.rs).2 = s.ps := by
  by_cases h0 : openC s.d = 0
  · cases h1 : sameL (openG [] s.d.rs).2 s.ps
    · rw [storeF_else h0 h1] at h; cases h
    · exact ⟨h0, sameL_eq h1⟩
  · rw [storeF_bad h0] at h; exact absurd h h0
theorem storeF_make {s : StoreD} (h : openC s.d = 0) (h1 : (openG [] s.d.rs).2 = s.ps) : storeF s = 0 := storeF_yes h (by rw [h1]; exact sameL_self _)
theorem pins0 : pinsF [] = 0 := rfl
theorem store0_f : storeF store0 = 0 := storeF_make (openC_make rfl rfl) rfl
theorem storeF_pins {s : StoreD} (h : storeF s = 0) : pinsF s.ps = 0 := by
  obtain ⟨h1, h2⟩ := storeF_zero h
  rw [← h2]
  exact openG_right pins0 (openC_zero h1).2
theorem openS_f {d : DiskD} (h : openC d = 0) : storeF (openS d) = 0 := by
  rw [openS_yes h]
  exact storeF_make (s := ⟨(openG [] d.rs).2, d⟩) h rfl
theorem openS_self {s : StoreD} (h : storeF s = 0) : openS s.d = s := by
  obtain ⟨h1, h2⟩ := storeF_zero h
  rw [openS_yes h1, h2]
/-- Noting a pin in a right store. -/
def noted (s : StoreD) (p : PinD) : StoreD := ⟨putL s.ps p, ⟨s.d.rs ++ [recP p], s.d.s⟩⟩
def noteC (s : StoreD) (p : PinD) : Int := if storeF s = 0 then (if putC s.ps p = 0 then (if 12 ≤ s.d.rs.length then 7 else 0) else putC s.ps p) else storeF s
def noteS (s : StoreD) (p : PinD) : StoreD := if noteC s p = 0 then noted s p else store0
theorem noteC_bad {s : StoreD} {p : PinD} (h : storeF s ≠ 0) : noteC s p = storeF s := by unfold noteC; rw [if_neg h]
theorem noteC_put {s : StoreD} {p : PinD} (h : storeF s = 0) (h1 : putC s.ps p ≠ 0) : noteC s p = putC s.ps p := by unfold noteC; rw [if_pos h, if_neg h1]
theorem noteC_full {s : StoreD} {p : PinD} (h : storeF s = 0) (h1 : putC s.ps p = 0) (h2 : 12 ≤ s.d.rs.length) : noteC s p = 7 := by unfold noteC; rw [if_pos h, if_pos h1, if_pos h2]
theorem noteC_yes {s : StoreD} {p : PinD} (h : storeF s = 0) (h1 : putC s.ps p = 0) (h2 : ¬ 12 ≤ s.d.rs.length) : noteC s p = 0 := by unfold noteC; rw [if_pos h, if_pos h1, if_neg h2]
theorem noteC_zero {s : StoreD} {p : PinD} (h : noteC s p = 0) : storeF s = 0 ∧ putC s.ps p = 0 ∧ s.d.rs.length < 12 := by
  by_cases h0 : storeF s = 0
  · by_cases h1 : putC s.ps p = 0
    · by_cases h2 : 12 ≤ s.d.rs.length
      · rw [noteC_full h0 h1 h2] at h; cases h
      · exact ⟨h0, h1, by omega⟩
    · rw [noteC_put h0 h1] at h; exact absurd h h1
  · rw [noteC_bad h0] at h; exact absurd h h0
theorem recP_short {p : PinD} (h : p.f = 0) : longR (recP p) = false := by
  have := pin_size h
  have := recP_length p
  simp only [longR, decide_eq_false_iff_not]
  omega
/-- What holds once a pin was noted. -/
theorem noted_f {s : StoreD} {p : PinD} (h : storeF s = 0) (h1 : putC s.ps p = 0) (h2 : s.d.rs.length < 12) : storeF (noted s p) = 0 := by
  obtain ⟨ho, hp⟩ := storeF_zero h
  obtain ⟨hd, hg⟩ := openC_zero ho
  have P := put_ok h1
  have hput : put0 s.ps p = 0 := by rw [← (put0_code (storeF_pins h) P.fp).1]; exact h1
  have eg : openG [] (s.d.rs ++ [recP p]) = (0, putL s.ps p) := by
    rw [openG_note hg P.fp, hp, if_pos hput]
  obtain ⟨d1, d2, d3, d4⟩ := diskF_zero hd
  refine storeF_make (s := noted s p) (openC_make ?_ ?_) ?_
  · show diskF ⟨s.d.rs ++ [recP p], s.d.s⟩ = 0
    refine diskF_yes ?_ ?_ ?_
    · simp; omega
    · simp only [List.any_append, d2, List.any_cons, recP_short P.fp, List.any_nil, Bool.or_false]
    · refine ⟨d3, ?_⟩
      simp only [List.length_append, List.length_cons, List.length_nil]
      omega
  · show (openG [] (s.d.rs ++ [recP p])).1 = 0
    rw [eg]
  · show (openG [] (s.d.rs ++ [recP p])).2 = putL s.ps p
    rw [eg]
structure NoteOk (s : StoreD) (p : PinD) : Prop where
  f : storeF (noteS s p) = 0
  c : openC (noteS s p).d = 0
  o : openS (noteS s p).d = noteS s p
  fc : findC (noteS s p).ps p.n.data.toList = 0
  ff : findR (noteS s p).ps p.n.data.toList = p
  safe : (noteS s p).d.s = s.d.s
theorem note_ok {s : StoreD} {p : PinD} (h : noteC s p = 0) : NoteOk s p := by
  obtain ⟨h0, h1, h2⟩ := noteC_zero h
  have e : noteS s p = noted s p := by unfold noteS; rw [if_pos h]
  have hf := noted_f h0 h1 h2
  have P := put_ok h1
  have er : putR s.ps p = putL s.ps p := by unfold putR; rw [if_pos h1]
  have P1 := P.fc
  have P2 := P.ff
  rw [er] at P1 P2
  refine ⟨by rw [e]; exact hf, by rw [e]; exact (storeF_zero hf).1, by rw [e]; exact openS_self hf, by rw [e]; exact P1, by rw [e]; exact P2, by rw [e]; rfl⟩
/-- A rollover in a store. -/
def rollC (s : StoreD) (r : RollD) (t : Int) : Int := if storeF s = 0 then (if applyC s.ps r t = 0 then (if 12 ≤ s.d.rs.length then 7 else 0) else applyC s.ps r t) else storeF s
def rollSt (s : StoreD) (r : RollD) (t : Int) : StoreD := if rollC s r t = 0 then noted s r.p else store0
theorem rollC_bad {s : StoreD} {r : RollD} {t : Int} (h : storeF s ≠ 0) : rollC s r t = storeF s := by unfold rollC; rw [if_neg h]
theorem rollC_app {s : StoreD} {r : RollD} {t : Int} (h : storeF s = 0) (h1 : applyC s.ps r t ≠ 0) : rollC s r t = applyC s.ps r t := by unfold rollC; rw [if_pos h, if_neg h1]
theorem rollC_note {s : StoreD} {r : RollD} {t : Int} (h : storeF s = 0) (h1 : applyC s.ps r t = 0) : rollC s r t = noteC s r.p ∧ rollSt s r t = noteS s r.p := by
  obtain ⟨_, _, q, _, _, hp, _⟩ := applyC_zero h1
  have e : rollC s r t = noteC s r.p := by unfold rollC noteC; rw [if_pos h, if_pos h1, if_pos h, if_pos hp]
  exact ⟨e, by unfold rollSt noteS; rw [e]⟩
theorem rollC_zero {s : StoreD} {r : RollD} {t : Int} (h : rollC s r t = 0) : storeF s = 0 ∧ applyC s.ps r t = 0 := by
  by_cases h0 : storeF s = 0
  · by_cases h1 : applyC s.ps r t = 0
    · exact ⟨h0, h1⟩
    · rw [rollC_app h0 h1] at h; exact absurd h h1
  · rw [rollC_bad h0] at h; exact absurd h h0
theorem roll_ok {s : StoreD} {r : RollD} {t : Int} (h : rollC s r t = 0) : storeF (rollSt s r t) = 0 ∧ findC (rollSt s r t).ps r.p.n.data.toList = 0 ∧ findR (rollSt s r t).ps r.p.n.data.toList = r.p := by
  obtain ⟨h0, h1⟩ := rollC_zero h
  obtain ⟨e1, e2⟩ := rollC_note h0 h1
  rw [e1] at h
  have N := note_ok h
  rw [e2]
  exact ⟨N.f, N.fc, N.ff⟩
/-- All are safe. -/
def syncS (s : StoreD) : StoreD := if storeF s = 0 then ⟨s.ps, ⟨s.d.rs, s.d.rs.length⟩⟩ else store0
theorem diskF_s {rs : List (List Int)} {s t : Int} (h : diskF ⟨rs, s⟩ = 0) (h1 : 0 ≤ t ∧ t ≤ rs.length) : diskF ⟨rs, t⟩ = 0 := by
  obtain ⟨d1, d2, _, _⟩ := diskF_zero h
  exact diskF_yes (d := ⟨rs, t⟩) (by show ¬ 12 < rs.length; have : rs.length ≤ 12 := d1; omega) d2 h1
theorem sync_f {s : StoreD} (h : storeF s = 0) : storeF (syncS s) = 0 ∧ (syncS s).d.s = s.d.rs.length := by
  obtain ⟨ho, hp⟩ := storeF_zero h
  obtain ⟨hd, hg⟩ := openC_zero ho
  have e : syncS s = ⟨s.ps, ⟨s.d.rs, s.d.rs.length⟩⟩ := by unfold syncS; rw [if_pos h]
  rw [e]
  exact ⟨storeF_make (s := ⟨s.ps, ⟨s.d.rs, s.d.rs.length⟩⟩) (openC_make (diskF_s (s := s.d.s) hd ⟨by omega, Int.le_refl _⟩) hg) hp, rfl⟩
/-- A crash: how many are left; what is told. -/
def leftN (s : StoreD) (k : Int) : Int := s.d.s + (if k ≤ s.d.rs.length - s.d.s then k else s.d.rs.length - s.d.s)
def leftD (s : StoreD) (k : Int) : DiskD := ⟨s.d.rs.take (leftN s k).toNat, leftN s k⟩
def crashC (s : StoreD) (k : Int) : Int := if storeF s = 0 then (if k < 0 then 3 else 0) else storeF s
def crashS (s : StoreD) (k : Int) : StoreD := if crashC s k = 0 then openS (leftD s k) else store0
theorem crashC_bad {s : StoreD} {k : Int} (h : storeF s ≠ 0) : crashC s k = storeF s := by unfold crashC; rw [if_neg h]
theorem crashC_neg {s : StoreD} {k : Int} (h : storeF s = 0) (h1 : k < 0) : crashC s k = 3 := by unfold crashC; rw [if_pos h, if_pos h1]
theorem crashC_yes {s : StoreD} {k : Int} (h : storeF s = 0) (h1 : ¬ k < 0) : crashC s k = 0 := by unfold crashC; rw [if_pos h, if_neg h1]
theorem crashC_zero {s : StoreD} {k : Int} (h : crashC s k = 0) : storeF s = 0 ∧ 0 ≤ k := by
  by_cases h0 : storeF s = 0
  · by_cases h1 : k < 0
    · rw [crashC_neg h0 h1] at h; cases h
    · exact ⟨h0, by omega⟩
  · rw [crashC_bad h0] at h; exact absurd h h0
theorem left_bd {s : StoreD} {k : Int} (h : storeF s = 0) (hk : 0 ≤ k) : 0 ≤ s.d.s ∧ s.d.s ≤ leftN s k ∧ leftN s k ≤ s.d.rs.length := by
  obtain ⟨_, _, d3, d4⟩ := diskF_zero (openC_zero (storeF_zero h).1).1
  unfold leftN
  refine ⟨d3, ?_, ?_⟩
  · split <;> omega
  · split <;> omega
theorem left_len {s : StoreD} {k : Int} (h : storeF s = 0) (hk : 0 ≤ k) : ((leftD s k).rs.length : Int) = leftN s k := by
  have := left_bd h hk
  show (((s.d.rs.take (leftN s k).toNat).length : Nat) : Int) = _
  rw [List.length_take]
  omega
theorem take_disk {rs : List (List Int)} {n : Nat} {s t : Int} (h : diskF ⟨rs, s⟩ = 0) (h1 : 0 ≤ t ∧ t ≤ (rs.take n).length) : diskF ⟨rs.take n, t⟩ = 0 := by
  obtain ⟨d1, d2, _, _⟩ := diskF_zero h
  refine diskF_yes (d := ⟨rs.take n, t⟩) ?_ ?_ h1
  · show ¬ 12 < (rs.take n).length
    have : rs.length ≤ 12 := d1
    rw [List.length_take]
    omega
  · exact List.any_eq_false.2 fun r hr => List.any_eq_false.1 d2 r (List.mem_of_mem_take hr)
theorem left_open {s : StoreD} {k : Int} (h : storeF s = 0) (hk : 0 ≤ k) : openC (leftD s k) = 0 := by
  have hl := left_len h hk
  have hb := left_bd h hk
  obtain ⟨hd, hg⟩ := openC_zero (storeF_zero h).1
  refine openC_make (take_disk (s := s.d.s) hd ⟨by omega, ?_⟩) (openG_take _ hg).1
  show leftN s k ≤ ((leftD s k).rs.length : Int)
  omega
theorem safe_open {s : StoreD} (h : storeF s = 0) : openC ⟨s.d.rs.take s.d.s.toNat, 0⟩ = 0 := by
  obtain ⟨hd, hg⟩ := openC_zero (storeF_zero h).1
  exact openC_make (take_disk (s := s.d.s) hd ⟨by omega, by omega⟩) (openG_take _ hg).1
structure CrashOk (s : StoreD) (k : Int) : Prop where
  f : storeF (crashS s k) = 0
  d : (crashS s k).d = leftD s k
  safe : (crashS s k).d.s = (crashS s k).d.rs.length
  len : s.d.s ≤ (crashS s k).d.rs.length
  again : crashC (crashS s k) 0 = 0 ∧ crashS (crashS s k) 0 = crashS s k
  old : ∀ p ∈ (openS ⟨s.d.rs.take s.d.s.toNat, 0⟩).ps, findC (crashS s k).ps p.nm = 0 ∧ p.e ≤ (findR (crashS s k).ps p.nm).e
theorem findC_yes {ps : List PinD} {p q : PinD} (h : pinsF ps = 0) (hp : p.f = 0) (hf : findP ps p.nm = some q) : findC ps p.nm = 0 ∧ findR ps p.nm = q := by
  obtain ⟨hn, hb⟩ := M.normF_zero (pinF_zero hp).1
  unfold findC findR
  have hn' : M.nameF p.nm = 0 := hn
  have hb' : M.nrm p.nm = p.nm := hb
  rw [h, hn', hb', hf]
  simp
theorem crash_ok {s : StoreD} {k : Int} (h : crashC s k = 0) : CrashOk s k := by
  obtain ⟨h0, hk⟩ := crashC_zero h
  have ho := left_open h0 hk
  have hl := left_len h0 hk
  have hb := left_bd h0 hk
  have e : crashS s k = openS (leftD s k) := by unfold crashS; rw [if_pos h]
  have ed : (openS (leftD s k)).d = leftD s k := by rw [openS_yes ho]
  have ep : (openS (leftD s k)).ps = (openG [] (leftD s k).rs).2 := by rw [openS_yes ho]
  have hf := openS_f ho
  have es : (leftD s k).s = leftN s k := rfl
  refine ⟨by rw [e]; exact hf, by rw [e]; exact ed, ?_, ?_, ?_, ?_⟩
  · rw [e, ed, es, hl]
  · rw [e, ed, hl]
    exact hb.2.1
  · rw [e]
    have hc := crashC_yes (k := 0) hf (by omega)
    refine ⟨hc, ?_⟩
    have en : leftN (openS (leftD s k)) 0 = leftN s k := by
      have : leftN (openS (leftD s k)) 0 = leftN s k + (if (0 : Int) ≤ (leftD s k).rs.length - leftN s k then 0 else (leftD s k).rs.length - leftN s k) := by
        rw [show leftN (openS (leftD s k)) 0 = (openS (leftD s k)).d.s + (if (0 : Int) ≤ (openS (leftD s k)).d.rs.length - (openS (leftD s k)).d.s then 0 else (openS (leftD s k)).d.rs.length - (openS (leftD s k)).d.s) from rfl, ed, es]
      rw [this, hl, if_pos (by omega)]
      omega
    have el : leftD (openS (leftD s k)) 0 = leftD s k := by
      unfold leftD at *
      rw [en, ed]
      congr 1
      rw [List.take_take, Nat.min_self]
    unfold crashS
    rw [if_pos hc, el]
  · rw [e]
    intro p hp
    have hs := safe_open h0
    rw [openS_yes hs] at hp
    have hR := storeF_pins hf
    obtain ⟨hd, hg⟩ := openC_zero (storeF_zero h0).1
    obtain ⟨hg1, hg2⟩ := openC_zero ho
    have hsafe := (openG_take s.d.s.toNat hg).1
    have hsr := openG_right pins0 hsafe
    obtain ⟨_, sf, sr⟩ := pinsF_zero hsr
    have hm : p ∈ (openG [] (s.d.rs.take s.d.s.toNat)).2 := hp
    have hfp : findP (openG [] (s.d.rs.take s.d.s.toNat)).2 p.nm = some p := findP_of sr hm
    have et : (leftD s k).rs.take s.d.s.toNat = s.d.rs.take s.d.s.toNat := by
      show (s.d.rs.take (leftN s k).toNat).take s.d.s.toNat = _
      rw [List.take_take]
      congr 1
      omega
    have h3 := openG_take (rs := (leftD s k).rs) s.d.s.toNat hg2
    rw [et] at h3
    have hg4 : (openG (openG [] (s.d.rs.take s.d.s.toNat)).2 ((leftD s k).rs.drop s.d.s.toNat)).1 = 0 := by rw [← h3.2]; exact hg2
    obtain ⟨q, hq, hle⟩ := openG_grow hsr hg4 hfp
    rw [← h3.2] at hq
    rw [← ep] at hq
    obtain ⟨f1, f2⟩ := findC_yes hR (sf p hm) hq
    exact ⟨f1, by rw [f2]; exact hle⟩
/-- A store that is packed. -/
def packSt (s : StoreD) : StoreD := if storeF s = 0 then ⟨s.ps, ⟨s.ps.map recP, s.ps.length⟩⟩ else store0
structure PackOk (s : StoreD) : Prop where
  f : storeF (packSt s) = 0
  ps : (packSt s).ps = s.ps
  len : (packSt s).d.rs.length = s.ps.length
  few : s.ps.length ≤ s.d.rs.length
theorem pack_ok {s : StoreD} (h : storeF s = 0) : PackOk s := by
  have e : packSt s = ⟨s.ps, ⟨s.ps.map recP, s.ps.length⟩⟩ := by unfold packSt; rw [if_pos h]
  have hp := storeF_pins h
  obtain ⟨hl, hf, hr⟩ := pinsF_zero hp
  obtain ⟨ho, he⟩ := storeF_zero h
  have eg := openG_pack hp
  have hfz : storeF ⟨s.ps, ⟨s.ps.map recP, s.ps.length⟩⟩ = 0 := by
    refine storeF_make (s := ⟨s.ps, ⟨s.ps.map recP, s.ps.length⟩⟩) (openC_make ?_ ?_) ?_
    · show diskF ⟨s.ps.map recP, s.ps.length⟩ = 0
      refine diskF_yes ?_ ?_ ?_
      · rw [List.length_map]; omega
      · refine List.any_eq_false.2 fun r hr => ?_
        obtain ⟨p, hm, rfl⟩ := List.mem_map.1 hr
        rw [recP_short (hf p hm)]
        simp
      · rw [List.length_map]
        exact ⟨Int.natCast_nonneg _, Int.le_refl _⟩
    · show (openG [] (s.ps.map recP)).1 = 0
      rw [eg]
    · show (openG [] (s.ps.map recP)).2 = s.ps
      rw [eg]
  refine ⟨by rw [e]; exact hfz, by rw [e], by rw [e]; exact List.length_map .., ?_⟩
  have := openG_few s.d.rs []
  rw [he] at this
  simpa using this
/-- A byte that is turned in a journal. -/
theorem turn_told {s : StoreD} {k i : Nat} {b : Int} (h : storeF s = 0) (hk : k < s.d.rs.length) (hr : ∀ z ∈ s.d.rs[k]?.getD [], M.byteB z) (hb : M.byteB b) (hi : i < (s.d.rs[k]?.getD []).length) (hne : (s.d.rs[k]?.getD [])[i]? ≠ some b) :
    openC ⟨s.d.rs.set k ((s.d.rs[k]?.getD []).set i b), s.d.s⟩ = 5 := by
  obtain ⟨ho, hp⟩ := storeF_zero h
  obtain ⟨hd, hg⟩ := openC_zero ho
  have hm : s.d.rs[k]?.getD [] ∈ s.d.rs := by
    rw [List.getElem?_eq_getElem hk]
    exact List.getElem_mem hk
  have hbad := rec_turn (openG_ok hg _ hm) hr hb hi hne
  obtain ⟨d1, d2, d3, d4⟩ := diskF_zero hd
  have hd2 : diskF ⟨s.d.rs.set k ((s.d.rs[k]?.getD []).set i b), s.d.s⟩ = 0 := by
    refine diskF_yes ?_ ?_ ?_
    · rw [List.length_set]; omega
    · refine List.any_eq_false.2 fun r hr => ?_
      rcases List.mem_or_eq_of_mem_set hr with hr | rfl
      · exact List.any_eq_false.1 d2 r hr
      · have := List.any_eq_false.1 d2 _ hm
        unfold longR at *
        rw [List.length_set]
        exact this
    · rw [List.length_set]
      exact ⟨d3, d4⟩
  rw [openC_ok hd2]
  exact openG_turn hg hk hbad
theorem rec_long {s : StoreD} (h : storeF s = 0) {r : List Int} (hr : r ∈ s.d.rs) : 2 ≤ r.length := (recOk_pin (openG_ok (openC_zero (storeF_zero h).1).2 r hr)).2.1
end Go.Proofs.YtefgimpodhjdpaaGreatDoor
namespace Go.Proofs.YtefgimpodhjdpaaGreatDoor
open Go.RowKit
set_option maxRecDepth 100000
set_option linter.unusedVariables false

/-- A store that is read: its pins, its records; it lies below block B. -/
structure SRow (w : World) (B : Nat) (a1 : Option Addr) (n1 c1 : Nat) (a2 : Option Addr) (n2 c2 : Nat) (s : StoreD) : Prop where
  ps : PRow w B a1 n1 c1 s.ps
  rs : Grid w B a2 n2 c2 s.d.rs
  wf : ∀ zs ∈ s.d.rs, ∀ z ∈ zs, (Lit.int .u8 z).wf = true
section
variable {w w' : World} {B B' : Nat} {a1 a2 : Option Addr} {n1 c1 n2 c2 : Nat} {s : StoreD}
theorem SRow.below (h : SRow w B a1 n1 c1 a2 n2 c2 s) (hb : Below B w w') : SRow w' B a1 n1 c1 a2 n2 c2 s := ⟨h.ps.below hb, h.rs.below hb, h.wf⟩
theorem SRow.on' (h : SRow w B a1 n1 c1 a2 n2 c2 s) (hB : B ≤ w.heap.size) (hb : Below w.heap.size w w') : SRow w' B a1 n1 c1 a2 n2 c2 s := h.below (hb.mono hB)
theorem SRow.more (h : SRow w B a1 n1 c1 a2 n2 c2 s) (hB : B ≤ B') : SRow w B' a1 n1 c1 a2 n2 c2 s := ⟨h.ps.more hB, h.rs.more hB, h.wf⟩
theorem SRow.on (h : SRow w w.heap.size a1 n1 c1 a2 n2 c2 s) (hb : Below w.heap.size w w') : SRow w' w'.heap.size a1 n1 c1 a2 n2 c2 s := (h.below hb).more hb.size
theorem SRow.nil (w : World) (B : Nat) : SRow w B none 0 0 none 0 0 store0 := ⟨PRow.nil w B, Grid.nil w B, fun _ h => by cases h⟩
end
/-- A store that a call made: its pins lie from block lo on, its records behind them, all of it ahead of block hi. -/
def SOwn (w : World) (lo hi : Nat) (v1 v2 : Value) (s : StoreD) : Prop :=
  ∃ mid xs, lo ≤ mid ∧ mid ≤ hi ∧ OwnP w lo v1 s.ps ∧ (∀ k, v1.ownBlock = some k → k < mid) ∧ OwnG w mid hi v2 s.d.rs xs ∧ (∀ p ∈ s.ps, p.n.size ≤ maxLen) ∧ ∀ zs ∈ s.d.rs, ∀ z ∈ zs, (Lit.int .u8 z).wf = true
section
variable {w w' : World} {lo hi : Nat} {v1 v2 : Value} {s : StoreD}
theorem SOwn.keep (h : SOwn w lo hi v1 v2 s) (hs : w.heap.size ≤ w'.heap.size) (hk : ∀ k, lo ≤ k → k < hi → w'.heap[k]? = w.heap[k]?) : SOwn w' lo hi v1 v2 s := by
  obtain ⟨mid, xs, h1, h2, h3, h4, h5, h6⟩ := h
  exact ⟨mid, xs, h1, h2, Own.keep h3 hs (fun k e => hk k (Own.lt h3 k e).1 (by have := h4 k e; omega)), h4, h5.keep hs (fun k e1 e2 => hk k (by omega) e2), h6⟩
theorem SOwn.top (h : SOwn w lo hi v1 v2 s) : lo ≤ hi ∧ hi ≤ w.heap.size := by
  obtain ⟨mid, xs, h1, h2, h3, h4, h5, h6⟩ := h
  exact ⟨by omega, h5.top⟩
theorem SOwn.below (h : SOwn w lo hi v1 v2 s) (hb : Below w.heap.size w w') : SOwn w' lo hi v1 v2 s := h.keep hb.size fun k _ h2 => hb.block k (by have := h.top; omega)
theorem SOwn.inn {l2 h2 : Nat} (h : SOwn w lo hi v1 v2 s) (k : Inn l2 h2 w w') (hd : hi ≤ l2 ∨ h2 ≤ lo) : SOwn w' lo hi v1 v2 s := h.keep k.size fun i h3 h4 => k.block i (by have := h.top; omega) (by omega)
theorem SOwn.setCell (h : SOwn w lo hi v1 v2 s) {p : Addr} (hp : p.block < lo ∨ hi ≤ p.block) (u : Value) : SOwn (w.setCell p u) lo hi v1 v2 s := h.keep (by simp [World.setCell]) fun k h1 h2 => Below.heap_setCell w p u k (by omega)
theorem SOwn.less {lo' : Nat} (h : SOwn w lo hi v1 v2 s) (hl : lo' ≤ lo) : SOwn w lo' hi v1 v2 s := by
  obtain ⟨mid, xs, h1, h2, h3, h4, h5, h6⟩ := h
  exact ⟨mid, xs, by omega, h2, OwnP.less h3 hl, h4, h5, h6⟩
theorem SOwn.more {hi' : Nat} (h : SOwn w lo hi v1 v2 s) (h1 : hi ≤ hi') (h2 : hi' ≤ w.heap.size) : SOwn w lo hi' v1 v2 s := by
  obtain ⟨mid, xs, q1, q2, h3, h4, h5, h6⟩ := h
  exact ⟨mid, xs, q1, by omega, h3, h4, h5.more h1 h2, h6⟩
theorem SOwn.nil (w : World) (lo : Nat) (hl : lo ≤ w.heap.size) : SOwn w lo w.heap.size (.slice none 0 0) (.slice none 0 0) store0 :=
  ⟨lo, [], Nat.le_refl _, hl, OwnP.nil _ _, fun k hk => by simp [Value.ownBlock] at hk, OwnG.nil _ _ _ (Nat.le_refl _), (fun _ h => by cases h), fun _ h => by cases h⟩
theorem SOwn.row {a1 a2 : Option Addr} {n1 c1 n2 c2 : Nat} (h : SOwn w lo hi (.slice a1 n1 c1) (.slice a2 n2 c2) s) : SRow w w.heap.size a1 n1 c1 a2 n2 c2 s := by
  obtain ⟨mid, xs, h1, h2, h3, h4, h5, h6, h7⟩ := h
  exact ⟨OwnP.row h3 h6, h5.grid h7, h7⟩
theorem SOwn.len {a1 a2 : Option Addr} {n1 c1 n2 c2 : Nat} (h : SOwn w lo hi (.slice a1 n1 c1) (.slice a2 n2 c2) s) : n1 = s.ps.length ∧ n2 = s.d.rs.length := by
  have := h.row
  exact ⟨this.ps.length.symm, this.rs.length.symm⟩
/-- Pins and records, each of a call's own, one behind the other. -/
theorem SOwn.mk' {W : World} {v1 v2 : Value} {ps : List PinD} {rs : List (List Int)} {x : Int} {xs : List Value} {mid : Nat} (h1 : OwnP w lo v1 ps) (hm : lo ≤ mid) (h2 : ∀ k, v1.ownBlock = some k → k < mid) (h3 : OwnG w mid hi v2 rs xs) (hh : mid ≤ hi) (h4 : ∀ p ∈ ps, p.n.size ≤ maxLen) (h5 : ∀ zs ∈ rs, ∀ z ∈ zs, (Lit.int .u8 z).wf = true) : SOwn w lo hi v1 v2 ⟨ps, ⟨rs, x⟩⟩ := ⟨mid, xs, hm, hh, h1, h2, h3, h4, h5⟩
end
/-- A store's value in a result. -/
abbrev V4 (c : Int) (a1 : Option Addr) (n1 c1 : Nat) (a2 : Option Addr) (n2 c2 : Nat) (x : Int) : Value := .agg #[.int .i64 c, .slice a1 n1 c1, .slice a2 n2 c2, .int .i64 x]
/-- A code and a store of new memory were answered. -/
def StoreRes (c : Int) (s : StoreD) (w : World) (e : Ending) (w' : World) : Prop :=
  ∃ a1 n1 c1 a2 n2 c2, e = .returned (V4 c a1 n1 c1 a2 n2 c2 s.d.s) ∧ SOwn w' w.heap.size w'.heap.size (.slice a1 n1 c1) (.slice a2 n2 c2) s ∧ Below w.heap.size w w'
end Go.Proofs.YtefgimpodhjdpaaGreatDoor
namespace Go.Proofs.YtefgimpodhjdpaaGreatDoor
open Go.RowKit
set_option maxRecDepth 100000
set_option linter.unusedVariables false

/-- The digits of k, ahead of out. -/
def digs : Nat → Nat → ByteArray → ByteArray
  | 0, _, out => out
  | f + 1, k, out => if k = 0 then out else digs f (k / 10) ((⟨#[UInt8.ofNat (48 + k % 10)]⟩ : ByteArray) ++ out)
theorem digs_zero (f : Nat) (out : ByteArray) : digs f 0 out = out := by cases f <;> rfl
theorem digs_fuel : ∀ (f g k : Nat) (out : ByteArray), k ≤ f → k ≤ g → digs f k out = digs g k out
  | 0, g, k, out, h1, _ => by
    obtain rfl : k = 0 := by omega
    rw [digs_zero, digs_zero]
  | f + 1, 0, k, out, _, h2 => by
    obtain rfl : k = 0 := by omega
    rw [digs_zero, digs_zero]
  | f + 1, g + 1, k, out, h1, h2 => by
    unfold digs
    by_cases h : k = 0
    · rw [if_pos h, if_pos h]
    · rw [if_neg h, if_neg h]
      exact digs_fuel f g (k / 10) _ (by omega) (by omega)
def markT (k : Nat) : ByteArray := (⟨#[109]⟩ : ByteArray) ++ digs k k ⟨#[]⟩
theorem digs_step {k : Nat} (h : k ≠ 0) (out : ByteArray) : digs k k out = digs (k / 10) (k / 10) ((⟨#[UInt8.ofNat (48 + k % 10)]⟩ : ByteArray) ++ out) := by
  obtain ⟨f, rfl⟩ : ∃ f, k = f + 1 := ⟨k - 1, by omega⟩
  rw [digs, if_neg h]
  exact digs_fuel _ _ _ _ (by omega) (by omega)
theorem markText_any (k : Nat) (w : World) (h0 : 0 < k) (h1 : k ≤ 1000000000) :
    Calls Tryz.prog 147 #[.int .i64 k] w fun e w' => e = .returned (.string (markT k)) ∧ Below w.heap.size w w' := by
  have hk : ¬ (k : Int) ≤ 0 := by omega
  go_enter Tryz.func147, Tryz.ntmps147
  go_wp2_with fail
  go_loopw [0, 3] (fun kv ov wr => ∃ (j : Nat) (o : ByteArray), kv = .int .i64 j ∧ ov = .string o ∧ digs j j o = digs k k ⟨#[]⟩ ∧ o.size + j ≤ k ∧ Below w.heap.size w wr) (fun kv _ _ => (intOf kv).toNat)
  case atStart => exact ⟨k, ⟨#[]⟩, rfl, rfl, rfl, by show 0 + k ≤ k; omega, Below.refl _ _⟩
  case round =>
    obtain ⟨j, o, rfl, rfl, hd, hs, hb⟩ := hrel
    by_cases hj : 0 < j
    · have hj0 : (0 : Int) < j := by omega
      have hlt : j % 10 < 10 := Nat.mod_lt _ (by omega)
      have hst := digs_step (k := j) (by omega) o
      rw [hd] at hst
      have hO := own_lit (k := .u8) wr [48 + (j : Int) % 10] 1 5 (B := wr.heap.size) (Nat.le_refl _) rfl (by simp only [maxLen]; omega)
      have hrow := Own.row hO (by intro z hz; simp at hz; subst hz; exact byte_wf (show M.byteB _ by unfold M.byteB; omega))
      have es : strOf [48 + (j : Int) % 10] = (⟨#[UInt8.ofNat (48 + j % 10)]⟩ : ByteArray) := by
        show (⟨#[UInt8.ofNat (48 + (j : Int) % 10).toNat]⟩ : ByteArray) = _
        rw [show (48 + (j : Int) % 10).toNat = 48 + j % 10 by omega]
      have cv : (convert 22 9 (.slice (some ⟨wr.heap.size, 0, none⟩) 1 1)).run Tryz.prog (wr.alloc (.cells #[.int .u8 (48 + (j : Int) % 10)] 5)) = .ok (.string (⟨#[UInt8.ofNat (48 + j % 10)]⟩ : ByteArray)) (wr.alloc (.cells #[.int .u8 (48 + (j : Int) % 10)] 5)) := by rw [← es]; exact conv_row hrow
      have HS := Lib.hid hst
      have b2 := bal hb (.cells #[.int .u8 (48 + (j : Int) % 10)] 5)
      have hs2 : ((⟨#[UInt8.ofNat (48 + j % 10)]⟩ : ByteArray) ++ o).size + j / 10 ≤ k := by
        have : ((⟨#[UInt8.ofNat (48 + j % 10)]⟩ : ByteArray) ++ o).size = 1 + o.size := by simp [ByteArray.size_append]; rfl
        omega
      have hsz : (⟨#[UInt8.ofNat (48 + j % 10)]⟩ : ByteArray).size = 1 := rfl
      have HS2 := Lib.hid hs2
      have HB2 := Lib.hid b2
      clear hst hO hrow es hd hs2 b2
      generalize (⟨#[UInt8.ofNat (48 + j % 10)]⟩ : ByteArray) = ch at *
      have hsum : ch.size + o.size ≤ 9223372036854775807 := by omega
      have hadd := fun (W : World) => run_string_add_sum (P := Tryz.prog) W ch o hsum
      go_wp2_with fail
      go_roundw
      case rel => exact ⟨j / 10, ch ++ o, by go_num, rfl, HS.out.symm, HS2.out, HB2.out⟩
      case measure => simp [intOf]; omega
    · obtain rfl : j = 0 := by omega
      rw [digs_zero] at hd
      have em : markT k = (⟨#[109]⟩ : ByteArray) ++ o := by unfold markT; rw [← hd]
      have hsum : (⟨#[109]⟩ : ByteArray).size + o.size ≤ 9223372036854775807 := by show 1 + o.size ≤ _; omega
      have hadd := fun (W : World) => run_string_add_sum (P := Tryz.prog) W ⟨#[109]⟩ o hsum
      have HM := Lib.hid em
      clear em hd
      go_wp2_with fail
      go_ret
      exact ⟨by rw [HM.out]; rfl, hb⟩

/-- The pin that is written at place i, the marks beginning at k. -/
def markP (k i : Nat) : PinD := ⟨markT (k + 5 * i), (k : Int) + 5 * i + 1, (k : Int) + 5 * i + 1 + 1, (k : Int) + 5 * i + 1 + 1 + 1, (k : Int) + 5 * i + 1 + 1 + 1 + 1⟩
def marksP (k n : Nat) : List PinD := (List.range n).map (markP k)
theorem marksP_length (k n : Nat) : (marksP k n).length = n := by simp [marksP]
theorem marksP_at (k n j : Nat) (h : j < n) : (marksP k n)[j]?.getD pin0 = markP k j := by simp [marksP, h]
theorem marks_next (k : Nat) (ps : List PinD) (j : Nat) (h : j < ps.length) : (marksP k j ++ ps.drop j).set j (markP k j) = marksP k (j + 1) ++ ps.drop (j + 1) := by
  have e : ps.drop j = ps[j] :: ps.drop (j + 1) := List.drop_eq_getElem_cons h
  rw [e, List.set_append_right _ _ (by rw [marksP_length]; omega), marksP_length, Nat.sub_self, List.set_cons_zero]
  simp [marksP, List.range_succ]
structure MarkR (w : World) (B g n c : Nat) (ps : List PinD) (k j : Nat) (wr : World) : Prop where
  own : OwnP wr B (.slice (some ⟨g, 0, none⟩) n c) (marksP k j ++ ps.drop j)
  grew : w.grownBy wr (some g)
def MarkedP (B k : Nat) (v : Value) (n : Nat) (w : World) (r : Ending) (w' : World) : Prop := r = .returned (.int .i64 ((k + 5 * n : Nat) : Int)) ∧ OwnP w' B v (marksP k n) ∧ w.grownBy w' v.ownBlock
theorem gset1 {w w1 : World} {g : Nat} (h : w.grownBy w1 (some g)) (i : Nat) (v : Value) : w.grownBy (w1.setCell ⟨g, i, none⟩ v) (some g) :=
  ⟨h.os, h.tape, h.output, by simpa [World.setCell] using h.size, fun k hk hne => (Below.heap_setCell w1 ⟨g, i, none⟩ v k (fun e => hne (by rw [e]))).trans (h.block k hk hne)⟩
theorem gbe1 {w w1 w2 : World} {g : Nat} (h : w.grownBy w1 (some g)) (k : Below w1.heap.size w1 w2) : w.grownBy w2 (some g) :=
  ⟨k.os.trans h.os, k.tape.trans h.tape, k.output.trans h.output, Nat.le_trans h.size k.size, fun i hi hne => (k.block i (Nat.lt_of_lt_of_le hi h.size)).trans (h.block i hi hne)⟩
set_option maxHeartbeats 1000000 in
theorem markPinS_any (a : Option Addr) (n cap B k : Nat) (ps : List PinD) (w : World) (ho : OwnP w B (.slice a n cap) ps) (k0 : 0 < k) (k1 : k ≤ 1000000) (hn : n ≤ 1048576) :
    Calls Tryz.prog 99 #[.slice a n cap, .int .i64 k] w (MarkedP B k (.slice a n cap) n w) := by
  rcases ho.2 with ⟨e, h0⟩ | ⟨g, c, e, -, -, h1, h2, -, -⟩
  · injection e with e1 e2 e3
    subst e1; subst e2; subst e3
    have F : MarkedP B k (.slice none 0 0) 0 w (.returned (.int .i64 k)) w := ⟨by simp, OwnP.nil _ _, World.grownBy.refl _ _⟩
    clear ho h0
    go_enter Tryz.func99, Tryz.ntmps99
    go_wp2_with fail
    refine wp_loop_rounds 1 ?_
    rw [rounds_succ]; go_wp2_with fail
    go_ret
    exact F
  · injection e with e1 e2 e3
    subst e1; subst e3
    have hl : ps.length = n := e2.symm
    have T0 : MarkR w B g n cap ps k 0 w := ⟨by simpa [marksP] using ho, World.grownBy.refl _ _⟩
    have hm := h2
    unfold maxLen at hm
    have HL := Lib.hid hl
    clear ho e2 hl
    rw [HL.out] at h1
    go_enter Tryz.func99, Tryz.ntmps99
    go_wp2_with fail
    go_loopw [1, 5] (fun q i wr => ∃ j : Nat, j ≤ n ∧ i = .int .i64 j ∧ q = .int .i64 ((k + 5 * j : Nat) : Int) ∧ MarkR w B g n cap ps k j wr) (fun _ i _ => n - (intOf i).toNat)
    case atStart => exact ⟨0, Nat.zero_le _, rfl, by go_num, T0⟩
    case round =>
      obtain ⟨j, hj, rfl, rfl, hT⟩ := hrel
      clear T0
      by_cases hlt : j < n
      · have MT := markText_any (k + 5 * j) wr (by omega) (by omega)
        have hjl : j < (marksP k j ++ ps.drop j).length := by simp [marksP_length]; have := HL.out; omega
        have hnx := marks_next k ps j (by rw [HL.out]; exact hlt)
        have P2 := Lib.hid (fun (u1 : World) (b1 : Below wr.heap.size wr u1) => (OwnP.below hT.own b1).put (p := markP k j) hjl)
        have C2 := Lib.hid (fun (u1 : World) (b1 : Below wr.heap.size wr u1) (i : Nat) (u : Value) hu => (OwnP.below hT.own b1).cell (k := j) (i := i) hjl (u := u) hu)
        have G2 := Lib.hid hT.grew
        have HNX := Lib.hid hnx
        clear hT hnx hjl
        go_wp2_with fail
        refine MT.mono ?_
        rintro r u1 ⟨rfl, b1⟩
        generalize (marksP k j ++ ps.drop j)[j]?.getD pin0 = q0 at C2
        obtain ⟨c0, f0⟩ := C2.out u1 b1 0 _ rfl
        obtain ⟨c1, f1⟩ := C2.out u1 b1 1 _ rfl
        obtain ⟨c2, f2⟩ := C2.out u1 b1 2 _ rfl
        obtain ⟨c3, f3⟩ := C2.out u1 b1 3 _ rfl
        obtain ⟨c4, f4⟩ := C2.out u1 b1 4 _ rfl
        rw [Nat.add_zero] at c0 f0
        have O3 := P2.out u1 b1
        rw [HNX.out] at O3
        have G3 := gset1 (gset1 (gset1 (gset1 (gset1 (gbe1 G2.out b1) (j * 5) (.string (markP k j).n)) (j * 5 + 1) (.int .i64 (markP k j).a)) (j * 5 + 2) (.int .i64 (markP k j).b)) (j * 5 + 3) (.int .i64 (markP k j).e)) (j * 5 + 4) (.int .i64 (markP k j).u)
        have HT := Lib.hid (MarkR.mk (n := n) (c := cap) (B := B) O3 G3)
        clear MT P2 C2 G2 HNX b1 O3 G3
        go_wp2_with fail
        go_roundw
        case rel => exact ⟨j + 1, by omega, by go_num, by congr 1, HT.out⟩
        case measure => simp [intOf]; omega
      · obtain rfl : j = n := by omega
        have e : ps.drop j = [] := List.drop_of_length_le (by rw [HL.out]; omega)
        have T2 := hT.own
        rw [e, List.append_nil] at T2
        have T3 := hT.grew
        clear hT
        go_wp2_with fail
        go_ret
        exact ⟨rfl, T2, T3⟩
theorem digs_size : ∀ (f k : Nat) (out : ByteArray), (digs f k out).size ≤ out.size + f
  | 0, k, out => by unfold digs; omega
  | f + 1, k, out => by
    unfold digs
    split
    · omega
    · have h1 := digs_size f (k / 10) ((⟨#[UInt8.ofNat (48 + k % 10)]⟩ : ByteArray) ++ out)
      have h2 : ((⟨#[UInt8.ofNat (48 + k % 10)]⟩ : ByteArray) ++ out).size = 1 + out.size := by simp [ByteArray.size_append]; rfl
      omega
theorem markT_size (k : Nat) : (markT k).size ≤ k + 1 := by
  unfold markT
  have h1 := digs_size k k ⟨#[]⟩
  have h2 : (⟨#[]⟩ : ByteArray).size = 0 := rfl
  have h3 : ((⟨#[109]⟩ : ByteArray) ++ digs k k ⟨#[]⟩).size = 1 + (digs k k ⟨#[]⟩).size := by simp [ByteArray.size_append]; rfl
  omega
theorem marksP_names (k n : Nat) (hk : k ≤ 1000000) (hn : n ≤ 1048576) : ∀ p ∈ marksP k n, p.n.size ≤ maxLen := by
  intro p hp
  simp only [marksP, List.mem_map, List.mem_range] at hp
  obtain ⟨i, hi, rfl⟩ := hp
  have := markT_size (k + 5 * i)
  show (markT (k + 5 * i)).size ≤ maxLen
  unfold maxLen
  omega

set_option maxHeartbeats 1000000 in
theorem heldPinS_any (a : Option Addr) (n cap B k : Nat) (w : World) (hR : PRow w B a n cap (marksP k n)) (hB : B ≤ w.heap.size) (k0 : 0 < k) (k1 : k ≤ 1000000) (hn : n ≤ 1048576) :
    Calls Tryz.prog 144 #[.slice a n cap, .int .i64 k] w fun r w' => r = .returned (.int .i64 ((k + 5 * n : Nat) : Int)) ∧ Below w.heap.size w w' := by
  go_enter Tryz.func144, Tryz.ntmps144
  go_wp2_with fail
  go_loopw [1, 5] (fun q i wr => ∃ j : Nat, j ≤ n ∧ i = .int .i64 j ∧ q = .int .i64 ((k + 5 * j : Nat) : Int) ∧ Below w.heap.size w wr) (fun _ i _ => n - (intOf i).toNat)
  case atStart => exact ⟨0, Nat.zero_le _, rfl, by go_num, Below.refl _ _⟩
  case round =>
    obtain ⟨j, hj, rfl, rfl, hb⟩ := hrel
    by_cases hlt : j < n
    · obtain ⟨b, off, ha, hbB, c0, c1, c2, c3, c4⟩ := (hR.below (hb.mono hB)).at' hlt
      simp only [marksP_at k n j hlt, markP] at c0 c1 c2 c3 c4
      have MT := markText_any (k + 5 * j) wr (by omega) (by omega)
      subst ha
      clear hR
      go_wp2_with fail
      have MT2 := fun (u : World) => markText_any (k + 5 * j) u (by omega) (by omega)
      have HB := Lib.hid hb
      clear MT hb
      refine wp_region_line (Bel wr) [(0, true), (1, true), (2, true), (3, true), (4, true), (5, true), (6, false), (7, true)] (by kernel_rfl) (by kernel_rfl) (fun _ _ d _ _ h => by cases d <;> exact h) (Bel.drew wr) ?_
      have hst := Bel.drew wr
      have inst : Nonempty (Of (Bel wr)) := ⟨⟨_, hst⟩⟩
      have q0 := bel_cell c0
      iterate 6 (refine line_read rfl (by kernel_rfl) (fun K hK => ?_); go_big_quiet_op; refine hK _ ?_; clear hK K)
      refine line_alone rfl (by kernel_rfl) (fun K hK => ?_)
      refine call_wp (args := #[.int .i64 ((k + 5 * j : Nat) : Int)]) rfl (by kernel_rfl) (by kernel_rfl) (MT2 _) (fun wn hbn => ?_)
      have hst2 := hst.on hbn
      refine hK _ _ hst2 ?_
      clear hK K hst hbn
      have hst := hst2
      clear hst2
      simp only [Act.put, List.setIfInBounds_toArray, List.set_cons_zero, List.set_cons_succ]
      iterate 1 (refine line_read rfl (by kernel_rfl) (fun K hK => ?_); go_big_quiet_op; refine hK _ ?_; clear hK K)
      refine line_nil ?_
      have d1 := cell_keep hst.out c1
      have d2 := cell_keep hst.out c2
      have d3 := cell_keep hst.out c3
      have d4 := cell_keep hst.out c4
      have bb := Lib.hid (btr HB.out hst.out)
      clear hst inst q0 c0 c1 c2 c3 c4 MT2 HB
      go_wp2_with fail
      go_roundw
      case rel => exact ⟨j + 1, by omega, by go_num, by congr 1, bb.out⟩
      case measure => simp [intOf]; omega
    · obtain rfl : j = n := by omega
      clear hR
      go_wp2_with fail
      go_ret
      exact ⟨rfl, hb⟩

/-- Pins that were answered lie in memory of their own, the answer in a block. -/
def PinsAt (V : World) (c : Int) (zs : List PinD) (v : Value) (wx : World) : Prop := ∃ g a cap, v = .pointer (some ⟨g, 0, none⟩) ∧ At g [.int .i64 c, .slice a zs.length cap] wx ∧ OwnP wx V.heap.size (.slice a zs.length cap) zs ∧ Below V.heap.size V wx ∧ V.heap.size ≤ g
/-- Two answers of pins, and the argument, lie in memory: the model's at block p1, below b; the argument's slice, and the program's, from b on, its answer at block p2; the argument's pins are xs by now, the program's ms. -/
structure TwoP (w : World) (c : Int) (ps : List PinD) (p1 b p2 : Nat) (a1 a2 a3 : Option Addr) (n c1 c2 m c3 : Nat) (xs ms : List PinD) (cur : World) : Prop where
  bel : Below w.heap.size w cur
  x0 : cur.cell? ⟨p1, 0, none⟩ = some (.int .i64 c)
  x1 : cur.cell? ⟨p1, 1, none⟩ = some (.slice a1 n c1)
  row : PRow cur b a1 n c1 ps
  y0 : cur.cell? ⟨p2, 0, none⟩ = some (.int .i64 c)
  y1 : cur.cell? ⟨p2, 1, none⟩ = some (.slice a2 n c2)
  own : OwnP cur b (.slice a2 n c2) ms
  arg : OwnP cur b (.slice a3 m c3) xs
  old : w.heap.size ≤ b
  hi : p1 < b
  sep : ∀ k, Value.ownBlock (.slice a2 n c2) = some k → k < p2
  sepA : ∀ k, Value.ownBlock (.slice a3 m c3) = some k → k < p2
  apart : ∀ k, Value.ownBlock (.slice a2 n c2) = some k → Value.ownBlock (.slice a3 m c3) ≠ some k
  ahead : b ≤ p2
section
variable {w : World} {c : Int} {ps : List PinD} {p1 b p2 : Nat} {a1 a2 a3 : Option Addr} {n c1 c2 m c3 : Nat} {xs ms : List PinD} {cur cur' : World}
theorem TwoP.lt1 (h : TwoP w c ps p1 b p2 a1 a2 a3 n c1 c2 m c3 xs ms cur) : b ≤ cur.heap.size := by
  have := cell_lt h.y0
  have := h.ahead
  simp at *
  omega
theorem TwoP.on (h : TwoP w c ps p1 b p2 a1 a2 a3 n c1 c2 m c3 xs ms cur) (hb : Below cur.heap.size cur cur') : TwoP w c ps p1 b p2 a1 a2 a3 n c1 c2 m c3 xs ms cur' :=
  ⟨btr h.bel hb, cell_keep hb h.x0, cell_keep hb h.x1, h.row.below (hb.mono h.lt1), cell_keep hb h.y0, cell_keep hb h.y1, h.own.below hb, h.arg.below hb, h.old, h.hi, h.sep, h.sepA, h.apart, h.ahead⟩
theorem OwnP.grown {B : Nat} {v : Value} {qs : List PinD} {g : Option Nat} (h : OwnP cur B v qs) (hg : cur.grownBy cur' g) (hne : ∀ k, v.ownBlock = some k → some k ≠ g) : OwnP cur' B v qs := Own.keep h hg.size fun k hk => hg.block k (Own.lt h k hk).2 (hne k hk)
theorem OwnP.lt {B : Nat} {v : Value} {qs : List PinD} (h : OwnP cur B v qs) : ∀ k, v.ownBlock = some k → B ≤ k ∧ k < cur.heap.size := Own.lt h
theorem TwoP.grew (h : TwoP w c ps p1 b p2 a1 a2 a3 n c1 c2 m c3 xs ms cur) {ms' : List PinD} (ho : OwnP cur' b (.slice a2 n c2) ms') (hg : cur.grownBy cur' (Value.ownBlock (.slice a2 n c2))) : TwoP w c ps p1 b p2 a1 a2 a3 n c1 c2 m c3 xs ms' cur' := by
  have hlo := fun k hk => (h.own.lt k hk).1
  have hhi := h.hi
  have hp1 : some p1 ≠ Value.ownBlock (.slice a2 n c2) := fun e => by have := hlo p1 e.symm; omega
  have hp2 : some p2 ≠ Value.ownBlock (.slice a2 n c2) := fun e => by have := h.sep p2 e.symm; omega
  have l1 := h.lt1
  have hold := h.old
  exact ⟨h.bel.grown hg h.bel.size (fun k hk => by have := hlo k hk; omega), hg.cell h.x0 hp1, hg.cell h.x1 hp1, h.row.keep (fun i hi => hg.block i (by omega) (fun e => by have := hlo i e.symm; omega)), hg.cell h.y0 hp2, hg.cell h.y1 hp2, ho, h.arg.grown hg (fun k hk e => h.apart k e.symm hk), h.old, h.hi, h.sep, h.sepA, h.apart, h.ahead⟩
theorem TwoP.grewA (h : TwoP w c ps p1 b p2 a1 a2 a3 n c1 c2 m c3 xs ms cur) {xs' : List PinD} (ho : OwnP cur' b (.slice a3 m c3) xs') (hg : cur.grownBy cur' (Value.ownBlock (.slice a3 m c3))) : TwoP w c ps p1 b p2 a1 a2 a3 n c1 c2 m c3 xs' ms cur' := by
  have hlo := fun k hk => (h.arg.lt k hk).1
  have hhi := h.hi
  have hp1 : some p1 ≠ Value.ownBlock (.slice a3 m c3) := fun e => by have := hlo p1 e.symm; omega
  have hp2 : some p2 ≠ Value.ownBlock (.slice a3 m c3) := fun e => by have := h.sepA p2 e.symm; omega
  have l1 := h.lt1
  have hold := h.old
  exact ⟨h.bel.grown hg h.bel.size (fun k hk => by have := hlo k hk; omega), hg.cell h.x0 hp1, hg.cell h.x1 hp1, h.row.keep (fun i hi => hg.block i (by omega) (fun e => by have := hlo i e.symm; omega)), hg.cell h.y0 hp2, hg.cell h.y1 hp2, h.own.grown hg (fun k hk e => h.apart k hk e.symm), ho, h.old, h.hi, h.sep, h.sepA, h.apart, h.ahead⟩
/-- The model's answer lies there; the argument, and then the program's answer are stored. -/
theorem TwoP.new {v1 u2 u3 : World} {t : TypeId} (b1 : Below w.heap.size w v1) (hX : At p1 [.int .i64 c, .slice a1 n c1] v1) (R1 : PRow v1 v1.heap.size a1 n c1 ps)
    (b2 : Below v1.heap.size v1 u2) (O2 : OwnP u2 v1.heap.size (.slice a3 m c3) xs) (b3 : Below u2.heap.size u2 u3) (O3 : OwnP u3 u2.heap.size (.slice a2 n c2) ps) :
    TwoP w c ps p1 v1.heap.size u3.heap.size a1 a2 a3 n c1 c2 m c3 xs ps (u3.alloc (.cells #[.int .i64 c, .slice a2 n c2] t)) := by
  have hs := b2.size
  have hs3 := b3.size
  have hlt : p1 < v1.heap.size := hX.lt (by simp)
  have b4 := btr b2 (bal b3 (.cells #[.int .i64 c, .slice a2 n c2] t))
  have X4 := hX.on b4
  have O4 := (O2.below b3).alloc (.cells #[.int .i64 c, .slice a2 n c2] t)
  have x0 := X4.cell 0 _ rfl
  have x1 := X4.cell 1 _ rfl
  exact ⟨btr b1 b4, x0, x1, R1.below b4, by simp, by simp, (O3.alloc _).less (by omega), O4, b1.size, hlt, fun k hk => (O3.lt k hk).2, fun k hk => Nat.lt_of_lt_of_le (O2.lt k hk).2 hs3, fun k hk e => by have := (O3.lt k hk).1; have := (O2.lt k e).2; omega, by omega⟩
end
theorem putR_len (ps : List PinD) (p : PinD) : (putR ps p).length ≤ 5 := by
  unfold putR
  split
  · rename_i h
    have h0 : pinsF ps = 0 := by
      by_cases e : pinsF ps = 0
      · exact e
      · unfold putC at h
        rw [if_pos e] at h
        exact absurd h e
    have h1 := (pinsF_zero h0).1
    have h2 := (putG_perm p ps).length_eq
    have h3 := List.length_filter_le (fun q => !decide (q.nm = p.nm)) ps
    unfold putL
    simp only [List.length_cons] at h2
    omega
  · simp
theorem putR_names {ps : List PinD} {p : PinD} (h : ∀ q ∈ ps, q.n.size ≤ maxLen) (hp : p.n.size ≤ maxLen) : ∀ q ∈ putR ps p, q.n.size ≤ maxLen := by
  intro q hq
  unfold putR at hq
  split at hq
  · rcases putL_mem hq with rfl | hq
    · exact hp
    · exact h q hq
  · cases hq
theorem OwnP.len {w : World} {B : Nat} {a : Option Addr} {len cap : Nat} {ps : List PinD} (h : OwnP w B (.slice a len cap) ps) : len = ps.length := by
  obtain ⟨a', c', e, -⟩ := h.form
  injection e
end Go.Proofs.YtefgimpodhjdpaaGreatDoor
namespace Go.Proofs.YtefgimpodhjdpaaGreatDoor
open Go.RowKit
set_option maxRecDepth 100000
set_option linter.unusedVariables false

theorem long_no {rs : List (List Int)} (h : rs.any longR = false) {k : Nat} (hk : k < rs.length) : (rs[k]?.getD []).length ≤ 40 :=
  long_of h _ (by rw [List.getElem?_eq_getElem hk]; exact List.getElem_mem hk)
theorem any_next {rs : List (List Int)} {k : Nat} (hk : k < rs.length) (h : (rs.take k).any longR = false) (hl : ¬ 40 < (rs[k]?.getD []).length) : (rs.take (k + 1)).any longR = false :=
  M.any_take longR rs [] k hk h (by simpa [longR] using hl)

set_option maxHeartbeats 1000000 in
theorem implDiskFault_any (a : Option Addr) (n c B : Nat) (rs : List (List Int)) (s : Int) (w : World) (hG : Grid w B a n c rs) (hB : B ≤ w.heap.size) :
    Calls Tryz.prog 32 #[.agg #[.slice a n c, .int .i64 s]] w fun r w' => r = .returned (.int .i64 (diskF ⟨rs, s⟩)) ∧ Below w.heap.size w w' := by
  have hlen := hG.fits
  have hmost := hG.most
  unfold maxLen at hmost
  have hL := Lib.hid hG.length
  have b0 := bal (Below.refl _ w) (.cells #[.slice a n c, .int .i64 s] 27)
  by_cases h : 12 < n
  · have E : diskF ⟨rs, s⟩ = 2 := diskF_many (by show 12 < rs.length; rw [hL.out]; exact h)
    rw [E]; clear E hG
    have h' : (12 : Int) < n := by omega
    go_enter Tryz.func32, Tryz.ntmps32
    go_wp2_with fail
    go_ret
    exact ⟨rfl, b0⟩
  have h' : ¬ (12 : Int) < n := by omega
  have hG1 := hG.below (b0.mono hB)
  clear hG
  cases hA : rs.any longR
  · have E0 : ¬ (0 ≤ s ∧ s ≤ n) → diskF ⟨rs, s⟩ = 3 := fun q => diskF_safe (by show ¬ 12 < rs.length; rw [hL.out]; omega) hA (by show ¬ (0 ≤ s ∧ s ≤ rs.length); rw [hL.out]; exact q)
    have E1 : 0 ≤ s ∧ s ≤ n → diskF ⟨rs, s⟩ = 0 := fun q => diskF_yes (by show ¬ 12 < rs.length; rw [hL.out]; omega) hA (by show 0 ≤ s ∧ s ≤ rs.length; rw [hL.out]; exact q)
    have HA := Lib.hid hA
    have H0 := Lib.hid E0
    have H1 := Lib.hid E1
    clear hA E0 E1
    generalize diskF ⟨rs, s⟩ = D at *
    go_enter Tryz.func32, Tryz.ntmps32
    go_wp2_with fail
    go_loop [12] (fun i => ∃ k : Nat, k ≤ n ∧ i = .int .i64 k) (fun i => n - (intOf i).toNat)
    case atStart => exact ⟨0, Nat.zero_le _, rfl⟩
    case round =>
      obtain ⟨k, hk, rfl⟩ := hrel
      by_cases hlt : k < n
      · obtain ⟨b, off, ha, hb, hc⟩ := hG1.cells (by omega)
        obtain ⟨a', n', c', hcell, hrow⟩ := hc k hlt
        have hle : ¬ (40 : Int) < n' := by
          have := long_no HA.out (k := k) (by rw [hL.out]; exact hlt)
          rw [hrow.length] at this
          omega
        clear hc hrow hG1
        subst ha
        go_wp2_with fail
        go_round
        case rel => exact ⟨k + 1, by omega, by go_num⟩
        case measure => simp [intOf]; omega
      · have hkn : ¬ (k : Int) < n := by omega
        by_cases q0 : s < 0
        · have e := H0.out (by omega)
          subst e
          clear hG1
          go_wp2_with fail
          go_ret
          exact ⟨rfl, b0⟩
        · by_cases q1 : (n : Int) < s
          · have e := H0.out (by omega)
            subst e
            clear hG1
            go_wp2_with fail
            go_ret
            exact ⟨rfl, b0⟩
          · have e := H1.out (by omega)
            subst e
            clear hG1
            go_wp2_with fail
            go_ret
            exact ⟨rfl, b0⟩
  · have E : diskF ⟨rs, s⟩ = 2 := diskF_long (by show ¬ 12 < rs.length; rw [hL.out]; omega) hA
    rw [E]; clear E
    have HA := Lib.hid hA
    clear hA
    go_enter Tryz.func32, Tryz.ntmps32
    go_wp2_with fail
    go_loop [12] (fun i => ∃ k : Nat, k ≤ n ∧ i = .int .i64 k ∧ Hid ((rs.take k).any longR = false)) (fun i => n - (intOf i).toNat)
    case atStart => exact ⟨0, Nat.zero_le _, rfl, Lib.hid (by simp)⟩
    case round =>
      obtain ⟨k, hk, rfl, hT⟩ := hrel
      by_cases hlt : k < n
      · obtain ⟨b, off, ha, hb, hc⟩ := hG1.cells (by omega)
        obtain ⟨a', n', c', hcell, hrow⟩ := hc k hlt
        have hrl := Lib.hid hrow.length
        clear hc hrow
        subst ha
        by_cases hle : (40 : Int) < n'
        · go_wp2_with fail
          go_ret
          exact ⟨rfl, b0⟩
        · have T2 := Lib.hid (any_next (by rw [hL.out]; exact hlt) hT.out (by rw [hrl.out]; omega))
          clear hT
          go_wp2_with fail
          go_round
          case rel => exact ⟨k + 1, by omega, by go_num, T2⟩
          case measure => simp [intOf]; omega
      · exfalso
        have e := hT.out
        rw [List.take_of_length_le (by rw [hL.out]; omega), HA.out] at e
        cases e
set_option maxHeartbeats 1000000 in
theorem l9Disk_any (g : Nat) (a : Option Addr) (n c B : Nat) (rs : List (List Int)) (s : Int) (o : Nat) (w : World) (c0 : w.cell? ⟨g, o, none⟩ = some (.slice a n c)) (c1 : w.cell? ⟨g, o + 1, none⟩ = some (.int .i64 s)) (hG : Grid w B a n c rs) (hB : B ≤ w.heap.size) :
    Calls Tryz.prog 85 #[.pointer (some ⟨g, o, none⟩)] w fun r w' => r = .returned (.int .i64 (diskF ⟨rs, s⟩)) ∧ Below w.heap.size w w' := by
  have hlen := hG.fits
  have hmost := hG.most
  unfold maxLen at hmost
  have hL := Lib.hid hG.length
  by_cases h : 12 < n
  · have E : diskF ⟨rs, s⟩ = 2 := diskF_many (by show 12 < rs.length; rw [hL.out]; exact h)
    rw [E]; clear E hG
    have h' : (12 : Int) < n := by omega
    go_enter Tryz.func85, Tryz.ntmps85
    go_wp2_with fail
    go_ret
    exact ⟨rfl, Below.refl _ _⟩
  have h' : ¬ (12 : Int) < n := by omega
  cases hA : rs.any longR
  · have EE : diskF ⟨rs, s⟩ = if inB s 0 n then 0 else 3 := by
      by_cases q : 0 ≤ s ∧ s ≤ n
      · rw [show inB s 0 n = true by simp [inB, q], if_pos rfl]
        exact diskF_yes (by show ¬ 12 < rs.length; rw [hL.out]; omega) hA (by show 0 ≤ s ∧ s ≤ rs.length; rw [hL.out]; exact q)
      · rw [show inB s 0 n = false by simp only [inB, decide_eq_false_iff_not]; exact q]
        exact diskF_safe (by show ¬ 12 < rs.length; rw [hL.out]; omega) hA (by show ¬ (0 ≤ s ∧ s ≤ rs.length); rw [hL.out]; exact q)
    rw [EE]
    have HA := Lib.hid hA
    have LI := fun w => (l1In_any s 0 n w).mono (R' := fun e w' => e = .returned (.bool (inB s 0 n)) ∧ ∃ m, w' = w.drewN m) (by rintro e w' ⟨h, rfl⟩; exact ⟨h, 0, rfl⟩)
    generalize inB s 0 n = q at *
    clear hA EE
    go_enter Tryz.func85, Tryz.ntmps85
    go_wp2_with fail
    go_loop [3] (fun i => ∃ k : Nat, k ≤ n ∧ i = .int .i64 k) (fun i => n - (intOf i).toNat)
    case atStart => exact ⟨0, Nat.zero_le _, rfl⟩
    case round =>
      obtain ⟨k, hk, rfl⟩ := hrel
      by_cases hlt : k < n
      · obtain ⟨b, off, ha, hb, hc⟩ := hG.cells (by omega)
        obtain ⟨a', n', c', hcell, hrow⟩ := hc k hlt
        have hle : ¬ (40 : Int) < n' := by
          have := long_no HA.out (k := k) (by rw [hL.out]; exact hlt)
          rw [hrow.length] at this
          omega
        clear hc hrow hG
        subst ha
        go_wp2_with fail
        go_round
        case rel => exact ⟨k + 1, by omega, by go_num⟩
        case measure => simp [intOf]; omega
      · have hkn : ¬ (k : Int) < n := by omega
        clear hG
        cases q
        · go_wp2_with fail
          go_quiet ((go_at_call 131; exact Calls.quiet_of (LI _)))
          go_wp2_with fail
          go_ret
          exact ⟨rfl, bdrewN (Below.refl _ _) _⟩
        · go_wp2_with fail
          go_quiet ((go_at_call 131; exact Calls.quiet_of (LI _)))
          go_wp2_with fail
          go_ret
          exact ⟨rfl, bdrewN (Below.refl _ _) _⟩
  · have E : diskF ⟨rs, s⟩ = 2 := diskF_long (by show ¬ 12 < rs.length; rw [hL.out]; omega) hA
    rw [E]; clear E
    have HA := Lib.hid hA
    clear hA
    go_enter Tryz.func85, Tryz.ntmps85
    go_wp2_with fail
    go_loop [3] (fun i => ∃ k : Nat, k ≤ n ∧ i = .int .i64 k ∧ Hid ((rs.take k).any longR = false)) (fun i => n - (intOf i).toNat)
    case atStart => exact ⟨0, Nat.zero_le _, rfl, Lib.hid (by simp)⟩
    case round =>
      obtain ⟨k, hk, rfl, hT⟩ := hrel
      by_cases hlt : k < n
      · obtain ⟨b, off, ha, hb, hc⟩ := hG.cells (by omega)
        obtain ⟨a', n', c', hcell, hrow⟩ := hc k hlt
        have hrl := Lib.hid hrow.length
        clear hc hrow
        subst ha
        by_cases hle : (40 : Int) < n'
        · go_wp2_with fail
          go_ret
          exact ⟨rfl, Below.refl _ _⟩
        · have T2 := Lib.hid (any_next (by rw [hL.out]; exact hlt) hT.out (by rw [hrl.out]; omega))
          clear hT
          go_wp2_with fail
          go_round
          case rel => exact ⟨k + 1, by omega, by go_num, T2⟩
          case measure => simp [intOf]; omega
      · exfalso
        have e := hT.out
        rw [List.take_of_length_le (by rw [hL.out]; omega), HA.out] at e
        cases e
theorem specDiskFault_any (a : Option Addr) (n c B : Nat) (rs : List (List Int)) (s : Int) (w : World) (hG : Grid w B a n c rs) (hB : B ≤ w.heap.size) :
    Calls Tryz.prog 33 #[.agg #[.slice a n c, .int .i64 s]] w fun r w' => r = .returned (.int .i64 (diskF ⟨rs, s⟩)) ∧ Below w.heap.size w w' := by
  have b0 := bal (Below.refl _ w) (.cells #[.slice a n c, .int .i64 s] 27)
  have A := At.new w [.slice a n c, .int .i64 s] 27
  have F := l9Disk_any w.heap.size a n c B rs s 0 _ (A.cell 0 _ rfl) (A.cell 1 _ rfl) (hG.below (b0.mono hB)) (Nat.le_trans hB b0.size)
  clear hG A
  go_enter Tryz.func33, Tryz.ntmps33
  go_wp2_with fail
  refine F.mono ?_
  rintro r u1 ⟨rfl, b1⟩
  have b2 := btr b0 b1
  clear b1 F b0
  go_wp2_with fail
  go_ret
  exact ⟨rfl, b2⟩
end Go.Proofs.YtefgimpodhjdpaaGreatDoor
namespace Go.Proofs.YtefgimpodhjdpaaGreatDoor.M

def kindB (v : Int) : Bool := decide (1 ≤ v ∧ v ≤ 9)
def recB (s k t : Int) : Bool := sumB s && kindB k && sumB t
/-- What is wrong with a record whose data has n bytes. -/
def recF (s k t : Int) (n : Nat) : Int := if recB s k t then (if 60 < n then 2 else 0) else 3
theorem recF_no {s k t : Int} {n : Nat} (h : recB s k t = false) : recF s k t n = 3 := by simp [recF, h]
theorem recF_long {s k t : Int} {n : Nat} (h : recB s k t = true) (hn : 60 < n) : recF s k t n = 2 := by simp [recF, h, hn]
theorem recF_yes {s k t : Int} {n : Nat} (h : recB s k t = true) (hn : ¬ 60 < n) : recF s k t n = 0 := by simp [recF, h, hn]
theorem recF_zero {s k t : Int} {n : Nat} (h : recF s k t n = 0) : sumB s = true ∧ kindB k = true ∧ sumB t = true ∧ n ≤ 60 := by
  unfold recF at h
  split at h
  · rename_i hb
    simp only [recB, Bool.and_eq_true] at hb
    split at h
    · omega
    · exact ⟨hb.1.1, hb.1.2, hb.2, by omega⟩
  · omega
theorem recF_ok {s k t : Int} {n : Nat} (hs : sumB s = true) (hk : kindB k = true) (ht : sumB t = true) (hn : n ≤ 60) : recF s k t n = 0 := recF_yes (by simp [recB, hs, hk, ht]) (by omega)
theorem recF_cases (s k t : Int) (n : Nat) : recF s k t n = 3 ∨ recF s k t n = 2 ∨ recF s k t n = 0 := by
  unfold recF
  split
  · split
    · exact .inr (.inl rfl)
    · exact .inr (.inr rfl)
  · exact .inl rfl
theorem kindB_bd {k : Int} (h : kindB k = true) : 1 ≤ k ∧ k ≤ 9 := by simpa [kindB] using h
theorem sumB_bd {k : Int} (h : sumB k = true) : 0 ≤ k ∧ k ≤ 65520 := by simpa [sumB] using h

/-- A record's bytes. -/
def packR (s k : Int) (zs : List Int) (t : Int) : List Int := two s ++ [k, (zs.length : Int)] ++ zs ++ two t
def packRL (s k : Int) (zs : List Int) (t : Int) : List Int := if recF s k t zs.length = 0 then packR s k zs t else []
theorem packR_length (s k : Int) (zs : List Int) (t : Int) : (packR s k zs t).length = zs.length + 6 := by simp [packR, two]
theorem packRL_length (s k : Int) (zs : List Int) (t : Int) : (packRL s k zs t).length ≤ 66 := by
  unfold packRL
  split
  · rename_i h
    have := (recF_zero h).2.2.2
    rw [packR_length]; omega
  · simp
theorem packR_byte {s k : Int} {zs : List Int} {t : Int} (hb : ∀ z ∈ zs, byteB z) (h : recF s k t zs.length = 0) : ∀ z ∈ packR s k zs t, byteB z := by
  obtain ⟨hs, hk, ht, hn⟩ := recF_zero h
  have hk' := kindB_bd hk
  intro z hz
  simp only [packR, List.mem_append, List.mem_cons, List.not_mem_nil, or_false] at hz
  rcases hz with ((hz | rfl | rfl) | hz) | hz
  · exact two_byte hs z hz
  · unfold byteB; omega
  · unfold byteB; omega
  · exact hb z hz
  · exact two_byte ht z hz
theorem packRL_byte {s k : Int} {zs : List Int} {t : Int} (hb : ∀ z ∈ zs, byteB z) : ∀ z ∈ packRL s k zs t, byteB z := by
  unfold packRL
  split
  · rename_i h; exact packR_byte hb h
  · intro z hz; cases hz

/-- The number at place i. -/
def at2 (zs : List Int) (i : Nat) : Int := 256 * zs.getD i 0 + zs.getD (i + 1) 0
def rdD (zs : List Int) : List Int := (zs.drop 4).take (zs.length - 6)
def rdL (zs : List Int) : Bool := decide (6 ≤ zs.length) && decide ((zs.length : Int) = 6 + zs.getD 3 0)
/-- These are the bytes of a record. -/
def rdB (zs : List Int) : Bool := rdL zs && decide (recF (at2 zs 0) (zs.getD 2 0) (at2 zs (zs.length - 2)) (zs.length - 6) = 0)
theorem rdD_length {zs : List Int} (h : 6 ≤ zs.length) : (rdD zs).length = zs.length - 6 := by simp [rdD]; omega
theorem rdD_mem {zs : List Int} : ∀ z ∈ rdD zs, z ∈ zs := fun _ hz => List.mem_of_mem_drop (List.mem_of_mem_take hz)
theorem rdB_len {zs : List Int} (h : rdB zs = true) : 6 ≤ zs.length ∧ (zs.length : Int) = 6 + zs.getD 3 0 ∧ recF (at2 zs 0) (zs.getD 2 0) (at2 zs (zs.length - 2)) (zs.length - 6) = 0 := by
  simp only [rdB, rdL, Bool.and_eq_true, decide_eq_true_eq] at h
  exact ⟨h.1.1, h.1.2, h.2⟩

theorem at2_two (n : Int) (xs ys : List Int) (h : sumB n = true) : at2 (xs ++ two n ++ ys) xs.length = n := by
  have hn := sumB_bd h
  have e1 : (xs ++ two n ++ ys).getD xs.length 0 = n / 256 := by simp [two, List.getD]
  have e2 : (xs ++ two n ++ ys).getD (xs.length + 1) 0 = n % 256 := by simp [two, List.getD]
  unfold at2
  rw [e1, e2]
  omega
theorem rdB_pack {s k : Int} {zs : List Int} {t : Int} (h : recF s k t zs.length = 0) : rdB (packR s k zs t) = true ∧ at2 (packR s k zs t) 0 = s ∧ (packR s k zs t).getD 2 0 = k ∧ rdD (packR s k zs t) = zs ∧ at2 (packR s k zs t) ((packR s k zs t).length - 2) = t := by
  obtain ⟨hs, hk, ht, hn⟩ := recF_zero h
  have e0 : at2 (packR s k zs t) 0 = s := by
    have := at2_two s [] ([k, (zs.length : Int)] ++ zs ++ two t) hs
    simpa [packR, List.append_assoc] using this
  have e2 : (packR s k zs t).getD 2 0 = k := by simp [packR, two, List.getD]
  have e3 : (packR s k zs t).getD 3 0 = zs.length := by simp [packR, two, List.getD]
  have hl := packR_length s k zs t
  have e4 : rdD (packR s k zs t) = zs := by
    unfold rdD
    rw [hl]
    simp [packR, two]
  have e5 : at2 (packR s k zs t) ((packR s k zs t).length - 2) = t := by
    have := at2_two t (two s ++ [k, (zs.length : Int)] ++ zs) [] ht
    rw [hl]
    simp only [List.append_nil] at this
    have e : (two s ++ [k, (zs.length : Int)] ++ zs).length = zs.length + 6 - 2 := by simp [two]
    rw [e] at this
    exact this
  refine ⟨?_, e0, e2, e4, e5⟩
  simp only [rdB, rdL, Bool.and_eq_true, decide_eq_true_eq]
  rw [e0, e2, e5, e3, hl]
  refine ⟨⟨by omega, by omega⟩, ?_⟩
  rw [show zs.length + 6 - 6 = zs.length by omega]
  exact h
theorem getD_nat {zs : List Int} {i : Nat} (hi : i < zs.length) : zs[i]? = some (zs.getD i 0) := by simp [List.getD, hi]
theorem two_at {x y : Int} (hy : byteB y) : two (256 * x + y) = [x, y] := by
  unfold byteB at hy
  simp only [two]
  congr 1
  · omega
  · congr 1
    omega
/-- What is read is written back. -/
theorem pack_rd {zs : List Int} (hb : ∀ z ∈ zs, byteB z) (h : rdB zs = true) : packR (at2 zs 0) (zs.getD 2 0) (rdD zs) (at2 zs (zs.length - 2)) = zs := by
  obtain ⟨h6, h3, -⟩ := rdB_len h
  have hbb : ∀ i, i < zs.length → byteB (zs.getD i 0) := fun i hi => hb _ (by simp [List.getD, hi])
  have hl := rdD_length h6
  unfold packR at2
  rw [two_at (hbb (0 + 1) (by omega)), two_at (hbb (zs.length - 2 + 1) (by omega)), hl]
  have hn : ((zs.length - 6 : Nat) : Int) = zs.getD 3 0 := by omega
  rw [hn]
  refine List.ext_getElem? fun i => ?_
  rcases Nat.lt_or_ge i 4 with h4 | h4
  · rw [List.append_assoc, List.append_assoc]
    match i, h4 with
    | 0, _ => simpa using (getD_nat (zs := zs) (i := 0) (by omega)).symm
    | 1, _ => simpa using (getD_nat (zs := zs) (i := 1) (by omega)).symm
    | 2, _ => simpa using (getD_nat (zs := zs) (i := 2) (by omega)).symm
    | 3, _ => simpa using (getD_nat (zs := zs) (i := 3) (by omega)).symm
  · rcases Nat.lt_or_ge i (zs.length - 2) with h5 | h5
    · rw [List.getElem?_append_left (by simp [hl]; omega), List.getElem?_append_right (by simp; omega)]
      simp only [List.length_append, List.length_cons, List.length_nil, rdD]
      rw [List.getElem?_take_of_lt (by omega), List.getElem?_drop]
      congr 1
      omega
    · rw [List.getElem?_append_right (by simp [hl]; omega)]
      simp only [List.length_append, List.length_cons, List.length_nil, hl]
      rcases Nat.lt_or_ge i zs.length with h7 | h7
      · have : i = zs.length - 2 ∨ i = zs.length - 2 + 1 := by omega
        rcases this with rfl | rfl
        · rw [show zs.length - 2 - (0 + 1 + 1 + (0 + 1 + 1) + (zs.length - 6)) = 0 by omega]
          simpa using (getD_nat (zs := zs) (i := zs.length - 2) (by omega)).symm
        · rw [show zs.length - 2 + 1 - (0 + 1 + 1 + (0 + 1 + 1) + (zs.length - 6)) = 1 by omega]
          simpa using (getD_nat (zs := zs) (i := zs.length - 2 + 1) (by omega)).symm
      · rw [List.getElem?_eq_none (by simp; omega), List.getElem?_eq_none (by omega)]

/-- Two records are one. -/
def sameR (s k : Int) (zs : List Int) (t : Int) (s' k' : Int) (zs' : List Int) (t' : Int) : Bool := (s == s') && (k == k') && (t == t') && decide (zs = zs')
end Go.Proofs.YtefgimpodhjdpaaGreatDoor.M
namespace Go.Proofs.YtefgimpodhjdpaaGreatDoor
open Go.RowKit
set_option maxRecDepth 100000
set_option linter.unusedVariables false

abbrev R4 (s k : Int) (a : Option Addr) (n c : Nat) (t : Int) : Value := .agg #[.int .i64 s, .int .i64 k, .slice a n c, .int .i64 t]
abbrev R5 (e s k : Int) (a : Option Addr) (n c : Nat) (t : Int) : Value := .agg #[.int .i64 e, .int .i64 s, .int .i64 k, .slice a n c, .int .i64 t]
abbrev L4 (s k : Int) (a : Option Addr) (n c : Nat) (t : Int) : List Value := [.int .i64 s, .int .i64 k, .slice a n c, .int .i64 t]
abbrev L5 (e s k : Int) (a : Option Addr) (n c : Nat) (t : Int) : List Value := [.int .i64 e, .int .i64 s, .int .i64 k, .slice a n c, .int .i64 t]

theorem l1In_kind (v : Int) (w : World) :
    Calls Tryz.prog 131 #[.int .i64 v, .int .i64 1, .int .i64 9] w fun e w' => e = .returned (.bool (M.kindB v)) ∧ w = w' := l1In_any v 1 9 w

theorem szByte4_any (a : Option Addr) (n c : Nat) (l : Int) (w : World) (hn : n ≤ maxLen) (l0 : 0 ≤ l) (l1 : l ≤ 1048576) :
    Calls Tryz.prog 140 #[.slice a n c, .int .i64 l] w fun e w' => e = .returned (.int .i64 (if l < n then -1 else l - n)) ∧ w = w' := by
  unfold maxLen at hn
  by_cases h : l < n
  · have h' : l - n < 0 := by omega
    rw [if_pos h]
    go_enter Tryz.func140, Tryz.ntmps140
    go_wp2_with fail
    go_ret
    simp
  · have h' : ¬ l - n < 0 := by omega
    rw [if_neg h]
    go_enter Tryz.func140, Tryz.ntmps140
    go_wp2_with fail
    go_ret
    simp
/-- A record whose data lies in new memory. -/
def RecMade (s k : Int) (n : Nat) (zs : List Int) (t : Int) (w : World) (r : Ending) (w' : World) : Prop :=
  ∃ a c, r = .returned (R4 s k a n c t) ∧ OwnK .u8 w' w.heap.size (.slice a n c) zs ∧ Below w.heap.size w w'

end Go.Proofs.YtefgimpodhjdpaaGreatDoor
