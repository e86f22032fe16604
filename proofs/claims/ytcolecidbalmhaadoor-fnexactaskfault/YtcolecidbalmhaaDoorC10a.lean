/- Contracts of what is wrong with an asking, by the program and by its model. Conditions: as each theorem states. -/
import Derived.Test.YtcolecidbalmhaaDoorOpen10a
import Derived.Test.YtcolecidbalmhaaDoorC7c
namespace Go.Proofs.YtcolecidbalmhaaDoor
open Go.RowKit
set_option maxRecDepth 100000
set_option linter.unusedVariables false

theorem implAskFault_any (a1 : Option Addr) (n1 c1 : Nat) (a2 : Option Addr) (n2 c2 B : Nat) (q : AskD) (w : World) (hR : ARow w B a1 n1 c1 a2 n2 c2 q) (hB : B ≤ w.heap.size) :
    Calls Tryd.prog 9 #[A6 a1 n1 c1 a2 n2 c2 q] w fun r w' => r = .returned (.int .i64 (askF q)) ∧ Below w.heap.size w w' := by
  have b0 := bal (Below.refl _ w) (.cells #[.bool q.first, .slice a1 n1 c1, .slice a2 n2 c2, .string q.n, .int .i64 q.p, .int .i64 q.t] 31)
  have A0 : At w.heap.size (A6L a1 n1 c1 a2 n2 c2 q) (w.alloc (.cells #[.bool q.first, .slice a1 n1 c1, .slice a2 n2 c2, .string q.n, .int .i64 q.p, .int .i64 q.t] 31)) := At.new w (A6L a1 n1 c1 a2 n2 c2 q) 31
  have F := implPinsFault_any a1 n1 c1 B q.ps _ (hR.ps.below (b0.mono hB)) (Nat.le_trans hB b0.size)
  have G := fun w => implNameFault_any q.n w hR.nm
  have hl := hR.ts.length
  have hf := hR.ts.fits
  have hm := hR.ts.most
  unfold maxLen at hm
  have P := fun w => implIsPublic_any q.p w
  have Z := fun w => isTime_any q.t w
  clear hR
  obtain ⟨f, ps, ts, n, p, t⟩ := q
  unfold A6L at A0
  dsimp only at *
  by_cases h0 : pinsF ps = 0
  case neg =>
    rw [show askF ⟨f, ps, ts, n, p, t⟩ = pinsF ps from askF_pins h0]
    generalize pinsF ps = c at *
    clear G P Z hl
    have q0 : (c == 0) = false := by simpa using h0
    go_enter Tryd.func9, Tryd.ntmps9
    go_wp2_with fail
    generalize w.alloc (.cells #[.bool f, .slice a1 n1 c1, .slice a2 n2 c2, .string n, .int .i64 p, .int .i64 t] 31) = W0 at *
    refine F.mono ?_
    rintro r u1 ⟨rfl, b1⟩
    have A1 := A0.on b1
    have B1 := btr b0 b1
    have x0 := A1.cell 0 _ rfl
    have x1 := A1.cell 1 _ rfl
    have x2 := A1.cell 2 _ rfl
    have x3 := A1.cell 3 _ rfl
    have x4 := A1.cell 4 _ rfl
    have x5 := A1.cell 5 _ rfl
    clear A0 b0 b1 F
    go_wp2_with fail
    go_ret
    exact ⟨rfl, B1⟩
  rw [h0] at F
  by_cases h1 : 8 < n2
  · rw [show askF ⟨f, ps, ts, n, p, t⟩ = 2 from askF_many h0 (by show 8 < ts.length; omega)]
    have h1' : (8 : Int) < n2 := by omega
    clear G P Z hl h0
    go_enter Tryd.func9, Tryd.ntmps9
    go_wp2_with fail
    generalize w.alloc (.cells #[.bool f, .slice a1 n1 c1, .slice a2 n2 c2, .string n, .int .i64 p, .int .i64 t] 31) = W0 at *
    refine F.mono ?_
    rintro r u1 ⟨rfl, b1⟩
    have A1 := A0.on b1
    have B1 := btr b0 b1
    have x0 := A1.cell 0 _ rfl
    have x1 := A1.cell 1 _ rfl
    have x2 := A1.cell 2 _ rfl
    have x3 := A1.cell 3 _ rfl
    have x4 := A1.cell 4 _ rfl
    have x5 := A1.cell 5 _ rfl
    clear A0 b0 b1 F
    go_wp2_with fail
    go_ret
    exact ⟨rfl, B1⟩
  have h1' : ¬ (8 : Int) < n2 := by omega
  have h1t : ¬ 8 < ts.length := by omega
  by_cases h2 : M.nameF n.data.toList = 0
  case neg =>
    rw [show askF ⟨f, ps, ts, n, p, t⟩ = M.nameF n.data.toList from askF_name h0 h1t h2]
    generalize M.nameF n.data.toList = c at *
    have q0 : (c == 0) = false := by simpa using h2
    clear P Z hl h0 h1t
    go_enter Tryd.func9, Tryd.ntmps9
    go_wp2_with fail
    generalize w.alloc (.cells #[.bool f, .slice a1 n1 c1, .slice a2 n2 c2, .string n, .int .i64 p, .int .i64 t] 31) = W0 at *
    refine F.mono ?_
    rintro r u1 ⟨rfl, b1⟩
    have A1 := A0.on b1
    have B1 := btr b0 b1
    have x0 := A1.cell 0 _ rfl
    have x1 := A1.cell 1 _ rfl
    have x2 := A1.cell 2 _ rfl
    have x3 := A1.cell 3 _ rfl
    have x4 := A1.cell 4 _ rfl
    have x5 := A1.cell 5 _ rfl
    clear A0 b0 b1 F
    go_wp2_with fail
    refine (G _).mono ?_
    rintro r w' ⟨rfl, rfl⟩
    go_wp2_with fail
    go_ret
    exact ⟨rfl, B1⟩
  simp only [h2] at G
  cases h3 : pubB p
  · rw [show askF ⟨f, ps, ts, n, p, t⟩ = 3 from askF_range h0 h1t h2 (by show (pubB p && timB t) = false; rw [h3]; rfl)]
    rw [h3] at P
    clear Z hl h0 h1t h2
    go_enter Tryd.func9, Tryd.ntmps9
    go_wp2_with fail
    generalize w.alloc (.cells #[.bool f, .slice a1 n1 c1, .slice a2 n2 c2, .string n, .int .i64 p, .int .i64 t] 31) = W0 at *
    refine F.mono ?_
    rintro r u1 ⟨rfl, b1⟩
    have A1 := A0.on b1
    have B1 := btr b0 b1
    have x0 := A1.cell 0 _ rfl
    have x1 := A1.cell 1 _ rfl
    have x2 := A1.cell 2 _ rfl
    have x3 := A1.cell 3 _ rfl
    have x4 := A1.cell 4 _ rfl
    have x5 := A1.cell 5 _ rfl
    clear A0 b0 b1 F
    go_wp2_with fail
    refine (G _).mono ?_
    rintro r w' ⟨rfl, rfl⟩
    go_wp2_with fail
    refine (P _).mono ?_
    rintro r u2 ⟨rfl, b2⟩
    have B2 := btr B1 b2
    go_wp2_with fail
    go_ret
    exact ⟨rfl, B2⟩
  rw [h3] at P
  cases h4 : timB t
  · rw [show askF ⟨f, ps, ts, n, p, t⟩ = 3 from askF_range h0 h1t h2 (by show (pubB p && timB t) = false; rw [h4]; simp)]
    rw [h4] at Z
    clear hl h0 h1t h2
    go_enter Tryd.func9, Tryd.ntmps9
    go_wp2_with fail
    generalize w.alloc (.cells #[.bool f, .slice a1 n1 c1, .slice a2 n2 c2, .string n, .int .i64 p, .int .i64 t] 31) = W0 at *
    refine F.mono ?_
    rintro r u1 ⟨rfl, b1⟩
    have A1 := A0.on b1
    have B1 := btr b0 b1
    have x0 := A1.cell 0 _ rfl
    have x1 := A1.cell 1 _ rfl
    have x2 := A1.cell 2 _ rfl
    have x3 := A1.cell 3 _ rfl
    have x4 := A1.cell 4 _ rfl
    have x5 := A1.cell 5 _ rfl
    clear A0 b0 b1 F
    go_wp2_with fail
    refine (G _).mono ?_
    rintro r w' ⟨rfl, rfl⟩
    go_wp2_with fail
    refine (P _).mono ?_
    rintro r u2 ⟨rfl, b2⟩
    have B2 := btr B1 b2
    have A2 := A1.on b2
    clear x0 x1 x2 x3 x4 x5
    have x0 := A2.cell 0 _ rfl
    have x1 := A2.cell 1 _ rfl
    have x2 := A2.cell 2 _ rfl
    have x3 := A2.cell 3 _ rfl
    have x4 := A2.cell 4 _ rfl
    have x5 := A2.cell 5 _ rfl
    go_wp2_with fail
    refine (Z _).mono ?_
    rintro r w' ⟨rfl, rfl⟩
    go_wp2_with fail
    go_ret
    exact ⟨rfl, B2⟩
  · rw [show askF ⟨f, ps, ts, n, p, t⟩ = 0 from askF_yes h0 h1t h2 (by show (pubB p && timB t) = true; rw [h3, h4]; rfl)]
    rw [h4] at Z
    clear hl h0 h1t h2
    go_enter Tryd.func9, Tryd.ntmps9
    go_wp2_with fail
    generalize w.alloc (.cells #[.bool f, .slice a1 n1 c1, .slice a2 n2 c2, .string n, .int .i64 p, .int .i64 t] 31) = W0 at *
    refine F.mono ?_
    rintro r u1 ⟨rfl, b1⟩
    have A1 := A0.on b1
    have B1 := btr b0 b1
    have x0 := A1.cell 0 _ rfl
    have x1 := A1.cell 1 _ rfl
    have x2 := A1.cell 2 _ rfl
    have x3 := A1.cell 3 _ rfl
    have x4 := A1.cell 4 _ rfl
    have x5 := A1.cell 5 _ rfl
    clear A0 b0 b1 F
    go_wp2_with fail
    refine (G _).mono ?_
    rintro r w' ⟨rfl, rfl⟩
    go_wp2_with fail
    refine (P _).mono ?_
    rintro r u2 ⟨rfl, b2⟩
    have B2 := btr B1 b2
    have A2 := A1.on b2
    clear x0 x1 x2 x3 x4 x5
    have x0 := A2.cell 0 _ rfl
    have x1 := A2.cell 1 _ rfl
    have x2 := A2.cell 2 _ rfl
    have x3 := A2.cell 3 _ rfl
    have x4 := A2.cell 4 _ rfl
    have x5 := A2.cell 5 _ rfl
    go_wp2_with fail
    refine (Z _).mono ?_
    rintro r w' ⟨rfl, rfl⟩
    go_wp2_with fail
    go_ret
    exact ⟨rfl, B2⟩
theorem l10Fault_any (g : Nat) (a1 : Option Addr) (n1 c1 : Nat) (a2 : Option Addr) (n2 c2 B : Nat) (q : AskD) (w : World) (A0 : At g (A6L a1 n1 c1 a2 n2 c2 q) w) (hR : ARow w B a1 n1 c1 a2 n2 c2 q) (hB : B ≤ w.heap.size) :
    Calls Tryd.prog 24 #[.pointer (some ⟨g, 0, none⟩)] w fun r w' => r = .returned (.int .i64 (askF q)) ∧ Below w.heap.size w w' := by
  have F := l7Pins_any a1 n1 c1 B q.ps w hR.ps hB
  have G := fun w => l5Fault_any q.n w hR.nm
  have hl := hR.ts.length
  have hf := hR.ts.fits
  have hm := hR.ts.most
  unfold maxLen at hm
  have P := fun w => l1Public_any q.p w
  have Z := fun w => l7Time_any q.t w
  clear hR
  obtain ⟨f, ps, ts, n, p, t⟩ := q
  unfold A6L at A0
  dsimp only at *
  have y0 := A0.cell 0 _ rfl
  have y1 := A0.cell 1 _ rfl
  have y2 := A0.cell 2 _ rfl
  have y3 := A0.cell 3 _ rfl
  have y4 := A0.cell 4 _ rfl
  have y5 := A0.cell 5 _ rfl
  by_cases h0 : pinsF ps = 0
  case neg =>
    rw [show askF ⟨f, ps, ts, n, p, t⟩ = pinsF ps from askF_pins h0]
    generalize pinsF ps = c at *
    clear G P Z hl
    have q0 : (c == 0) = false := by simpa using h0
    have q1 : (c != 0) = true := by simp [h0]
    go_enter Tryd.func24, Tryd.ntmps24
    go_wp2_with fail
    refine F.mono ?_
    rintro r u1 ⟨rfl, b1⟩
    have A1 := A0.on b1
    have x0 := A1.cell 0 _ rfl
    have x1 := A1.cell 1 _ rfl
    have x2 := A1.cell 2 _ rfl
    have x3 := A1.cell 3 _ rfl
    have x4 := A1.cell 4 _ rfl
    have x5 := A1.cell 5 _ rfl
    clear A0 F y0 y1 y2 y3 y4 y5
    go_wp2_with fail
    go_ret
    exact ⟨rfl, b1⟩
  rw [h0] at F
  by_cases h1 : 8 < n2
  · rw [show askF ⟨f, ps, ts, n, p, t⟩ = 2 from askF_many h0 (by show 8 < ts.length; omega)]
    have h1' : (8 : Int) < n2 := by omega
    clear G P Z hl h0
    go_enter Tryd.func24, Tryd.ntmps24
    go_wp2_with fail
    refine F.mono ?_
    rintro r u1 ⟨rfl, b1⟩
    have A1 := A0.on b1
    have x0 := A1.cell 0 _ rfl
    have x1 := A1.cell 1 _ rfl
    have x2 := A1.cell 2 _ rfl
    have x3 := A1.cell 3 _ rfl
    have x4 := A1.cell 4 _ rfl
    have x5 := A1.cell 5 _ rfl
    clear A0 F y0 y1 y2 y3 y4 y5
    go_wp2_with fail
    go_ret
    exact ⟨rfl, b1⟩
  have h1' : ¬ (8 : Int) < n2 := by omega
  have h1t : ¬ 8 < ts.length := by omega
  by_cases h2 : M.nameF n.data.toList = 0
  case neg =>
    rw [show askF ⟨f, ps, ts, n, p, t⟩ = M.nameF n.data.toList from askF_name h0 h1t h2]
    generalize M.nameF n.data.toList = c at *
    have q0 : (c == 0) = false := by simpa using h2
    have q1 : (c != 0) = true := by simp [h2]
    clear P Z hl h0 h1t
    go_enter Tryd.func24, Tryd.ntmps24
    go_wp2_with fail
    refine F.mono ?_
    rintro r u1 ⟨rfl, b1⟩
    have A1 := A0.on b1
    have x0 := A1.cell 0 _ rfl
    have x1 := A1.cell 1 _ rfl
    have x2 := A1.cell 2 _ rfl
    have x3 := A1.cell 3 _ rfl
    have x4 := A1.cell 4 _ rfl
    have x5 := A1.cell 5 _ rfl
    clear A0 F y0 y1 y2 y3 y4 y5
    go_wp2_with fail
    refine (G _).mono ?_
    rintro r u2 ⟨rfl, b2⟩
    have A2 := A1.on b2
    have B2 := btr b1 b2
    clear A1 b1 b2 x0 x1 x2 x3 x4 x5
    have x0 := A2.cell 0 _ rfl
    have x1 := A2.cell 1 _ rfl
    have x2 := A2.cell 2 _ rfl
    have x3 := A2.cell 3 _ rfl
    have x4 := A2.cell 4 _ rfl
    have x5 := A2.cell 5 _ rfl
    go_wp2_with fail
    go_ret
    exact ⟨rfl, B2⟩
  simp only [h2] at G
  cases h3 : pubB p
  · rw [show askF ⟨f, ps, ts, n, p, t⟩ = 3 from askF_range h0 h1t h2 (by show (pubB p && timB t) = false; rw [h3]; rfl)]
    rw [h3] at P
    clear Z hl h0 h1t h2
    go_enter Tryd.func24, Tryd.ntmps24
    go_wp2_with fail
    refine F.mono ?_
    rintro r u1 ⟨rfl, b1⟩
    have A1 := A0.on b1
    have x0 := A1.cell 0 _ rfl
    have x1 := A1.cell 1 _ rfl
    have x2 := A1.cell 2 _ rfl
    have x3 := A1.cell 3 _ rfl
    have x4 := A1.cell 4 _ rfl
    have x5 := A1.cell 5 _ rfl
    clear A0 F y0 y1 y2 y3 y4 y5
    go_wp2_with fail
    refine (G _).mono ?_
    rintro r u2 ⟨rfl, b2⟩
    have A2 := A1.on b2
    have B2 := btr b1 b2
    clear A1 b1 b2 x0 x1 x2 x3 x4 x5
    have x0 := A2.cell 0 _ rfl
    have x1 := A2.cell 1 _ rfl
    have x2 := A2.cell 2 _ rfl
    have x3 := A2.cell 3 _ rfl
    have x4 := A2.cell 4 _ rfl
    have x5 := A2.cell 5 _ rfl
    go_wp2_with fail
    refine (P _).mono ?_
    rintro r w' ⟨rfl, rfl⟩
    go_wp2_with fail
    go_ret
    exact ⟨rfl, B2⟩
  rw [h3] at P
  cases h4 : timB t
  · rw [show askF ⟨f, ps, ts, n, p, t⟩ = 3 from askF_range h0 h1t h2 (by show (pubB p && timB t) = false; rw [h4]; simp)]
    rw [h4] at Z
    clear hl h0 h1t h2
    go_enter Tryd.func24, Tryd.ntmps24
    go_wp2_with fail
    refine F.mono ?_
    rintro r u1 ⟨rfl, b1⟩
    have A1 := A0.on b1
    have x0 := A1.cell 0 _ rfl
    have x1 := A1.cell 1 _ rfl
    have x2 := A1.cell 2 _ rfl
    have x3 := A1.cell 3 _ rfl
    have x4 := A1.cell 4 _ rfl
    have x5 := A1.cell 5 _ rfl
    clear A0 F y0 y1 y2 y3 y4 y5
    go_wp2_with fail
    refine (G _).mono ?_
    rintro r u2 ⟨rfl, b2⟩
    have A2 := A1.on b2
    have B2 := btr b1 b2
    clear A1 b1 b2 x0 x1 x2 x3 x4 x5
    have x0 := A2.cell 0 _ rfl
    have x1 := A2.cell 1 _ rfl
    have x2 := A2.cell 2 _ rfl
    have x3 := A2.cell 3 _ rfl
    have x4 := A2.cell 4 _ rfl
    have x5 := A2.cell 5 _ rfl
    go_wp2_with fail
    refine (P _).mono ?_
    rintro r w' ⟨rfl, rfl⟩
    go_wp2_with fail
    refine (Z _).mono ?_
    rintro r w' ⟨rfl, rfl⟩
    go_wp2_with fail
    go_ret
    exact ⟨rfl, B2⟩
  · rw [show askF ⟨f, ps, ts, n, p, t⟩ = 0 from askF_yes h0 h1t h2 (by show (pubB p && timB t) = true; rw [h3, h4]; rfl)]
    rw [h4] at Z
    clear hl h0 h1t h2
    go_enter Tryd.func24, Tryd.ntmps24
    go_wp2_with fail
    refine F.mono ?_
    rintro r u1 ⟨rfl, b1⟩
    have A1 := A0.on b1
    have x0 := A1.cell 0 _ rfl
    have x1 := A1.cell 1 _ rfl
    have x2 := A1.cell 2 _ rfl
    have x3 := A1.cell 3 _ rfl
    have x4 := A1.cell 4 _ rfl
    have x5 := A1.cell 5 _ rfl
    clear A0 F y0 y1 y2 y3 y4 y5
    go_wp2_with fail
    refine (G _).mono ?_
    rintro r u2 ⟨rfl, b2⟩
    have A2 := A1.on b2
    have B2 := btr b1 b2
    clear A1 b1 b2 x0 x1 x2 x3 x4 x5
    have x0 := A2.cell 0 _ rfl
    have x1 := A2.cell 1 _ rfl
    have x2 := A2.cell 2 _ rfl
    have x3 := A2.cell 3 _ rfl
    have x4 := A2.cell 4 _ rfl
    have x5 := A2.cell 5 _ rfl
    go_wp2_with fail
    refine (P _).mono ?_
    rintro r w' ⟨rfl, rfl⟩
    go_wp2_with fail
    refine (Z _).mono ?_
    rintro r w' ⟨rfl, rfl⟩
    go_wp2_with fail
    go_ret
    exact ⟨rfl, B2⟩
theorem specAskFault_any (a1 : Option Addr) (n1 c1 : Nat) (a2 : Option Addr) (n2 c2 B : Nat) (q : AskD) (w : World) (hR : ARow w B a1 n1 c1 a2 n2 c2 q) (hB : B ≤ w.heap.size) :
    Calls Tryd.prog 7 #[A6 a1 n1 c1 a2 n2 c2 q] w fun r w' => r = .returned (.int .i64 (askF q)) ∧ Below w.heap.size w w' := by
  have b0 := bal (Below.refl _ w) (.cells #[.bool q.first, .slice a1 n1 c1, .slice a2 n2 c2, .string q.n, .int .i64 q.p, .int .i64 q.t] 31)
  have A0 : At w.heap.size (A6L a1 n1 c1 a2 n2 c2 q) (w.alloc (.cells #[.bool q.first, .slice a1 n1 c1, .slice a2 n2 c2, .string q.n, .int .i64 q.p, .int .i64 q.t] 31)) := At.new w (A6L a1 n1 c1 a2 n2 c2 q) 31
  have F := l10Fault_any w.heap.size a1 n1 c1 a2 n2 c2 B q _ A0 (hR.below (b0.mono hB)) (Nat.le_trans hB b0.size)
  generalize askF q = c at *
  clear hR A0
  go_enter Tryd.func7, Tryd.ntmps7
  go_wp2_with fail
  refine F.mono ?_
  rintro r u1 ⟨rfl, b1⟩
  have hb := btr b0 b1
  go_wp2_with fail
  go_ret
  exact ⟨rfl, hb⟩
end Go.Proofs.YtcolecidbalmhaaDoor
