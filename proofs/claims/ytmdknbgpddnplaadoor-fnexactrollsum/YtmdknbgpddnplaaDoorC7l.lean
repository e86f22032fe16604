/- Contracts of how a pin is laid into bytes, by the program. Conditions: as each theorem states. -/
import Derived.Test.YtmdknbgpddnplaaDoorC7k
namespace Go.Proofs.YtmdknbgpddnplaaDoor
open Go.RowKit
set_option maxRecDepth 100000
set_option linter.unusedVariables false

/-- A slice that holds two bytes does not lie in a block of one. -/
theorem two_else {w : World} {B : Nat} {v : Value} {a : Int} {x : Value} {t : TypeId} {g k : Nat} (h : OwnK .u8 w B v ([] ++ M.two a)) (he : w.heap[g]? = some (.cells #[x] t)) (hk : v.ownBlock = some k) (ek : k = g) : False := by
  subst ek
  rcases h.2 with ⟨rfl, h0⟩ | ⟨g', c, rfl, _, _, _, _, hcell, _⟩
  · simp [Value.ownBlock] at hk
  · simp [Value.ownBlock] at hk
    subst hk
    have := hcell 1 (.int .u8 (a % 256)) (by simp [M.two])
    unfold World.cell? at this
    rw [he] at this
    simp at this
theorem implPackPin_any (p : PinD) (w : World) (hn : p.n.size ≤ maxLen) :
    Calls Tryd.prog 36 #[P5 p] w (BytesRes p.f (packPL p) w) := by
  have b0 := bal (bal (Below.refl _ w) (.cells #[.string p.n, .int .i64 p.a, .int .i64 p.b, .int .i64 p.e, .int .i64 p.u] 30)) (.cells #[.int .i64 0, .slice none 0 0] 82)
  have A1 : At w.heap.size p.vals ((w.alloc (.cells #[.string p.n, .int .i64 p.a, .int .i64 p.b, .int .i64 p.e, .int .i64 p.u] 30)).alloc (.cells #[.int .i64 0, .slice none 0 0] 82)) := (At.new w p.vals 30).alloc _
  have A2 := At.new (w.alloc (.cells #[.string p.n, .int .i64 p.a, .int .i64 p.b, .int .i64 p.e, .int .i64 p.u] 30)) [.int .i64 0, .slice none 0 0] 82
  simp only [World.size_alloc] at A2
  have F := fun w => implPinFault_any p w hn
  by_cases h : p.f = 0
  · have e : packPL p = packP p := by simp [packPL, h]
    rw [e]
    obtain ⟨hn20, ha, hb, ⟨he0, he1⟩, hu⟩ := pin_bounds h
    have he2 : 0 ≤ p.e := by omega
    obtain ⟨i0, hi0, hz0, hz1, hz2⟩ := info_parts u8_info
    have hmk : ∀ W : World, (Instr.makeSlice 75 (.int .i64 0) (.int .i64 (7 + (p.n.size : Int)))).run Tryd.prog W = .ok (.slice (some ⟨W.heap.size, 0, none⟩) 0 (7 + p.n.size)) (W.alloc (.cells (madeCells #[.int .u8 0] (7 + p.n.size)) 5)) := by
      intro W
      have := run_make (P := Tryd.prog) W 75 5 i0 (.int .u8 0) Tryd.underlying75 hi0 hz0 .i64 .i64 0 (7 + p.n.size) (by omega) (by omega) (by rw [hz2]; omega) (by omega)
      simpa [hz1, Value.cells, show (7 + (p.n.size : Int)).toNat = 7 + p.n.size by omega] using this
    simp only [h] at F ⊢
    clear e h
    go_enter Tryd.func36, Tryd.ntmps36
    go_wp2_with fail
    generalize (w.alloc (.cells #[.string p.n, .int .i64 p.a, .int .i64 p.b, .int .i64 p.e, .int .i64 p.u] 30)).alloc (.cells #[.int .i64 0, .slice none 0 0] 82) = W0 at *
    refine (F _).mono ?_
    rintro r V ⟨rfl, h1⟩
    have bV := btr b0 h1
    have AV := A1.on h1
    have AR := A2.on h1
    have ltV := AR.lt (by simp)
    have d0 := AV.cell 0 _ rfl
    have d1 := AV.cell 1 _ rfl
    have d2 := AV.cell 2 _ rfl
    have d3 := AV.cell 3 _ rfl
    have d4 := AV.cell 4 _ rfl
    clear b0 h1 A1 A2 F
    have O1 : OwnK .u8 (V.alloc (.cells (madeCells #[.int .u8 0] (7 + p.n.size)) 5)).drew V.heap.size (.slice (some ⟨V.heap.size, 0, none⟩) 0 (7 + p.n.size)) [] := by
      have := Own.made (size := 1) (B := V.heap.size) V (madeCells #[.int .u8 0] (7 + p.n.size)) 5 (7 + p.n.size) (Nat.le_refl _) (by simp only [maxLen]; omega) (by rw [size_madeCells]; omega)
      simpa [OwnK] using this.drew
    have S0 : Bel V (V.alloc (.cells (madeCells #[.int .u8 0] (7 + p.n.size)) 5)).drew := ⟨(bal (Below.refl _ V) _).drew⟩
    go_wp2_with fail
    refine wp_region_fork (Bel V) (by kernel_rfl) (S0) ?_
    have hst : (Bel V) _ := (S0)
    have inst : Nonempty (Of (Bel V)) := ⟨⟨_, hst⟩⟩
    have u1 := bel_cell d1
    have u2 := bel_cell d2
    have u3 := bel_cell d3
    generalize (V.alloc (.cells (madeCells #[.int .u8 0] (7 + p.n.size)) 5)).drew = V1 at *
    clear S0
    refine any_seg 5 [(0, true), (1, true), (2, true), (4, true), (5, true), (7, true), (8, true), (9, true)] (by kernel_rfl) (fun _ _ d _ _ h => by cases d <;> exact h) ?_
    iterate 8 (refine line_read rfl (by kernel_rfl) (fun K hK => ?_); go_big_quiet_op; refine hK _ ?_; clear hK K)
    refine line_nil ?_
    clear u1 u2 u3 inst
    have hzV1 := hst.out.size
    refine any_fork 3 10 (by kernel_rfl) rfl rfl (by kernel_rfl) (by kernel_rfl) (fun K hK => ?_) (fun K hK => ?_)
    · refine call_any (args := #[.slice (some ⟨V.heap.size, 0, none⟩) 0 (7 + p.n.size), .int .i64 p.a]) rfl (by kernel_rfl) (by kernel_rfl) (appendTwo_any _ p.a V.heap.size [] _ O1 hzV1 ha (by simp)) ?_
      rintro e w3 ⟨v3, rfl, O3, g3⟩
      have b3 : Below V.heap.size V w3 := Own.grown O1 hst.out hzV1 g3
      refine ⟨_, rfl, hK _ _ ⟨b3⟩ ?_⟩
      clear hK K
      simp only [Act.put, List.setIfInBounds_toArray, List.set_cons_zero, List.set_cons_succ]
      have hz3 := b3.size
      clear O1 hst g3 hzV1
      refine any_fork 6 10 (by kernel_rfl) rfl rfl (by kernel_rfl) (by kernel_rfl) (fun K hK => ?_) (fun K hK => ?_)
      · refine call_any (args := #[v3, .int .i64 p.b]) rfl (by kernel_rfl) (by kernel_rfl) (appendTwo_any _ p.b V.heap.size ([] ++ M.two p.a) _ O3 hz3 hb (by simp [M.two])) ?_
        rintro e w6 ⟨v6, rfl, O6, g6⟩
        have b6 : Below V.heap.size V w6 := Own.grown O3 b3 hz3 g6
        refine ⟨_, rfl, hK _ _ ⟨b6⟩ ?_⟩
        clear hK K
        simp only [Act.put, List.setIfInBounds_toArray, List.set_cons_zero, List.set_cons_succ]
        have hz6 := b6.size
        clear O3 b3 hz3 g6
        refine any_rest [(10, false), (11, false), (12, true)] (by kernel_rfl) (fun _ _ d _ _ h => by cases d <;> exact h) ?_
        refine line_alone rfl (by kernel_rfl) (fun K hK => ?_)
        go_big_op
        refine hK _ _ (⟨bal b6 _⟩) ?_
        clear hK K
        have O10 : OwnK .u8 (w6.alloc (.cells #[.int .u8 p.e] 5)) V.heap.size v6 (M.two p.a ++ M.two p.b) := Own.alloc O6 _
        have b10 := bal b6 (.cells #[.int .u8 p.e] 5)
        have hz10 := b10.size
        have hsr := src_new (P := Tryd.prog) w6 [.int .u8 p.e] 1 1 5 75 5 Tryd.underlying75 rfl (ints_oneCell .u8 [p.e])
        refine line_alone rfl (by kernel_rfl) (fun K hK => ?_)
        refine wp_append_src _ (.tmp 22) (.tmp 26) 75 75 rfl V.heap.size 5 i0 (.int .u8 0) 1 1 Tryd.underlying75 hi0 hz0 hz1 hz2 rfl _ 4 ((M.two p.a ++ M.two p.b).map (Value.int .u8)) rfl O10 _ 1 [.int .u8 p.e] rfl hsr (by simp only [maxLen]; omega) (by omega) hz10 (fun v11 w11 hown hgrow hat => ?_)
        have b11 : Below V.heap.size V w11 := Own.grown O10 b10 hz10 hgrow
        have O11 : OwnK .u8 w11 V.heap.size v11 (M.two p.a ++ M.two p.b ++ [p.e]) := by unfold OwnK; simpa [M.two] using hown
        refine hK _ _ ⟨b11⟩ ?_
        clear hK K hown hgrow hat
        simp only [Act.put, List.setIfInBounds_toArray, List.set_cons_zero, List.set_cons_succ]
        clear O10 b10 hz10 hsr O6 b6 hz6
        have inst : Nonempty (Of (Bel V)) := ⟨⟨_, ⟨b11⟩⟩⟩
        iterate 1 (refine line_read rfl (by kernel_rfl) (fun K hK => ?_); go_big_quiet_op; refine hK _ ?_; clear hK K)
        refine line_nil ?_
        have S6 : Hold w w.heap.size p.vals w11.drew := ⟨(btr bV b11).drew, (AV.on b11).on (bdrew _)⟩
        have b11d : Below V.heap.size V w11.drew := b11.drew
        have O11d : OwnK .u8 w11.drew V.heap.size v11 (M.two p.a ++ M.two p.b ++ [p.e]) := O11
        have hz11 : V.heap.size ≤ w11.drew.heap.size := b11.size
        clear inst b11 O11
        go_wp2_with fail
        refine wp_region_line (Hold w w.heap.size p.vals) [(0, true), (1, true), (2, true), (4, true), (5, true), (3, false), (6, false), (7, true), (8, false)] (by kernel_rfl) (by kernel_rfl) (fun _ _ d _ _ h => by cases d <;> exact h) S6 ?_
        have hst := S6
        have inst : Nonempty (Of (Hold w w.heap.size p.vals)) := ⟨⟨_, hst⟩⟩
        have k0 := hold_cell (W := w) (g := w.heap.size) (cs := p.vals) 0 _ rfl
        have k4 := hold_cell (W := w) (g := w.heap.size) (cs := p.vals) 4 _ rfl
        generalize w11.drew = V6 at *
        iterate 5 (refine line_read rfl (by kernel_rfl) (fun K hK => ?_); go_big_quiet_op; refine hK _ ?_; clear hK K)
        clear k0 k4 S6 hst
        refine line_alone rfl (by kernel_rfl) (fun K hK => ?_)
        refine call_any (args := #[v11, .int .i64 p.u]) rfl (by kernel_rfl) (by kernel_rfl) (appendTwo_any _ p.u V.heap.size _ V6 O11d hz11 hu (by simp [M.two])) ?_
        rintro e w12 ⟨v12, rfl, O12, g12⟩
        have b12 : Below V.heap.size V w12 := Own.grown O11d b11d hz11 g12
        refine ⟨_, rfl, hK _ _ ⟨btr bV b12, AV.on b12⟩ ?_⟩
        clear hK K O11d g12 b11d hz11
        simp only [Act.put, List.setIfInBounds_toArray, List.set_cons_zero, List.set_cons_succ]
        have hz12 := b12.size
        have O12' : OwnK .u8 w12 V.heap.size v12 (headP p.a p.b p.e p.u) := O12
        have hsrc := Src.ofString (P := Tryd.prog) w12 (tx := 9) Tryd.underlying9 p.n
        refine line_alone rfl (by kernel_rfl) (fun K hK => ?_)
        refine wp_append_src _ (.tmp 31) (.tmp 33) 75 9 rfl V.heap.size 5 i0 (.int .u8 0) 1 1 Tryd.underlying75 hi0 hz0 hz1 hz2 rfl _ _ _ rfl O12' _ p.n.size _ rfl hsrc (by rw [headP_length]; simp only [maxLen]; omega) (by rw [headP_length]; omega) hz12 (fun v13 w13 hown hgrow hat => ?_)
        have b13 : Below V.heap.size V w13 := O12'.grown b12 hz12 hgrow
        obtain ⟨a13, c13, hv13, -⟩ := Own.form hown
        have O13 : OwnK .u8 w13 V.heap.size v13 (packP p) := by
          unfold OwnK packP
          rw [List.length_append, M.textL_length, List.map_append]
          have e : (M.textL p.n).map (Value.int .u8) = byteCells p.n := by simp [M.textL, byteCells, List.map_map, Function.comp_def]
          rw [e]
          exact hown
        subst hv13
        refine hK _ _ ⟨btr bV b13, AV.on b13⟩ ?_
        clear hK K hown hgrow hat O12 O12' hsrc
        simp only [Act.put, List.setIfInBounds_toArray, List.set_cons_zero, List.set_cons_succ]
        refine line_readv (v := .agg #[.int .i64 0, .slice a13 ((headP p.a p.b p.e p.u).length + p.n.size) c13]) rfl (by kernel_rfl) (fun _ => by kernel_rfl) ?_
        simp only [Act.put, List.setIfInBounds_toArray, List.set_cons_zero, List.set_cons_succ]
        have AR13 := AR.on b13
        have q0 := AR13.cell 0 _ rfl
        have q1 := AR13.cell 1 _ rfl
        have z0 := AR13.free 0 _ rfl
        have z1 := AR13.free 1 _ rfl
        refine line_alone rfl (by kernel_rfl) (fun K hK => ?_)
        go_big_op
        refine hK _ _ ((by (iterate 2 (refine Hold.setB ?_ (by dsimp only; omega) (by dsimp only; omega) _)); exact ⟨btr bV b13, AV.on b13⟩)) ?_
        clear hK K
        refine line_nil ?_
        have HT := Lib.hid (And.intro O13 (btr bV b13))
        clear O13 b13 AR13 inst AV AR
        go_wp2_with fail
        refine bodyPost_ret (v := .agg #[.int .i64 0, .slice a13 ((headP p.a p.b p.e p.u).length + p.n.size) c13]) (by simp [results, Tryd.results36, go_sem, q0, q1]) rfl ?_
        exact ⟨_, _, _, rfl, (by (iterate 2 (refine Own.setCell ?_ (fun g hg => by have := (HT.out.1.lt g hg).1; dsimp only; omega) _)); exact HT.out.1.less (by omega)), (by (iterate 2 (refine bset ?_ (by dsimp only; omega) _)); exact HT.out.2)⟩
      · go_big_op
        have bX := bal b3 (.cells #[.int .u8 p.e] 5)
        have O3X : OwnK .u8 (w3.alloc (.cells #[.int .u8 p.e] 5)) V.heap.size v3 ([] ++ M.two p.a) := Own.alloc O3 _
        have eX : (w3.alloc (.cells #[.int .u8 p.e] 5)).heap[w3.heap.size]? = some (.cells #[.int .u8 p.e] 5) := (MapKept.heap_alloc w3 _).1
        have hlX : w3.heap.size < (w3.alloc (.cells #[.int .u8 p.e] 5)).heap.size := by simp
        have hnX : ∀ k, v3.ownBlock = some k → k ≠ w3.heap.size := fun k hk => by have := (Own.lt O3 k hk).2; omega
        refine hK _ _ ⟨bX⟩ ?_
        clear hK K O3 b3
        generalize w3.alloc (.cells #[.int .u8 p.e] 5) = X at *
        refine any_rest [(6, false), (11, false), (12, true)] (by kernel_rfl) (fun _ _ d _ _ h => by cases d <;> exact h) ?_
        have hzX := bX.size
        refine line_alone rfl (by kernel_rfl) (fun K hK => ?_)
        refine call_any (args := #[v3, .int .i64 p.b]) rfl (by kernel_rfl) (by kernel_rfl) (appendTwo_any _ p.b V.heap.size ([] ++ M.two p.a) _ O3X hzX hb (by simp [M.two])) ?_
        rintro e w6 ⟨v6, rfl, O6, g6⟩
        have b6 : Below V.heap.size V w6 := Own.grown O3X bX hzX g6
        refine ⟨_, rfl, hK _ _ ⟨b6⟩ ?_⟩
        clear hK K
        simp only [Act.put, List.setIfInBounds_toArray, List.set_cons_zero, List.set_cons_succ]
        have e6 := (g6.block w3.heap.size hlX (fun e => hnX _ e.symm rfl)).trans eX
        have hz6 := b6.size
        have O10 : OwnK .u8 w6 V.heap.size v6 (M.two p.a ++ M.two p.b) := O6
        have hsr := src_at (P := Tryd.prog) w3.heap.size [.int .u8 p.e] 1 1 5 75 5 Tryd.underlying75 rfl (ints_oneCell .u8 [p.e]) e6
        clear O3X bX eX hlX hnX hzX g6 e6
        refine line_alone rfl (by kernel_rfl) (fun K hK => ?_)
        refine wp_append_src _ (.tmp 22) (.tmp 26) 75 75 rfl V.heap.size 5 i0 (.int .u8 0) 1 1 Tryd.underlying75 hi0 hz0 hz1 hz2 rfl _ 4 ((M.two p.a ++ M.two p.b).map (Value.int .u8)) rfl O10 _ 1 [.int .u8 p.e] rfl hsr (by simp only [maxLen]; omega) (by omega) hz6 (fun v11 w11 hown hgrow hat => ?_)
        have b11 : Below V.heap.size V w11 := Own.grown O10 b6 hz6 hgrow
        have O11 : OwnK .u8 w11 V.heap.size v11 (M.two p.a ++ M.two p.b ++ [p.e]) := by unfold OwnK; simpa [M.two] using hown
        refine hK _ _ ⟨b11⟩ ?_
        clear hK K hown hgrow hat
        simp only [Act.put, List.setIfInBounds_toArray, List.set_cons_zero, List.set_cons_succ]
        clear O10 O6 b6 hz6 hsr
        have inst : Nonempty (Of (Bel V)) := ⟨⟨_, ⟨b11⟩⟩⟩
        iterate 1 (refine line_read rfl (by kernel_rfl) (fun K hK => ?_); go_big_quiet_op; refine hK _ ?_; clear hK K)
        refine line_nil ?_
        have S6 : Hold w w.heap.size p.vals w11.drew := ⟨(btr bV b11).drew, (AV.on b11).on (bdrew _)⟩
        have b11d : Below V.heap.size V w11.drew := b11.drew
        have O11d : OwnK .u8 w11.drew V.heap.size v11 (M.two p.a ++ M.two p.b ++ [p.e]) := O11
        have hz11 : V.heap.size ≤ w11.drew.heap.size := b11.size
        clear inst b11 O11
        go_wp2_with fail
        refine wp_region_line (Hold w w.heap.size p.vals) [(0, true), (1, true), (2, true), (4, true), (5, true), (3, false), (6, false), (7, true), (8, false)] (by kernel_rfl) (by kernel_rfl) (fun _ _ d _ _ h => by cases d <;> exact h) S6 ?_
        have hst := S6
        have inst : Nonempty (Of (Hold w w.heap.size p.vals)) := ⟨⟨_, hst⟩⟩
        have k0 := hold_cell (W := w) (g := w.heap.size) (cs := p.vals) 0 _ rfl
        have k4 := hold_cell (W := w) (g := w.heap.size) (cs := p.vals) 4 _ rfl
        generalize w11.drew = V6 at *
        iterate 5 (refine line_read rfl (by kernel_rfl) (fun K hK => ?_); go_big_quiet_op; refine hK _ ?_; clear hK K)
        clear k0 k4 S6 hst
        refine line_alone rfl (by kernel_rfl) (fun K hK => ?_)
        refine call_any (args := #[v11, .int .i64 p.u]) rfl (by kernel_rfl) (by kernel_rfl) (appendTwo_any _ p.u V.heap.size _ V6 O11d hz11 hu (by simp [M.two])) ?_
        rintro e w12 ⟨v12, rfl, O12, g12⟩
        have b12 : Below V.heap.size V w12 := Own.grown O11d b11d hz11 g12
        refine ⟨_, rfl, hK _ _ ⟨btr bV b12, AV.on b12⟩ ?_⟩
        clear hK K O11d g12 b11d hz11
        simp only [Act.put, List.setIfInBounds_toArray, List.set_cons_zero, List.set_cons_succ]
        have hz12 := b12.size
        have O12' : OwnK .u8 w12 V.heap.size v12 (headP p.a p.b p.e p.u) := O12
        have hsrc := Src.ofString (P := Tryd.prog) w12 (tx := 9) Tryd.underlying9 p.n
        refine line_alone rfl (by kernel_rfl) (fun K hK => ?_)
        refine wp_append_src _ (.tmp 31) (.tmp 33) 75 9 rfl V.heap.size 5 i0 (.int .u8 0) 1 1 Tryd.underlying75 hi0 hz0 hz1 hz2 rfl _ _ _ rfl O12' _ p.n.size _ rfl hsrc (by rw [headP_length]; simp only [maxLen]; omega) (by rw [headP_length]; omega) hz12 (fun v13 w13 hown hgrow hat => ?_)
        have b13 : Below V.heap.size V w13 := O12'.grown b12 hz12 hgrow
        obtain ⟨a13, c13, hv13, -⟩ := Own.form hown
        have O13 : OwnK .u8 w13 V.heap.size v13 (packP p) := by
          unfold OwnK packP
          rw [List.length_append, M.textL_length, List.map_append]
          have e : (M.textL p.n).map (Value.int .u8) = byteCells p.n := by simp [M.textL, byteCells, List.map_map, Function.comp_def]
          rw [e]
          exact hown
        subst hv13
        refine hK _ _ ⟨btr bV b13, AV.on b13⟩ ?_
        clear hK K hown hgrow hat O12 O12' hsrc
        simp only [Act.put, List.setIfInBounds_toArray, List.set_cons_zero, List.set_cons_succ]
        refine line_readv (v := .agg #[.int .i64 0, .slice a13 ((headP p.a p.b p.e p.u).length + p.n.size) c13]) rfl (by kernel_rfl) (fun _ => by kernel_rfl) ?_
        simp only [Act.put, List.setIfInBounds_toArray, List.set_cons_zero, List.set_cons_succ]
        have AR13 := AR.on b13
        have q0 := AR13.cell 0 _ rfl
        have q1 := AR13.cell 1 _ rfl
        have z0 := AR13.free 0 _ rfl
        have z1 := AR13.free 1 _ rfl
        refine line_alone rfl (by kernel_rfl) (fun K hK => ?_)
        go_big_op
        refine hK _ _ ((by (iterate 2 (refine Hold.setB ?_ (by dsimp only; omega) (by dsimp only; omega) _)); exact ⟨btr bV b13, AV.on b13⟩)) ?_
        clear hK K
        refine line_nil ?_
        have HT := Lib.hid (And.intro O13 (btr bV b13))
        clear O13 b13 AR13 inst AV AR
        go_wp2_with fail
        refine bodyPost_ret (v := .agg #[.int .i64 0, .slice a13 ((headP p.a p.b p.e p.u).length + p.n.size) c13]) (by simp [results, Tryd.results36, go_sem, q0, q1]) rfl ?_
        exact ⟨_, _, _, rfl, (by (iterate 2 (refine Own.setCell ?_ (fun g hg => by have := (HT.out.1.lt g hg).1; dsimp only; omega) _)); exact HT.out.1.less (by omega)), (by (iterate 2 (refine bset ?_ (by dsimp only; omega) _)); exact HT.out.2)⟩
    · go_big_op
      have bX := bal hst.out (.cells #[.int .u8 p.e] 5)
      have O1X : OwnK .u8 (V1.alloc (.cells #[.int .u8 p.e] 5)) V.heap.size (.slice (some ⟨V.heap.size, 0, none⟩) 0 (7 + p.n.size)) [] := Own.alloc O1 _
      have eX : (V1.alloc (.cells #[.int .u8 p.e] 5)).heap[V1.heap.size]? = some (.cells #[.int .u8 p.e] 5) := (MapKept.heap_alloc V1 _).1
      have hlX : V1.heap.size < (V1.alloc (.cells #[.int .u8 p.e] 5)).heap.size := by simp
      have hltV := (Own.lt O1 V.heap.size rfl).2
      refine hK _ _ ⟨bX⟩ ?_
      clear hK K O1 hst
      generalize V1.alloc (.cells #[.int .u8 p.e] 5) = X at *
      refine any_rest [(3, false), (6, false), (11, false), (12, true)] (by kernel_rfl) (fun _ _ d _ _ h => by cases d <;> exact h) ?_
      have hzX := bX.size
      refine line_alone rfl (by kernel_rfl) (fun K hK => ?_)
      refine call_any (args := #[.slice (some ⟨V.heap.size, 0, none⟩) 0 (7 + p.n.size), .int .i64 p.a]) rfl (by kernel_rfl) (by kernel_rfl) (appendTwo_any _ p.a V.heap.size [] _ O1X hzX ha (by simp)) ?_
      rintro e w3 ⟨v3, rfl, O3, g3⟩
      have b3 : Below V.heap.size V w3 := Own.grown O1X bX hzX g3
      refine ⟨_, rfl, hK _ _ ⟨b3⟩ ?_⟩
      clear hK K
      simp only [Act.put, List.setIfInBounds_toArray, List.set_cons_zero, List.set_cons_succ]
      have hz3 := b3.size
      have e3 := (g3.block V1.heap.size hlX (fun e => by simp [Value.ownBlock] at e; omega)).trans eX
      have hl3 : V1.heap.size < w3.heap.size := Nat.lt_of_lt_of_le hlX g3.size
      have hn3 : ∀ k, v3.ownBlock = some k → k ≠ V1.heap.size := fun k hk ek => two_else O3 e3 hk ek
      refine line_alone rfl (by kernel_rfl) (fun K hK => ?_)
      refine call_any (args := #[v3, .int .i64 p.b]) rfl (by kernel_rfl) (by kernel_rfl) (appendTwo_any _ p.b V.heap.size ([] ++ M.two p.a) _ O3 hz3 hb (by simp [M.two])) ?_
      rintro e w6 ⟨v6, rfl, O6, g6⟩
      have b6 : Below V.heap.size V w6 := Own.grown O3 b3 hz3 g6
      refine ⟨_, rfl, hK _ _ ⟨b6⟩ ?_⟩
      clear hK K
      simp only [Act.put, List.setIfInBounds_toArray, List.set_cons_zero, List.set_cons_succ]
      have e6 := (g6.block V1.heap.size hl3 (fun e => hn3 _ e.symm rfl)).trans e3
      have hz6 := b6.size
      have O10 : OwnK .u8 w6 V.heap.size v6 (M.two p.a ++ M.two p.b) := O6
      have hsr := src_at (P := Tryd.prog) V1.heap.size [.int .u8 p.e] 1 1 5 75 5 Tryd.underlying75 rfl (ints_oneCell .u8 [p.e]) e6
      clear O1X bX eX hlX hzX g3 g6 e3 e6 hl3 hn3 O3 b3 hz3
      refine line_alone rfl (by kernel_rfl) (fun K hK => ?_)
      refine wp_append_src _ (.tmp 22) (.tmp 26) 75 75 rfl V.heap.size 5 i0 (.int .u8 0) 1 1 Tryd.underlying75 hi0 hz0 hz1 hz2 rfl _ 4 ((M.two p.a ++ M.two p.b).map (Value.int .u8)) rfl O10 _ 1 [.int .u8 p.e] rfl hsr (by simp only [maxLen]; omega) (by omega) hz6 (fun v11 w11 hown hgrow hat => ?_)
      have b11 : Below V.heap.size V w11 := Own.grown O10 b6 hz6 hgrow
      have O11 : OwnK .u8 w11 V.heap.size v11 (M.two p.a ++ M.two p.b ++ [p.e]) := by unfold OwnK; simpa [M.two] using hown
      refine hK _ _ ⟨b11⟩ ?_
      clear hK K hown hgrow hat
      simp only [Act.put, List.setIfInBounds_toArray, List.set_cons_zero, List.set_cons_succ]
      clear O10 O6 b6 hz6 hsr
      have inst : Nonempty (Of (Bel V)) := ⟨⟨_, ⟨b11⟩⟩⟩
      iterate 1 (refine line_read rfl (by kernel_rfl) (fun K hK => ?_); go_big_quiet_op; refine hK _ ?_; clear hK K)
      refine line_nil ?_
      have S6 : Hold w w.heap.size p.vals w11.drew := ⟨(btr bV b11).drew, (AV.on b11).on (bdrew _)⟩
      have b11d : Below V.heap.size V w11.drew := b11.drew
      have O11d : OwnK .u8 w11.drew V.heap.size v11 (M.two p.a ++ M.two p.b ++ [p.e]) := O11
      have hz11 : V.heap.size ≤ w11.drew.heap.size := b11.size
      clear inst b11 O11
      go_wp2_with fail
      refine wp_region_line (Hold w w.heap.size p.vals) [(0, true), (1, true), (2, true), (4, true), (5, true), (3, false), (6, false), (7, true), (8, false)] (by kernel_rfl) (by kernel_rfl) (fun _ _ d _ _ h => by cases d <;> exact h) S6 ?_
      have hst := S6
      have inst : Nonempty (Of (Hold w w.heap.size p.vals)) := ⟨⟨_, hst⟩⟩
      have k0 := hold_cell (W := w) (g := w.heap.size) (cs := p.vals) 0 _ rfl
      have k4 := hold_cell (W := w) (g := w.heap.size) (cs := p.vals) 4 _ rfl
      generalize w11.drew = V6 at *
      iterate 5 (refine line_read rfl (by kernel_rfl) (fun K hK => ?_); go_big_quiet_op; refine hK _ ?_; clear hK K)
      clear k0 k4 S6 hst
      refine line_alone rfl (by kernel_rfl) (fun K hK => ?_)
      refine call_any (args := #[v11, .int .i64 p.u]) rfl (by kernel_rfl) (by kernel_rfl) (appendTwo_any _ p.u V.heap.size _ V6 O11d hz11 hu (by simp [M.two])) ?_
      rintro e w12 ⟨v12, rfl, O12, g12⟩
      have b12 : Below V.heap.size V w12 := Own.grown O11d b11d hz11 g12
      refine ⟨_, rfl, hK _ _ ⟨btr bV b12, AV.on b12⟩ ?_⟩
      clear hK K O11d g12 b11d hz11
      simp only [Act.put, List.setIfInBounds_toArray, List.set_cons_zero, List.set_cons_succ]
      have hz12 := b12.size
      have O12' : OwnK .u8 w12 V.heap.size v12 (headP p.a p.b p.e p.u) := O12
      have hsrc := Src.ofString (P := Tryd.prog) w12 (tx := 9) Tryd.underlying9 p.n
      refine line_alone rfl (by kernel_rfl) (fun K hK => ?_)
      refine wp_append_src _ (.tmp 31) (.tmp 33) 75 9 rfl V.heap.size 5 i0 (.int .u8 0) 1 1 Tryd.underlying75 hi0 hz0 hz1 hz2 rfl _ _ _ rfl O12' _ p.n.size _ rfl hsrc (by rw [headP_length]; simp only [maxLen]; omega) (by rw [headP_length]; omega) hz12 (fun v13 w13 hown hgrow hat => ?_)
      have b13 : Below V.heap.size V w13 := O12'.grown b12 hz12 hgrow
      obtain ⟨a13, c13, hv13, -⟩ := Own.form hown
      have O13 : OwnK .u8 w13 V.heap.size v13 (packP p) := by
        unfold OwnK packP
        rw [List.length_append, M.textL_length, List.map_append]
        have e : (M.textL p.n).map (Value.int .u8) = byteCells p.n := by simp [M.textL, byteCells, List.map_map, Function.comp_def]
        rw [e]
        exact hown
      subst hv13
      refine hK _ _ ⟨btr bV b13, AV.on b13⟩ ?_
      clear hK K hown hgrow hat O12 O12' hsrc
      simp only [Act.put, List.setIfInBounds_toArray, List.set_cons_zero, List.set_cons_succ]
      refine line_readv (v := .agg #[.int .i64 0, .slice a13 ((headP p.a p.b p.e p.u).length + p.n.size) c13]) rfl (by kernel_rfl) (fun _ => by kernel_rfl) ?_
      simp only [Act.put, List.setIfInBounds_toArray, List.set_cons_zero, List.set_cons_succ]
      have AR13 := AR.on b13
      have q0 := AR13.cell 0 _ rfl
      have q1 := AR13.cell 1 _ rfl
      have z0 := AR13.free 0 _ rfl
      have z1 := AR13.free 1 _ rfl
      refine line_alone rfl (by kernel_rfl) (fun K hK => ?_)
      go_big_op
      refine hK _ _ ((by (iterate 2 (refine Hold.setB ?_ (by dsimp only; omega) (by dsimp only; omega) _)); exact ⟨btr bV b13, AV.on b13⟩)) ?_
      clear hK K
      refine line_nil ?_
      have HT := Lib.hid (And.intro O13 (btr bV b13))
      clear O13 b13 AR13 inst AV AR
      go_wp2_with fail
      refine bodyPost_ret (v := .agg #[.int .i64 0, .slice a13 ((headP p.a p.b p.e p.u).length + p.n.size) c13]) (by simp [results, Tryd.results36, go_sem, q0, q1]) rfl ?_
      exact ⟨_, _, _, rfl, (by (iterate 2 (refine Own.setCell ?_ (fun g hg => by have := (HT.out.1.lt g hg).1; dsimp only; omega) _)); exact HT.out.1.less (by omega)), (by (iterate 2 (refine bset ?_ (by dsimp only; omega) _)); exact HT.out.2)⟩
  · have e : packPL p = [] := by simp [packPL, h]
    rw [e]
    generalize p.f = cd at *
    clear e
    go_enter Tryd.func36, Tryd.ntmps36
    go_wp2_with fail
    generalize (w.alloc (.cells #[.string p.n, .int .i64 p.a, .int .i64 p.b, .int .i64 p.e, .int .i64 p.u] 30)).alloc (.cells #[.int .i64 0, .slice none 0 0] 82) = W0 at *
    refine (F _).mono ?_
    rintro r w1 ⟨rfl, b1⟩
    have q0 := (A2.on b1).cell 0 _ rfl
    have q1 := (A2.on b1).cell 1 _ rfl
    have z0 := (A2.on b1).free 0 _ rfl
    have z1 := (A2.on b1).free 1 _ rfl
    have hb := btr b0 b1
    clear A1 A2 b0 b1 F
    go_wp2_with fail
    refine bodyPost_ret (v := .agg #[.int .i64 cd, .slice none 0 0]) (by simp [results, Tryd.results36, go_sem, q0, q1]) rfl ?_
    exact ⟨_, _, _, rfl, Own.nil _ _ _, (by (iterate 2 (refine bset ?_ (by dsimp only; omega) _)); exact hb)⟩
end Go.Proofs.YtmdknbgpddnplaaDoor
