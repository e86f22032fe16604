/- Texts of this seat that several laws rest on, laid into one. Conditions: as each theorem states. -/
import Derived.Test.YtlodhleihnlchaaGreatDoorX7
import Derived.Test.YtlodhleihnlchaaGreatDoorX15
namespace Go.Proofs.YtlodhleihnlchaaGreatDoor
open Go.RowKit
set_option maxRecDepth 100000
set_option linter.unusedVariables false

theorem OwnG.app2 {w1 w2 : World} {lo hi B : Nat} {v v' u : Value} {zss : List (List Int)} {xs : List Value} {zs : List Int} (h : OwnG w1 lo hi v zss xs) (hhi : hi ≤ B) (hlow : lo ≤ B) (hBs : B ≤ w1.heap.size) (hu : OwnK .u8 w1 B u zs)
    (ho : Own w2 lo 1 v' (zss.length + 1) (xs ++ [u])) (hg : w1.grownBy w2 v.ownBlock) (hat : v'.ownBlock = v.ownBlock ∨ v'.ownBlock = some w1.heap.size) : OwnG w2 lo w2.heap.size v' (zss ++ [zs]) (xs ++ [u]) := by
  have hl := h.len
  have old : ∀ j x, xs[j]? = some x → OwnK .u8 w2 lo x (zss[j]?.getD []) ∧ (∀ k, x.ownBlock = some k → k < B) ∧ ApartV x v := fun j x hx => by
    obtain ⟨a, b, c⟩ := h.row j x hx
    exact ⟨Own.keep a hg.size fun k e => hg.block k (by have := b k e; omega) (fun e2 => c k e e2.symm), fun k e => by have := b k e; omega, c⟩
  have hsz := hBs
  have hsz2 := hg.size
  have hv : ∀ k, v.ownBlock = some k → k < B := fun k e => by have := h.lt k e; omega
  have new : OwnK .u8 w2 B u zs := Own.keep hu hg.size fun k e => hg.block k (Own.lt hu k e).2 (fun e2 => by have := hv k e2.symm; have := (Own.lt hu k e).1; omega)
  have nlt := fun k e => Own.lt hu k e
  refine ⟨by simpa using ho, Nat.le_refl _, fun k e => (ho.lt k e).2, fun j x hx => ?_, fun i j u1 u2 hij h1 h2 => ?_⟩
  · rcases Nat.lt_or_ge j xs.length with hj | hj
    · rw [List.getElem?_append_left hj] at hx
      obtain ⟨a, b, c⟩ := old j x hx
      refine ⟨by rw [List.getElem?_append_left (by omega)]; exact a, fun k e => by have := b k e; omega, fun k e e2 => ?_⟩
      rcases hat with ha | ha
      · rw [ha] at e2; exact c k e e2
      · rw [ha] at e2
        injection e2 with e2
        have := b k e
        omega
    · have hj2 : j = xs.length := by
        have := (List.getElem?_eq_some_iff.1 hx).1
        simp at this
        omega
      subst hj2
      rw [List.getElem?_append_right (Nat.le_refl _), Nat.sub_self] at hx
      simp at hx
      subst hx
      refine ⟨?_, fun k e => by have := (nlt k e).2; omega, fun k e e2 => ?_⟩
      · rw [hl, List.getElem?_append_right (Nat.le_refl _), Nat.sub_self]
        exact Own.less new hlow
      · rcases hat with ha | ha
        · rw [ha] at e2
          have := hv k e2
          have := (nlt k e).1
          omega
        · rw [ha] at e2
          injection e2 with e2
          have := (nlt k e).2
          omega
  · have key : ∀ i x, (xs ++ [u])[i]? = some x → (i < xs.length ∧ xs[i]? = some x) ∨ (i = xs.length ∧ x = u) := fun i x hx => by
      rcases Nat.lt_or_ge i xs.length with hj | hj
      · rw [List.getElem?_append_left hj] at hx
        exact .inl ⟨hj, hx⟩
      · have hj2 : i = xs.length := by
          have := (List.getElem?_eq_some_iff.1 hx).1
          simp at this
          omega
        subst hj2
        rw [List.getElem?_append_right (Nat.le_refl _), Nat.sub_self] at hx
        simp at hx
        exact .inr ⟨rfl, hx.symm⟩
    rcases key i u1 h1 with ⟨a1, a2⟩ | ⟨a1, a2⟩ <;> rcases key j u2 h2 with ⟨b1, b2⟩ | ⟨b1, b2⟩
    · exact h.sep i j u1 u2 hij a2 b2
    · subst b2
      intro k e e2
      have := (old i u1 a2).2.1 k e
      have := (nlt k e2).1
      omega
    · subst a2
      intro k e e2
      have := (old j u2 b2).2.1 k e2
      have := (nlt k e).1
      omega
    · omega

theorem OwnG.gk {w w' : World} {lo hi g : Nat} {v : Value} {zss : List (List Int)} {xs : List Value} (h : OwnG w lo hi v zss xs) (hO : w.grownBy w' (some g)) (hg : g < lo) : OwnG w' lo hi v zss xs :=
  h.keep hO.size fun k h1 h2 => hO.block k (by have := h.top; omega) (fun e => by injection e with e; omega)
def BOwn (w : World) (lo : Nat) (v1 v2 : Value) (s : StoreD) : Prop := ∃ hi xs, OwnP w lo v1 s.ps ∧ OwnG w lo hi v2 s.d.rs xs ∧ (∀ p ∈ s.ps, p.n.size ≤ 21) ∧ ∀ zs ∈ s.d.rs, ∀ z ∈ zs, (Lit.int .u8 z).wf = true
theorem BOwn.row {w : World} {lo : Nat} {a1 a2 : Option Addr} {n1 c1 n2 c2 : Nat} {s : StoreD} (h : BOwn w lo (.slice a1 n1 c1) (.slice a2 n2 c2) s) : SRow w w.heap.size a1 n1 c1 a2 n2 c2 s := by
  obtain ⟨hi, xs, h1, h2, h3, h4⟩ := h
  exact ⟨OwnP.row h1 (fun p hp => by have := h3 p hp; simp only [maxLen]; omega), h2.grid h4, h4⟩
theorem BOwn.keep {w w' : World} {lo : Nat} {v1 v2 : Value} {s : StoreD} (h : BOwn w lo v1 v2 s) (hs : w.heap.size ≤ w'.heap.size) (hk : ∀ k, lo ≤ k → k < w.heap.size → w'.heap[k]? = w.heap[k]?) : BOwn w' lo v1 v2 s := by
  obtain ⟨hi, xs, h1, h2, h3, h4⟩ := h
  exact ⟨hi, xs, Own.keep h1 hs (fun k e => hk k (Own.lt h1 k e).1 (Own.lt h1 k e).2), h2.keep hs (fun k e1 e2 => hk k e1 (by have := h2.top; omega)), h3, h4⟩
theorem BOwn.on {w w' : World} {lo : Nat} {v1 v2 : Value} {s : StoreD} (h : BOwn w lo v1 v2 s) (hb : Below w.heap.size w w') : BOwn w' lo v1 v2 s := h.keep hb.size fun k _ h2 => hb.block k h2
theorem BOwn.alloc {w : World} {lo : Nat} {v1 v2 : Value} {s : StoreD} (h : BOwn w lo v1 v2 s) (o : Obj) : BOwn (w.alloc o) lo v1 v2 s := h.on (bal (Below.refl _ _) o)
theorem BOwn.kept {w w' : World} {lo g : Nat} {v1 v2 : Value} {s : StoreD} (h : BOwn w lo v1 v2 s) (hO : w.grownBy w' (some g)) (hg : g < lo) : BOwn w' lo v1 v2 s := h.keep hO.size fun k h1 h2 => hO.block k h2 (fun e => by injection e with e; omega)
theorem BOwn.less {w : World} {lo lo' : Nat} {v1 v2 : Value} {s : StoreD} (h : BOwn w lo v1 v2 s) (hl : lo' ≤ lo) : BOwn w lo' v1 v2 s := by
  obtain ⟨hi, xs, h1, h2, h3, h4⟩ := h
  exact ⟨hi, xs, OwnP.less h1 hl, h2.less hl, h3, h4⟩
theorem BOwn.set {w : World} {lo : Nat} {v1 v2 : Value} {s : StoreD} (h : BOwn w lo v1 v2 s) {p : Addr} (hp : p.block < lo) (u : Value) : BOwn (w.setCell p u) lo v1 v2 s := h.keep (by simp [World.setCell]) fun k h1 _ => Below.heap_setCell w p u k (by omega)
def DBent (K : Nat) (w0 : World) (a : Option Addr) (len cap : Nat) (zs : List Int) (w : World) (e : Ending) (w' : World) : Prop :=
  ∃ (a1 : Option Addr) (n1 c1 : Nat) (a2 : Option Addr) (n2 c2 : Nat) (s : StoreD) (p : Nat), p ≤ K ∧ e = .returned (S3 a1 n1 c1 a2 n2 c2 s.d.s) ∧ BOwn w' (w.heap.size + 1) (.slice a1 n1 c1) (.slice a2 n2 c2) s ∧ Draw w0 a len cap zs p w' ∧ w.grownBy w' (some w0.heap.size)
structure BRel (w0 : World) (a : Option Addr) (len cap : Nat) (zs : List Int) (p : Nat) (w : World) (xb : Nat) (a1 : Option Addr) (n1 c1 : Nat) (a2 : Option Addr) (n2 c2 : Nat) (s : StoreD) (cur : World) : Prop where
  draw : Draw w0 a len cap zs p cur
  grew : w.grownBy cur (some w0.heap.size)
  res : At w.heap.size zero3 cur
  box : At xb (S3L a1 n1 c1 a2 n2 c2 s.d.s) cur
  own : SOwn cur (w.heap.size + 1) xb (.slice a1 n1 c1) (.slice a2 n2 c2) s
  hw : w0.heap.size < w.heap.size
section
variable {w0 : World} {a : Option Addr} {len cap : Nat} {zs : List Int} {p p' : Nat} {w : World} {xb : Nat} {a1 : Option Addr} {n1 c1 : Nat} {a2 : Option Addr} {n2 c2 : Nat} {s : StoreD} {cur cur' : World}
theorem BRel.hx (h : BRel w0 a len cap zs p w xb a1 n1 c1 a2 n2 c2 s cur) : w.heap.size + 1 ≤ xb := h.own.top.1
theorem BRel.kept (h : BRel w0 a len cap zs p w xb a1 n1 c1 a2 n2 c2 s cur) (hO : cur.grownBy cur' (some w0.heap.size)) (D : Draw w0 a len cap zs p' cur') : BRel w0 a len cap zs p' w xb a1 n1 c1 a2 n2 c2 s cur' := by
  have hw := h.hw
  have hx := h.hx
  exact ⟨D, gtr h.grew hO, h.res.kept hO (fun e => by injection e with e; omega), h.box.kept hO (fun e => by injection e with e; omega), h.own.keep hO.size (fun k h1 h2 => hO.block k (by have := h.own.top; omega) (fun e => by injection e with e; omega)), hw⟩
theorem BRel.only (h : BRel w0 a len cap zs p w xb a1 n1 c1 a2 n2 c2 s cur) (hO : Only w0.heap.size cur cur') (D : Draw w0 a len cap zs p' cur') : BRel w0 a len cap zs p' w xb a1 n1 c1 a2 n2 c2 s cur' := h.kept hO.grown D
theorem BRel.on (h : BRel w0 a len cap zs p w xb a1 n1 c1 a2 n2 c2 s cur) (hb : Below cur.heap.size cur cur') : BRel w0 a len cap zs p w xb a1 n1 c1 a2 n2 c2 s cur' :=
  ⟨h.draw.below hb, gbe h.grew hb, h.res.on hb, h.box.on hb, h.own.below hb, h.hw⟩
theorem BRel.alloc (h : BRel w0 a len cap zs p w xb a1 n1 c1 a2 n2 c2 s cur) (o : Obj) : BRel w0 a len cap zs p w xb a1 n1 c1 a2 n2 c2 s (cur.alloc o) := h.on (bal (Below.refl _ _) o)
end
set_option maxHeartbeats 8000000 in
theorem dl9Bent {w0 : World} {a : Option Addr} {len cap : Nat} {zs : List Int} {p0 : Nat} {w : World} (D : Draw w0 a len cap zs p0 w) (hp0 : p0 ≤ 20) :
    Calls Tryz.prog 114 #[.pointer (some ⟨w0.heap.size, 0, none⟩)] w (DBent (p0 + 350) w0 a len cap zs w) := by
  have hlt := D.lt
  have D0 := D.alloc (.cells #[.slice none 0 0, .slice none 0 0, .int .i64 0] 57)
  have G0 := gal (World.grownBy.refl w (some w0.heap.size)) (.cells #[.slice none 0 0, .slice none 0 0, .int .i64 0] 57)
  have R0 : At w.heap.size zero3 (w.alloc (.cells #[.slice none 0 0, .slice none 0 0, .int .i64 0] 57)) := At.new w zero3 57
  have sz0 : (w.alloc (.cells #[.slice none 0 0, .slice none 0 0, .int .i64 0] 57)).heap.size = w.heap.size + 1 := by simp
  clear D
  go_enter Tryz.func114, Tryz.ntmps114
  go_wp2_with fail
  generalize w.alloc (.cells #[.slice none 0 0, .slice none 0 0, .int .i64 0] 57) = W0 at *
  refine (dl9Draw D0 (by omega) 10 (Int.le_refl _)).mono ?_
  rintro e w1 ⟨a1, n1, c1, a2, n2, c2, s, p, hs0, hp, rfl, O1, D1, g1⟩
  have hnm := fun q hq => (right_pins hs0 q hq).2
  have h12 : s.d.rs.length ≤ 12 := (diskF_zero (openC_zero (storeF_zero hs0).1).1).1
  have HNM := Lib.hid hnm
  have lt1 : W0.heap.size ≤ w1.heap.size := g1.size
  have R1 : BRel w0 a len cap zs p w w1.heap.size a1 n1 c1 a2 n2 c2 s (w1.alloc (.cells #[.slice a1 n1 c1, .slice a2 n2 c2, .int .i64 s.d.s] 57)) :=
    ⟨D1.alloc _, gal (gtr G0 g1) _, (R0.kept g1 (fun e => by injection e with e; omega)).alloc _, At.new w1 (S3L a1 n1 c1 a2 n2 c2 s.d.s) 57, by rw [sz0] at O1; exact O1.below (bal (Below.refl _ _) _), hlt⟩
  clear D0 G0 R0 O1 D1 g1 hs0 hnm
  go_wp2_with fail
  generalize w1.alloc (.cells #[.slice a1 n1 c1, .slice a2 n2 c2, .int .i64 s.d.s] 57) = v1 at *
  generalize w1.heap.size = xb at *
  refine (dnext 12 R1.draw (by omega)).mono ?_
  rintro e w2 ⟨sw, t0, t1, rfl, D2, O2⟩
  have R2 := R1.only O2 D2
  have hx := R2.hx
  clear R1 D2 O2 t1
  by_cases s0 : sw = 0
  · subst s0
    go_wp2_with fail
    refine (dl7BentPins R2.draw (by omega)).mono ?_
    rintro e w3 ⟨xp, xn, xc, ps, pp, ⟨hs, hl⟩, hpp, rfl, OP, D3, g3⟩
    have R3 := R2.kept g3 D3
    have lt2 := R2.box.lt (by simp [S3L])
    obtain ⟨mid, xs, hm1, hm2, hOP, hlt1, hOG, hn, hwf⟩ := R3.own
    have HO := Lib.hid (show BOwn (w3.setCell ⟨xb, 0, none⟩ (.slice xp xn xc)) (w.heap.size + 1) (.slice xp xn xc) (.slice a2 n2 c2) ⟨ps, ⟨s.d.rs, s.d.s⟩⟩ from
      ⟨xb, xs, OwnP.less (B := w2.heap.size) (Own.setCell OP (fun k e => by have := (Own.lt OP k e).1; show k ≠ xb; omega) _) (by omega), (hOG.setCell (p := ⟨xb, 0, none⟩) (.inr (Nat.le_refl _)) _).less hm1, hs, hwf⟩)
    have HD := Lib.hid R3.draw
    have HG := Lib.hid R3.grew
    have y0 := R3.box.cell 0 _ rfl
    have y1 := R3.box.cell 1 _ rfl
    have y2 := R3.box.cell 2 _ rfl
    have f0 := R3.box.free 0 _ rfl
    have f1 := R3.box.free 1 _ rfl
    have f2 := R3.box.free 2 _ rfl
    have q0 := R3.res.cell 0 _ rfl
    have q1 := R3.res.cell 1 _ rfl
    have q2 := R3.res.cell 2 _ rfl
    have z0 := R3.res.free 0 _ rfl
    have z1 := R3.res.free 1 _ rfl
    have z2 := R3.res.free 2 _ rfl
    have hxr : w.heap.size ≠ xb := by omega
    clear R2 R3 hOP hOG hwf OP D3 g3
    go_wp2_with fail
    refine bodyPost_ret (v := S3 xp xn xc a2 n2 c2 s.d.s) (by simp [results, Tryz.results114, go_sem, q0, q1, q2]) rfl ?_
    refine ⟨_, _, _, _, _, _, ⟨ps, ⟨s.d.rs, s.d.s⟩⟩, pp, by omega, rfl, ?_, ?_, ?_⟩
    · iterate 3 (refine BOwn.set ?_ (by dsimp only; omega) _)
      exact HO.out
    · iterate 4 (refine Draw.put ?_ (by dsimp only; omega) _)
      exact HD.out
    · iterate 4 (refine gset ?_ (by dsimp only; omega) _)
      exact HG.out
  have g0 : (sw == 0) = false := by rw [beq_eq_false_iff_ne]; exact s0
  by_cases s1 : sw = 1
  · subst s1
    go_wp2_with fail
    refine (dpick [-1, 0, 13] 3 R2.draw (by omega) (by omega) (by omega) rfl 2).mono ?_
    rintro e w3 ⟨sv, hv, rfl, D3, O3⟩
    have R3 := (R2.alloc (.cells #[.int .i64 (-1), .int .i64 0, .int .i64 13] 2)).only O3 D3
    obtain ⟨mid, xs, hm1, hm2, hOP, hlt1, hOG, hn, hwf⟩ := R3.own
    have HO := Lib.hid (show BOwn (w3.setCell ⟨xb, 2, none⟩ (.int .i64 sv)) (w.heap.size + 1) (.slice a1 n1 c1) (.slice a2 n2 c2) ⟨s.ps, ⟨s.d.rs, sv⟩⟩ from
      ⟨xb, xs, Own.setCell hOP (fun k e => by have := hlt1 k e; show k ≠ xb; omega) _, (hOG.setCell (p := ⟨xb, 2, none⟩) (.inr (Nat.le_refl _)) _).less hm1, HNM.out, hwf⟩)
    have HD := Lib.hid R3.draw
    have HG := Lib.hid R3.grew
    have y0 := R3.box.cell 0 _ rfl
    have y1 := R3.box.cell 1 _ rfl
    have y2 := R3.box.cell 2 _ rfl
    have f0 := R3.box.free 0 _ rfl
    have f1 := R3.box.free 1 _ rfl
    have f2 := R3.box.free 2 _ rfl
    have q0 := R3.res.cell 0 _ rfl
    have q1 := R3.res.cell 1 _ rfl
    have q2 := R3.res.cell 2 _ rfl
    have z0 := R3.res.free 0 _ rfl
    have z1 := R3.res.free 1 _ rfl
    have z2 := R3.res.free 2 _ rfl
    have hxr : w.heap.size ≠ xb := by omega
    clear R2 R3 hOP hOG hwf D3 O3 hv
    go_wp2_with fail
    refine bodyPost_ret (v := S3 a1 n1 c1 a2 n2 c2 sv) (by simp [results, Tryz.results114, go_sem, q0, q1, q2]) rfl ?_
    refine ⟨_, _, _, _, _, _, ⟨s.ps, ⟨s.d.rs, sv⟩⟩, p + 1 + 1, by omega, rfl, ?_, ?_, ?_⟩
    · iterate 3 (refine BOwn.set ?_ (by dsimp only; omega) _)
      exact HO.out
    · iterate 4 (refine Draw.put ?_ (by dsimp only; omega) _)
      exact HD.out
    · iterate 4 (refine gset ?_ (by dsimp only; omega) _)
      exact HG.out
  have g1 : (sw == 1) = false := by rw [beq_eq_false_iff_ne]; exact s1
  by_cases s2 : sw = 2
  · subst s2
    obtain ⟨i0, hi0, hz0, hz1, hz2⟩ := info_parts slices_info
    go_wp2_with fail
    refine wp_region_fork (At w.heap.size zero3) (by kernel_rfl) (R2.res.on (bdrew _)) ?_
    have hst : (At w.heap.size zero3) _ := (R2.res.on (bdrew _))
    have inst : Nonempty (Of (At w.heap.size zero3)) := ⟨⟨_, hst⟩⟩
    have R := R2.on (bdrew _)
    clear R2
    generalize w2.drew = V2 at *
    refine any_seg 9 [(0, true), (1, true), (3, true), (4, true)] (by kernel_rfl) (fun _ _ d _ _ h => by cases d <;> exact h) ?_
    iterate 4 (refine line_read rfl (by kernel_rfl) (fun K hK => ?_); go_big_quiet_op; refine hK _ ?_; clear hK K)
    refine line_nil ?_
    refine any_fork 2 5 (by kernel_rfl) rfl rfl (by kernel_rfl) (by kernel_rfl) (fun K hK => ?_) (fun K hK => ?_)
    · have e1 := R.box.cell 1 _ rfl
      go_big_op
      refine hK _ _ hst ?_
      clear hK K e1
      refine any_rest [(5, false), (6, false), (7, false), (8, false), (9, false), (10, true), (11, true), (12, false)] (by kernel_rfl) (fun _ _ d _ _ h => by cases d <;> exact h) ?_
      refine line_alone rfl (by kernel_rfl) (fun K hK => ?_)
      go_big_op
      have X := At.new V2 [.int .i64 1, .int .i64 12, .int .i64 41] 2
      have RN := R.alloc (.cells #[.int .i64 1, .int .i64 12, .int .i64 41] 2)
      have hgA : w0.heap.size < V2.heap.size := Nat.lt_trans R.hw (Nat.lt_of_lt_of_le (by omega) (Nat.le_of_lt (R.box.lt (by simp [S3L]))))
      have X' : At V2.heap.size [.int .i64 1, .int .i64 12, .int .i64 41] (V2.alloc (.cells #[.int .i64 1, .int .i64 12, .int .i64 41] 2)) := X
      have hstN : At w.heap.size zero3 (V2.alloc (.cells #[.int .i64 1, .int .i64 12, .int .i64 41] 2)) := RN.res
      clear R X
      have R := RN
      clear RN
      refine hK _ _ hstN ?_
      clear hK K hst
      have hst := hstN
      clear hstN
      generalize V2.alloc (.cells #[.int .i64 1, .int .i64 12, .int .i64 41] 2) = x3 at *
      generalize V2.heap.size = ga at *
      refine line_alone rfl (by kernel_rfl) (fun K hK => ?_)
      refine call_any (args := #[.pointer (some ⟨w0.heap.size, 0, none⟩), .slice (some ⟨ga, 0, none⟩) 3 3]) rfl (by kernel_rfl) (by kernel_rfl) (l1Pick_any w0.heap.size ga 3 [1, 12, 41] a len cap _ w0.heap.size zs x3 R.draw.src R.draw.row (Nat.le_refl _) (by omega) (by omega) rfl (by omega) (by omega) (fun j hj => by
        match j, hj with
        | 0, _ => exact X'.cell 0 _ rfl
        | 1, _ => exact X'.cell 1 _ rfl
        | 2, _ => exact X'.cell 2 _ rfl)) ?_
      rintro e x4 ⟨sv, hv, rfl, SN, O4⟩
      have DN := R.draw.only SN O4
      have RN := R.only O4 DN
      have hstN : At w.heap.size zero3 x4 := RN.res
      clear R SN DN O4 X'
      have R := RN
      clear RN
      refine ⟨_, rfl, hK _ _ hstN ?_⟩
      clear hK K hst
      have hst := hstN
      clear hstN
      simp only [Act.put, List.setIfInBounds_toArray, List.set_cons_zero, List.set_cons_succ]
      have hv' : 1 ≤ sv ∧ sv ≤ 41 := by simp at hv; omega
      obtain ⟨nn, rfl⟩ : ∃ nn : Nat, sv = nn := Int.eq_ofNat_of_zero_le (by omega)
      have hnn : nn ≤ 41 := by omega
      clear hv hv'
      refine line_alone rfl (by kernel_rfl) (fun K hK => ?_)
      refine call_any (args := #[.pointer (some ⟨w0.heap.size, 0, none⟩), .int .i64 (nn : Nat)]) rfl (by kernel_rfl) (by kernel_rfl) (dsome nn R.draw (by omega) (by omega)) ?_
      rintro e x5 ⟨ra, rc, zn, rfl, OU, hwz, D5, g5⟩
      have lt4 := R.box.lt (by simp [S3L])
      have hle5 := g5.size
      obtain ⟨mid, xs, hm1, hm2, hOP0, hlt1, hOG0, hn, hwf⟩ := R.own
      have hw := R.hw
      have hOG := hOG0.gk g5 (by omega)
      have hOP : OwnP x5 (w.heap.size + 1) (.slice a1 n1 c1) s.ps := Own.keep hOP0 g5.size (fun k e => g5.block k (Own.lt hOP0 k e).2 (fun e2 => by injection e2 with e2; have := (Own.lt hOP0 k e).1; omega))
      have RN := R.kept g5 D5
      have hstN : At w.heap.size zero3 x5 := RN.res
      clear R D5 g5 hOG0 hOP0
      have R := RN
      clear RN
      generalize x4.heap.size = B4 at *
      refine ⟨_, rfl, hK _ _ hstN ?_⟩
      clear hK K hst
      have hst := hstN
      clear hstN
      simp only [Act.put, List.setIfInBounds_toArray, List.set_cons_zero, List.set_cons_succ]
      refine line_alone rfl (by kernel_rfl) (fun K hK => ?_)
      go_big_op
      have SR := Lib.hid (src_new (P := Tryz.prog) x5 [.slice ra nn rc] 1 1 22 52 22 Tryz.underlying52 rfl (by intro u hu; simp at hu; subst hu; rfl))
      have b6 := bal (Below.refl _ x5) (.cells #[.slice ra nn rc] 22)
      have RN := R.on b6
      have OU6 := Own.alloc OU (.cells #[.slice ra nn rc] 22)
      have OG6 := hOG.alloc (.cells #[.slice ra nn rc] 22)
      have OP6 := OwnP.alloc hOP (.cells #[.slice ra nn rc] 22)
      have hstN : At w.heap.size zero3 (x5.alloc (.cells #[.slice ra nn rc] 22)) := RN.res
      have hsz6 : B4 ≤ (x5.alloc (.cells #[.slice ra nn rc] 22)).heap.size := by have := b6.size; omega
      clear R OU hOG hOP b6
      have R := RN
      clear RN
      refine hK _ _ hstN ?_
      clear hK K hst
      have hst := hstN
      clear hstN
      have hc7 : (x5.alloc (.cells [Value.slice ra nn rc].toArray 22)) = x5.alloc (.cells #[.slice ra nn rc] 22) := rfl
      rw [hc7] at SR
      clear hc7
      generalize x5.alloc (.cells #[.slice ra nn rc] 22) = x6 at *
      refine line_alone rfl (by kernel_rfl) (fun K hK => ?_)
      have hl2 : n2 = s.d.rs.length := OG6.len'
      subst hl2
      refine wp_append_src _ (.tmp 24) (.tmp 30) 52 52 rfl mid 22 i0 (.slice none 0 0) 1 24 Tryz.underlying52 hi0 hz0 hz1 hz2 rfl (.slice a2 s.d.rs.length c2) s.d.rs.length xs rfl OG6.own _ 1 [.slice ra nn rc] rfl SR.out (by simp only [maxLen]; omega) (by omega) (by omega) (fun v8 w8 hown hgrow hat => ?_)
      obtain ⟨a8, c8, hv8, -⟩ := Own.form hown
      subst hv8
      have OG8 := OwnG.app2 OG6 (Nat.le_of_lt lt4) (by omega) hsz6 OU6 hown hgrow hat
      have X8 := R.box.kept hgrow (fun e => by have := OG6.lt xb e.symm; omega)
      have Q8 := R.res.kept hgrow (fun e => by have := (OG6.own.lt w.heap.size e.symm).1; omega)
      have D8 : Draw w0 a len cap zs _ w8 := R.draw.grown hgrow (fun k e => by have := (OG6.own.lt k e).1; omega)
      have G8 : w.grownBy w8 (some w0.heap.size) := gown R.grew hgrow (fun k e => by have := (OG6.own.lt k e).1; omega)
      have OP8 : OwnP w8 (w.heap.size + 1) (.slice a1 n1 c1) s.ps := Own.keep OP6 hgrow.size (fun k e => hgrow.block k (Own.lt OP6 k e).2 (fun e2 => by have := hlt1 k e; have := (OG6.own.lt k e2.symm).1; omega))
      have hne8 : ∀ k, Value.ownBlock (.slice a8 (s.d.rs.length + 1) c8) = some k → k ≠ xb := fun k e e2 => by
        rcases hat with h | h
        · rw [h] at e; have := OG6.lt k e; omega
        · rw [h] at e; injection e with e; have := R.box.lt (by simp [S3L]); omega
      have hnx8 : ∀ (i : Nat) (u : Value) (k : Nat), (xs ++ [Value.slice ra nn rc])[i]? = some u → u.ownBlock = some k → k ≠ xb := fun i u k hu e e2 => by
        rcases Nat.lt_or_ge i xs.length with hi | hi
        · rw [List.getElem?_append_left hi] at hu
          have := (OG6.row i u hu).2.1 k e
          omega
        · rw [List.getElem?_append_right hi] at hu
          have h0 := (List.getElem?_eq_some_iff.1 hu).1
          simp at h0
          rw [h0] at hu
          simp at hu
          subst hu
          have := (Own.lt OU6 k e).1
          omega
      have hk8 : ∀ k, k ≠ xb → (w8.setCell ⟨xb, 1, none⟩ (.slice a8 (s.d.rs.length + 1) c8)).heap[k]? = w8.heap[k]? := fun k hk => Below.heap_setCell w8 ⟨xb, 1, none⟩ _ k hk
      have OG9 := OG8.keepP (w' := w8.setCell ⟨xb, 1, none⟩ (.slice a8 (s.d.rs.length + 1) c8)) (by simp [World.setCell]) (fun k e => hk8 k (hne8 k e)) (fun i u k hu e => hk8 k (hnx8 i u k hu e))
      have HO := Lib.hid (show BOwn (w8.setCell ⟨xb, 1, none⟩ (.slice a8 (s.d.rs.length + 1) c8)) (w.heap.size + 1) (.slice a1 n1 c1) (.slice a8 (s.d.rs.length + 1) c8) ⟨s.ps, ⟨s.d.rs ++ [zn], s.d.s⟩⟩ from
        ⟨_, _, Own.setCell OP8 (fun k e => by have := hlt1 k e; show k ≠ xb; omega) _, OG9.less hm1, HNM.out, fun r hr z hz => by
          rcases List.mem_append.1 hr with hr | hr
          · exact hwf r hr z hz
          · simp at hr; subst hr; exact hwz z hz⟩)
      have HD := Lib.hid D8
      have HG := Lib.hid G8
      refine hK _ _ Q8 ?_
      clear hK K hst hown hgrow hat OU6 OG6 OP6 SR OG8 OG9 OP8 D8 G8 R hne8 hnx8 hk8
      simp only [Act.put, List.setIfInBounds_toArray, List.set_cons_zero, List.set_cons_succ]
      iterate 2 (refine line_read rfl (by kernel_rfl) (fun K hK => ?_); go_big_quiet_op; refine hK _ ?_; clear hK K)
      have X9 := X8.set 1 (.slice a8 (s.d.rs.length + 1) c8)
      have Q9 := Q8.setB (p := ⟨xb, 1, none⟩) (by dsimp only; omega) (.slice a8 (s.d.rs.length + 1) c8)
      have y0 := X8.cell 0 _ rfl
      have y1 := X8.cell 1 _ rfl
      have y2 := X8.cell 2 _ rfl
      have f0 := X8.free 0 _ rfl
      have f1 := X8.free 1 _ rfl
      have f2 := X8.free 2 _ rfl
      refine line_alone rfl (by kernel_rfl) (fun K hK => ?_)
      go_big_op
      refine hK _ _ (Q9) ?_
      clear hK K
      refine line_nil ?_
      clear y0 y1 y2 f0 f1 f2 X8 Q8
      have X10 : At xb [.slice a1 n1 c1, .slice a8 (s.d.rs.length + 1) c8, .int .i64 s.d.s] (w8.setCell ⟨xb, 1, none⟩ (.slice a8 (s.d.rs.length + 1) c8)) := X9
      have y0 := X10.cell 0 _ rfl
      have y1 := X10.cell 1 _ rfl
      have y2 := X10.cell 2 _ rfl
      have f0 := X10.free 0 _ rfl
      have f1 := X10.free 1 _ rfl
      have f2 := X10.free 2 _ rfl
      have q0 := Q9.cell 0 _ rfl
      have q1 := Q9.cell 1 _ rfl
      have q2 := Q9.cell 2 _ rfl
      have z0 := Q9.free 0 _ rfl
      have z1 := Q9.free 1 _ rfl
      have z2 := Q9.free 2 _ rfl
      have hxr : w.heap.size ≠ xb := by omega
      clear X9 X10 Q9
      go_wp2_with fail
      refine bodyPost_ret (v := S3 a1 n1 c1 a8 (s.d.rs.length + 1) c8 s.d.s) (by simp [results, Tryz.results114, go_sem, q0, q1, q2]) rfl ?_
      refine ⟨_, _, _, _, _, _, ⟨s.ps, ⟨s.d.rs ++ [zn], s.d.s⟩⟩, p + 1 + 1 + nn, by omega, rfl, ?_, ?_, ?_⟩
      · iterate 3 (refine BOwn.set ?_ (by dsimp only; omega) _)
        exact HO.out
      · iterate 4 (refine Draw.put ?_ (by dsimp only; omega) _)
        exact HD.out
      · iterate 4 (refine gset ?_ (by dsimp only; omega) _)
        exact HG.out
    · go_big_op
      have X := At.new V2 [.int .i64 1, .int .i64 12, .int .i64 41] 2
      have RN := R.alloc (.cells #[.int .i64 1, .int .i64 12, .int .i64 41] 2)
      have hgA : w0.heap.size < V2.heap.size := Nat.lt_trans R.hw (Nat.lt_of_lt_of_le (by omega) (Nat.le_of_lt (R.box.lt (by simp [S3L]))))
      have X' : At V2.heap.size [.int .i64 1, .int .i64 12, .int .i64 41] (V2.alloc (.cells #[.int .i64 1, .int .i64 12, .int .i64 41] 2)) := X
      have hstN : At w.heap.size zero3 (V2.alloc (.cells #[.int .i64 1, .int .i64 12, .int .i64 41] 2)) := RN.res
      clear R X
      have R := RN
      clear RN
      refine hK _ _ hstN ?_
      clear hK K hst
      have hst := hstN
      clear hstN
      generalize V2.alloc (.cells #[.int .i64 1, .int .i64 12, .int .i64 41] 2) = x3 at *
      generalize V2.heap.size = ga at *
      refine any_fork 2 6 (by kernel_rfl) rfl rfl (by kernel_rfl) (by kernel_rfl) (fun K hK => ?_) (fun K hK => ?_)
      · have e1 := R.box.cell 1 _ rfl
        go_big_op
        refine hK _ _ hst ?_
        clear hK K e1
        refine any_rest [(6, false), (7, false), (8, false), (9, false), (10, true), (11, true), (12, false)] (by kernel_rfl) (fun _ _ d _ _ h => by cases d <;> exact h) ?_
        refine line_alone rfl (by kernel_rfl) (fun K hK => ?_)
        refine call_any (args := #[.pointer (some ⟨w0.heap.size, 0, none⟩), .slice (some ⟨ga, 0, none⟩) 3 3]) rfl (by kernel_rfl) (by kernel_rfl) (l1Pick_any w0.heap.size ga 3 [1, 12, 41] a len cap _ w0.heap.size zs x3 R.draw.src R.draw.row (Nat.le_refl _) (by omega) (by omega) rfl (by omega) (by omega) (fun j hj => by
          match j, hj with
          | 0, _ => exact X'.cell 0 _ rfl
          | 1, _ => exact X'.cell 1 _ rfl
          | 2, _ => exact X'.cell 2 _ rfl)) ?_
        rintro e x4 ⟨sv, hv, rfl, SN, O4⟩
        have DN := R.draw.only SN O4
        have RN := R.only O4 DN
        have hstN : At w.heap.size zero3 x4 := RN.res
        clear R SN DN O4 X'
        have R := RN
        clear RN
        refine ⟨_, rfl, hK _ _ hstN ?_⟩
        clear hK K hst
        have hst := hstN
        clear hstN
        simp only [Act.put, List.setIfInBounds_toArray, List.set_cons_zero, List.set_cons_succ]
        have hv' : 1 ≤ sv ∧ sv ≤ 41 := by simp at hv; omega
        obtain ⟨nn, rfl⟩ : ∃ nn : Nat, sv = nn := Int.eq_ofNat_of_zero_le (by omega)
        have hnn : nn ≤ 41 := by omega
        clear hv hv'
        refine line_alone rfl (by kernel_rfl) (fun K hK => ?_)
        refine call_any (args := #[.pointer (some ⟨w0.heap.size, 0, none⟩), .int .i64 (nn : Nat)]) rfl (by kernel_rfl) (by kernel_rfl) (dsome nn R.draw (by omega) (by omega)) ?_
        rintro e x5 ⟨ra, rc, zn, rfl, OU, hwz, D5, g5⟩
        have lt4 := R.box.lt (by simp [S3L])
        have hle5 := g5.size
        obtain ⟨mid, xs, hm1, hm2, hOP0, hlt1, hOG0, hn, hwf⟩ := R.own
        have hw := R.hw
        have hOG := hOG0.gk g5 (by omega)
        have hOP : OwnP x5 (w.heap.size + 1) (.slice a1 n1 c1) s.ps := Own.keep hOP0 g5.size (fun k e => g5.block k (Own.lt hOP0 k e).2 (fun e2 => by injection e2 with e2; have := (Own.lt hOP0 k e).1; omega))
        have RN := R.kept g5 D5
        have hstN : At w.heap.size zero3 x5 := RN.res
        clear R D5 g5 hOG0 hOP0
        have R := RN
        clear RN
        generalize x4.heap.size = B4 at *
        refine ⟨_, rfl, hK _ _ hstN ?_⟩
        clear hK K hst
        have hst := hstN
        clear hstN
        simp only [Act.put, List.setIfInBounds_toArray, List.set_cons_zero, List.set_cons_succ]
        refine line_alone rfl (by kernel_rfl) (fun K hK => ?_)
        go_big_op
        have SR := Lib.hid (src_new (P := Tryz.prog) x5 [.slice ra nn rc] 1 1 22 52 22 Tryz.underlying52 rfl (by intro u hu; simp at hu; subst hu; rfl))
        have b6 := bal (Below.refl _ x5) (.cells #[.slice ra nn rc] 22)
        have RN := R.on b6
        have OU6 := Own.alloc OU (.cells #[.slice ra nn rc] 22)
        have OG6 := hOG.alloc (.cells #[.slice ra nn rc] 22)
        have OP6 := OwnP.alloc hOP (.cells #[.slice ra nn rc] 22)
        have hstN : At w.heap.size zero3 (x5.alloc (.cells #[.slice ra nn rc] 22)) := RN.res
        have hsz6 : B4 ≤ (x5.alloc (.cells #[.slice ra nn rc] 22)).heap.size := by have := b6.size; omega
        clear R OU hOG hOP b6
        have R := RN
        clear RN
        refine hK _ _ hstN ?_
        clear hK K hst
        have hst := hstN
        clear hstN
        have hc7 : (x5.alloc (.cells [Value.slice ra nn rc].toArray 22)) = x5.alloc (.cells #[.slice ra nn rc] 22) := rfl
        rw [hc7] at SR
        clear hc7
        generalize x5.alloc (.cells #[.slice ra nn rc] 22) = x6 at *
        refine line_alone rfl (by kernel_rfl) (fun K hK => ?_)
        have hl2 : n2 = s.d.rs.length := OG6.len'
        subst hl2
        refine wp_append_src _ (.tmp 24) (.tmp 30) 52 52 rfl mid 22 i0 (.slice none 0 0) 1 24 Tryz.underlying52 hi0 hz0 hz1 hz2 rfl (.slice a2 s.d.rs.length c2) s.d.rs.length xs rfl OG6.own _ 1 [.slice ra nn rc] rfl SR.out (by simp only [maxLen]; omega) (by omega) (by omega) (fun v8 w8 hown hgrow hat => ?_)
        obtain ⟨a8, c8, hv8, -⟩ := Own.form hown
        subst hv8
        have OG8 := OwnG.app2 OG6 (Nat.le_of_lt lt4) (by omega) hsz6 OU6 hown hgrow hat
        have X8 := R.box.kept hgrow (fun e => by have := OG6.lt xb e.symm; omega)
        have Q8 := R.res.kept hgrow (fun e => by have := (OG6.own.lt w.heap.size e.symm).1; omega)
        have D8 : Draw w0 a len cap zs _ w8 := R.draw.grown hgrow (fun k e => by have := (OG6.own.lt k e).1; omega)
        have G8 : w.grownBy w8 (some w0.heap.size) := gown R.grew hgrow (fun k e => by have := (OG6.own.lt k e).1; omega)
        have OP8 : OwnP w8 (w.heap.size + 1) (.slice a1 n1 c1) s.ps := Own.keep OP6 hgrow.size (fun k e => hgrow.block k (Own.lt OP6 k e).2 (fun e2 => by have := hlt1 k e; have := (OG6.own.lt k e2.symm).1; omega))
        have hne8 : ∀ k, Value.ownBlock (.slice a8 (s.d.rs.length + 1) c8) = some k → k ≠ xb := fun k e e2 => by
          rcases hat with h | h
          · rw [h] at e; have := OG6.lt k e; omega
          · rw [h] at e; injection e with e; have := R.box.lt (by simp [S3L]); omega
        have hnx8 : ∀ (i : Nat) (u : Value) (k : Nat), (xs ++ [Value.slice ra nn rc])[i]? = some u → u.ownBlock = some k → k ≠ xb := fun i u k hu e e2 => by
          rcases Nat.lt_or_ge i xs.length with hi | hi
          · rw [List.getElem?_append_left hi] at hu
            have := (OG6.row i u hu).2.1 k e
            omega
          · rw [List.getElem?_append_right hi] at hu
            have h0 := (List.getElem?_eq_some_iff.1 hu).1
            simp at h0
            rw [h0] at hu
            simp at hu
            subst hu
            have := (Own.lt OU6 k e).1
            omega
        have hk8 : ∀ k, k ≠ xb → (w8.setCell ⟨xb, 1, none⟩ (.slice a8 (s.d.rs.length + 1) c8)).heap[k]? = w8.heap[k]? := fun k hk => Below.heap_setCell w8 ⟨xb, 1, none⟩ _ k hk
        have OG9 := OG8.keepP (w' := w8.setCell ⟨xb, 1, none⟩ (.slice a8 (s.d.rs.length + 1) c8)) (by simp [World.setCell]) (fun k e => hk8 k (hne8 k e)) (fun i u k hu e => hk8 k (hnx8 i u k hu e))
        have HO := Lib.hid (show BOwn (w8.setCell ⟨xb, 1, none⟩ (.slice a8 (s.d.rs.length + 1) c8)) (w.heap.size + 1) (.slice a1 n1 c1) (.slice a8 (s.d.rs.length + 1) c8) ⟨s.ps, ⟨s.d.rs ++ [zn], s.d.s⟩⟩ from
          ⟨_, _, Own.setCell OP8 (fun k e => by have := hlt1 k e; show k ≠ xb; omega) _, OG9.less hm1, HNM.out, fun r hr z hz => by
            rcases List.mem_append.1 hr with hr | hr
            · exact hwf r hr z hz
            · simp at hr; subst hr; exact hwz z hz⟩)
        have HD := Lib.hid D8
        have HG := Lib.hid G8
        refine hK _ _ Q8 ?_
        clear hK K hst hown hgrow hat OU6 OG6 OP6 SR OG8 OG9 OP8 D8 G8 R hne8 hnx8 hk8
        simp only [Act.put, List.setIfInBounds_toArray, List.set_cons_zero, List.set_cons_succ]
        iterate 2 (refine line_read rfl (by kernel_rfl) (fun K hK => ?_); go_big_quiet_op; refine hK _ ?_; clear hK K)
        have X9 := X8.set 1 (.slice a8 (s.d.rs.length + 1) c8)
        have Q9 := Q8.setB (p := ⟨xb, 1, none⟩) (by dsimp only; omega) (.slice a8 (s.d.rs.length + 1) c8)
        have y0 := X8.cell 0 _ rfl
        have y1 := X8.cell 1 _ rfl
        have y2 := X8.cell 2 _ rfl
        have f0 := X8.free 0 _ rfl
        have f1 := X8.free 1 _ rfl
        have f2 := X8.free 2 _ rfl
        refine line_alone rfl (by kernel_rfl) (fun K hK => ?_)
        go_big_op
        refine hK _ _ (Q9) ?_
        clear hK K
        refine line_nil ?_
        clear y0 y1 y2 f0 f1 f2 X8 Q8
        have X10 : At xb [.slice a1 n1 c1, .slice a8 (s.d.rs.length + 1) c8, .int .i64 s.d.s] (w8.setCell ⟨xb, 1, none⟩ (.slice a8 (s.d.rs.length + 1) c8)) := X9
        have y0 := X10.cell 0 _ rfl
        have y1 := X10.cell 1 _ rfl
        have y2 := X10.cell 2 _ rfl
        have f0 := X10.free 0 _ rfl
        have f1 := X10.free 1 _ rfl
        have f2 := X10.free 2 _ rfl
        have q0 := Q9.cell 0 _ rfl
        have q1 := Q9.cell 1 _ rfl
        have q2 := Q9.cell 2 _ rfl
        have z0 := Q9.free 0 _ rfl
        have z1 := Q9.free 1 _ rfl
        have z2 := Q9.free 2 _ rfl
        have hxr : w.heap.size ≠ xb := by omega
        clear X9 X10 Q9
        go_wp2_with fail
        refine bodyPost_ret (v := S3 a1 n1 c1 a8 (s.d.rs.length + 1) c8 s.d.s) (by simp [results, Tryz.results114, go_sem, q0, q1, q2]) rfl ?_
        refine ⟨_, _, _, _, _, _, ⟨s.ps, ⟨s.d.rs ++ [zn], s.d.s⟩⟩, p + 1 + 1 + nn, by omega, rfl, ?_, ?_, ?_⟩
        · iterate 3 (refine BOwn.set ?_ (by dsimp only; omega) _)
          exact HO.out
        · iterate 4 (refine Draw.put ?_ (by dsimp only; omega) _)
          exact HD.out
        · iterate 4 (refine gset ?_ (by dsimp only; omega) _)
          exact HG.out
      · refine call_any (args := #[.pointer (some ⟨w0.heap.size, 0, none⟩), .slice (some ⟨ga, 0, none⟩) 3 3]) rfl (by kernel_rfl) (by kernel_rfl) (l1Pick_any w0.heap.size ga 3 [1, 12, 41] a len cap _ w0.heap.size zs x3 R.draw.src R.draw.row (Nat.le_refl _) (by omega) (by omega) rfl (by omega) (by omega) (fun j hj => by
          match j, hj with
          | 0, _ => exact X'.cell 0 _ rfl
          | 1, _ => exact X'.cell 1 _ rfl
          | 2, _ => exact X'.cell 2 _ rfl)) ?_
        rintro e x4 ⟨sv, hv, rfl, SN, O4⟩
        have DN := R.draw.only SN O4
        have RN := R.only O4 DN
        have hstN : At w.heap.size zero3 x4 := RN.res
        clear R SN DN O4 X'
        have R := RN
        clear RN
        refine ⟨_, rfl, hK _ _ hstN ?_⟩
        clear hK K hst
        have hst := hstN
        clear hstN
        simp only [Act.put, List.setIfInBounds_toArray, List.set_cons_zero, List.set_cons_succ]
        have hv' : 1 ≤ sv ∧ sv ≤ 41 := by simp at hv; omega
        obtain ⟨nn, rfl⟩ : ∃ nn : Nat, sv = nn := Int.eq_ofNat_of_zero_le (by omega)
        have hnn : nn ≤ 41 := by omega
        clear hv hv'
        refine any_fork 2 7 (by kernel_rfl) rfl rfl (by kernel_rfl) (by kernel_rfl) (fun K hK => ?_) (fun K hK => ?_)
        · have e1 := R.box.cell 1 _ rfl
          go_big_op
          refine hK _ _ hst ?_
          clear hK K e1
          refine any_rest [(7, false), (8, false), (9, false), (10, true), (11, true), (12, false)] (by kernel_rfl) (fun _ _ d _ _ h => by cases d <;> exact h) ?_
          refine line_alone rfl (by kernel_rfl) (fun K hK => ?_)
          refine call_any (args := #[.pointer (some ⟨w0.heap.size, 0, none⟩), .int .i64 (nn : Nat)]) rfl (by kernel_rfl) (by kernel_rfl) (dsome nn R.draw (by omega) (by omega)) ?_
          rintro e x5 ⟨ra, rc, zn, rfl, OU, hwz, D5, g5⟩
          have lt4 := R.box.lt (by simp [S3L])
          have hle5 := g5.size
          obtain ⟨mid, xs, hm1, hm2, hOP0, hlt1, hOG0, hn, hwf⟩ := R.own
          have hw := R.hw
          have hOG := hOG0.gk g5 (by omega)
          have hOP : OwnP x5 (w.heap.size + 1) (.slice a1 n1 c1) s.ps := Own.keep hOP0 g5.size (fun k e => g5.block k (Own.lt hOP0 k e).2 (fun e2 => by injection e2 with e2; have := (Own.lt hOP0 k e).1; omega))
          have RN := R.kept g5 D5
          have hstN : At w.heap.size zero3 x5 := RN.res
          clear R D5 g5 hOG0 hOP0
          have R := RN
          clear RN
          generalize x4.heap.size = B4 at *
          refine ⟨_, rfl, hK _ _ hstN ?_⟩
          clear hK K hst
          have hst := hstN
          clear hstN
          simp only [Act.put, List.setIfInBounds_toArray, List.set_cons_zero, List.set_cons_succ]
          refine line_alone rfl (by kernel_rfl) (fun K hK => ?_)
          go_big_op
          have SR := Lib.hid (src_new (P := Tryz.prog) x5 [.slice ra nn rc] 1 1 22 52 22 Tryz.underlying52 rfl (by intro u hu; simp at hu; subst hu; rfl))
          have b6 := bal (Below.refl _ x5) (.cells #[.slice ra nn rc] 22)
          have RN := R.on b6
          have OU6 := Own.alloc OU (.cells #[.slice ra nn rc] 22)
          have OG6 := hOG.alloc (.cells #[.slice ra nn rc] 22)
          have OP6 := OwnP.alloc hOP (.cells #[.slice ra nn rc] 22)
          have hstN : At w.heap.size zero3 (x5.alloc (.cells #[.slice ra nn rc] 22)) := RN.res
          have hsz6 : B4 ≤ (x5.alloc (.cells #[.slice ra nn rc] 22)).heap.size := by have := b6.size; omega
          clear R OU hOG hOP b6
          have R := RN
          clear RN
          refine hK _ _ hstN ?_
          clear hK K hst
          have hst := hstN
          clear hstN
          have hc7 : (x5.alloc (.cells [Value.slice ra nn rc].toArray 22)) = x5.alloc (.cells #[.slice ra nn rc] 22) := rfl
          rw [hc7] at SR
          clear hc7
          generalize x5.alloc (.cells #[.slice ra nn rc] 22) = x6 at *
          refine line_alone rfl (by kernel_rfl) (fun K hK => ?_)
          have hl2 : n2 = s.d.rs.length := OG6.len'
          subst hl2
          refine wp_append_src _ (.tmp 24) (.tmp 30) 52 52 rfl mid 22 i0 (.slice none 0 0) 1 24 Tryz.underlying52 hi0 hz0 hz1 hz2 rfl (.slice a2 s.d.rs.length c2) s.d.rs.length xs rfl OG6.own _ 1 [.slice ra nn rc] rfl SR.out (by simp only [maxLen]; omega) (by omega) (by omega) (fun v8 w8 hown hgrow hat => ?_)
          obtain ⟨a8, c8, hv8, -⟩ := Own.form hown
          subst hv8
          have OG8 := OwnG.app2 OG6 (Nat.le_of_lt lt4) (by omega) hsz6 OU6 hown hgrow hat
          have X8 := R.box.kept hgrow (fun e => by have := OG6.lt xb e.symm; omega)
          have Q8 := R.res.kept hgrow (fun e => by have := (OG6.own.lt w.heap.size e.symm).1; omega)
          have D8 : Draw w0 a len cap zs _ w8 := R.draw.grown hgrow (fun k e => by have := (OG6.own.lt k e).1; omega)
          have G8 : w.grownBy w8 (some w0.heap.size) := gown R.grew hgrow (fun k e => by have := (OG6.own.lt k e).1; omega)
          have OP8 : OwnP w8 (w.heap.size + 1) (.slice a1 n1 c1) s.ps := Own.keep OP6 hgrow.size (fun k e => hgrow.block k (Own.lt OP6 k e).2 (fun e2 => by have := hlt1 k e; have := (OG6.own.lt k e2.symm).1; omega))
          have hne8 : ∀ k, Value.ownBlock (.slice a8 (s.d.rs.length + 1) c8) = some k → k ≠ xb := fun k e e2 => by
            rcases hat with h | h
            · rw [h] at e; have := OG6.lt k e; omega
            · rw [h] at e; injection e with e; have := R.box.lt (by simp [S3L]); omega
          have hnx8 : ∀ (i : Nat) (u : Value) (k : Nat), (xs ++ [Value.slice ra nn rc])[i]? = some u → u.ownBlock = some k → k ≠ xb := fun i u k hu e e2 => by
            rcases Nat.lt_or_ge i xs.length with hi | hi
            · rw [List.getElem?_append_left hi] at hu
              have := (OG6.row i u hu).2.1 k e
              omega
            · rw [List.getElem?_append_right hi] at hu
              have h0 := (List.getElem?_eq_some_iff.1 hu).1
              simp at h0
              rw [h0] at hu
              simp at hu
              subst hu
              have := (Own.lt OU6 k e).1
              omega
          have hk8 : ∀ k, k ≠ xb → (w8.setCell ⟨xb, 1, none⟩ (.slice a8 (s.d.rs.length + 1) c8)).heap[k]? = w8.heap[k]? := fun k hk => Below.heap_setCell w8 ⟨xb, 1, none⟩ _ k hk
          have OG9 := OG8.keepP (w' := w8.setCell ⟨xb, 1, none⟩ (.slice a8 (s.d.rs.length + 1) c8)) (by simp [World.setCell]) (fun k e => hk8 k (hne8 k e)) (fun i u k hu e => hk8 k (hnx8 i u k hu e))
          have HO := Lib.hid (show BOwn (w8.setCell ⟨xb, 1, none⟩ (.slice a8 (s.d.rs.length + 1) c8)) (w.heap.size + 1) (.slice a1 n1 c1) (.slice a8 (s.d.rs.length + 1) c8) ⟨s.ps, ⟨s.d.rs ++ [zn], s.d.s⟩⟩ from
            ⟨_, _, Own.setCell OP8 (fun k e => by have := hlt1 k e; show k ≠ xb; omega) _, OG9.less hm1, HNM.out, fun r hr z hz => by
              rcases List.mem_append.1 hr with hr | hr
              · exact hwf r hr z hz
              · simp at hr; subst hr; exact hwz z hz⟩)
          have HD := Lib.hid D8
          have HG := Lib.hid G8
          refine hK _ _ Q8 ?_
          clear hK K hst hown hgrow hat OU6 OG6 OP6 SR OG8 OG9 OP8 D8 G8 R hne8 hnx8 hk8
          simp only [Act.put, List.setIfInBounds_toArray, List.set_cons_zero, List.set_cons_succ]
          iterate 2 (refine line_read rfl (by kernel_rfl) (fun K hK => ?_); go_big_quiet_op; refine hK _ ?_; clear hK K)
          have X9 := X8.set 1 (.slice a8 (s.d.rs.length + 1) c8)
          have Q9 := Q8.setB (p := ⟨xb, 1, none⟩) (by dsimp only; omega) (.slice a8 (s.d.rs.length + 1) c8)
          have y0 := X8.cell 0 _ rfl
          have y1 := X8.cell 1 _ rfl
          have y2 := X8.cell 2 _ rfl
          have f0 := X8.free 0 _ rfl
          have f1 := X8.free 1 _ rfl
          have f2 := X8.free 2 _ rfl
          refine line_alone rfl (by kernel_rfl) (fun K hK => ?_)
          go_big_op
          refine hK _ _ (Q9) ?_
          clear hK K
          refine line_nil ?_
          clear y0 y1 y2 f0 f1 f2 X8 Q8
          have X10 : At xb [.slice a1 n1 c1, .slice a8 (s.d.rs.length + 1) c8, .int .i64 s.d.s] (w8.setCell ⟨xb, 1, none⟩ (.slice a8 (s.d.rs.length + 1) c8)) := X9
          have y0 := X10.cell 0 _ rfl
          have y1 := X10.cell 1 _ rfl
          have y2 := X10.cell 2 _ rfl
          have f0 := X10.free 0 _ rfl
          have f1 := X10.free 1 _ rfl
          have f2 := X10.free 2 _ rfl
          have q0 := Q9.cell 0 _ rfl
          have q1 := Q9.cell 1 _ rfl
          have q2 := Q9.cell 2 _ rfl
          have z0 := Q9.free 0 _ rfl
          have z1 := Q9.free 1 _ rfl
          have z2 := Q9.free 2 _ rfl
          have hxr : w.heap.size ≠ xb := by omega
          clear X9 X10 Q9
          go_wp2_with fail
          refine bodyPost_ret (v := S3 a1 n1 c1 a8 (s.d.rs.length + 1) c8 s.d.s) (by simp [results, Tryz.results114, go_sem, q0, q1, q2]) rfl ?_
          refine ⟨_, _, _, _, _, _, ⟨s.ps, ⟨s.d.rs ++ [zn], s.d.s⟩⟩, p + 1 + 1 + nn, by omega, rfl, ?_, ?_, ?_⟩
          · iterate 3 (refine BOwn.set ?_ (by dsimp only; omega) _)
            exact HO.out
          · iterate 4 (refine Draw.put ?_ (by dsimp only; omega) _)
            exact HD.out
          · iterate 4 (refine gset ?_ (by dsimp only; omega) _)
            exact HG.out
        · refine call_any (args := #[.pointer (some ⟨w0.heap.size, 0, none⟩), .int .i64 (nn : Nat)]) rfl (by kernel_rfl) (by kernel_rfl) (dsome nn R.draw (by omega) (by omega)) ?_
          rintro e x5 ⟨ra, rc, zn, rfl, OU, hwz, D5, g5⟩
          have lt4 := R.box.lt (by simp [S3L])
          have hle5 := g5.size
          obtain ⟨mid, xs, hm1, hm2, hOP0, hlt1, hOG0, hn, hwf⟩ := R.own
          have hw := R.hw
          have hOG := hOG0.gk g5 (by omega)
          have hOP : OwnP x5 (w.heap.size + 1) (.slice a1 n1 c1) s.ps := Own.keep hOP0 g5.size (fun k e => g5.block k (Own.lt hOP0 k e).2 (fun e2 => by injection e2 with e2; have := (Own.lt hOP0 k e).1; omega))
          have RN := R.kept g5 D5
          have hstN : At w.heap.size zero3 x5 := RN.res
          clear R D5 g5 hOG0 hOP0
          have R := RN
          clear RN
          generalize x4.heap.size = B4 at *
          refine ⟨_, rfl, hK _ _ hstN ?_⟩
          clear hK K hst
          have hst := hstN
          clear hstN
          simp only [Act.put, List.setIfInBounds_toArray, List.set_cons_zero, List.set_cons_succ]
          refine any_fork 2 8 (by kernel_rfl) rfl rfl (by kernel_rfl) (by kernel_rfl) (fun K hK => ?_) (fun K hK => ?_)
          · have e1 := R.box.cell 1 _ rfl
            go_big_op
            refine hK _ _ hst ?_
            clear hK K e1
            refine any_rest [(8, false), (9, false), (10, true), (11, true), (12, false)] (by kernel_rfl) (fun _ _ d _ _ h => by cases d <;> exact h) ?_
            refine line_alone rfl (by kernel_rfl) (fun K hK => ?_)
            go_big_op
            have SR := Lib.hid (src_new (P := Tryz.prog) x5 [.slice ra nn rc] 1 1 22 52 22 Tryz.underlying52 rfl (by intro u hu; simp at hu; subst hu; rfl))
            have b6 := bal (Below.refl _ x5) (.cells #[.slice ra nn rc] 22)
            have RN := R.on b6
            have OU6 := Own.alloc OU (.cells #[.slice ra nn rc] 22)
            have OG6 := hOG.alloc (.cells #[.slice ra nn rc] 22)
            have OP6 := OwnP.alloc hOP (.cells #[.slice ra nn rc] 22)
            have hstN : At w.heap.size zero3 (x5.alloc (.cells #[.slice ra nn rc] 22)) := RN.res
            have hsz6 : B4 ≤ (x5.alloc (.cells #[.slice ra nn rc] 22)).heap.size := by have := b6.size; omega
            clear R OU hOG hOP b6
            have R := RN
            clear RN
            refine hK _ _ hstN ?_
            clear hK K hst
            have hst := hstN
            clear hstN
            have hc7 : (x5.alloc (.cells [Value.slice ra nn rc].toArray 22)) = x5.alloc (.cells #[.slice ra nn rc] 22) := rfl
            rw [hc7] at SR
            clear hc7
            generalize x5.alloc (.cells #[.slice ra nn rc] 22) = x6 at *
            refine line_alone rfl (by kernel_rfl) (fun K hK => ?_)
            have hl2 : n2 = s.d.rs.length := OG6.len'
            subst hl2
            refine wp_append_src _ (.tmp 24) (.tmp 30) 52 52 rfl mid 22 i0 (.slice none 0 0) 1 24 Tryz.underlying52 hi0 hz0 hz1 hz2 rfl (.slice a2 s.d.rs.length c2) s.d.rs.length xs rfl OG6.own _ 1 [.slice ra nn rc] rfl SR.out (by simp only [maxLen]; omega) (by omega) (by omega) (fun v8 w8 hown hgrow hat => ?_)
            obtain ⟨a8, c8, hv8, -⟩ := Own.form hown
            subst hv8
            have OG8 := OwnG.app2 OG6 (Nat.le_of_lt lt4) (by omega) hsz6 OU6 hown hgrow hat
            have X8 := R.box.kept hgrow (fun e => by have := OG6.lt xb e.symm; omega)
            have Q8 := R.res.kept hgrow (fun e => by have := (OG6.own.lt w.heap.size e.symm).1; omega)
            have D8 : Draw w0 a len cap zs _ w8 := R.draw.grown hgrow (fun k e => by have := (OG6.own.lt k e).1; omega)
            have G8 : w.grownBy w8 (some w0.heap.size) := gown R.grew hgrow (fun k e => by have := (OG6.own.lt k e).1; omega)
            have OP8 : OwnP w8 (w.heap.size + 1) (.slice a1 n1 c1) s.ps := Own.keep OP6 hgrow.size (fun k e => hgrow.block k (Own.lt OP6 k e).2 (fun e2 => by have := hlt1 k e; have := (OG6.own.lt k e2.symm).1; omega))
            have hne8 : ∀ k, Value.ownBlock (.slice a8 (s.d.rs.length + 1) c8) = some k → k ≠ xb := fun k e e2 => by
              rcases hat with h | h
              · rw [h] at e; have := OG6.lt k e; omega
              · rw [h] at e; injection e with e; have := R.box.lt (by simp [S3L]); omega
            have hnx8 : ∀ (i : Nat) (u : Value) (k : Nat), (xs ++ [Value.slice ra nn rc])[i]? = some u → u.ownBlock = some k → k ≠ xb := fun i u k hu e e2 => by
              rcases Nat.lt_or_ge i xs.length with hi | hi
              · rw [List.getElem?_append_left hi] at hu
                have := (OG6.row i u hu).2.1 k e
                omega
              · rw [List.getElem?_append_right hi] at hu
                have h0 := (List.getElem?_eq_some_iff.1 hu).1
                simp at h0
                rw [h0] at hu
                simp at hu
                subst hu
                have := (Own.lt OU6 k e).1
                omega
            have hk8 : ∀ k, k ≠ xb → (w8.setCell ⟨xb, 1, none⟩ (.slice a8 (s.d.rs.length + 1) c8)).heap[k]? = w8.heap[k]? := fun k hk => Below.heap_setCell w8 ⟨xb, 1, none⟩ _ k hk
            have OG9 := OG8.keepP (w' := w8.setCell ⟨xb, 1, none⟩ (.slice a8 (s.d.rs.length + 1) c8)) (by simp [World.setCell]) (fun k e => hk8 k (hne8 k e)) (fun i u k hu e => hk8 k (hnx8 i u k hu e))
            have HO := Lib.hid (show BOwn (w8.setCell ⟨xb, 1, none⟩ (.slice a8 (s.d.rs.length + 1) c8)) (w.heap.size + 1) (.slice a1 n1 c1) (.slice a8 (s.d.rs.length + 1) c8) ⟨s.ps, ⟨s.d.rs ++ [zn], s.d.s⟩⟩ from
              ⟨_, _, Own.setCell OP8 (fun k e => by have := hlt1 k e; show k ≠ xb; omega) _, OG9.less hm1, HNM.out, fun r hr z hz => by
                rcases List.mem_append.1 hr with hr | hr
                · exact hwf r hr z hz
                · simp at hr; subst hr; exact hwz z hz⟩)
            have HD := Lib.hid D8
            have HG := Lib.hid G8
            refine hK _ _ Q8 ?_
            clear hK K hst hown hgrow hat OU6 OG6 OP6 SR OG8 OG9 OP8 D8 G8 R hne8 hnx8 hk8
            simp only [Act.put, List.setIfInBounds_toArray, List.set_cons_zero, List.set_cons_succ]
            iterate 2 (refine line_read rfl (by kernel_rfl) (fun K hK => ?_); go_big_quiet_op; refine hK _ ?_; clear hK K)
            have X9 := X8.set 1 (.slice a8 (s.d.rs.length + 1) c8)
            have Q9 := Q8.setB (p := ⟨xb, 1, none⟩) (by dsimp only; omega) (.slice a8 (s.d.rs.length + 1) c8)
            have y0 := X8.cell 0 _ rfl
            have y1 := X8.cell 1 _ rfl
            have y2 := X8.cell 2 _ rfl
            have f0 := X8.free 0 _ rfl
            have f1 := X8.free 1 _ rfl
            have f2 := X8.free 2 _ rfl
            refine line_alone rfl (by kernel_rfl) (fun K hK => ?_)
            go_big_op
            refine hK _ _ (Q9) ?_
            clear hK K
            refine line_nil ?_
            clear y0 y1 y2 f0 f1 f2 X8 Q8
            have X10 : At xb [.slice a1 n1 c1, .slice a8 (s.d.rs.length + 1) c8, .int .i64 s.d.s] (w8.setCell ⟨xb, 1, none⟩ (.slice a8 (s.d.rs.length + 1) c8)) := X9
            have y0 := X10.cell 0 _ rfl
            have y1 := X10.cell 1 _ rfl
            have y2 := X10.cell 2 _ rfl
            have f0 := X10.free 0 _ rfl
            have f1 := X10.free 1 _ rfl
            have f2 := X10.free 2 _ rfl
            have q0 := Q9.cell 0 _ rfl
            have q1 := Q9.cell 1 _ rfl
            have q2 := Q9.cell 2 _ rfl
            have z0 := Q9.free 0 _ rfl
            have z1 := Q9.free 1 _ rfl
            have z2 := Q9.free 2 _ rfl
            have hxr : w.heap.size ≠ xb := by omega
            clear X9 X10 Q9
            go_wp2_with fail
            refine bodyPost_ret (v := S3 a1 n1 c1 a8 (s.d.rs.length + 1) c8 s.d.s) (by simp [results, Tryz.results114, go_sem, q0, q1, q2]) rfl ?_
            refine ⟨_, _, _, _, _, _, ⟨s.ps, ⟨s.d.rs ++ [zn], s.d.s⟩⟩, p + 1 + 1 + nn, by omega, rfl, ?_, ?_, ?_⟩
            · iterate 3 (refine BOwn.set ?_ (by dsimp only; omega) _)
              exact HO.out
            · iterate 4 (refine Draw.put ?_ (by dsimp only; omega) _)
              exact HD.out
            · iterate 4 (refine gset ?_ (by dsimp only; omega) _)
              exact HG.out
          · go_big_op
            have SR := Lib.hid (src_new (P := Tryz.prog) x5 [.slice ra nn rc] 1 1 22 52 22 Tryz.underlying52 rfl (by intro u hu; simp at hu; subst hu; rfl))
            have b6 := bal (Below.refl _ x5) (.cells #[.slice ra nn rc] 22)
            have RN := R.on b6
            have OU6 := Own.alloc OU (.cells #[.slice ra nn rc] 22)
            have OG6 := hOG.alloc (.cells #[.slice ra nn rc] 22)
            have OP6 := OwnP.alloc hOP (.cells #[.slice ra nn rc] 22)
            have hstN : At w.heap.size zero3 (x5.alloc (.cells #[.slice ra nn rc] 22)) := RN.res
            have hsz6 : B4 ≤ (x5.alloc (.cells #[.slice ra nn rc] 22)).heap.size := by have := b6.size; omega
            clear R OU hOG hOP b6
            have R := RN
            clear RN
            refine hK _ _ hstN ?_
            clear hK K hst
            have hst := hstN
            clear hstN
            have hc7 : (x5.alloc (.cells [Value.slice ra nn rc].toArray 22)) = x5.alloc (.cells #[.slice ra nn rc] 22) := rfl
            rw [hc7] at SR
            clear hc7
            generalize x5.alloc (.cells #[.slice ra nn rc] 22) = x6 at *
            refine any_rest [(2, false), (9, false), (10, true), (11, true), (12, false)] (by kernel_rfl) (fun _ _ d _ _ h => by cases d <;> exact h) ?_
            refine line_alone rfl (by kernel_rfl) (fun K hK => ?_)
            have e1 := R.box.cell 1 _ rfl
            go_big_op
            refine hK _ _ hst ?_
            clear hK K e1
            refine line_alone rfl (by kernel_rfl) (fun K hK => ?_)
            have hl2 : n2 = s.d.rs.length := OG6.len'
            subst hl2
            refine wp_append_src _ (.tmp 24) (.tmp 30) 52 52 rfl mid 22 i0 (.slice none 0 0) 1 24 Tryz.underlying52 hi0 hz0 hz1 hz2 rfl (.slice a2 s.d.rs.length c2) s.d.rs.length xs rfl OG6.own _ 1 [.slice ra nn rc] rfl SR.out (by simp only [maxLen]; omega) (by omega) (by omega) (fun v8 w8 hown hgrow hat => ?_)
            obtain ⟨a8, c8, hv8, -⟩ := Own.form hown
            subst hv8
            have OG8 := OwnG.app2 OG6 (Nat.le_of_lt lt4) (by omega) hsz6 OU6 hown hgrow hat
            have X8 := R.box.kept hgrow (fun e => by have := OG6.lt xb e.symm; omega)
            have Q8 := R.res.kept hgrow (fun e => by have := (OG6.own.lt w.heap.size e.symm).1; omega)
            have D8 : Draw w0 a len cap zs _ w8 := R.draw.grown hgrow (fun k e => by have := (OG6.own.lt k e).1; omega)
            have G8 : w.grownBy w8 (some w0.heap.size) := gown R.grew hgrow (fun k e => by have := (OG6.own.lt k e).1; omega)
            have OP8 : OwnP w8 (w.heap.size + 1) (.slice a1 n1 c1) s.ps := Own.keep OP6 hgrow.size (fun k e => hgrow.block k (Own.lt OP6 k e).2 (fun e2 => by have := hlt1 k e; have := (OG6.own.lt k e2.symm).1; omega))
            have hne8 : ∀ k, Value.ownBlock (.slice a8 (s.d.rs.length + 1) c8) = some k → k ≠ xb := fun k e e2 => by
              rcases hat with h | h
              · rw [h] at e; have := OG6.lt k e; omega
              · rw [h] at e; injection e with e; have := R.box.lt (by simp [S3L]); omega
            have hnx8 : ∀ (i : Nat) (u : Value) (k : Nat), (xs ++ [Value.slice ra nn rc])[i]? = some u → u.ownBlock = some k → k ≠ xb := fun i u k hu e e2 => by
              rcases Nat.lt_or_ge i xs.length with hi | hi
              · rw [List.getElem?_append_left hi] at hu
                have := (OG6.row i u hu).2.1 k e
                omega
              · rw [List.getElem?_append_right hi] at hu
                have h0 := (List.getElem?_eq_some_iff.1 hu).1
                simp at h0
                rw [h0] at hu
                simp at hu
                subst hu
                have := (Own.lt OU6 k e).1
                omega
            have hk8 : ∀ k, k ≠ xb → (w8.setCell ⟨xb, 1, none⟩ (.slice a8 (s.d.rs.length + 1) c8)).heap[k]? = w8.heap[k]? := fun k hk => Below.heap_setCell w8 ⟨xb, 1, none⟩ _ k hk
            have OG9 := OG8.keepP (w' := w8.setCell ⟨xb, 1, none⟩ (.slice a8 (s.d.rs.length + 1) c8)) (by simp [World.setCell]) (fun k e => hk8 k (hne8 k e)) (fun i u k hu e => hk8 k (hnx8 i u k hu e))
            have HO := Lib.hid (show BOwn (w8.setCell ⟨xb, 1, none⟩ (.slice a8 (s.d.rs.length + 1) c8)) (w.heap.size + 1) (.slice a1 n1 c1) (.slice a8 (s.d.rs.length + 1) c8) ⟨s.ps, ⟨s.d.rs ++ [zn], s.d.s⟩⟩ from
              ⟨_, _, Own.setCell OP8 (fun k e => by have := hlt1 k e; show k ≠ xb; omega) _, OG9.less hm1, HNM.out, fun r hr z hz => by
                rcases List.mem_append.1 hr with hr | hr
                · exact hwf r hr z hz
                · simp at hr; subst hr; exact hwz z hz⟩)
            have HD := Lib.hid D8
            have HG := Lib.hid G8
            refine hK _ _ Q8 ?_
            clear hK K hst hown hgrow hat OU6 OG6 OP6 SR OG8 OG9 OP8 D8 G8 R hne8 hnx8 hk8
            simp only [Act.put, List.setIfInBounds_toArray, List.set_cons_zero, List.set_cons_succ]
            iterate 2 (refine line_read rfl (by kernel_rfl) (fun K hK => ?_); go_big_quiet_op; refine hK _ ?_; clear hK K)
            have X9 := X8.set 1 (.slice a8 (s.d.rs.length + 1) c8)
            have Q9 := Q8.setB (p := ⟨xb, 1, none⟩) (by dsimp only; omega) (.slice a8 (s.d.rs.length + 1) c8)
            have y0 := X8.cell 0 _ rfl
            have y1 := X8.cell 1 _ rfl
            have y2 := X8.cell 2 _ rfl
            have f0 := X8.free 0 _ rfl
            have f1 := X8.free 1 _ rfl
            have f2 := X8.free 2 _ rfl
            refine line_alone rfl (by kernel_rfl) (fun K hK => ?_)
            go_big_op
            refine hK _ _ (Q9) ?_
            clear hK K
            refine line_nil ?_
            clear y0 y1 y2 f0 f1 f2 X8 Q8
            have X10 : At xb [.slice a1 n1 c1, .slice a8 (s.d.rs.length + 1) c8, .int .i64 s.d.s] (w8.setCell ⟨xb, 1, none⟩ (.slice a8 (s.d.rs.length + 1) c8)) := X9
            have y0 := X10.cell 0 _ rfl
            have y1 := X10.cell 1 _ rfl
            have y2 := X10.cell 2 _ rfl
            have f0 := X10.free 0 _ rfl
            have f1 := X10.free 1 _ rfl
            have f2 := X10.free 2 _ rfl
            have q0 := Q9.cell 0 _ rfl
            have q1 := Q9.cell 1 _ rfl
            have q2 := Q9.cell 2 _ rfl
            have z0 := Q9.free 0 _ rfl
            have z1 := Q9.free 1 _ rfl
            have z2 := Q9.free 2 _ rfl
            have hxr : w.heap.size ≠ xb := by omega
            clear X9 X10 Q9
            go_wp2_with fail
            refine bodyPost_ret (v := S3 a1 n1 c1 a8 (s.d.rs.length + 1) c8 s.d.s) (by simp [results, Tryz.results114, go_sem, q0, q1, q2]) rfl ?_
            refine ⟨_, _, _, _, _, _, ⟨s.ps, ⟨s.d.rs ++ [zn], s.d.s⟩⟩, p + 1 + 1 + nn, by omega, rfl, ?_, ?_, ?_⟩
            · iterate 3 (refine BOwn.set ?_ (by dsimp only; omega) _)
              exact HO.out
            · iterate 4 (refine Draw.put ?_ (by dsimp only; omega) _)
              exact HD.out
            · iterate 4 (refine gset ?_ (by dsimp only; omega) _)
              exact HG.out
  · have g2 : (sw == 2) = false := by rw [beq_eq_false_iff_ne]; exact s2
    obtain ⟨mid, xs, hm1, hm2, hOP, hlt1, hOG, hn, hwf⟩ := R2.own
    have HO := Lib.hid (show BOwn w2 (w.heap.size + 1) (.slice a1 n1 c1) (.slice a2 n2 c2) ⟨s.ps, ⟨s.d.rs, s.d.s⟩⟩ from ⟨xb, xs, hOP, hOG.less hm1, HNM.out, hwf⟩)
    have HD := Lib.hid R2.draw
    have HG := Lib.hid R2.grew
    have y0 := R2.box.cell 0 _ rfl
    have y1 := R2.box.cell 1 _ rfl
    have y2 := R2.box.cell 2 _ rfl
    have f0 := R2.box.free 0 _ rfl
    have f1 := R2.box.free 1 _ rfl
    have f2 := R2.box.free 2 _ rfl
    have q0 := R2.res.cell 0 _ rfl
    have q1 := R2.res.cell 1 _ rfl
    have q2 := R2.res.cell 2 _ rfl
    have z0 := R2.res.free 0 _ rfl
    have z1 := R2.res.free 1 _ rfl
    have z2 := R2.res.free 2 _ rfl
    have hxr : w.heap.size ≠ xb := by omega
    clear R2 hOP hOG hwf
    go_wp2_with fail
    refine bodyPost_ret (v := S3 a1 n1 c1 a2 n2 c2 s.d.s) (by simp [results, Tryz.results114, go_sem, q0, q1, q2]) rfl ?_
    refine ⟨_, _, _, _, _, _, ⟨s.ps, ⟨s.d.rs, s.d.s⟩⟩, p + 1, by omega, rfl, ?_, ?_, ?_⟩
    · iterate 3 (refine BOwn.set ?_ (by dsimp only; omega) _)
      exact HO.out
    · iterate 3 (refine Draw.put ?_ (by dsimp only; omega) _)
      exact HD.out
    · iterate 3 (refine gset ?_ (by dsimp only; omega) _)
      exact HG.out
end Go.Proofs.YtlodhleihnlchaaGreatDoor
namespace Go.Proofs.YtlodhleihnlchaaGreatDoor
open Go.RowKit
set_option maxRecDepth 100000
set_option linter.unusedVariables false

def V4R (c : Int) (a1 : Option Addr) (n1 c1 : Nat) (a2 : Option Addr) (n2 c2 : Nat) (x : Int) : List Value := [.int .i64 c, .slice a1 n1 c1, .slice a2 n2 c2, .int .i64 x]
def DrawnSto (w : World) (e : Ending) (w' : World) : Prop := ∃ (a1 : Option Addr) (n1 c1 : Nat) (a2 : Option Addr) (n2 c2 : Nat) (s : StoreD), e = .returned (S3 a1 n1 c1 a2 n2 c2 s.d.s) ∧ SRow w' w'.heap.size a1 n1 c1 a2 n2 c2 s ∧ Below w.heap.size w w'
def DrawnNot (w : World) (e : Ending) (w' : World) : Prop := ∃ (a1 : Option Addr) (n1 c1 : Nat) (a2 : Option Addr) (n2 c2 : Nat) (s : StoreD) (q : PinD), e = .returned (.tuple #[S3 a1 n1 c1 a2 n2 c2 s.d.s, P5 q]) ∧ q.n.size ≤ 21 ∧ SRow w' w'.heap.size a1 n1 c1 a2 n2 c2 s ∧ Below w.heap.size w w'
set_option maxHeartbeats 2000000 in
theorem DrawSyncStore_any {a : Option Addr} {len cap : Nat} {zs : List Int} {w : World} (hR : Row .u8 w w.heap.size a len cap zs) :
    Calls Tryz.prog 35 #[.slice a len cap] w (DrawnSto w) := by
  have A0 : At w.heap.size zero3 (w.alloc (.cells #[.slice none 0 0, .slice none 0 0, .int .i64 0] 57)) := At.new w zero3 57
  have b0 := bal (Below.refl _ w) (.cells #[.slice none 0 0, .slice none 0 0, .int .i64 0] 57)
  have R0 := hR.on b0
  clear hR
  go_enter Tryz.func35, Tryz.ntmps35
  go_wp2_with fail
  generalize w.alloc (.cells #[.slice none 0 0, .slice none 0 0, .int .i64 0] 57) = W0 at *
  refine (dsource R0).mono ?_
  rintro e w1 ⟨rfl, D1⟩
  have lt1 := D1.lt
  have lt0 : w.heap.size < W0.heap.size := A0.lt (by simp [zero3])
  go_wp2_with fail
  refine (dl9Bent D1 (by omega)).mono ?_
  rintro e w2 ⟨a1, n1, c1, a2, n2, c2, s, p, hp, rfl, O2, D2, g2⟩
  clear g2 D1 R0
  have A3 := A0.on D2.bel
  have B3 := btr b0 D2.bel
  have z0 := A3.cell 0 _ rfl
  have z1 := A3.cell 1 _ rfl
  have z2 := A3.cell 2 _ rfl
  have h0 := A3.free 0 _ rfl
  have h1 := A3.free 1 _ rfl
  have h2 := A3.free 2 _ rfl
  have HO := Lib.hid (And.intro O2 B3)
  clear O2 D2 A3 B3 b0 A0
  go_wp2_with fail
  refine bodyPost_ret (v := S3 a1 n1 c1 a2 n2 c2 s.d.s) (by simp [results, Tryz.results35, go_sem, z0, z1, z2]) rfl ⟨a1, n1, c1, a2, n2, c2, s, rfl, ?_, (by (iterate 3 (refine bset ?_ (by dsimp only; omega) _)); exact HO.out.2)⟩
  refine BOwn.row (lo := w1.heap.size + 1) ?_
  iterate 3 (refine BOwn.set ?_ (by dsimp only; omega) _)
  exact HO.out.1
set_option maxHeartbeats 2000000 in
theorem DrawNotePin_any {a : Option Addr} {len cap : Nat} {zs : List Int} {w : World} (hR : Row .u8 w w.heap.size a len cap zs) :
    Calls Tryz.prog 31 #[.slice a len cap] w (DrawnNot w) := by
  have A0 : At w.heap.size zero3 (w.alloc (.cells #[.slice none 0 0, .slice none 0 0, .int .i64 0] 57)) := At.new w zero3 57
  have b0 := bal (Below.refl _ w) (.cells #[.slice none 0 0, .slice none 0 0, .int .i64 0] 57)
  have R0 := hR.on b0
  clear hR
  have A00 := A0
  have b00 := b0
  have R00 := R0
  clear A0 b0 R0
  have A0 := A00.alloc (.cells #[.string { data := #[] }, .int .i64 0, .int .i64 0, .int .i64 0, .int .i64 0] 59)
  have P0 : At (w.heap.size + 1) pinZero ((w.alloc (.cells #[.slice none 0 0, .slice none 0 0, .int .i64 0] 57)).alloc (.cells #[.string { data := #[] }, .int .i64 0, .int .i64 0, .int .i64 0, .int .i64 0] 59)) := by simpa using At.new (w.alloc (.cells #[.slice none 0 0, .slice none 0 0, .int .i64 0] 57)) pinZero 59
  have b0 := bal b00 (.cells #[.string { data := #[] }, .int .i64 0, .int .i64 0, .int .i64 0, .int .i64 0] 59)
  have R0 := R00.on (bal (Below.refl _ _) (.cells #[.string { data := #[] }, .int .i64 0, .int .i64 0, .int .i64 0, .int .i64 0] 59))
  clear A00 b00 R00
  go_enter Tryz.func31, Tryz.ntmps31
  go_wp2_with fail
  generalize (w.alloc (.cells #[.slice none 0 0, .slice none 0 0, .int .i64 0] 57)).alloc (.cells #[.string { data := #[] }, .int .i64 0, .int .i64 0, .int .i64 0, .int .i64 0] 59) = W0 at *
  refine (dsource R0).mono ?_
  rintro e w1 ⟨rfl, D1⟩
  have lt1 := D1.lt
  have lt0 : w.heap.size + 1 < W0.heap.size := P0.lt (by simp)
  go_wp2_with fail
  refine (dl9Bent D1 (by omega)).mono ?_
  rintro e w2 ⟨a1, n1, c1, a2, n2, c2, s, p, hp, rfl, O2, D2, g2⟩
  clear g2 D1 R0
  go_wp2_with fail
  refine (dl7Bent D2 (by omega)).mono ?_
  rintro e w3 ⟨q, p3, hq, hp3, rfl, D3, g3⟩
  have O4 := O2.kept g3 (by omega)
  have A3 := A0.on D3.bel
  have P3 := P0.on D3.bel
  have B3 := btr b0 D3.bel
  have z0 := A3.cell 0 _ rfl
  have z1 := A3.cell 1 _ rfl
  have z2 := A3.cell 2 _ rfl
  have h0 := A3.free 0 _ rfl
  have h1 := A3.free 1 _ rfl
  have h2 := A3.free 2 _ rfl
  have q0 := P3.cell 0 _ rfl
  have q1 := P3.cell 1 _ rfl
  have q2 := P3.cell 2 _ rfl
  have q3 := P3.cell 3 _ rfl
  have q4 := P3.cell 4 _ rfl
  have f0 := P3.free 0 _ rfl
  have f1 := P3.free 1 _ rfl
  have f2 := P3.free 2 _ rfl
  have f3 := P3.free 3 _ rfl
  have f4 := P3.free 4 _ rfl
  have hne : w.heap.size ≠ w.heap.size + 1 := by omega
  have HO := Lib.hid (And.intro O4 B3)
  have HQ := Lib.hid hq
  clear O2 D2 D3 g3 O4 A3 P3 B3 b0 A0 P0 hq
  go_wp2_with fail
  refine bodyPost_ret (v := .tuple #[S3 a1 n1 c1 a2 n2 c2 s.d.s, P5 q]) (by simp [results, Tryz.results31, go_sem, z0, z1, z2, q0, q1, q2, q3, q4]) rfl ⟨a1, n1, c1, a2, n2, c2, s, q, rfl, HQ.out, ?_, (by (iterate 8 (refine bset ?_ (by dsimp only; omega) _)); exact HO.out.2)⟩
  refine BOwn.row (lo := w1.heap.size + 1) ?_
  iterate 8 (refine BOwn.set ?_ (by dsimp only; omega) _)
  exact HO.out.1
end Go.Proofs.YtlodhleihnlchaaGreatDoor
