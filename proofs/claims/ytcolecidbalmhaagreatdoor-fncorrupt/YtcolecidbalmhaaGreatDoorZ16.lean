/- Texts of this seat that several laws rest on, laid into one. Conditions: as each theorem states. -/
import Derived.Test.YtcolecidbalmhaaGreatDoorZ4
import Derived.Test.YtcolecidbalmhaaGreatDoorZ7
import Derived.Test.YtcolecidbalmhaaGreatDoorZ8
import Derived.Test.YtcolecidbalmhaaGreatDoorZ10
import Derived.Test.YtcolecidbalmhaaGreatDoorZ11
import Derived.Test.YtcolecidbalmhaaGreatDoorZ15
import Derived.Test.YtcolecidbalmhaaGreatDoorRows
import Derived.ProofKit
import Derived.JoinedCond
import Derived.Test.YtcolecidbalmhaaGreatDoorTie
import Derived.Test.YtcolecidbalmhaaGreatDoorCards
import Derived.LaidHandle
import Derived.LaidLaws
import Derived.OpenShut
import Derived.WalkSmall
import Derived.Carry
import Derived.Below
import Derived.Deep.DeepHandedRow
import Derived.Lib.LaidTab
import Derived.Lay
import Derived.MakeChecks
import Derived.LaidMore
import Derived.Stop.Joined
namespace Go.Proofs.YtcolecidbalmhaaGreatDoor
open Go.RowKit
set_option maxRecDepth 100000
set_option linter.unusedVariables false

theorem OwnG.app2 {w1 w2 : World} {lo hi B : Nat} {v v' u : Value} {zss : List (List Int)} {xs : List Value} {zs : List Int} (h : OwnG w1 lo hi v zss xs) (hhi : hi ≤ B) (hlow : lo ≤ B) (hBs : B ≤ w1.heap.size) (hu : OwnK .u8 w1 B u zs)
    (ho : Own w2 lo 1 v' (zss.length + 1) (xs ++ [u])) (hg : w1.grownBy w2 v.ownBlock) (hat : v'.ownBlock = v.ownBlock ∨ v'.ownBlock = some w1.heap.size) : OwnG w2 lo w2.heap.size v' (zss ++ [zs]) (xs ++ [u]) := by
  have hl := h.len
  have old : ∀ j x, xs[j]? = some x → OwnK .u8 w2 lo x (zss[j]?.getD []) ∧ (∀ k, x.ownBlock = some k → k < B) ∧ ApartV x v := fun j x hx => by
    obtain ⟨a, b, c⟩ := h.row j x hx
    exact ⟨Own.keep a hg.size fun k e => hg.block k (by have := b k e; omega) (fun e2 => c k e e2.symm), fun k e => by have := b k e; omega, c⟩
  have hsz := hBs
  have hsz2 := hg.size
  have hv : ∀ k, v.ownBlock = some k → k < B := fun k e => by have := h.lt k e; omega
  have new : OwnK .u8 w2 B u zs := Own.keep hu hg.size fun k e => hg.block k (Own.lt hu k e).2 (fun e2 => by have := hv k e2.symm; have := (Own.lt hu k e).1; omega)
  have nlt := fun k e => Own.lt hu k e
  refine ⟨by simpa using ho, Nat.le_refl _, fun k e => (ho.lt k e).2, fun j x hx => ?_, fun i j u1 u2 hij h1 h2 => ?_⟩
  · rcases Nat.lt_or_ge j xs.length with hj | hj
    · rw [List.getElem?_append_left hj] at hx
      obtain ⟨a, b, c⟩ := old j x hx
      refine ⟨by rw [List.getElem?_append_left (by omega)]; exact a, fun k e => by have := b k e; omega, fun k e e2 => ?_⟩
      rcases hat with ha | ha
      · rw [ha] at e2; exact c k e e2
      · rw [ha] at e2
        injection e2 with e2
        have := b k e
        omega
    · have hj2 : j = xs.length := by
        have := (List.getElem?_eq_some_iff.1 hx).1
        simp at this
        omega
      subst hj2
      rw [List.getElem?_append_right (Nat.le_refl _), Nat.sub_self] at hx
      simp at hx
      subst hx
      refine ⟨?_, fun k e => by have := (nlt k e).2; omega, fun k e e2 => ?_⟩
      · rw [hl, List.getElem?_append_right (Nat.le_refl _), Nat.sub_self]
        exact Own.less new hlow
      · rcases hat with ha | ha
        · rw [ha] at e2
          have := hv k e2
          have := (nlt k e).1
          omega
        · rw [ha] at e2
          injection e2 with e2
          have := (nlt k e).2
          omega
  · have key : ∀ i x, (xs ++ [u])[i]? = some x → (i < xs.length ∧ xs[i]? = some x) ∨ (i = xs.length ∧ x = u) := fun i x hx => by
      rcases Nat.lt_or_ge i xs.length with hj | hj
      · rw [List.getElem?_append_left hj] at hx
        exact .inl ⟨hj, hx⟩
      · have hj2 : i = xs.length := by
          have := (List.getElem?_eq_some_iff.1 hx).1
          simp at this
          omega
        subst hj2
        rw [List.getElem?_append_right (Nat.le_refl _), Nat.sub_self] at hx
        simp at hx
        exact .inr ⟨rfl, hx.symm⟩
    rcases key i u1 h1 with ⟨a1, a2⟩ | ⟨a1, a2⟩ <;> rcases key j u2 h2 with ⟨b1, b2⟩ | ⟨b1, b2⟩
    · exact h.sep i j u1 u2 hij a2 b2
    · subst b2
      intro k e e2
      have := (old i u1 a2).2.1 k e
      have := (nlt k e2).1
      omega
    · subst a2
      intro k e e2
      have := (old j u2 b2).2.1 k e2
      have := (nlt k e).1
      omega
    · omega

theorem OwnG.gk {w w' : World} {lo hi g : Nat} {v : Value} {zss : List (List Int)} {xs : List Value} (h : OwnG w lo hi v zss xs) (hO : w.grownBy w' (some g)) (hg : g < lo) : OwnG w' lo hi v zss xs :=
  h.keep hO.size fun k h1 h2 => hO.block k (by have := h.top; omega) (fun e => by injection e with e; omega)
/-- Pins and records of a call's own. -/
def BOwn (w : World) (lo : Nat) (v1 v2 : Value) (s : StoreD) : Prop := ∃ hi xs, OwnP w lo v1 s.ps ∧ OwnG w lo hi v2 s.d.rs xs ∧ (∀ p ∈ s.ps, p.n.size ≤ 21) ∧ ∀ zs ∈ s.d.rs, ∀ z ∈ zs, (Lit.int .u8 z).wf = true
theorem BOwn.row {w : World} {lo : Nat} {a1 a2 : Option Addr} {n1 c1 n2 c2 : Nat} {s : StoreD} (h : BOwn w lo (.slice a1 n1 c1) (.slice a2 n2 c2) s) : SRow w w.heap.size a1 n1 c1 a2 n2 c2 s := by
  obtain ⟨hi, xs, h1, h2, h3, h4⟩ := h
  exact ⟨OwnP.row h1 (fun p hp => by have := h3 p hp; simp only [maxLen]; omega), h2.grid h4, h4⟩
theorem BOwn.keep {w w' : World} {lo : Nat} {v1 v2 : Value} {s : StoreD} (h : BOwn w lo v1 v2 s) (hs : w.heap.size ≤ w'.heap.size) (hk : ∀ k, lo ≤ k → k < w.heap.size → w'.heap[k]? = w.heap[k]?) : BOwn w' lo v1 v2 s := by
  obtain ⟨hi, xs, h1, h2, h3, h4⟩ := h
  exact ⟨hi, xs, Own.keep h1 hs (fun k e => hk k (Own.lt h1 k e).1 (Own.lt h1 k e).2), h2.keep hs (fun k e1 e2 => hk k e1 (by have := h2.top; omega)), h3, h4⟩
theorem BOwn.on {w w' : World} {lo : Nat} {v1 v2 : Value} {s : StoreD} (h : BOwn w lo v1 v2 s) (hb : Below w.heap.size w w') : BOwn w' lo v1 v2 s := h.keep hb.size fun k _ h2 => hb.block k h2
theorem BOwn.alloc {w : World} {lo : Nat} {v1 v2 : Value} {s : StoreD} (h : BOwn w lo v1 v2 s) (o : Obj) : BOwn (w.alloc o) lo v1 v2 s := h.on (bal (Below.refl _ _) o)
theorem BOwn.kept {w w' : World} {lo g : Nat} {v1 v2 : Value} {s : StoreD} (h : BOwn w lo v1 v2 s) (hO : w.grownBy w' (some g)) (hg : g < lo) : BOwn w' lo v1 v2 s := h.keep hO.size fun k h1 h2 => hO.block k h2 (fun e => by injection e with e; omega)
theorem BOwn.less {w : World} {lo lo' : Nat} {v1 v2 : Value} {s : StoreD} (h : BOwn w lo v1 v2 s) (hl : lo' ≤ lo) : BOwn w lo' v1 v2 s := by
  obtain ⟨hi, xs, h1, h2, h3, h4⟩ := h
  exact ⟨hi, xs, OwnP.less h1 hl, h2.less hl, h3, h4⟩
theorem BOwn.set {w : World} {lo : Nat} {v1 v2 : Value} {s : StoreD} (h : BOwn w lo v1 v2 s) {p : Addr} (hp : p.block < lo) (u : Value) : BOwn (w.setCell p u) lo v1 v2 s := h.keep (by simp [World.setCell]) fun k h1 _ => Below.heap_setCell w p u k (by omega)
/-- Any store was drawn. -/
def DBent (K : Nat) (w0 : World) (a : Option Addr) (len cap : Nat) (zs : List Int) (w : World) (e : Ending) (w' : World) : Prop :=
  ∃ (a1 : Option Addr) (n1 c1 : Nat) (a2 : Option Addr) (n2 c2 : Nat) (s : StoreD) (p : Nat), p ≤ K ∧ e = .returned (S3 a1 n1 c1 a2 n2 c2 s.d.s) ∧ BOwn w' (w.heap.size + 1) (.slice a1 n1 c1) (.slice a2 n2 c2) s ∧ Draw w0 a len cap zs p w' ∧ w.grownBy w' (some w0.heap.size)
/-- While a store is bent. -/
structure BRel (w0 : World) (a : Option Addr) (len cap : Nat) (zs : List Int) (p : Nat) (w : World) (xb : Nat) (a1 : Option Addr) (n1 c1 : Nat) (a2 : Option Addr) (n2 c2 : Nat) (s : StoreD) (cur : World) : Prop where
  draw : Draw w0 a len cap zs p cur
  grew : w.grownBy cur (some w0.heap.size)
  res : At w.heap.size zero3 cur
  box : At xb (S3L a1 n1 c1 a2 n2 c2 s.d.s) cur
  own : SOwn cur (w.heap.size + 1) xb (.slice a1 n1 c1) (.slice a2 n2 c2) s
  hw : w0.heap.size < w.heap.size
section
variable {w0 : World} {a : Option Addr} {len cap : Nat} {zs : List Int} {p p' : Nat} {w : World} {xb : Nat} {a1 : Option Addr} {n1 c1 : Nat} {a2 : Option Addr} {n2 c2 : Nat} {s : StoreD} {cur cur' : World}
theorem BRel.hx (h : BRel w0 a len cap zs p w xb a1 n1 c1 a2 n2 c2 s cur) : w.heap.size + 1 ≤ xb := h.own.top.1
theorem BRel.kept (h : BRel w0 a len cap zs p w xb a1 n1 c1 a2 n2 c2 s cur) (hO : cur.grownBy cur' (some w0.heap.size)) (D : Draw w0 a len cap zs p' cur') : BRel w0 a len cap zs p' w xb a1 n1 c1 a2 n2 c2 s cur' := by
  have hw := h.hw
  have hx := h.hx
  exact ⟨D, gtr h.grew hO, h.res.kept hO (fun e => by injection e with e; omega), h.box.kept hO (fun e => by injection e with e; omega), h.own.keep hO.size (fun k h1 h2 => hO.block k (by have := h.own.top; omega) (fun e => by injection e with e; omega)), hw⟩
theorem BRel.only (h : BRel w0 a len cap zs p w xb a1 n1 c1 a2 n2 c2 s cur) (hO : Only w0.heap.size cur cur') (D : Draw w0 a len cap zs p' cur') : BRel w0 a len cap zs p' w xb a1 n1 c1 a2 n2 c2 s cur' := h.kept hO.grown D
theorem BRel.on (h : BRel w0 a len cap zs p w xb a1 n1 c1 a2 n2 c2 s cur) (hb : Below cur.heap.size cur cur') : BRel w0 a len cap zs p w xb a1 n1 c1 a2 n2 c2 s cur' :=
  ⟨h.draw.below hb, gbe h.grew hb, h.res.on hb, h.box.on hb, h.own.below hb, h.hw⟩
theorem BRel.alloc (h : BRel w0 a len cap zs p w xb a1 n1 c1 a2 n2 c2 s cur) (o : Obj) : BRel w0 a len cap zs p w xb a1 n1 c1 a2 n2 c2 s (cur.alloc o) := h.on (bal (Below.refl _ _) o)
end
set_option maxHeartbeats 8000000 in
theorem dl9Bent {w0 : World} {a : Option Addr} {len cap : Nat} {zs : List Int} {p0 : Nat} {w : World} (D : Draw w0 a len cap zs p0 w) (hp0 : p0 ≤ 20) :
    Calls Tryz.prog 65 #[.pointer (some ⟨w0.heap.size, 0, none⟩)] w (DBent (p0 + 350) w0 a len cap zs w) := by
  have hlt := D.lt
  have D0 := D.alloc (.cells #[.slice none 0 0, .slice none 0 0, .int .i64 0] 29)
  have G0 := gal (World.grownBy.refl w (some w0.heap.size)) (.cells #[.slice none 0 0, .slice none 0 0, .int .i64 0] 29)
  have R0 : At w.heap.size zero3 (w.alloc (.cells #[.slice none 0 0, .slice none 0 0, .int .i64 0] 29)) := At.new w zero3 29
  have sz0 : (w.alloc (.cells #[.slice none 0 0, .slice none 0 0, .int .i64 0] 29)).heap.size = w.heap.size + 1 := by simp
  clear D
  go_enter Tryz.func65, Tryz.ntmps65
  go_wp2_with fail
  generalize w.alloc (.cells #[.slice none 0 0, .slice none 0 0, .int .i64 0] 29) = W0 at *
  refine (dl9Draw D0 (by omega) 10 (Int.le_refl _)).mono ?_
  rintro e w1 ⟨a1, n1, c1, a2, n2, c2, s, p, hs0, hp, rfl, O1, D1, g1⟩
  have hnm := fun q hq => (right_pins hs0 q hq).2
  have h12 : s.d.rs.length ≤ 12 := (diskF_zero (openC_zero (storeF_zero hs0).1).1).1
  have HNM := Lib.hid hnm
  have lt1 : W0.heap.size ≤ w1.heap.size := g1.size
  have R1 : BRel w0 a len cap zs p w w1.heap.size a1 n1 c1 a2 n2 c2 s (w1.alloc (.cells #[.slice a1 n1 c1, .slice a2 n2 c2, .int .i64 s.d.s] 29)) :=
    ⟨D1.alloc _, gal (gtr G0 g1) _, (R0.kept g1 (fun e => by injection e with e; omega)).alloc _, At.new w1 (S3L a1 n1 c1 a2 n2 c2 s.d.s) 29, by rw [sz0] at O1; exact O1.below (bal (Below.refl _ _) _), hlt⟩
  clear D0 G0 R0 O1 D1 g1 hs0 hnm
  go_wp2_with fail
  generalize w1.alloc (.cells #[.slice a1 n1 c1, .slice a2 n2 c2, .int .i64 s.d.s] 29) = v1 at *
  generalize w1.heap.size = xb at *
  refine (dnext 12 R1.draw (by omega)).mono ?_
  rintro e w2 ⟨sw, t0, t1, rfl, D2, O2⟩
  have R2 := R1.only O2 D2
  have hx := R2.hx
  clear R1 D2 O2 t1
  by_cases s0 : sw = 0
  · subst s0
    go_wp2_with fail
    refine (dl7BentPins R2.draw (by omega)).mono ?_
    rintro e w3 ⟨xp, xn, xc, ps, pp, ⟨hs, hl⟩, hpp, rfl, OP, D3, g3⟩
    have R3 := R2.kept g3 D3
    have lt2 := R2.box.lt (by simp [S3L])
    obtain ⟨mid, xs, hm1, hm2, hOP, hlt1, hOG, hn, hwf⟩ := R3.own
    have HO := Lib.hid (show BOwn (w3.setCell ⟨xb, 0, none⟩ (.slice xp xn xc)) (w.heap.size + 1) (.slice xp xn xc) (.slice a2 n2 c2) ⟨ps, ⟨s.d.rs, s.d.s⟩⟩ from
      ⟨xb, xs, OwnP.less (B := w2.heap.size) (Own.setCell OP (fun k e => by have := (Own.lt OP k e).1; show k ≠ xb; omega) _) (by omega), (hOG.setCell (p := ⟨xb, 0, none⟩) (.inr (Nat.le_refl _)) _).less hm1, hs, hwf⟩)
    have HD := Lib.hid R3.draw
    have HG := Lib.hid R3.grew
    have y0 := R3.box.cell 0 _ rfl
    have y1 := R3.box.cell 1 _ rfl
    have y2 := R3.box.cell 2 _ rfl
    have f0 := R3.box.free 0 _ rfl
    have f1 := R3.box.free 1 _ rfl
    have f2 := R3.box.free 2 _ rfl
    have q0 := R3.res.cell 0 _ rfl
    have q1 := R3.res.cell 1 _ rfl
    have q2 := R3.res.cell 2 _ rfl
    have z0 := R3.res.free 0 _ rfl
    have z1 := R3.res.free 1 _ rfl
    have z2 := R3.res.free 2 _ rfl
    have hxr : w.heap.size ≠ xb := by omega
    clear R2 R3 hOP hOG hwf OP D3 g3
    go_wp2_with fail
    refine bodyPost_ret (v := S3 xp xn xc a2 n2 c2 s.d.s) (by simp [results, Tryz.results65, go_sem, q0, q1, q2]) rfl ?_
    refine ⟨_, _, _, _, _, _, ⟨ps, ⟨s.d.rs, s.d.s⟩⟩, pp, by omega, rfl, ?_, ?_, ?_⟩
    · iterate 3 (refine BOwn.set ?_ (by dsimp only; omega) _)
      exact HO.out
    · iterate 4 (refine Draw.put ?_ (by dsimp only; omega) _)
      exact HD.out
    · iterate 4 (refine gset ?_ (by dsimp only; omega) _)
      exact HG.out
  have g0 : (sw == 0) = false := by rw [beq_eq_false_iff_ne]; exact s0
  by_cases s1 : sw = 1
  · subst s1
    go_wp2_with fail
    refine (dpick [-1, 0, 13] 3 R2.draw (by omega) (by omega) (by omega) rfl 2).mono ?_
    rintro e w3 ⟨sv, hv, rfl, D3, O3⟩
    have R3 := (R2.alloc (.cells #[.int .i64 (-1), .int .i64 0, .int .i64 13] 2)).only O3 D3
    obtain ⟨mid, xs, hm1, hm2, hOP, hlt1, hOG, hn, hwf⟩ := R3.own
    have HO := Lib.hid (show BOwn (w3.setCell ⟨xb, 2, none⟩ (.int .i64 sv)) (w.heap.size + 1) (.slice a1 n1 c1) (.slice a2 n2 c2) ⟨s.ps, ⟨s.d.rs, sv⟩⟩ from
      ⟨xb, xs, Own.setCell hOP (fun k e => by have := hlt1 k e; show k ≠ xb; omega) _, (hOG.setCell (p := ⟨xb, 2, none⟩) (.inr (Nat.le_refl _)) _).less hm1, HNM.out, hwf⟩)
    have HD := Lib.hid R3.draw
    have HG := Lib.hid R3.grew
    have y0 := R3.box.cell 0 _ rfl
    have y1 := R3.box.cell 1 _ rfl
    have y2 := R3.box.cell 2 _ rfl
    have f0 := R3.box.free 0 _ rfl
    have f1 := R3.box.free 1 _ rfl
    have f2 := R3.box.free 2 _ rfl
    have q0 := R3.res.cell 0 _ rfl
    have q1 := R3.res.cell 1 _ rfl
    have q2 := R3.res.cell 2 _ rfl
    have z0 := R3.res.free 0 _ rfl
    have z1 := R3.res.free 1 _ rfl
    have z2 := R3.res.free 2 _ rfl
    have hxr : w.heap.size ≠ xb := by omega
    clear R2 R3 hOP hOG hwf D3 O3 hv
    go_wp2_with fail
    refine bodyPost_ret (v := S3 a1 n1 c1 a2 n2 c2 sv) (by simp [results, Tryz.results65, go_sem, q0, q1, q2]) rfl ?_
    refine ⟨_, _, _, _, _, _, ⟨s.ps, ⟨s.d.rs, sv⟩⟩, p + 1 + 1, by omega, rfl, ?_, ?_, ?_⟩
    · iterate 3 (refine BOwn.set ?_ (by dsimp only; omega) _)
      exact HO.out
    · iterate 4 (refine Draw.put ?_ (by dsimp only; omega) _)
      exact HD.out
    · iterate 4 (refine gset ?_ (by dsimp only; omega) _)
      exact HG.out
  have g1 : (sw == 1) = false := by rw [beq_eq_false_iff_ne]; exact s1
  by_cases s2 : sw = 2
  · subst s2
    obtain ⟨i0, hi0, hz0, hz1, hz2⟩ := info_parts slices_info
    go_wp2_with fail
    refine wp_region_fork (At w.heap.size zero3) (by kernel_rfl) (R2.res.on (bdrew _)) ?_
    have hst : (At w.heap.size zero3) _ := (R2.res.on (bdrew _))
    have inst : Nonempty (Of (At w.heap.size zero3)) := ⟨⟨_, hst⟩⟩
    have R := R2.on (bdrew _)
    clear R2
    generalize w2.drew = V2 at *
    refine any_seg 9 [(0, true), (1, true), (3, true), (4, true)] (by kernel_rfl) (fun _ _ d _ _ h => by cases d <;> exact h) ?_
    iterate 4 (refine line_read rfl (by kernel_rfl) (fun K hK => ?_); go_big_quiet_op; refine hK _ ?_; clear hK K)
    refine line_nil ?_
    refine any_fork 2 5 (by kernel_rfl) rfl rfl (by kernel_rfl) (by kernel_rfl) (fun K hK => ?_) (fun K hK => ?_)
    · have e1 := R.box.cell 1 _ rfl
      go_big_op
      refine hK _ _ hst ?_
      clear hK K e1
      refine any_rest [(5, false), (6, false), (7, false), (8, false), (9, false), (10, true), (11, true), (12, false)] (by kernel_rfl) (fun _ _ d _ _ h => by cases d <;> exact h) ?_
      refine line_alone rfl (by kernel_rfl) (fun K hK => ?_)
      go_big_op
      have X := At.new V2 [.int .i64 1, .int .i64 12, .int .i64 41] 2
      have RN := R.alloc (.cells #[.int .i64 1, .int .i64 12, .int .i64 41] 2)
      have hgA : w0.heap.size < V2.heap.size := Nat.lt_trans R.hw (Nat.lt_of_lt_of_le (by omega) (Nat.le_of_lt (R.box.lt (by simp [S3L]))))
      have X' : At V2.heap.size [.int .i64 1, .int .i64 12, .int .i64 41] (V2.alloc (.cells #[.int .i64 1, .int .i64 12, .int .i64 41] 2)) := X
      have hstN : At w.heap.size zero3 (V2.alloc (.cells #[.int .i64 1, .int .i64 12, .int .i64 41] 2)) := RN.res
      clear R X
      have R := RN
      clear RN
      refine hK _ _ hstN ?_
      clear hK K hst
      have hst := hstN
      clear hstN
      generalize V2.alloc (.cells #[.int .i64 1, .int .i64 12, .int .i64 41] 2) = x3 at *
      generalize V2.heap.size = ga at *
      refine line_alone rfl (by kernel_rfl) (fun K hK => ?_)
      refine call_any (args := #[.pointer (some ⟨w0.heap.size, 0, none⟩), .slice (some ⟨ga, 0, none⟩) 3 3]) rfl (by kernel_rfl) (by kernel_rfl) (l1Pick_any w0.heap.size ga 3 [1, 12, 41] a len cap _ w0.heap.size zs x3 R.draw.src R.draw.row (Nat.le_refl _) (by omega) (by omega) rfl (by omega) (by omega) (fun j hj => by
        match j, hj with
        | 0, _ => exact X'.cell 0 _ rfl
        | 1, _ => exact X'.cell 1 _ rfl
        | 2, _ => exact X'.cell 2 _ rfl)) ?_
      rintro e x4 ⟨sv, hv, rfl, SN, O4⟩
      have DN := R.draw.only SN O4
      have RN := R.only O4 DN
      have hstN : At w.heap.size zero3 x4 := RN.res
      clear R SN DN O4 X'
      have R := RN
      clear RN
      refine ⟨_, rfl, hK _ _ hstN ?_⟩
      clear hK K hst
      have hst := hstN
      clear hstN
      simp only [Act.put, List.setIfInBounds_toArray, List.set_cons_zero, List.set_cons_succ]
      have hv' : 1 ≤ sv ∧ sv ≤ 41 := by simp at hv; omega
      obtain ⟨nn, rfl⟩ : ∃ nn : Nat, sv = nn := Int.eq_ofNat_of_zero_le (by omega)
      have hnn : nn ≤ 41 := by omega
      clear hv hv'
      refine line_alone rfl (by kernel_rfl) (fun K hK => ?_)
      refine call_any (args := #[.pointer (some ⟨w0.heap.size, 0, none⟩), .int .i64 (nn : Nat)]) rfl (by kernel_rfl) (by kernel_rfl) (dsome nn R.draw (by omega) (by omega)) ?_
      rintro e x5 ⟨ra, rc, zn, rfl, OU, hwz, D5, g5⟩
      have lt4 := R.box.lt (by simp [S3L])
      have hle5 := g5.size
      obtain ⟨mid, xs, hm1, hm2, hOP0, hlt1, hOG0, hn, hwf⟩ := R.own
      have hw := R.hw
      have hOG := hOG0.gk g5 (by omega)
      have hOP : OwnP x5 (w.heap.size + 1) (.slice a1 n1 c1) s.ps := Own.keep hOP0 g5.size (fun k e => g5.block k (Own.lt hOP0 k e).2 (fun e2 => by injection e2 with e2; have := (Own.lt hOP0 k e).1; omega))
      have RN := R.kept g5 D5
      have hstN : At w.heap.size zero3 x5 := RN.res
      clear R D5 g5 hOG0 hOP0
      have R := RN
      clear RN
      generalize x4.heap.size = B4 at *
      refine ⟨_, rfl, hK _ _ hstN ?_⟩
      clear hK K hst
      have hst := hstN
      clear hstN
      simp only [Act.put, List.setIfInBounds_toArray, List.set_cons_zero, List.set_cons_succ]
      refine line_alone rfl (by kernel_rfl) (fun K hK => ?_)
      go_big_op
      have SR := Lib.hid (src_new (P := Tryz.prog) x5 [.slice ra nn rc] 1 1 22 25 22 Tryz.underlying25 rfl (by intro u hu; simp at hu; subst hu; rfl))
      have b6 := bal (Below.refl _ x5) (.cells #[.slice ra nn rc] 22)
      have RN := R.on b6
      have OU6 := Own.alloc OU (.cells #[.slice ra nn rc] 22)
      have OG6 := hOG.alloc (.cells #[.slice ra nn rc] 22)
      have OP6 := OwnP.alloc hOP (.cells #[.slice ra nn rc] 22)
      have hstN : At w.heap.size zero3 (x5.alloc (.cells #[.slice ra nn rc] 22)) := RN.res
      have hsz6 : B4 ≤ (x5.alloc (.cells #[.slice ra nn rc] 22)).heap.size := by have := b6.size; omega
      clear R OU hOG hOP b6
      have R := RN
      clear RN
      refine hK _ _ hstN ?_
      clear hK K hst
      have hst := hstN
      clear hstN
      have hc7 : (x5.alloc (.cells [Value.slice ra nn rc].toArray 22)) = x5.alloc (.cells #[.slice ra nn rc] 22) := rfl
      rw [hc7] at SR
      clear hc7
      generalize x5.alloc (.cells #[.slice ra nn rc] 22) = x6 at *
      refine line_alone rfl (by kernel_rfl) (fun K hK => ?_)
      have hl2 : n2 = s.d.rs.length := OG6.len'
      subst hl2
      refine wp_append_src _ (.tmp 24) (.tmp 30) 25 25 rfl mid 22 i0 (.slice none 0 0) 1 24 Tryz.underlying25 hi0 hz0 hz1 hz2 rfl (.slice a2 s.d.rs.length c2) s.d.rs.length xs rfl OG6.own _ 1 [.slice ra nn rc] rfl SR.out (by simp only [maxLen]; omega) (by omega) (by omega) (fun v8 w8 hown hgrow hat => ?_)
      obtain ⟨a8, c8, hv8, -⟩ := Own.form hown
      subst hv8
      have OG8 := OwnG.app2 OG6 (Nat.le_of_lt lt4) (by omega) hsz6 OU6 hown hgrow hat
      have X8 := R.box.kept hgrow (fun e => by have := OG6.lt xb e.symm; omega)
      have Q8 := R.res.kept hgrow (fun e => by have := (OG6.own.lt w.heap.size e.symm).1; omega)
      have D8 : Draw w0 a len cap zs _ w8 := R.draw.grown hgrow (fun k e => by have := (OG6.own.lt k e).1; omega)
      have G8 : w.grownBy w8 (some w0.heap.size) := gown R.grew hgrow (fun k e => by have := (OG6.own.lt k e).1; omega)
      have OP8 : OwnP w8 (w.heap.size + 1) (.slice a1 n1 c1) s.ps := Own.keep OP6 hgrow.size (fun k e => hgrow.block k (Own.lt OP6 k e).2 (fun e2 => by have := hlt1 k e; have := (OG6.own.lt k e2.symm).1; omega))
      have hne8 : ∀ k, Value.ownBlock (.slice a8 (s.d.rs.length + 1) c8) = some k → k ≠ xb := fun k e e2 => by
        rcases hat with h | h
        · rw [h] at e; have := OG6.lt k e; omega
        · rw [h] at e; injection e with e; have := R.box.lt (by simp [S3L]); omega
      have hnx8 : ∀ (i : Nat) (u : Value) (k : Nat), (xs ++ [Value.slice ra nn rc])[i]? = some u → u.ownBlock = some k → k ≠ xb := fun i u k hu e e2 => by
        rcases Nat.lt_or_ge i xs.length with hi | hi
        · rw [List.getElem?_append_left hi] at hu
          have := (OG6.row i u hu).2.1 k e
          omega
        · rw [List.getElem?_append_right hi] at hu
          have h0 := (List.getElem?_eq_some_iff.1 hu).1
          simp at h0
          rw [h0] at hu
          simp at hu
          subst hu
          have := (Own.lt OU6 k e).1
          omega
      have hk8 : ∀ k, k ≠ xb → (w8.setCell ⟨xb, 1, none⟩ (.slice a8 (s.d.rs.length + 1) c8)).heap[k]? = w8.heap[k]? := fun k hk => Below.heap_setCell w8 ⟨xb, 1, none⟩ _ k hk
      have OG9 := OG8.keepP (w' := w8.setCell ⟨xb, 1, none⟩ (.slice a8 (s.d.rs.length + 1) c8)) (by simp [World.setCell]) (fun k e => hk8 k (hne8 k e)) (fun i u k hu e => hk8 k (hnx8 i u k hu e))
      have HO := Lib.hid (show BOwn (w8.setCell ⟨xb, 1, none⟩ (.slice a8 (s.d.rs.length + 1) c8)) (w.heap.size + 1) (.slice a1 n1 c1) (.slice a8 (s.d.rs.length + 1) c8) ⟨s.ps, ⟨s.d.rs ++ [zn], s.d.s⟩⟩ from
        ⟨_, _, Own.setCell OP8 (fun k e => by have := hlt1 k e; show k ≠ xb; omega) _, OG9.less hm1, HNM.out, fun r hr z hz => by
          rcases List.mem_append.1 hr with hr | hr
          · exact hwf r hr z hz
          · simp at hr; subst hr; exact hwz z hz⟩)
      have HD := Lib.hid D8
      have HG := Lib.hid G8
      refine hK _ _ Q8 ?_
      clear hK K hst hown hgrow hat OU6 OG6 OP6 SR OG8 OG9 OP8 D8 G8 R hne8 hnx8 hk8
      simp only [Act.put, List.setIfInBounds_toArray, List.set_cons_zero, List.set_cons_succ]
      iterate 2 (refine line_read rfl (by kernel_rfl) (fun K hK => ?_); go_big_quiet_op; refine hK _ ?_; clear hK K)
      have X9 := X8.set 1 (.slice a8 (s.d.rs.length + 1) c8)
      have Q9 := Q8.setB (p := ⟨xb, 1, none⟩) (by dsimp only; omega) (.slice a8 (s.d.rs.length + 1) c8)
      have y0 := X8.cell 0 _ rfl
      have y1 := X8.cell 1 _ rfl
      have y2 := X8.cell 2 _ rfl
      have f0 := X8.free 0 _ rfl
      have f1 := X8.free 1 _ rfl
      have f2 := X8.free 2 _ rfl
      refine line_alone rfl (by kernel_rfl) (fun K hK => ?_)
      go_big_op
      refine hK _ _ (Q9) ?_
      clear hK K
      refine line_nil ?_
      clear y0 y1 y2 f0 f1 f2 X8 Q8
      have X10 : At xb [.slice a1 n1 c1, .slice a8 (s.d.rs.length + 1) c8, .int .i64 s.d.s] (w8.setCell ⟨xb, 1, none⟩ (.slice a8 (s.d.rs.length + 1) c8)) := X9
      have y0 := X10.cell 0 _ rfl
      have y1 := X10.cell 1 _ rfl
      have y2 := X10.cell 2 _ rfl
      have f0 := X10.free 0 _ rfl
      have f1 := X10.free 1 _ rfl
      have f2 := X10.free 2 _ rfl
      have q0 := Q9.cell 0 _ rfl
      have q1 := Q9.cell 1 _ rfl
      have q2 := Q9.cell 2 _ rfl
      have z0 := Q9.free 0 _ rfl
      have z1 := Q9.free 1 _ rfl
      have z2 := Q9.free 2 _ rfl
      have hxr : w.heap.size ≠ xb := by omega
      clear X9 X10 Q9
      go_wp2_with fail
      refine bodyPost_ret (v := S3 a1 n1 c1 a8 (s.d.rs.length + 1) c8 s.d.s) (by simp [results, Tryz.results65, go_sem, q0, q1, q2]) rfl ?_
      refine ⟨_, _, _, _, _, _, ⟨s.ps, ⟨s.d.rs ++ [zn], s.d.s⟩⟩, p + 1 + 1 + nn, by omega, rfl, ?_, ?_, ?_⟩
      · iterate 3 (refine BOwn.set ?_ (by dsimp only; omega) _)
        exact HO.out
      · iterate 4 (refine Draw.put ?_ (by dsimp only; omega) _)
        exact HD.out
      · iterate 4 (refine gset ?_ (by dsimp only; omega) _)
        exact HG.out
    · go_big_op
      have X := At.new V2 [.int .i64 1, .int .i64 12, .int .i64 41] 2
      have RN := R.alloc (.cells #[.int .i64 1, .int .i64 12, .int .i64 41] 2)
      have hgA : w0.heap.size < V2.heap.size := Nat.lt_trans R.hw (Nat.lt_of_lt_of_le (by omega) (Nat.le_of_lt (R.box.lt (by simp [S3L]))))
      have X' : At V2.heap.size [.int .i64 1, .int .i64 12, .int .i64 41] (V2.alloc (.cells #[.int .i64 1, .int .i64 12, .int .i64 41] 2)) := X
      have hstN : At w.heap.size zero3 (V2.alloc (.cells #[.int .i64 1, .int .i64 12, .int .i64 41] 2)) := RN.res
      clear R X
      have R := RN
      clear RN
      refine hK _ _ hstN ?_
      clear hK K hst
      have hst := hstN
      clear hstN
      generalize V2.alloc (.cells #[.int .i64 1, .int .i64 12, .int .i64 41] 2) = x3 at *
      generalize V2.heap.size = ga at *
      refine any_fork 2 6 (by kernel_rfl) rfl rfl (by kernel_rfl) (by kernel_rfl) (fun K hK => ?_) (fun K hK => ?_)
      · have e1 := R.box.cell 1 _ rfl
        go_big_op
        refine hK _ _ hst ?_
        clear hK K e1
        refine any_rest [(6, false), (7, false), (8, false), (9, false), (10, true), (11, true), (12, false)] (by kernel_rfl) (fun _ _ d _ _ h => by cases d <;> exact h) ?_
        refine line_alone rfl (by kernel_rfl) (fun K hK => ?_)
        refine call_any (args := #[.pointer (some ⟨w0.heap.size, 0, none⟩), .slice (some ⟨ga, 0, none⟩) 3 3]) rfl (by kernel_rfl) (by kernel_rfl) (l1Pick_any w0.heap.size ga 3 [1, 12, 41] a len cap _ w0.heap.size zs x3 R.draw.src R.draw.row (Nat.le_refl _) (by omega) (by omega) rfl (by omega) (by omega) (fun j hj => by
          match j, hj with
          | 0, _ => exact X'.cell 0 _ rfl
          | 1, _ => exact X'.cell 1 _ rfl
          | 2, _ => exact X'.cell 2 _ rfl)) ?_
        rintro e x4 ⟨sv, hv, rfl, SN, O4⟩
        have DN := R.draw.only SN O4
        have RN := R.only O4 DN
        have hstN : At w.heap.size zero3 x4 := RN.res
        clear R SN DN O4 X'
        have R := RN
        clear RN
        refine ⟨_, rfl, hK _ _ hstN ?_⟩
        clear hK K hst
        have hst := hstN
        clear hstN
        simp only [Act.put, List.setIfInBounds_toArray, List.set_cons_zero, List.set_cons_succ]
        have hv' : 1 ≤ sv ∧ sv ≤ 41 := by simp at hv; omega
        obtain ⟨nn, rfl⟩ : ∃ nn : Nat, sv = nn := Int.eq_ofNat_of_zero_le (by omega)
        have hnn : nn ≤ 41 := by omega
        clear hv hv'
        refine line_alone rfl (by kernel_rfl) (fun K hK => ?_)
        refine call_any (args := #[.pointer (some ⟨w0.heap.size, 0, none⟩), .int .i64 (nn : Nat)]) rfl (by kernel_rfl) (by kernel_rfl) (dsome nn R.draw (by omega) (by omega)) ?_
        rintro e x5 ⟨ra, rc, zn, rfl, OU, hwz, D5, g5⟩
        have lt4 := R.box.lt (by simp [S3L])
        have hle5 := g5.size
        obtain ⟨mid, xs, hm1, hm2, hOP0, hlt1, hOG0, hn, hwf⟩ := R.own
        have hw := R.hw
        have hOG := hOG0.gk g5 (by omega)
        have hOP : OwnP x5 (w.heap.size + 1) (.slice a1 n1 c1) s.ps := Own.keep hOP0 g5.size (fun k e => g5.block k (Own.lt hOP0 k e).2 (fun e2 => by injection e2 with e2; have := (Own.lt hOP0 k e).1; omega))
        have RN := R.kept g5 D5
        have hstN : At w.heap.size zero3 x5 := RN.res
        clear R D5 g5 hOG0 hOP0
        have R := RN
        clear RN
        generalize x4.heap.size = B4 at *
        refine ⟨_, rfl, hK _ _ hstN ?_⟩
        clear hK K hst
        have hst := hstN
        clear hstN
        simp only [Act.put, List.setIfInBounds_toArray, List.set_cons_zero, List.set_cons_succ]
        refine line_alone rfl (by kernel_rfl) (fun K hK => ?_)
        go_big_op
        have SR := Lib.hid (src_new (P := Tryz.prog) x5 [.slice ra nn rc] 1 1 22 25 22 Tryz.underlying25 rfl (by intro u hu; simp at hu; subst hu; rfl))
        have b6 := bal (Below.refl _ x5) (.cells #[.slice ra nn rc] 22)
        have RN := R.on b6
        have OU6 := Own.alloc OU (.cells #[.slice ra nn rc] 22)
        have OG6 := hOG.alloc (.cells #[.slice ra nn rc] 22)
        have OP6 := OwnP.alloc hOP (.cells #[.slice ra nn rc] 22)
        have hstN : At w.heap.size zero3 (x5.alloc (.cells #[.slice ra nn rc] 22)) := RN.res
        have hsz6 : B4 ≤ (x5.alloc (.cells #[.slice ra nn rc] 22)).heap.size := by have := b6.size; omega
        clear R OU hOG hOP b6
        have R := RN
        clear RN
        refine hK _ _ hstN ?_
        clear hK K hst
        have hst := hstN
        clear hstN
        have hc7 : (x5.alloc (.cells [Value.slice ra nn rc].toArray 22)) = x5.alloc (.cells #[.slice ra nn rc] 22) := rfl
        rw [hc7] at SR
        clear hc7
        generalize x5.alloc (.cells #[.slice ra nn rc] 22) = x6 at *
        refine line_alone rfl (by kernel_rfl) (fun K hK => ?_)
        have hl2 : n2 = s.d.rs.length := OG6.len'
        subst hl2
        refine wp_append_src _ (.tmp 24) (.tmp 30) 25 25 rfl mid 22 i0 (.slice none 0 0) 1 24 Tryz.underlying25 hi0 hz0 hz1 hz2 rfl (.slice a2 s.d.rs.length c2) s.d.rs.length xs rfl OG6.own _ 1 [.slice ra nn rc] rfl SR.out (by simp only [maxLen]; omega) (by omega) (by omega) (fun v8 w8 hown hgrow hat => ?_)
        obtain ⟨a8, c8, hv8, -⟩ := Own.form hown
        subst hv8
        have OG8 := OwnG.app2 OG6 (Nat.le_of_lt lt4) (by omega) hsz6 OU6 hown hgrow hat
        have X8 := R.box.kept hgrow (fun e => by have := OG6.lt xb e.symm; omega)
        have Q8 := R.res.kept hgrow (fun e => by have := (OG6.own.lt w.heap.size e.symm).1; omega)
        have D8 : Draw w0 a len cap zs _ w8 := R.draw.grown hgrow (fun k e => by have := (OG6.own.lt k e).1; omega)
        have G8 : w.grownBy w8 (some w0.heap.size) := gown R.grew hgrow (fun k e => by have := (OG6.own.lt k e).1; omega)
        have OP8 : OwnP w8 (w.heap.size + 1) (.slice a1 n1 c1) s.ps := Own.keep OP6 hgrow.size (fun k e => hgrow.block k (Own.lt OP6 k e).2 (fun e2 => by have := hlt1 k e; have := (OG6.own.lt k e2.symm).1; omega))
        have hne8 : ∀ k, Value.ownBlock (.slice a8 (s.d.rs.length + 1) c8) = some k → k ≠ xb := fun k e e2 => by
          rcases hat with h | h
          · rw [h] at e; have := OG6.lt k e; omega
          · rw [h] at e; injection e with e; have := R.box.lt (by simp [S3L]); omega
        have hnx8 : ∀ (i : Nat) (u : Value) (k : Nat), (xs ++ [Value.slice ra nn rc])[i]? = some u → u.ownBlock = some k → k ≠ xb := fun i u k hu e e2 => by
          rcases Nat.lt_or_ge i xs.length with hi | hi
          · rw [List.getElem?_append_left hi] at hu
            have := (OG6.row i u hu).2.1 k e
            omega
          · rw [List.getElem?_append_right hi] at hu
            have h0 := (List.getElem?_eq_some_iff.1 hu).1
            simp at h0
            rw [h0] at hu
            simp at hu
            subst hu
            have := (Own.lt OU6 k e).1
            omega
        have hk8 : ∀ k, k ≠ xb → (w8.setCell ⟨xb, 1, none⟩ (.slice a8 (s.d.rs.length + 1) c8)).heap[k]? = w8.heap[k]? := fun k hk => Below.heap_setCell w8 ⟨xb, 1, none⟩ _ k hk
        have OG9 := OG8.keepP (w' := w8.setCell ⟨xb, 1, none⟩ (.slice a8 (s.d.rs.length + 1) c8)) (by simp [World.setCell]) (fun k e => hk8 k (hne8 k e)) (fun i u k hu e => hk8 k (hnx8 i u k hu e))
        have HO := Lib.hid (show BOwn (w8.setCell ⟨xb, 1, none⟩ (.slice a8 (s.d.rs.length + 1) c8)) (w.heap.size + 1) (.slice a1 n1 c1) (.slice a8 (s.d.rs.length + 1) c8) ⟨s.ps, ⟨s.d.rs ++ [zn], s.d.s⟩⟩ from
          ⟨_, _, Own.setCell OP8 (fun k e => by have := hlt1 k e; show k ≠ xb; omega) _, OG9.less hm1, HNM.out, fun r hr z hz => by
            rcases List.mem_append.1 hr with hr | hr
            · exact hwf r hr z hz
            · simp at hr; subst hr; exact hwz z hz⟩)
        have HD := Lib.hid D8
        have HG := Lib.hid G8
        refine hK _ _ Q8 ?_
        clear hK K hst hown hgrow hat OU6 OG6 OP6 SR OG8 OG9 OP8 D8 G8 R hne8 hnx8 hk8
        simp only [Act.put, List.setIfInBounds_toArray, List.set_cons_zero, List.set_cons_succ]
        iterate 2 (refine line_read rfl (by kernel_rfl) (fun K hK => ?_); go_big_quiet_op; refine hK _ ?_; clear hK K)
        have X9 := X8.set 1 (.slice a8 (s.d.rs.length + 1) c8)
        have Q9 := Q8.setB (p := ⟨xb, 1, none⟩) (by dsimp only; omega) (.slice a8 (s.d.rs.length + 1) c8)
        have y0 := X8.cell 0 _ rfl
        have y1 := X8.cell 1 _ rfl
        have y2 := X8.cell 2 _ rfl
        have f0 := X8.free 0 _ rfl
        have f1 := X8.free 1 _ rfl
        have f2 := X8.free 2 _ rfl
        refine line_alone rfl (by kernel_rfl) (fun K hK => ?_)
        go_big_op
        refine hK _ _ (Q9) ?_
        clear hK K
        refine line_nil ?_
        clear y0 y1 y2 f0 f1 f2 X8 Q8
        have X10 : At xb [.slice a1 n1 c1, .slice a8 (s.d.rs.length + 1) c8, .int .i64 s.d.s] (w8.setCell ⟨xb, 1, none⟩ (.slice a8 (s.d.rs.length + 1) c8)) := X9
        have y0 := X10.cell 0 _ rfl
        have y1 := X10.cell 1 _ rfl
        have y2 := X10.cell 2 _ rfl
        have f0 := X10.free 0 _ rfl
        have f1 := X10.free 1 _ rfl
        have f2 := X10.free 2 _ rfl
        have q0 := Q9.cell 0 _ rfl
        have q1 := Q9.cell 1 _ rfl
        have q2 := Q9.cell 2 _ rfl
        have z0 := Q9.free 0 _ rfl
        have z1 := Q9.free 1 _ rfl
        have z2 := Q9.free 2 _ rfl
        have hxr : w.heap.size ≠ xb := by omega
        clear X9 X10 Q9
        go_wp2_with fail
        refine bodyPost_ret (v := S3 a1 n1 c1 a8 (s.d.rs.length + 1) c8 s.d.s) (by simp [results, Tryz.results65, go_sem, q0, q1, q2]) rfl ?_
        refine ⟨_, _, _, _, _, _, ⟨s.ps, ⟨s.d.rs ++ [zn], s.d.s⟩⟩, p + 1 + 1 + nn, by omega, rfl, ?_, ?_, ?_⟩
        · iterate 3 (refine BOwn.set ?_ (by dsimp only; omega) _)
          exact HO.out
        · iterate 4 (refine Draw.put ?_ (by dsimp only; omega) _)
          exact HD.out
        · iterate 4 (refine gset ?_ (by dsimp only; omega) _)
          exact HG.out
      · refine call_any (args := #[.pointer (some ⟨w0.heap.size, 0, none⟩), .slice (some ⟨ga, 0, none⟩) 3 3]) rfl (by kernel_rfl) (by kernel_rfl) (l1Pick_any w0.heap.size ga 3 [1, 12, 41] a len cap _ w0.heap.size zs x3 R.draw.src R.draw.row (Nat.le_refl _) (by omega) (by omega) rfl (by omega) (by omega) (fun j hj => by
          match j, hj with
          | 0, _ => exact X'.cell 0 _ rfl
          | 1, _ => exact X'.cell 1 _ rfl
          | 2, _ => exact X'.cell 2 _ rfl)) ?_
        rintro e x4 ⟨sv, hv, rfl, SN, O4⟩
        have DN := R.draw.only SN O4
        have RN := R.only O4 DN
        have hstN : At w.heap.size zero3 x4 := RN.res
        clear R SN DN O4 X'
        have R := RN
        clear RN
        refine ⟨_, rfl, hK _ _ hstN ?_⟩
        clear hK K hst
        have hst := hstN
        clear hstN
        simp only [Act.put, List.setIfInBounds_toArray, List.set_cons_zero, List.set_cons_succ]
        have hv' : 1 ≤ sv ∧ sv ≤ 41 := by simp at hv; omega
        obtain ⟨nn, rfl⟩ : ∃ nn : Nat, sv = nn := Int.eq_ofNat_of_zero_le (by omega)
        have hnn : nn ≤ 41 := by omega
        clear hv hv'
        refine any_fork 2 7 (by kernel_rfl) rfl rfl (by kernel_rfl) (by kernel_rfl) (fun K hK => ?_) (fun K hK => ?_)
        · have e1 := R.box.cell 1 _ rfl
          go_big_op
          refine hK _ _ hst ?_
          clear hK K e1
          refine any_rest [(7, false), (8, false), (9, false), (10, true), (11, true), (12, false)] (by kernel_rfl) (fun _ _ d _ _ h => by cases d <;> exact h) ?_
          refine line_alone rfl (by kernel_rfl) (fun K hK => ?_)
          refine call_any (args := #[.pointer (some ⟨w0.heap.size, 0, none⟩), .int .i64 (nn : Nat)]) rfl (by kernel_rfl) (by kernel_rfl) (dsome nn R.draw (by omega) (by omega)) ?_
          rintro e x5 ⟨ra, rc, zn, rfl, OU, hwz, D5, g5⟩
          have lt4 := R.box.lt (by simp [S3L])
          have hle5 := g5.size
          obtain ⟨mid, xs, hm1, hm2, hOP0, hlt1, hOG0, hn, hwf⟩ := R.own
          have hw := R.hw
          have hOG := hOG0.gk g5 (by omega)
          have hOP : OwnP x5 (w.heap.size + 1) (.slice a1 n1 c1) s.ps := Own.keep hOP0 g5.size (fun k e => g5.block k (Own.lt hOP0 k e).2 (fun e2 => by injection e2 with e2; have := (Own.lt hOP0 k e).1; omega))
          have RN := R.kept g5 D5
          have hstN : At w.heap.size zero3 x5 := RN.res
          clear R D5 g5 hOG0 hOP0
          have R := RN
          clear RN
          generalize x4.heap.size = B4 at *
          refine ⟨_, rfl, hK _ _ hstN ?_⟩
          clear hK K hst
          have hst := hstN
          clear hstN
          simp only [Act.put, List.setIfInBounds_toArray, List.set_cons_zero, List.set_cons_succ]
          refine line_alone rfl (by kernel_rfl) (fun K hK => ?_)
          go_big_op
          have SR := Lib.hid (src_new (P := Tryz.prog) x5 [.slice ra nn rc] 1 1 22 25 22 Tryz.underlying25 rfl (by intro u hu; simp at hu; subst hu; rfl))
          have b6 := bal (Below.refl _ x5) (.cells #[.slice ra nn rc] 22)
          have RN := R.on b6
          have OU6 := Own.alloc OU (.cells #[.slice ra nn rc] 22)
          have OG6 := hOG.alloc (.cells #[.slice ra nn rc] 22)
          have OP6 := OwnP.alloc hOP (.cells #[.slice ra nn rc] 22)
          have hstN : At w.heap.size zero3 (x5.alloc (.cells #[.slice ra nn rc] 22)) := RN.res
          have hsz6 : B4 ≤ (x5.alloc (.cells #[.slice ra nn rc] 22)).heap.size := by have := b6.size; omega
          clear R OU hOG hOP b6
          have R := RN
          clear RN
          refine hK _ _ hstN ?_
          clear hK K hst
          have hst := hstN
          clear hstN
          have hc7 : (x5.alloc (.cells [Value.slice ra nn rc].toArray 22)) = x5.alloc (.cells #[.slice ra nn rc] 22) := rfl
          rw [hc7] at SR
          clear hc7
          generalize x5.alloc (.cells #[.slice ra nn rc] 22) = x6 at *
          refine line_alone rfl (by kernel_rfl) (fun K hK => ?_)
          have hl2 : n2 = s.d.rs.length := OG6.len'
          subst hl2
          refine wp_append_src _ (.tmp 24) (.tmp 30) 25 25 rfl mid 22 i0 (.slice none 0 0) 1 24 Tryz.underlying25 hi0 hz0 hz1 hz2 rfl (.slice a2 s.d.rs.length c2) s.d.rs.length xs rfl OG6.own _ 1 [.slice ra nn rc] rfl SR.out (by simp only [maxLen]; omega) (by omega) (by omega) (fun v8 w8 hown hgrow hat => ?_)
          obtain ⟨a8, c8, hv8, -⟩ := Own.form hown
          subst hv8
          have OG8 := OwnG.app2 OG6 (Nat.le_of_lt lt4) (by omega) hsz6 OU6 hown hgrow hat
          have X8 := R.box.kept hgrow (fun e => by have := OG6.lt xb e.symm; omega)
          have Q8 := R.res.kept hgrow (fun e => by have := (OG6.own.lt w.heap.size e.symm).1; omega)
          have D8 : Draw w0 a len cap zs _ w8 := R.draw.grown hgrow (fun k e => by have := (OG6.own.lt k e).1; omega)
          have G8 : w.grownBy w8 (some w0.heap.size) := gown R.grew hgrow (fun k e => by have := (OG6.own.lt k e).1; omega)
          have OP8 : OwnP w8 (w.heap.size + 1) (.slice a1 n1 c1) s.ps := Own.keep OP6 hgrow.size (fun k e => hgrow.block k (Own.lt OP6 k e).2 (fun e2 => by have := hlt1 k e; have := (OG6.own.lt k e2.symm).1; omega))
          have hne8 : ∀ k, Value.ownBlock (.slice a8 (s.d.rs.length + 1) c8) = some k → k ≠ xb := fun k e e2 => by
            rcases hat with h | h
            · rw [h] at e; have := OG6.lt k e; omega
            · rw [h] at e; injection e with e; have := R.box.lt (by simp [S3L]); omega
          have hnx8 : ∀ (i : Nat) (u : Value) (k : Nat), (xs ++ [Value.slice ra nn rc])[i]? = some u → u.ownBlock = some k → k ≠ xb := fun i u k hu e e2 => by
            rcases Nat.lt_or_ge i xs.length with hi | hi
            · rw [List.getElem?_append_left hi] at hu
              have := (OG6.row i u hu).2.1 k e
              omega
            · rw [List.getElem?_append_right hi] at hu
              have h0 := (List.getElem?_eq_some_iff.1 hu).1
              simp at h0
              rw [h0] at hu
              simp at hu
              subst hu
              have := (Own.lt OU6 k e).1
              omega
          have hk8 : ∀ k, k ≠ xb → (w8.setCell ⟨xb, 1, none⟩ (.slice a8 (s.d.rs.length + 1) c8)).heap[k]? = w8.heap[k]? := fun k hk => Below.heap_setCell w8 ⟨xb, 1, none⟩ _ k hk
          have OG9 := OG8.keepP (w' := w8.setCell ⟨xb, 1, none⟩ (.slice a8 (s.d.rs.length + 1) c8)) (by simp [World.setCell]) (fun k e => hk8 k (hne8 k e)) (fun i u k hu e => hk8 k (hnx8 i u k hu e))
          have HO := Lib.hid (show BOwn (w8.setCell ⟨xb, 1, none⟩ (.slice a8 (s.d.rs.length + 1) c8)) (w.heap.size + 1) (.slice a1 n1 c1) (.slice a8 (s.d.rs.length + 1) c8) ⟨s.ps, ⟨s.d.rs ++ [zn], s.d.s⟩⟩ from
            ⟨_, _, Own.setCell OP8 (fun k e => by have := hlt1 k e; show k ≠ xb; omega) _, OG9.less hm1, HNM.out, fun r hr z hz => by
              rcases List.mem_append.1 hr with hr | hr
              · exact hwf r hr z hz
              · simp at hr; subst hr; exact hwz z hz⟩)
          have HD := Lib.hid D8
          have HG := Lib.hid G8
          refine hK _ _ Q8 ?_
          clear hK K hst hown hgrow hat OU6 OG6 OP6 SR OG8 OG9 OP8 D8 G8 R hne8 hnx8 hk8
          simp only [Act.put, List.setIfInBounds_toArray, List.set_cons_zero, List.set_cons_succ]
          iterate 2 (refine line_read rfl (by kernel_rfl) (fun K hK => ?_); go_big_quiet_op; refine hK _ ?_; clear hK K)
          have X9 := X8.set 1 (.slice a8 (s.d.rs.length + 1) c8)
          have Q9 := Q8.setB (p := ⟨xb, 1, none⟩) (by dsimp only; omega) (.slice a8 (s.d.rs.length + 1) c8)
          have y0 := X8.cell 0 _ rfl
          have y1 := X8.cell 1 _ rfl
          have y2 := X8.cell 2 _ rfl
          have f0 := X8.free 0 _ rfl
          have f1 := X8.free 1 _ rfl
          have f2 := X8.free 2 _ rfl
          refine line_alone rfl (by kernel_rfl) (fun K hK => ?_)
          go_big_op
          refine hK _ _ (Q9) ?_
          clear hK K
          refine line_nil ?_
          clear y0 y1 y2 f0 f1 f2 X8 Q8
          have X10 : At xb [.slice a1 n1 c1, .slice a8 (s.d.rs.length + 1) c8, .int .i64 s.d.s] (w8.setCell ⟨xb, 1, none⟩ (.slice a8 (s.d.rs.length + 1) c8)) := X9
          have y0 := X10.cell 0 _ rfl
          have y1 := X10.cell 1 _ rfl
          have y2 := X10.cell 2 _ rfl
          have f0 := X10.free 0 _ rfl
          have f1 := X10.free 1 _ rfl
          have f2 := X10.free 2 _ rfl
          have q0 := Q9.cell 0 _ rfl
          have q1 := Q9.cell 1 _ rfl
          have q2 := Q9.cell 2 _ rfl
          have z0 := Q9.free 0 _ rfl
          have z1 := Q9.free 1 _ rfl
          have z2 := Q9.free 2 _ rfl
          have hxr : w.heap.size ≠ xb := by omega
          clear X9 X10 Q9
          go_wp2_with fail
          refine bodyPost_ret (v := S3 a1 n1 c1 a8 (s.d.rs.length + 1) c8 s.d.s) (by simp [results, Tryz.results65, go_sem, q0, q1, q2]) rfl ?_
          refine ⟨_, _, _, _, _, _, ⟨s.ps, ⟨s.d.rs ++ [zn], s.d.s⟩⟩, p + 1 + 1 + nn, by omega, rfl, ?_, ?_, ?_⟩
          · iterate 3 (refine BOwn.set ?_ (by dsimp only; omega) _)
            exact HO.out
          · iterate 4 (refine Draw.put ?_ (by dsimp only; omega) _)
            exact HD.out
          · iterate 4 (refine gset ?_ (by dsimp only; omega) _)
            exact HG.out
        · refine call_any (args := #[.pointer (some ⟨w0.heap.size, 0, none⟩), .int .i64 (nn : Nat)]) rfl (by kernel_rfl) (by kernel_rfl) (dsome nn R.draw (by omega) (by omega)) ?_
          rintro e x5 ⟨ra, rc, zn, rfl, OU, hwz, D5, g5⟩
          have lt4 := R.box.lt (by simp [S3L])
          have hle5 := g5.size
          obtain ⟨mid, xs, hm1, hm2, hOP0, hlt1, hOG0, hn, hwf⟩ := R.own
          have hw := R.hw
          have hOG := hOG0.gk g5 (by omega)
          have hOP : OwnP x5 (w.heap.size + 1) (.slice a1 n1 c1) s.ps := Own.keep hOP0 g5.size (fun k e => g5.block k (Own.lt hOP0 k e).2 (fun e2 => by injection e2 with e2; have := (Own.lt hOP0 k e).1; omega))
          have RN := R.kept g5 D5
          have hstN : At w.heap.size zero3 x5 := RN.res
          clear R D5 g5 hOG0 hOP0
          have R := RN
          clear RN
          generalize x4.heap.size = B4 at *
          refine ⟨_, rfl, hK _ _ hstN ?_⟩
          clear hK K hst
          have hst := hstN
          clear hstN
          simp only [Act.put, List.setIfInBounds_toArray, List.set_cons_zero, List.set_cons_succ]
          refine any_fork 2 8 (by kernel_rfl) rfl rfl (by kernel_rfl) (by kernel_rfl) (fun K hK => ?_) (fun K hK => ?_)
          · have e1 := R.box.cell 1 _ rfl
            go_big_op
            refine hK _ _ hst ?_
            clear hK K e1
            refine any_rest [(8, false), (9, false), (10, true), (11, true), (12, false)] (by kernel_rfl) (fun _ _ d _ _ h => by cases d <;> exact h) ?_
            refine line_alone rfl (by kernel_rfl) (fun K hK => ?_)
            go_big_op
            have SR := Lib.hid (src_new (P := Tryz.prog) x5 [.slice ra nn rc] 1 1 22 25 22 Tryz.underlying25 rfl (by intro u hu; simp at hu; subst hu; rfl))
            have b6 := bal (Below.refl _ x5) (.cells #[.slice ra nn rc] 22)
            have RN := R.on b6
            have OU6 := Own.alloc OU (.cells #[.slice ra nn rc] 22)
            have OG6 := hOG.alloc (.cells #[.slice ra nn rc] 22)
            have OP6 := OwnP.alloc hOP (.cells #[.slice ra nn rc] 22)
            have hstN : At w.heap.size zero3 (x5.alloc (.cells #[.slice ra nn rc] 22)) := RN.res
            have hsz6 : B4 ≤ (x5.alloc (.cells #[.slice ra nn rc] 22)).heap.size := by have := b6.size; omega
            clear R OU hOG hOP b6
            have R := RN
            clear RN
            refine hK _ _ hstN ?_
            clear hK K hst
            have hst := hstN
            clear hstN
            have hc7 : (x5.alloc (.cells [Value.slice ra nn rc].toArray 22)) = x5.alloc (.cells #[.slice ra nn rc] 22) := rfl
            rw [hc7] at SR
            clear hc7
            generalize x5.alloc (.cells #[.slice ra nn rc] 22) = x6 at *
            refine line_alone rfl (by kernel_rfl) (fun K hK => ?_)
            have hl2 : n2 = s.d.rs.length := OG6.len'
            subst hl2
            refine wp_append_src _ (.tmp 24) (.tmp 30) 25 25 rfl mid 22 i0 (.slice none 0 0) 1 24 Tryz.underlying25 hi0 hz0 hz1 hz2 rfl (.slice a2 s.d.rs.length c2) s.d.rs.length xs rfl OG6.own _ 1 [.slice ra nn rc] rfl SR.out (by simp only [maxLen]; omega) (by omega) (by omega) (fun v8 w8 hown hgrow hat => ?_)
            obtain ⟨a8, c8, hv8, -⟩ := Own.form hown
            subst hv8
            have OG8 := OwnG.app2 OG6 (Nat.le_of_lt lt4) (by omega) hsz6 OU6 hown hgrow hat
            have X8 := R.box.kept hgrow (fun e => by have := OG6.lt xb e.symm; omega)
            have Q8 := R.res.kept hgrow (fun e => by have := (OG6.own.lt w.heap.size e.symm).1; omega)
            have D8 : Draw w0 a len cap zs _ w8 := R.draw.grown hgrow (fun k e => by have := (OG6.own.lt k e).1; omega)
            have G8 : w.grownBy w8 (some w0.heap.size) := gown R.grew hgrow (fun k e => by have := (OG6.own.lt k e).1; omega)
            have OP8 : OwnP w8 (w.heap.size + 1) (.slice a1 n1 c1) s.ps := Own.keep OP6 hgrow.size (fun k e => hgrow.block k (Own.lt OP6 k e).2 (fun e2 => by have := hlt1 k e; have := (OG6.own.lt k e2.symm).1; omega))
            have hne8 : ∀ k, Value.ownBlock (.slice a8 (s.d.rs.length + 1) c8) = some k → k ≠ xb := fun k e e2 => by
              rcases hat with h | h
              · rw [h] at e; have := OG6.lt k e; omega
              · rw [h] at e; injection e with e; have := R.box.lt (by simp [S3L]); omega
            have hnx8 : ∀ (i : Nat) (u : Value) (k : Nat), (xs ++ [Value.slice ra nn rc])[i]? = some u → u.ownBlock = some k → k ≠ xb := fun i u k hu e e2 => by
              rcases Nat.lt_or_ge i xs.length with hi | hi
              · rw [List.getElem?_append_left hi] at hu
                have := (OG6.row i u hu).2.1 k e
                omega
              · rw [List.getElem?_append_right hi] at hu
                have h0 := (List.getElem?_eq_some_iff.1 hu).1
                simp at h0
                rw [h0] at hu
                simp at hu
                subst hu
                have := (Own.lt OU6 k e).1
                omega
            have hk8 : ∀ k, k ≠ xb → (w8.setCell ⟨xb, 1, none⟩ (.slice a8 (s.d.rs.length + 1) c8)).heap[k]? = w8.heap[k]? := fun k hk => Below.heap_setCell w8 ⟨xb, 1, none⟩ _ k hk
            have OG9 := OG8.keepP (w' := w8.setCell ⟨xb, 1, none⟩ (.slice a8 (s.d.rs.length + 1) c8)) (by simp [World.setCell]) (fun k e => hk8 k (hne8 k e)) (fun i u k hu e => hk8 k (hnx8 i u k hu e))
            have HO := Lib.hid (show BOwn (w8.setCell ⟨xb, 1, none⟩ (.slice a8 (s.d.rs.length + 1) c8)) (w.heap.size + 1) (.slice a1 n1 c1) (.slice a8 (s.d.rs.length + 1) c8) ⟨s.ps, ⟨s.d.rs ++ [zn], s.d.s⟩⟩ from
              ⟨_, _, Own.setCell OP8 (fun k e => by have := hlt1 k e; show k ≠ xb; omega) _, OG9.less hm1, HNM.out, fun r hr z hz => by
                rcases List.mem_append.1 hr with hr | hr
                · exact hwf r hr z hz
                · simp at hr; subst hr; exact hwz z hz⟩)
            have HD := Lib.hid D8
            have HG := Lib.hid G8
            refine hK _ _ Q8 ?_
            clear hK K hst hown hgrow hat OU6 OG6 OP6 SR OG8 OG9 OP8 D8 G8 R hne8 hnx8 hk8
            simp only [Act.put, List.setIfInBounds_toArray, List.set_cons_zero, List.set_cons_succ]
            iterate 2 (refine line_read rfl (by kernel_rfl) (fun K hK => ?_); go_big_quiet_op; refine hK _ ?_; clear hK K)
            have X9 := X8.set 1 (.slice a8 (s.d.rs.length + 1) c8)
            have Q9 := Q8.setB (p := ⟨xb, 1, none⟩) (by dsimp only; omega) (.slice a8 (s.d.rs.length + 1) c8)
            have y0 := X8.cell 0 _ rfl
            have y1 := X8.cell 1 _ rfl
            have y2 := X8.cell 2 _ rfl
            have f0 := X8.free 0 _ rfl
            have f1 := X8.free 1 _ rfl
            have f2 := X8.free 2 _ rfl
            refine line_alone rfl (by kernel_rfl) (fun K hK => ?_)
            go_big_op
            refine hK _ _ (Q9) ?_
            clear hK K
            refine line_nil ?_
            clear y0 y1 y2 f0 f1 f2 X8 Q8
            have X10 : At xb [.slice a1 n1 c1, .slice a8 (s.d.rs.length + 1) c8, .int .i64 s.d.s] (w8.setCell ⟨xb, 1, none⟩ (.slice a8 (s.d.rs.length + 1) c8)) := X9
            have y0 := X10.cell 0 _ rfl
            have y1 := X10.cell 1 _ rfl
            have y2 := X10.cell 2 _ rfl
            have f0 := X10.free 0 _ rfl
            have f1 := X10.free 1 _ rfl
            have f2 := X10.free 2 _ rfl
            have q0 := Q9.cell 0 _ rfl
            have q1 := Q9.cell 1 _ rfl
            have q2 := Q9.cell 2 _ rfl
            have z0 := Q9.free 0 _ rfl
            have z1 := Q9.free 1 _ rfl
            have z2 := Q9.free 2 _ rfl
            have hxr : w.heap.size ≠ xb := by omega
            clear X9 X10 Q9
            go_wp2_with fail
            refine bodyPost_ret (v := S3 a1 n1 c1 a8 (s.d.rs.length + 1) c8 s.d.s) (by simp [results, Tryz.results65, go_sem, q0, q1, q2]) rfl ?_
            refine ⟨_, _, _, _, _, _, ⟨s.ps, ⟨s.d.rs ++ [zn], s.d.s⟩⟩, p + 1 + 1 + nn, by omega, rfl, ?_, ?_, ?_⟩
            · iterate 3 (refine BOwn.set ?_ (by dsimp only; omega) _)
              exact HO.out
            · iterate 4 (refine Draw.put ?_ (by dsimp only; omega) _)
              exact HD.out
            · iterate 4 (refine gset ?_ (by dsimp only; omega) _)
              exact HG.out
          · go_big_op
            have SR := Lib.hid (src_new (P := Tryz.prog) x5 [.slice ra nn rc] 1 1 22 25 22 Tryz.underlying25 rfl (by intro u hu; simp at hu; subst hu; rfl))
            have b6 := bal (Below.refl _ x5) (.cells #[.slice ra nn rc] 22)
            have RN := R.on b6
            have OU6 := Own.alloc OU (.cells #[.slice ra nn rc] 22)
            have OG6 := hOG.alloc (.cells #[.slice ra nn rc] 22)
            have OP6 := OwnP.alloc hOP (.cells #[.slice ra nn rc] 22)
            have hstN : At w.heap.size zero3 (x5.alloc (.cells #[.slice ra nn rc] 22)) := RN.res
            have hsz6 : B4 ≤ (x5.alloc (.cells #[.slice ra nn rc] 22)).heap.size := by have := b6.size; omega
            clear R OU hOG hOP b6
            have R := RN
            clear RN
            refine hK _ _ hstN ?_
            clear hK K hst
            have hst := hstN
            clear hstN
            have hc7 : (x5.alloc (.cells [Value.slice ra nn rc].toArray 22)) = x5.alloc (.cells #[.slice ra nn rc] 22) := rfl
            rw [hc7] at SR
            clear hc7
            generalize x5.alloc (.cells #[.slice ra nn rc] 22) = x6 at *
            refine any_rest [(2, false), (9, false), (10, true), (11, true), (12, false)] (by kernel_rfl) (fun _ _ d _ _ h => by cases d <;> exact h) ?_
            refine line_alone rfl (by kernel_rfl) (fun K hK => ?_)
            have e1 := R.box.cell 1 _ rfl
            go_big_op
            refine hK _ _ hst ?_
            clear hK K e1
            refine line_alone rfl (by kernel_rfl) (fun K hK => ?_)
            have hl2 : n2 = s.d.rs.length := OG6.len'
            subst hl2
            refine wp_append_src _ (.tmp 24) (.tmp 30) 25 25 rfl mid 22 i0 (.slice none 0 0) 1 24 Tryz.underlying25 hi0 hz0 hz1 hz2 rfl (.slice a2 s.d.rs.length c2) s.d.rs.length xs rfl OG6.own _ 1 [.slice ra nn rc] rfl SR.out (by simp only [maxLen]; omega) (by omega) (by omega) (fun v8 w8 hown hgrow hat => ?_)
            obtain ⟨a8, c8, hv8, -⟩ := Own.form hown
            subst hv8
            have OG8 := OwnG.app2 OG6 (Nat.le_of_lt lt4) (by omega) hsz6 OU6 hown hgrow hat
            have X8 := R.box.kept hgrow (fun e => by have := OG6.lt xb e.symm; omega)
            have Q8 := R.res.kept hgrow (fun e => by have := (OG6.own.lt w.heap.size e.symm).1; omega)
            have D8 : Draw w0 a len cap zs _ w8 := R.draw.grown hgrow (fun k e => by have := (OG6.own.lt k e).1; omega)
            have G8 : w.grownBy w8 (some w0.heap.size) := gown R.grew hgrow (fun k e => by have := (OG6.own.lt k e).1; omega)
            have OP8 : OwnP w8 (w.heap.size + 1) (.slice a1 n1 c1) s.ps := Own.keep OP6 hgrow.size (fun k e => hgrow.block k (Own.lt OP6 k e).2 (fun e2 => by have := hlt1 k e; have := (OG6.own.lt k e2.symm).1; omega))
            have hne8 : ∀ k, Value.ownBlock (.slice a8 (s.d.rs.length + 1) c8) = some k → k ≠ xb := fun k e e2 => by
              rcases hat with h | h
              · rw [h] at e; have := OG6.lt k e; omega
              · rw [h] at e; injection e with e; have := R.box.lt (by simp [S3L]); omega
            have hnx8 : ∀ (i : Nat) (u : Value) (k : Nat), (xs ++ [Value.slice ra nn rc])[i]? = some u → u.ownBlock = some k → k ≠ xb := fun i u k hu e e2 => by
              rcases Nat.lt_or_ge i xs.length with hi | hi
              · rw [List.getElem?_append_left hi] at hu
                have := (OG6.row i u hu).2.1 k e
                omega
              · rw [List.getElem?_append_right hi] at hu
                have h0 := (List.getElem?_eq_some_iff.1 hu).1
                simp at h0
                rw [h0] at hu
                simp at hu
                subst hu
                have := (Own.lt OU6 k e).1
                omega
            have hk8 : ∀ k, k ≠ xb → (w8.setCell ⟨xb, 1, none⟩ (.slice a8 (s.d.rs.length + 1) c8)).heap[k]? = w8.heap[k]? := fun k hk => Below.heap_setCell w8 ⟨xb, 1, none⟩ _ k hk
            have OG9 := OG8.keepP (w' := w8.setCell ⟨xb, 1, none⟩ (.slice a8 (s.d.rs.length + 1) c8)) (by simp [World.setCell]) (fun k e => hk8 k (hne8 k e)) (fun i u k hu e => hk8 k (hnx8 i u k hu e))
            have HO := Lib.hid (show BOwn (w8.setCell ⟨xb, 1, none⟩ (.slice a8 (s.d.rs.length + 1) c8)) (w.heap.size + 1) (.slice a1 n1 c1) (.slice a8 (s.d.rs.length + 1) c8) ⟨s.ps, ⟨s.d.rs ++ [zn], s.d.s⟩⟩ from
              ⟨_, _, Own.setCell OP8 (fun k e => by have := hlt1 k e; show k ≠ xb; omega) _, OG9.less hm1, HNM.out, fun r hr z hz => by
                rcases List.mem_append.1 hr with hr | hr
                · exact hwf r hr z hz
                · simp at hr; subst hr; exact hwz z hz⟩)
            have HD := Lib.hid D8
            have HG := Lib.hid G8
            refine hK _ _ Q8 ?_
            clear hK K hst hown hgrow hat OU6 OG6 OP6 SR OG8 OG9 OP8 D8 G8 R hne8 hnx8 hk8
            simp only [Act.put, List.setIfInBounds_toArray, List.set_cons_zero, List.set_cons_succ]
            iterate 2 (refine line_read rfl (by kernel_rfl) (fun K hK => ?_); go_big_quiet_op; refine hK _ ?_; clear hK K)
            have X9 := X8.set 1 (.slice a8 (s.d.rs.length + 1) c8)
            have Q9 := Q8.setB (p := ⟨xb, 1, none⟩) (by dsimp only; omega) (.slice a8 (s.d.rs.length + 1) c8)
            have y0 := X8.cell 0 _ rfl
            have y1 := X8.cell 1 _ rfl
            have y2 := X8.cell 2 _ rfl
            have f0 := X8.free 0 _ rfl
            have f1 := X8.free 1 _ rfl
            have f2 := X8.free 2 _ rfl
            refine line_alone rfl (by kernel_rfl) (fun K hK => ?_)
            go_big_op
            refine hK _ _ (Q9) ?_
            clear hK K
            refine line_nil ?_
            clear y0 y1 y2 f0 f1 f2 X8 Q8
            have X10 : At xb [.slice a1 n1 c1, .slice a8 (s.d.rs.length + 1) c8, .int .i64 s.d.s] (w8.setCell ⟨xb, 1, none⟩ (.slice a8 (s.d.rs.length + 1) c8)) := X9
            have y0 := X10.cell 0 _ rfl
            have y1 := X10.cell 1 _ rfl
            have y2 := X10.cell 2 _ rfl
            have f0 := X10.free 0 _ rfl
            have f1 := X10.free 1 _ rfl
            have f2 := X10.free 2 _ rfl
            have q0 := Q9.cell 0 _ rfl
            have q1 := Q9.cell 1 _ rfl
            have q2 := Q9.cell 2 _ rfl
            have z0 := Q9.free 0 _ rfl
            have z1 := Q9.free 1 _ rfl
            have z2 := Q9.free 2 _ rfl
            have hxr : w.heap.size ≠ xb := by omega
            clear X9 X10 Q9
            go_wp2_with fail
            refine bodyPost_ret (v := S3 a1 n1 c1 a8 (s.d.rs.length + 1) c8 s.d.s) (by simp [results, Tryz.results65, go_sem, q0, q1, q2]) rfl ?_
            refine ⟨_, _, _, _, _, _, ⟨s.ps, ⟨s.d.rs ++ [zn], s.d.s⟩⟩, p + 1 + 1 + nn, by omega, rfl, ?_, ?_, ?_⟩
            · iterate 3 (refine BOwn.set ?_ (by dsimp only; omega) _)
              exact HO.out
            · iterate 4 (refine Draw.put ?_ (by dsimp only; omega) _)
              exact HD.out
            · iterate 4 (refine gset ?_ (by dsimp only; omega) _)
              exact HG.out
  · have g2 : (sw == 2) = false := by rw [beq_eq_false_iff_ne]; exact s2
    obtain ⟨mid, xs, hm1, hm2, hOP, hlt1, hOG, hn, hwf⟩ := R2.own
    have HO := Lib.hid (show BOwn w2 (w.heap.size + 1) (.slice a1 n1 c1) (.slice a2 n2 c2) ⟨s.ps, ⟨s.d.rs, s.d.s⟩⟩ from ⟨xb, xs, hOP, hOG.less hm1, HNM.out, hwf⟩)
    have HD := Lib.hid R2.draw
    have HG := Lib.hid R2.grew
    have y0 := R2.box.cell 0 _ rfl
    have y1 := R2.box.cell 1 _ rfl
    have y2 := R2.box.cell 2 _ rfl
    have f0 := R2.box.free 0 _ rfl
    have f1 := R2.box.free 1 _ rfl
    have f2 := R2.box.free 2 _ rfl
    have q0 := R2.res.cell 0 _ rfl
    have q1 := R2.res.cell 1 _ rfl
    have q2 := R2.res.cell 2 _ rfl
    have z0 := R2.res.free 0 _ rfl
    have z1 := R2.res.free 1 _ rfl
    have z2 := R2.res.free 2 _ rfl
    have hxr : w.heap.size ≠ xb := by omega
    clear R2 hOP hOG hwf
    go_wp2_with fail
    refine bodyPost_ret (v := S3 a1 n1 c1 a2 n2 c2 s.d.s) (by simp [results, Tryz.results65, go_sem, q0, q1, q2]) rfl ?_
    refine ⟨_, _, _, _, _, _, ⟨s.ps, ⟨s.d.rs, s.d.s⟩⟩, p + 1, by omega, rfl, ?_, ?_, ?_⟩
    · iterate 3 (refine BOwn.set ?_ (by dsimp only; omega) _)
      exact HO.out
    · iterate 3 (refine Draw.put ?_ (by dsimp only; omega) _)
      exact HD.out
    · iterate 3 (refine gset ?_ (by dsimp only; omega) _)
      exact HG.out
end Go.Proofs.YtcolecidbalmhaaGreatDoor
namespace Go.Proofs.YtcolecidbalmhaaGreatDoor
open Go.RowKit
set_option maxRecDepth 100000
set_option linter.unusedVariables false

/-- A code and a store, as they lie in a result. -/
def V4R (c : Int) (a1 : Option Addr) (n1 c1 : Nat) (a2 : Option Addr) (n2 c2 : Nat) (x : Int) : List Value := [.int .i64 c, .slice a1 n1 c1, .slice a2 n2 c2, .int .i64 x]
def DrawnSto (w : World) (e : Ending) (w' : World) : Prop := ∃ (a1 : Option Addr) (n1 c1 : Nat) (a2 : Option Addr) (n2 c2 : Nat) (s : StoreD), e = .returned (S3 a1 n1 c1 a2 n2 c2 s.d.s) ∧ SRow w' w'.heap.size a1 n1 c1 a2 n2 c2 s ∧ Below w.heap.size w w'
def DrawnCra (w : World) (e : Ending) (w' : World) : Prop := ∃ (a1 : Option Addr) (n1 c1 : Nat) (a2 : Option Addr) (n2 c2 : Nat) (s : StoreD) (t : Int), e = .returned (.tuple #[S3 a1 n1 c1 a2 n2 c2 s.d.s, .int .i64 t]) ∧ t ≤ 99 ∧ SRow w' w'.heap.size a1 n1 c1 a2 n2 c2 s ∧ Below w.heap.size w w'
def DrawnNot (w : World) (e : Ending) (w' : World) : Prop := ∃ (a1 : Option Addr) (n1 c1 : Nat) (a2 : Option Addr) (n2 c2 : Nat) (s : StoreD) (q : PinD), e = .returned (.tuple #[S3 a1 n1 c1 a2 n2 c2 s.d.s, P5 q]) ∧ q.n.size ≤ 21 ∧ SRow w' w'.heap.size a1 n1 c1 a2 n2 c2 s ∧ Below w.heap.size w w'
set_option maxHeartbeats 2000000 in
theorem DrawCrashStore_any {a : Option Addr} {len cap : Nat} {zs : List Int} {w : World} (hR : Row .u8 w w.heap.size a len cap zs) :
    Calls Tryz.prog 25 #[.slice a len cap] w (DrawnCra w) := by
  have A0 : At w.heap.size zero3 (w.alloc (.cells #[.slice none 0 0, .slice none 0 0, .int .i64 0] 29)) := At.new w zero3 29
  have b0 := bal (Below.refl _ w) (.cells #[.slice none 0 0, .slice none 0 0, .int .i64 0] 29)
  have R0 := hR.on b0
  clear hR
  go_enter Tryz.func25, Tryz.ntmps25
  go_wp2_with fail
  generalize w.alloc (.cells #[.slice none 0 0, .slice none 0 0, .int .i64 0] 29) = W0 at *
  refine (dsource R0).mono ?_
  rintro e w1 ⟨rfl, D1⟩
  have lt1 := D1.lt
  have lt0 : w.heap.size < W0.heap.size := A0.lt (by simp [zero3])
  go_wp2_with fail
  refine (dl9Bent D1 (by omega)).mono ?_
  rintro e w2 ⟨a1, n1, c1, a2, n2, c2, s, p, hp, rfl, O2, D2, g2⟩
  clear g2 D1 R0
  go_wp2_with fail
  refine (dpick [0, 1, 2, 99, -1] 5 D2 (by omega) (by omega) (by omega) rfl 2).mono ?_
  rintro e w3 ⟨t, ht, rfl, D3, O3⟩
  have O4 := (O2.alloc (.cells #[.int .i64 0, .int .i64 1, .int .i64 2, .int .i64 99, .int .i64 (-1)] 2)).kept O3.grown (by omega)
  have A3 := A0.on D3.bel
  have B3 := btr b0 D3.bel
  have z0 := A3.cell 0 _ rfl
  have z1 := A3.cell 1 _ rfl
  have z2 := A3.cell 2 _ rfl
  have h0 := A3.free 0 _ rfl
  have h1 := A3.free 1 _ rfl
  have h2 := A3.free 2 _ rfl
  have HO := Lib.hid (And.intro O4 B3)
  have ht9 : t ≤ 99 := by simp at ht; omega
  clear O2 D2 O3 D3 O4 A3 B3 b0 A0 ht
  go_wp2_with fail
  refine bodyPost_ret (v := .tuple #[S3 a1 n1 c1 a2 n2 c2 s.d.s, .int .i64 t]) (by simp [results, Tryz.results25, go_sem, z0, z1, z2]) rfl ⟨a1, n1, c1, a2, n2, c2, s, t, rfl, ht9, ?_, (by (iterate 3 (refine bset ?_ (by dsimp only; omega) _)); exact HO.out.2)⟩
  refine BOwn.row (lo := w1.heap.size + 1) ?_
  iterate 3 (refine BOwn.set ?_ (by dsimp only; omega) _)
  exact HO.out.1
end Go.Proofs.YtcolecidbalmhaaGreatDoor
namespace Go.Proofs.YtcolecidbalmhaaGreatDoor
open Go.RowKit
set_option maxRecDepth 100000
set_option linter.unusedVariables false

theorem OwnG.put {w : World} {lo hi : Nat} {v : Value} {zss : List (List Int)} {xs : List Value} (h : OwnG w lo hi v zss xs) {j g n c i : Nat} (m : Int) (hx : xs[j]? = some (.slice (some ⟨g, 0, none⟩) n c)) (hi2 : i < (zss[j]?.getD []).length) :
    OwnG (w.setCell ⟨g, i, none⟩ (.int .u8 m)) lo hi v (zss.set j ((zss[j]?.getD []).set i m)) xs := by
  obtain ⟨r, hlt, hap⟩ := h.row j _ hx
  have hlen := h.len
  have hj : j < zss.length := by have := (List.getElem?_eq_some_iff.1 hx).1; omega
  have hv : ∀ k, v.ownBlock = some k → k ≠ g := fun k e e2 => hap g rfl (by rw [e, e2])
  refine ⟨by rw [List.length_set]; exact h.own.setCell hv _, by simp [World.setCell]; exact h.top, h.lt, fun i2 u hu => ?_, h.sep⟩
  obtain ⟨a, b, c'⟩ := h.row i2 u hu
  refine ⟨?_, b, c'⟩
  by_cases e : j = i2
  · subst e
    obtain rfl : Value.slice (some ⟨g, 0, none⟩) n c = u := by have := hx.symm.trans hu; injection this
    rw [List.getElem?_set_self hj]
    exact OwnK.put r hi2
  · rw [List.getElem?_set_ne e]
    exact Own.setCell a (fun k e3 e4 => h.sep j i2 _ u e hx hu g rfl (by rw [e3, e4])) _
theorem OwnG.at' {w : World} {lo hi g n c k : Nat} {u : Value} {zss : List (List Int)} {xs : List Value} (h : OwnG w lo hi (.slice (some ⟨g, 0, none⟩) n c) zss xs) (hu : xs[k]? = some u) : w.cell? ⟨g, k, none⟩ = some u := by
  rcases h.own.2 with ⟨e, _⟩ | ⟨g', c', e, _, _, _, _, hc, _⟩
  · cases e
  · injection e with e1 e2 e3
    injection e1 with e1
    injection e1 with e1 _ _
    subst e1
    exact hc k u hu
theorem OwnG.head {w : World} {lo hi n c : Nat} {a : Option Addr} {zss : List (List Int)} {xs : List Value} (h : OwnG w lo hi (.slice a n c) zss xs) (hn : 0 < n) : ∃ g, a = some ⟨g, 0, none⟩ ∧ lo ≤ g := by
  rcases h.own.2 with ⟨e, _⟩ | ⟨g', c', e, hb, _⟩
  · injection e with e1 e2 e3
    omega
  · injection e with e1 e2 e3
    exact ⟨g', e1, hb⟩
theorem wf_set {rs : List (List Int)} (h : ∀ zs ∈ rs, ∀ z ∈ zs, (Lit.int .u8 z).wf = true) (k i : Nat) {x : Int} (hx : (Lit.int .u8 x).wf = true) : ∀ zs ∈ rs.set k ((rs[k]?.getD []).set i x), ∀ z ∈ zs, (Lit.int .u8 z).wf = true := by
  intro zs hz z hzz
  rcases List.mem_or_eq_of_mem_set hz with h1 | h1
  · exact h zs h1 z hzz
  · subst h1
    rcases List.mem_or_eq_of_mem_set hzz with h2 | h2
    · cases hk : rs[k]? with
      | none => rw [hk] at h2; cases h2
      | some r => rw [hk] at h2; exact h r (List.mem_of_getElem? hk) z h2
    · subst h2; exact hx
/-- A disk of a call's own. -/
structure DskS (d : Nat) (cs : List Value) (lo hi : Nat) (v : Value) (rs : List (List Int)) (xs : List Value) (cur : World) : Prop where
  A : At d cs cur
  G : OwnG cur lo hi v rs xs
def DrawnDsk (w : World) (e : Ending) (w' : World) : Prop := ∃ (a : Option Addr) (n c : Nat) (rs : List (List Int)) (sf : Int), e = .returned (.agg #[.slice a n c, .int .i64 sf]) ∧ Grid w' w'.heap.size a n c rs ∧ (∀ zs ∈ rs, ∀ z ∈ zs, (Lit.int .u8 z).wf = true) ∧ Below w.heap.size w w'
end Go.Proofs.YtcolecidbalmhaaGreatDoor
namespace Go.Proofs.YtcolecidbalmhaaGreatDoor.M

def xorB (x y : Int) : Int := ((x.toNat ^^^ y.toNat : Nat) : Int)
theorem xorB_byte {x y : Int} (hx : byteB x) (hy : byteB y) : byteB (xorB x y) := by
  unfold byteB at *
  have : x.toNat ^^^ y.toNat < 2 ^ 8 := Nat.xor_lt_two_pow (by omega) (by omega)
  unfold xorB
  omega
theorem xorB_comm (x y : Int) : xorB x y = xorB y x := by unfold xorB; rw [Nat.xor_comm]
theorem xorB_twice {x : Int} (hx : 0 ≤ x) (y : Int) : xorB (xorB x y) y = x := by
  unfold xorB
  rw [Int.toNat_natCast, Nat.xor_assoc, Nat.xor_self, Nat.xor_zero]
  omega
/-- Data turned by the stream of a key. -/
def turnB (key seq : Int) (i : Nat) : Int := streamB (tagL streamS [key]) seq i
def turnL (key seq : Int) (zs : List Int) : List Int := (List.range zs.length).map fun i => xorB (zs.getD i 0) (turnB key seq i)
/-- The first k bytes turned. -/
def mixL (f g : Nat → Int) (n k : Nat) : List Int := (List.range n).map fun i => if i < k then g i else f i
/-- A record's tag. -/
def recT (key s k : Int) (zs : List Int) : Int := tagL sealS [tagL macS [key], s, k, sumL zs]
/-- What sealing answers: a code, and a record's data and tag. -/
def sealC (key s k : Int) (n : Nat) : Int := if sumB key && sumB s && kindB k then (if 60 < n then 2 else 0) else 3
def openC (key q s k : Int) (zs : List Int) (t : Int) : Int :=
  if sumB key && sumB q then (if recF s k t zs.length = 0 then (if s = q then (if t = recT key s k zs then 0 else 9) else 8) else recF s k t zs.length) else 3
def openL (key q s k : Int) (zs : List Int) (t : Int) : List Int := if openC key q s k zs t = 0 then turnL key q zs else []
/-- Bytes turned one by one, at the places that are told. -/
def xfold (f : Nat → Int) (zs : List Int) (ns : List Nat) : List Int := ns.foldl (fun l i => l.set i (xorB (l.getD i 0) (f i))) zs
end Go.Proofs.YtcolecidbalmhaaGreatDoor.M
namespace Go.Proofs.YtcolecidbalmhaaGreatDoor
open Go.RowKit
set_option maxRecDepth 100000
set_option linter.unusedVariables false

theorem xor_bits {x y : Int} (hx : M.byteB x) (hy : M.byteB y) : bits .xor .u8 x y = M.xorB x y := by
  unfold M.byteB at hx hy
  obtain ⟨a, rfl⟩ := Int.eq_ofNat_of_zero_le hx.1
  obtain ⟨b, rfl⟩ := Int.eq_ofNat_of_zero_le hy.1
  have e1 : BitVec.ofInt 8 (a : Int) = BitVec.ofNat 8 a := BitVec.ofInt_natCast ..
  have e2 : BitVec.ofInt 8 (b : Int) = BitVec.ofNat 8 b := BitVec.ofInt_natCast ..
  show IntKind.u8.wrap ((BitVec.ofInt 8 (a : Int) ^^^ BitVec.ofInt 8 (b : Int)).toNat : Nat) = _
  rw [e1, e2, BitVec.toNat_xor, BitVec.toNat_ofNat, BitVec.toNat_ofNat, Nat.mod_eq_of_lt (by omega), Nat.mod_eq_of_lt (by omega)]
  have h : a ^^^ b < 2 ^ 8 := Nat.xor_lt_two_pow (by omega) (by omega)
  unfold M.xorB
  rw [Int.toNat_natCast, Int.toNat_natCast]
  simp only [IntKind.wrap, IntKind.signed, IntKind.bits]
  simp
  omega
theorem xor_turned {x y : Int} (hy : 1 ≤ y) : M.xorB x y ≠ x := fun e => by
  have h := M.xorB_twice (x := y) (by omega) x
  rw [M.xorB_comm y x, e] at h
  have h0 : M.xorB x x = 0 := by unfold M.xorB; rw [Nat.xor_self]; rfl
  omega
theorem OwnG.read {w : World} {lo hi : Nat} {v : Value} {rs : List (List Int)} {xs : List Value} (h : OwnG w lo hi v rs xs) {j g n c i : Nat} {z : Int} (hu : xs[j]? = some (.slice (some ⟨g, 0, none⟩) n c)) (hz : (rs[j]?.getD [])[i]? = some z) :
    w.cell? ⟨g, i, none⟩ = some (.int .u8 z) ∧ w.frozen? ⟨g, i, none⟩ = false := by
  have hce := (h.row j _ hu).1
  have hlt := (List.getElem?_eq_some_iff.1 hz).1
  rcases hce.2 with ⟨e, _⟩ | ⟨g9, c9, e, hB9, hg9, hn9, hm9, hc9, hroom⟩
  · cases e
  · injection e with e1 e2 e3
    injection e1 with e1
    injection e1 with e1 _ _
    subst e1
    exact ⟨hc9 i _ (by rw [List.getElem?_map, hz]; rfl), (hroom i (by omega)).2⟩
/-- A disk that is being copied: it lies at block d, all of it from d + 1 on; nothing of W has turned. -/
structure TSt (W : World) (d : Nat) (v : Value) (s : Int) (rs : List (List Int)) (xs : List Value) (cur : World) : Prop where
  D : At d [v, .int .i64 s] cur
  G : OwnG cur (d + 1) cur.heap.size v rs xs
  B : Below W.heap.size W cur
  le : W.heap.size ≤ d
section
variable {W cur cur' : World} {d : Nat} {v : Value} {s : Int} {rs : List (List Int)} {xs : List Value}
theorem TSt.on (h : TSt W d v s rs xs cur) (hb : Below cur.heap.size cur cur') : TSt W d v s rs xs cur' :=
  ⟨h.D.on hb, (h.G.below hb).more hb.size (Nat.le_refl _), btr h.B hb, h.le⟩
/-- One more record: made behind all of it, and appended. -/
theorem TSt.app {x w2 : World} {v' u : Value} {zs : List Int} (h : TSt W d v s rs xs cur) (hb : Below cur.heap.size cur x) (hu : OwnK .u8 x cur.heap.size u zs)
    (ho : Own w2 (d + 1) 1 v' (rs.length + 1) (xs ++ [u])) (hg : x.grownBy w2 v.ownBlock) (hat : v'.ownBlock = v.ownBlock ∨ v'.ownBlock = some x.heap.size) :
    TSt W d v' s (rs ++ [zs]) (xs ++ [u]) (w2.setCell ⟨d, 0, none⟩ v') := by
  have hdl := h.D.lt (by simp)
  have hv : ∀ k, v.ownBlock = some k → d + 1 ≤ k ∧ k < cur.heap.size := fun k e => ⟨(h.G.own.lt k e).1, h.G.lt k e⟩
  have hbs := hb.size
  have G1 := OwnG.app2 (h.G.below hb) (Nat.le_refl _) (by omega) hbs hu ho hg hat
  have D1 := (h.D.on hb).kept hg (fun e => by have := hv d e.symm; omega)
  have B1 : Below W.heap.size W w2 := (btr h.B hb).grown hg (Nat.le_trans h.B.size hbs) fun k e => by have := hv k e; have := h.le; omega
  have G2 := G1.setCell (p := ⟨d, 0, none⟩) (.inl (Nat.lt_succ_self d)) v'
  refine ⟨D1.set 0 v', G2.more (by simp [World.setCell]) (Nat.le_refl _), bset B1 h.le _, h.le⟩
end
end Go.Proofs.YtcolecidbalmhaaGreatDoor
namespace Go.Proofs.YtcolecidbalmhaaGreatDoor.Facts
set_option maxRecDepth 100000

theorem laidOut : laidOutB Tryz.prog = true := by kernel_rfl
theorem mapsRowed : mapsRowed Tryz.prog = true := by kernel_rfl
theorem stopsHeard : Tryz.prog.stopsHeard = true := by kernel_rfl
theorem mayEnter : Tryz.prog.mayEnter = true := by kernel_rfl
theorem plainKeys : (false == Tryz.prog.plainKeys) = true := by kernel_rfl
theorem liftsFinal : (false == Tryz.prog.liftsFinal) = true := by kernel_rfl
theorem make : (Tryz.prog.make == some Make.cut) = true := by kernel_rfl

theorem joined_of {P : Program} {f : FuncId} {fn : Func} {s : ChangeSpec} {c : OpenClaim}
    (g2 : laidOutB P = true) (g3 : Go.mapsRowed P = true) (g4 : P.stopsHeard = true) (g5 : P.mayEnter = true)
    (h1 : c.wf (OpenSpec.ofChange s) = true) (h4 : fn.params.all (P.readableRec ·) = true) (h5 : namedTie P c.named s.vars = true)
    (h6 : (c.stops == []) = true) (h7 : (P.stops == []) = true) (h8 : (c.knobs == []) = true) (h9 : (P.stopKnobs == []) = true)
    (h10 : c.inPlace = P.inPlace f) (h11 : c.unfollowed = P.unfollowed f) (h12 : c.recurses = P.recurses f) (h13 : c.named = P.varsNamed f)
    (h14 : (c.maps == (fn.params.toList ++ s.plain.varTypes P).any (P.mapsRec ·)) = true) (h15 : (c.ifaces == (fn.params.toList ++ s.plain.varTypes P).any (P.ifacesRec ·)) = true) (h16 : (c.mapsOut == P.mapsAmong fn.resultTypes.toList) = true)
    (h17 : (c.loops == (fn.params.toList ++ s.plain.varTypes P).any (P.loopsFrom ·)) = true) (h18 : (c.wideKeys == (fn.params.toList ++ s.plain.varTypes P ++ fn.resultTypes.toList).any (P.wideKeysFrom ·)) = true)
    (h19 : s.vars.all (P.varReadable ·) = true) (h20 : fn.resultTypes.all (fun t => P.readableRec t && decide (t < P.types.size)) = true) (h21 : (c.ifacesOut == fn.resultTypes.toList.any (P.ifacesRec ·)) = true) (h22 : (c.loopsOut == fn.resultTypes.toList.any (P.loopsFrom ·)) = true)
    (h23 : (c.plainKeys == P.plainKeys) = true) (h24 : c.shortTexts.isNone = true) (h25 : (c.lifted == P.liftsFinal) = true) (h26 : (P.make == some c.make) = true)
    (h27 : (c.kinds == (if c.domain.isEmpty then [] else fn.params.toList.map fun t => match P.underlying t with | some (.int k) => some k | _ => none)) = true) (h28 : (c.pinned == c.pinnedBy) = true)
    (h29 : (c.veiled == (fn.params.toList ++ s.plain.varTypes P ++ fn.resultTypes.toList).any (P.veiledRec ·)) = true) (h30 : c.veiledFits P fn.params.toList (fn.params.toList ++ s.plain.varTypes P ++ fn.resultTypes.toList) = true) :
    joinedFacts P f fn s c = true := by
  have g10 : (c.inPlace == P.inPlace f) = true := by rw [h10]; simp
  have g11 : (c.unfollowed == P.unfollowed f) = true := by rw [h11]; simp
  have g12 : (c.recurses == P.recurses f) = true := by rw [h12]; simp
  have g13 : (c.named == P.varsNamed f) = true := by rw [h13]; simp
  unfold joinedFacts
  simp only [Bool.and_eq_true]
  exact ⟨⟨⟨⟨⟨⟨⟨⟨⟨⟨⟨⟨⟨⟨⟨⟨⟨⟨⟨⟨⟨⟨⟨⟨⟨⟨⟨⟨⟨⟨⟨h1, g2⟩, g3⟩, h4⟩, h5⟩, h6⟩, h7⟩, h8⟩, h9⟩, g10⟩, g11⟩, g12⟩, g13⟩, h14⟩, h15⟩, h16⟩, h17⟩, h18⟩, h19⟩, h20⟩, h21⟩, h22⟩, h23⟩, h24⟩, g4⟩, g5⟩, h25⟩, h26⟩, h27⟩, h28⟩, h29⟩, h30⟩
end Go.Proofs.YtcolecidbalmhaaGreatDoor.Facts
namespace Go.Proofs.YtcolecidbalmhaaGreatDoor
open Go.ChangeShapes Go.WideShapes Go.ChangeAt Go.RowKit

theorem own : ownKnob Tryz.prog.godebug = none := by kernel_rfl
theorem laidOut : laidOutB Tryz.prog = true := by kernel_rfl

/-- Each named variable is there, and its type can be read. -/
def varsOk (P : Program) (names : List String) : Bool :=
  names.all fun n => match P.globalNamed n with
    | some g => match (P.globals[g]?).map (·.type) with
      | some t => P.readableRec t && decide (t < P.types.size)
      | Option.none => false
    | Option.none => false
/-- A world for the witness: the settled one, its tables holding what their initialisers lay. -/
noncomputable def laidWorld (os : Os) : World :=
  { World.holding Tryz.prog os ⟨#[], #[], []⟩ with heap := ((World.holding Tryz.prog os ⟨#[], #[], []⟩).heap
       |>.modify 1 (fun | .cells _ t frozen => .cells #[.string M.streamS, .string M.heardS, .string M.nonceS, .string M.signS, .string M.macS, .string M.sealS, .string M.spkiS, .string M.rollS] t frozen | o => o)
       |>.modify 2 (fun | .cells _ t frozen => .cells #[.iface 320 (.agg #[.pointer (some ⟨7, 200, none⟩)])] t frozen | o => o)
    ) }
end Go.Proofs.YtcolecidbalmhaaGreatDoor
namespace Go.Proofs.YtcolecidbalmhaaGreatDoor
open Go.ChangeShapes Go.WideShapes Go.ChangeAt Go.RowKit

/-- What the rows list: with the labels (the variable at block 1). -/
def listL : List (String × DataW Unit) := [("unicode/utf8.acceptRanges", Rows.laid_unicode_utf8_acceptRanges), ("loop.example/g00618/impl.labels", Rows.laid_loop_example_g00618_impl_labels), ("unicode.CaseRanges", Rows.laid_unicode_CaseRanges), ("unicode/utf8.first", Rows.laid_unicode_utf8_first)]
/-- Without them. -/
def listN : List (String × DataW Unit) := [("unicode/utf8.acceptRanges", Rows.laid_unicode_utf8_acceptRanges), ("unicode.CaseRanges", Rows.laid_unicode_CaseRanges), ("unicode/utf8.first", Rows.laid_unicode_utf8_first)]

theorem witness_tabs {H : Type} {enc : TypeId × Value → H} {C : Checked} {os : Os} {f : FuncId} {fn : Func} {s : OpenSpec} {conds : List PathCond} {apart : Bool} {laid : List (String × DataW Unit)} (modest : Bool) (w0 : World) (args : Array Value) (hos : w0.os = os)
    (hsh : (w0.forCall (fun _ _ => 0) ⟨#[], args, []⟩).Shaped C.prog)
    (hok : Input.okWideB C.prog (w0.forCall (fun _ _ => 0) ⟨#[], args, []⟩) f ⟨#[], args, []⟩ = true)
    (hrow : s.preRow enc C.prog fn conds apart laid (w0.forCall (fun _ _ => 0) ⟨#[], args, []⟩).memory args) :
    ∃ (w : World) (tape : Tape) (i : Input), w.os = os ∧ (w.forCall tape i).Shaped C.prog ∧ i.vars = [] ∧ Input.okWide C.prog (w.forCall tape i) .any w.heap.size f i ∧
      s.preRow enc C.prog fn conds apart laid (w.forCall tape i).memory i.args ∧ ({ modest := modest } : Assume).holds C.prog (lone (Frame.enter C.prog f i.args .normal) [] (w.forCall tape i)) :=
  ⟨w0, fun _ _ => 0, ⟨#[], args, []⟩, hos, hsh, (Input.okWide_of_okWideB (base := 0) hok).1, (Input.okWide_of_okWideB hok).2, hrow, by
    simp only [Assume.holds]
    exact ⟨by simp, by simp, fun _ => Modest.zero, by simp, by simp⟩⟩

theorem shapedN (os : Os) (args : Array Value) : ((World.laidAll Tryz.prog os listN).forCall (fun _ _ => 0) ⟨#[], args, []⟩).Shaped Tryz.prog := World.shaped_of_ZipB (by kernel_rfl) (by kernel_rfl)
theorem metN (os : Os) (args : Array Value) : laidMetH Tryz.prog listN ((World.laidAll Tryz.prog os listN).forCall (fun _ _ => 0) ⟨#[], args, []⟩).memory := by
  rw [MakeChecks.laidMetH_plain _ _ _ (by kernel_rfl)]
  exact laidMet_laidAll _ (by kernel_rfl) (by kernel_rfl)

end Go.Proofs.YtcolecidbalmhaaGreatDoor
