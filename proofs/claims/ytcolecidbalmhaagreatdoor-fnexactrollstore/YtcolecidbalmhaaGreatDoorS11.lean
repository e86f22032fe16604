/- Texts of this seat that several laws rest on, laid into one. Conditions: as each theorem states. -/
import Derived.Test.YtcolecidbalmhaaGreatDoorS10
import Derived.DataShut
namespace Go.Proofs.YtcolecidbalmhaaGreatDoor
open Go.RowKit
set_option maxRecDepth 100000
set_option linter.unusedVariables false

theorem szSt_neg {s : StoreD} {L : Int} (h : szSt s L < 0) : szSt s L = -1 := by
  unfold szSt at h ⊢
  by_cases hp : szP s.ps L < 0
  · rw [if_pos hp]
  · rw [if_neg hp] at h ⊢
    exact szR_neg h
theorem sumLens_bound : ∀ (rs : List (List Int)), (∀ zs ∈ rs, zs.length ≤ 40) → sumLens rs ≤ 40 * rs.length
  | [], _ => by simp [sumLens]
  | z :: r, h => by
    have h1 := sumLens_bound r (fun zs hz => h zs (by simp [hz]))
    have h2 := h z (by simp)
    simp only [sumLens, List.map_cons, List.sum_cons, List.length_cons] at h1 ⊢
    omega
theorem small_of {s : StoreD} (h : storeF s = 0) : SmallS s := by
  obtain ⟨ho, _⟩ := storeF_zero h
  obtain ⟨d1, d2, _, _⟩ := diskF_zero (openC_zero ho).1
  have hp := (pinsF_zero (storeF_pins h)).1
  have hs := sumLens_bound s.d.rs (long_of d2)
  exact ⟨by omega, by omega, by omega⟩
theorem small0 : SmallS store0 := ⟨by decide, by decide, by decide⟩
def V4L (c : Int) (a1 : Option Addr) (n1 c1 : Nat) (a2 : Option Addr) (n2 c2 : Nat) (x : Int) : List Value := [.int .i64 c, .slice a1 n1 c1, .slice a2 n2 c2, .int .i64 x]
/-- The answers of the model (block p0) and of the program (block p2); between them lies what may be marked of the argument (from l1 on, ahead of h1). -/
structure TriS (w : World) (c : Int) (s g : StoreD) (p0 p2 l0 h0 l1 h1 l2 h2 : Nat) (b1 : Option Addr) (e1 : Nat) (b2 : Option Addr) (e2 : Nat) (a1 : Option Addr) (d1 : Nat) (a2 : Option Addr) (d2 : Nat) (cur : World) : Prop where
  bel : Below w.heap.size w cur
  P0 : At p0 (V4L c b1 s.ps.length e1 b2 s.d.rs.length e2 s.d.s) cur
  P2 : At p2 (V4L c a1 s.ps.length d1 a2 s.d.rs.length d2 s.d.s) cur
  R : SOwn cur l0 h0 (.slice b1 s.ps.length e1) (.slice b2 s.d.rs.length e2) s
  G : SOwn cur l2 h2 (.slice a1 s.ps.length d1) (.slice a2 s.d.rs.length d2) g
  o0 : w.heap.size ≤ l0
  o1 : h0 ≤ l1
  o2 : p0 < l1
  o3 : l1 ≤ h1
  o4 : h1 ≤ l2
  o5 : h2 ≤ p2
section
variable {w cur cur' : World} {c : Int} {s g g' : StoreD} {p0 p2 l0 h0 l1 h1 l2 h2 : Nat} {b1 b2 a1 a2 : Option Addr} {e1 e2 d1 d2 : Nat}
theorem TriS.on (h : TriS w c s g p0 p2 l0 h0 l1 h1 l2 h2 b1 e1 b2 e2 a1 d1 a2 d2 cur) (hb : Below cur.heap.size cur cur') : TriS w c s g p0 p2 l0 h0 l1 h1 l2 h2 b1 e1 b2 e2 a1 d1 a2 d2 cur' :=
  ⟨btr h.bel hb, h.P0.on hb, h.P2.on hb, h.R.below hb, h.G.below hb, h.o0, h.o1, h.o2, h.o3, h.o4, h.o5⟩
theorem TriS.arg (h : TriS w c s g p0 p2 l0 h0 l1 h1 l2 h2 b1 e1 b2 e2 a1 d1 a2 d2 cur) (hi : Inn l1 h1 cur cur') : TriS w c s g p0 p2 l0 h0 l1 h1 l2 h2 b1 e1 b2 e2 a1 d1 a2 d2 cur' := by
  have q0 := h.o0; have q1 := h.o1; have q2 := h.o2; have q3 := h.o3; have q4 := h.o4; have q5 := h.o5
  have t1 := h.R.top.1
  have t2 := h.G.top.1
  exact ⟨Inn.below h.bel hi (by omega), h.P0.inn hi (.inl (by omega)), h.P2.inn hi (.inr (by omega)), h.R.inn hi (.inl (by omega)), h.G.inn hi (.inr (by omega)), q0, q1, q2, q3, q4, q5⟩
theorem TriS.ans (h : TriS w c s g p0 p2 l0 h0 l1 h1 l2 h2 b1 e1 b2 e2 a1 d1 a2 d2 cur) (hi : Inn l2 h2 cur cur') (hg : SOwn cur' l2 h2 (.slice a1 s.ps.length d1) (.slice a2 s.d.rs.length d2) g') : TriS w c s g' p0 p2 l0 h0 l1 h1 l2 h2 b1 e1 b2 e2 a1 d1 a2 d2 cur' := by
  have q0 := h.o0; have q1 := h.o1; have q2 := h.o2; have q3 := h.o3; have q4 := h.o4; have q5 := h.o5
  have t1 := h.R.top.1
  have t2 := h.G.top.1
  exact ⟨Inn.below h.bel hi (by omega), h.P0.inn hi (.inl (by omega)), h.P2.inn hi (.inr (by omega)), h.R.inn hi (.inl (by omega)), hg, q0, q1, q2, q3, q4, q5⟩
end
end Go.Proofs.YtcolecidbalmhaaGreatDoor
namespace Go.Proofs.YtcolecidbalmhaaGreatDoor
open Go.RowKit
set_option maxRecDepth 100000
set_option linter.unusedVariables false

/-- A pointer to a result that is a store, all of it made behind u. -/
def StoreAt (u : World) (C : Int) (S : StoreD) (v : Value) (wx : World) : Prop :=
  ∃ (g lo hi : Nat) (y1 : Option Addr) (e1 : Nat) (y2 : Option Addr) (e2 : Nat), v = .pointer (some ⟨g, 0, none⟩) ∧ At g (V4L C y1 S.ps.length e1 y2 S.d.rs.length e2 S.d.s) wx ∧ SOwn wx lo hi (.slice y1 S.ps.length e1) (.slice y2 S.d.rs.length e2) S ∧
    Below u.heap.size u wx ∧ u.heap.size ≤ lo ∧ (g < lo ∨ hi ≤ g) ∧ u.heap.size ≤ g ∧ g < wx.heap.size
theorem SOwn.stored {w : World} {lo hi g : Nat} {v1 v2 : Value} {s : StoreD} (h : SOwn w lo hi v1 v2 s) (hg : g < lo ∨ hi ≤ g) (u0 u1 u2 u3 : Value) :
    SOwn ((((w.setCell ⟨g, 0, none⟩ u0).setCell ⟨g, 1, none⟩ u1).setCell ⟨g, 2, none⟩ u2).setCell ⟨g, 3, none⟩ u3) lo hi v1 v2 s :=
  (((h.setCell (p := ⟨g, 0, none⟩) hg u0).setCell (p := ⟨g, 1, none⟩) hg u1).setCell (p := ⟨g, 2, none⟩) hg u2).setCell (p := ⟨g, 3, none⟩) hg u3
/-- As TriS; the answer's block lies ahead of the answer's memory or behind it. -/
structure TriT (w : World) (c : Int) (s g : StoreD) (p0 p2 l0 h0 l1 h1 l2 h2 : Nat) (b1 : Option Addr) (e1 : Nat) (b2 : Option Addr) (e2 : Nat) (a1 : Option Addr) (d1 : Nat) (a2 : Option Addr) (d2 : Nat) (cur : World) : Prop where
  bel : Below w.heap.size w cur
  P0 : At p0 (V4L c b1 s.ps.length e1 b2 s.d.rs.length e2 s.d.s) cur
  P2 : At p2 (V4L c a1 s.ps.length d1 a2 s.d.rs.length d2 s.d.s) cur
  R : SOwn cur l0 h0 (.slice b1 s.ps.length e1) (.slice b2 s.d.rs.length e2) s
  G : SOwn cur l2 h2 (.slice a1 s.ps.length d1) (.slice a2 s.d.rs.length d2) g
  o0 : w.heap.size ≤ l0
  o1 : h0 ≤ l1
  o2 : p0 < l1
  o3 : l1 ≤ h1
  o4 : h1 ≤ l2
  o5 : h1 ≤ p2
  o6 : p2 < l2 ∨ h2 ≤ p2
section
variable {w cur cur' : World} {c : Int} {s g g' : StoreD} {p0 p2 l0 h0 l1 h1 l2 h2 : Nat} {b1 b2 a1 a2 : Option Addr} {e1 e2 d1 d2 : Nat}
theorem TriT.on (h : TriT w c s g p0 p2 l0 h0 l1 h1 l2 h2 b1 e1 b2 e2 a1 d1 a2 d2 cur) (hb : Below cur.heap.size cur cur') : TriT w c s g p0 p2 l0 h0 l1 h1 l2 h2 b1 e1 b2 e2 a1 d1 a2 d2 cur' :=
  ⟨btr h.bel hb, h.P0.on hb, h.P2.on hb, h.R.below hb, h.G.below hb, h.o0, h.o1, h.o2, h.o3, h.o4, h.o5, h.o6⟩
theorem TriT.arg (h : TriT w c s g p0 p2 l0 h0 l1 h1 l2 h2 b1 e1 b2 e2 a1 d1 a2 d2 cur) (hi : Inn l1 h1 cur cur') : TriT w c s g p0 p2 l0 h0 l1 h1 l2 h2 b1 e1 b2 e2 a1 d1 a2 d2 cur' := by
  have q0 := h.o0; have q1 := h.o1; have q2 := h.o2; have q3 := h.o3; have q4 := h.o4; have q5 := h.o5; have q6 := h.o6
  have t1 := h.R.top.1
  have t2 := h.G.top.1
  exact ⟨Inn.below h.bel hi (by omega), h.P0.inn hi (.inl (by omega)), h.P2.inn hi (.inr (by omega)), h.R.inn hi (.inl (by omega)), h.G.inn hi (.inr (by omega)), q0, q1, q2, q3, q4, q5, q6⟩
theorem TriT.ans (h : TriT w c s g p0 p2 l0 h0 l1 h1 l2 h2 b1 e1 b2 e2 a1 d1 a2 d2 cur) (hi : Inn l2 h2 cur cur') (hg : SOwn cur' l2 h2 (.slice a1 s.ps.length d1) (.slice a2 s.d.rs.length d2) g') : TriT w c s g' p0 p2 l0 h0 l1 h1 l2 h2 b1 e1 b2 e2 a1 d1 a2 d2 cur' := by
  have q0 := h.o0; have q1 := h.o1; have q2 := h.o2; have q3 := h.o3; have q4 := h.o4; have q5 := h.o5; have q6 := h.o6
  have t1 := h.R.top.1
  have t2 := h.G.top.1
  exact ⟨Inn.below h.bel hi (by omega), h.P0.inn hi (.inl (by omega)), h.P2.inn hi q6, h.R.inn hi (.inl (by omega)), hg, q0, q1, q2, q3, q4, q5, q6⟩
end
end Go.Proofs.YtcolecidbalmhaaGreatDoor
namespace Go.Proofs.YtcolecidbalmhaaGreatDoor
open Go.RowKit
set_option maxRecDepth 100000
set_option linter.unusedVariables false

end Go.Proofs.YtcolecidbalmhaaGreatDoor
namespace Go.Proofs.YtcolecidbalmhaaGreatDoor
open Go.RowKit
set_option maxRecDepth 100000
set_option linter.unusedVariables false

/-- Two blocks of cells and a journal. -/
structure Hold3 (W : World) (d : Nat) (dv : List Value) (r : Nat) (rv : List Value) (j : Nat) (J : List Value) (cur : World) : Prop where
  bel : Below W.heap.size W cur
  D : At d dv cur
  R : At r rv cur
  J : JB j J cur
section
variable {W cur cur' : World} {d r j : Nat} {dv rv J : List Value}
theorem Hold3.on (h : Hold3 W d dv r rv j J cur) (hb : Below cur.heap.size cur cur') : Hold3 W d dv r rv j J cur' := ⟨btr h.bel hb, h.D.on hb, h.R.on hb, h.J.on hb⟩
theorem Hold3.row (h : Hold3 W d dv r rv j J cur) (K : List Value) (h1 : d ≠ j) (h2 : r ≠ j) (h3 : W.heap.size ≤ j) : Hold3 W d dv r rv j K (cur.setRow j K.toArray) :=
  ⟨brow h.bel h3 _, h.D.keep fun _ => setRow_other cur j d _ h1, h.R.keep fun _ => setRow_other cur j r _ h2, h.J.row K⟩
theorem Hold.row {g : Nat} {cs : List Value} (h : Hold W g cs cur) (K : List Value) (h1 : g ≠ j) (h3 : W.heap.size ≤ j) : Hold W g cs (cur.setRow j K.toArray) :=
  ⟨brow h.bel h3 _, h.at'.keep fun _ => setRow_other cur j g _ h1⟩
end
end Go.Proofs.YtcolecidbalmhaaGreatDoor
namespace Go.Proofs.YtcolecidbalmhaaGreatDoor
open Go.RowKit
set_option maxRecDepth 100000
set_option linter.unusedVariables false

@[go_sem] theorem min_two (ats : Array TypeId) (ty : TypeId) (k k' : IntKind) (x y : Int) : Builtin.min_ ats ty #[.int k x, .int k' y] = pure (.int k (if y < x then y else x)) := rfl
end Go.Proofs.YtcolecidbalmhaaGreatDoor
namespace Go.Proofs.YtcolecidbalmhaaGreatDoor
open Go.RowKit
set_option maxRecDepth 100000
set_option linter.unusedVariables false

theorem flat_oneCell (ps : List PinD) : ∀ v ∈ flat ps, v.oneCell' = true := by
  intro v hv
  simp only [flat, List.mem_flatMap] at hv
  obtain ⟨p, _, h⟩ := hv
  exact pin_oneCell p v h
theorem PRow.src {w : World} {B : Nat} {a : Option Addr} {len cap : Nat} {ps : List PinD} {tx e' : TypeId} (h : PRow w B a len cap ps) (hk : Tryz.prog.underlying tx = some (.slice e')) : Go.Src Tryz.prog 5 tx (.slice a len cap) len (flat ps) w := by
  rcases Nat.eq_zero_or_pos len with h0 | h0
  · subst h0
    obtain rfl : ps = [] := List.eq_nil_of_length_eq_zero h.length
    cases a with
    | none => exact Src.ofNil w hk cap
    | some x => exact Src.ofSlice w hk x 0 cap [] rfl (fun j u hu => by simp at hu) (fun _ hu => by cases hu)
  · obtain ⟨b, off, rfl, hb, hc⟩ := h.cells h0
    refine Src.ofSlice w hk _ len cap _ (by rw [flat_length, h.length]) (fun j u hu => ?_) (flat_oneCell ps)
    have hj := (List.getElem?_eq_some_iff.1 hu).1
    rw [flat_length] at hj
    have hk5 : j / 5 < ps.length := by omega
    have hi5 : j % 5 < (ps[j / 5]?.getD pin0).vals.length := by show j % 5 < 5; omega
    have hv := flat_get ps (j / 5) (j % 5) _ hk5 (List.getElem?_eq_getElem hi5)
    rw [show j / 5 * 5 + j % 5 = j by omega, hu] at hv
    injection hv with hv
    rw [Addr.add_lit, show off + j = off + j / 5 * 5 + j % 5 by omega, hv]
    exact hc (j / 5) (by rw [← h.length]; exact hk5) (j % 5) _ (List.getElem?_eq_getElem hi5)
/-- A store of new memory was answered. -/
def CopiedS (s : StoreD) (w : World) (e : Ending) (w' : World) : Prop :=
  ∃ a1 c1 a2 c2, e = .returned (S3 a1 s.ps.length c1 a2 s.d.rs.length c2 s.d.s) ∧ SOwn w' w.heap.size w'.heap.size (.slice a1 s.ps.length c1) (.slice a2 s.d.rs.length c2) s ∧ Below w.heap.size w w'
set_option maxHeartbeats 1000000 in
theorem l9Copy_any (a1 : Option Addr) (n1 c1 : Nat) (a2 : Option Addr) (n2 c2 B : Nat) (s : StoreD) (w : World) (hR : SRow w B a1 n1 c1 a2 n2 c2 s) (hB : B ≤ w.heap.size) (hn4 : s.ps.length ≤ 4) (h12 : s.d.rs.length ≤ 12) (hl : s.d.rs.any longR = false) :
    Calls Tryz.prog 87 #[S3 a1 n1 c1 a2 n2 c2 s.d.s] w (CopiedS s w) := by
  obtain ⟨i0, hi0, hz0, hz1, hz2⟩ := info_parts pin_info
  have b0 := bal (bal (Below.refl _ w) (.cells #[.slice a1 n1 c1, .slice a2 n2 c2, .int .i64 s.d.s] 29)) (.cells #[.slice none 0 0, .slice none 0 0, .int .i64 0] 29)
  have A0 := (At.new w (S3L a1 n1 c1 a2 n2 c2 s.d.s) 29).alloc (.cells #[.slice none 0 0, .slice none 0 0, .int .i64 0] 29)
  have R0 := At.new (w.alloc (.cells #[.slice a1 n1 c1, .slice a2 n2 c2, .int .i64 s.d.s] 29)) [.slice none 0 0, .slice none 0 0, .int .i64 0] 29
  rw [World.size_alloc] at R0
  have hln := hR.ps.length
  have hrn := hR.rs.length
  have HPS := Lib.hid (fun (w' : World) (h : Below w.heap.size w w') => (hR.ps.below (h.mono hB)).src Tryz.underlying24)
  have CD := Lib.hid (fun (w' : World) (h : Below w.heap.size w w') => l9CopyDisk_any a2 n2 c2 B s.d.rs s.d.s w' (hR.rs.below (h.mono hB)) (Nat.le_trans hB h.size) h12 hl)
  have HNM := Lib.hid hR.ps.names
  have HW := Lib.hid hR.wf
  have H0 := Lib.hid (show Hold w w.heap.size (S3L a1 n1 c1 a2 n2 c2 s.d.s) (((w.alloc (.cells #[.slice a1 n1 c1, .slice a2 n2 c2, .int .i64 s.d.s] 29)).alloc (.cells #[.slice none 0 0, .slice none 0 0, .int .i64 0] 29)).drew) from ⟨b0.drew, A0.on (bdrew _)⟩)
  have HR0 := Lib.hid (show At (w.heap.size + 1) [.slice none 0 0, .slice none 0 0, .int .i64 0] (((w.alloc (.cells #[.slice a1 n1 c1, .slice a2 n2 c2, .int .i64 s.d.s] 29)).alloc (.cells #[.slice none 0 0, .slice none 0 0, .int .i64 0] 29)).drew) from R0.on (bdrew _))
  have hn1 : n1 ≤ 4 := by rw [← hln]; exact hn4
  have HLN := Lib.hid hln
  have HRN := Lib.hid hrn
  clear hR hn4 h12 hl A0 R0 b0 hln hrn
  go_enter Tryz.func87, Tryz.ntmps87
  go_wp2_with fail
  refine wp_region_line (Hold w w.heap.size (S3L a1 n1 c1 a2 n2 c2 s.d.s)) [(1, true), (2, true), (4, true), (5, true), (0, false), (3, false), (6, false), (7, true), (8, false)] (by kernel_rfl) (by kernel_rfl) (fun _ _ d _ _ h => by cases d <;> exact h) H0.out ?_
  have hst := H0.out
  have inst : Nonempty (Of (Hold w w.heap.size (S3L a1 n1 c1 a2 n2 c2 s.d.s))) := ⟨⟨_, hst⟩⟩
  have u0 := hold_cell (W := w) (g := w.heap.size) (cs := S3L a1 n1 c1 a2 n2 c2 s.d.s) 0 _ rfl
  have u1 := hold_cell (W := w) (g := w.heap.size) (cs := S3L a1 n1 c1 a2 n2 c2 s.d.s) 1 _ rfl
  have u2 := hold_cell (W := w) (g := w.heap.size) (cs := S3L a1 n1 c1 a2 n2 c2 s.d.s) 2 _ rfl
  clear H0
  generalize ((w.alloc (.cells #[.slice a1 n1 c1, .slice a2 n2 c2, .int .i64 s.d.s] 29)).alloc (.cells #[.slice none 0 0, .slice none 0 0, .int .i64 0] 29)).drew = V1 at *
  iterate 4 (refine line_read rfl (by kernel_rfl) (fun K hK => ?_); go_big_quiet_op; refine hK _ ?_; clear hK K)
  clear u0 u1 u2
  refine line_alone rfl (by kernel_rfl) (fun K hK => ?_)
  go_big_op
  have b2 := bal (Below.refl _ V1) (.cells #[] 31)
  have hst2 := hst.on b2
  have O2 := Lib.hid (show Own (V1.alloc (.cells #[] 31)) V1.heap.size 5 (.slice (some ⟨V1.heap.size, 0, none⟩) 0 0) 0 [] from Own.made V1 #[] 31 0 (Nat.le_refl _) (Nat.zero_le _) rfl)
  have S2 := Lib.hid (HPS.out _ hst2.bel)
  have R2 := Lib.hid (HR0.out.on b2)
  have hlo : w.heap.size + 1 < V1.heap.size := HR0.out.lt (by simp)
  refine hK _ _ hst2 ?_
  clear hK K hst b2 HPS HR0
  have hst := hst2
  clear hst2
  have hsz2 : V1.heap.size ≤ (V1.alloc (.cells #[] 31)).heap.size := by simp
  generalize V1.alloc (.cells #[] 31) = V2 at *
  generalize V1.heap.size = lo at *
  refine line_alone rfl (by kernel_rfl) (fun K hK => ?_)
  refine wp_append_src _ (.tmp 3) (.tmp 5) 24 24 rfl lo 31 i0 (P5 pin0) 5 48 Tryz.underlying24 hi0 hz0 hz1 hz2 rfl _ 0 [] rfl O2.out _ n1 (flat s.ps) rfl S2.out (by simp only [maxLen]; omega) (by omega) hsz2 (fun v3 w3 hown hgrow hat => ?_)
  have hst2 : Hold w w.heap.size (S3L a1 n1 c1 a2 n2 c2 s.d.s) w3 := ⟨hst.bel.grown hgrow hst.bel.size (fun k e => by have := (Own.lt O2.out k e).1; omega), hst.at'.kept hgrow (fun e => by have := (Own.lt O2.out _ e.symm).1; omega)⟩
  have R3 := Lib.hid (R2.out.kept hgrow (fun e => by have := (Own.lt O2.out _ e.symm).1; omega))
  have O3 : OwnP w3 lo v3 s.ps := by
    unfold OwnP
    rw [HLN.out]
    simpa using hown
  obtain ⟨a3, c3, hv3, -⟩ := O3.form
  subst hv3
  have HO3 := Lib.hid O3
  have hlo3 : lo ≤ w3.heap.size := Nat.le_trans hsz2 hgrow.size
  refine hK _ _ hst2 ?_
  clear hK K hst hown hgrow hat O2 S2 R2 O3 hsz2
  have hst := hst2
  clear hst2
  simp only [Act.put, List.setIfInBounds_toArray, List.set_cons_zero, List.set_cons_succ]
  refine line_alone rfl (by kernel_rfl) (fun K hK => ?_)
  refine call_any (args := #[.agg #[.slice a2 n2 c2, .int .i64 s.d.s]]) rfl (by kernel_rfl) (by kernel_rfl) (CD.out _ hst.bel) ?_
  rintro e x6 ⟨a6, n6, c6, xs, rfl, G6, b6⟩
  have hst2 := hst.on b6
  have R6 := R3.out.on b6
  have SO : SOwn x6 lo x6.heap.size (.slice a3 s.ps.length c3) (.slice a6 n6 c6) s :=
    SOwn.mk' (W := w) (mid := w3.heap.size) (HO3.out.below b6) hlo3 (fun g hg => (Own.lt HO3.out g hg).2) G6 b6.size HNM.out HW.out
  obtain ⟨-, hn6⟩ := SO.len
  subst hn6
  have HSO := Lib.hid SO
  refine ⟨_, rfl, hK _ _ hst2 ?_⟩
  clear hK K hst b6 G6 SO R3 HO3 CD
  have hst := hst2
  clear hst2
  simp only [Act.put, List.setIfInBounds_toArray, List.set_cons_zero, List.set_cons_succ]
  refine line_readv (v := .agg #[.slice a3 s.ps.length c3, .slice a6 s.d.rs.length c6, .int .i64 s.d.s]) rfl (by kernel_rfl) (fun _ => by kernel_rfl) ?_
  simp only [Act.put, List.setIfInBounds_toArray, List.set_cons_zero, List.set_cons_succ]
  have q0 := R6.cell 0 _ rfl
  have q1 := R6.cell 1 _ rfl
  have q2 := R6.cell 2 _ rfl
  have f0 := R6.free 0 _ rfl
  have f1 := R6.free 1 _ rfl
  have f2 := R6.free 2 _ rfl
  refine line_alone rfl (by kernel_rfl) (fun K hK => ?_)
  go_big_op
  refine hK _ _ ((by (iterate 3 (refine Hold.setB ?_ (by dsimp only; omega) (by dsimp only; omega) _)); exact hst)) ?_
  clear hK K
  refine line_nil ?_
  have hS := ((HSO.out.setCell (p := ⟨w.heap.size + 1, 0, none⟩) (.inl hlo) (.slice a3 s.ps.length c3)).setCell (p := ⟨w.heap.size + 1, 1, none⟩) (.inl hlo) (.slice a6 s.d.rs.length c6)).setCell (p := ⟨w.heap.size + 1, 2, none⟩) (.inl hlo) (.int .i64 s.d.s)
  have hS2 := Lib.hid ((hS.less (show w.heap.size ≤ lo by omega)).more hS.top.2 (Nat.le_refl _))
  have HB := Lib.hid hst.bel
  clear hst inst R6 hS HSO
  go_wp2_with fail
  refine bodyPost_ret (v := S3 a3 s.ps.length c3 a6 s.d.rs.length c6 s.d.s) (by simp [results, Tryz.results87, go_sem, S3, q0, q1, q2]) rfl ⟨a3, c3, a6, c6, rfl, hS2.out, ?_⟩
  exact (by (iterate 3 (refine bset ?_ (by dsimp only; omega) _)); exact HB.out)
end Go.Proofs.YtcolecidbalmhaaGreatDoor
namespace Go.Proofs.YtcolecidbalmhaaGreatDoor
open Go.RowKit
set_option maxRecDepth 100000
set_option linter.unusedVariables false

end Go.Proofs.YtcolecidbalmhaaGreatDoor
namespace Go.Proofs.YtcolecidbalmhaaGreatDoor
open Go.RowKit
set_option maxRecDepth 100000
set_option linter.unusedVariables false

/-- A store that is read, a result and a store that is made, each in a block of its own. -/
structure KSt (W : World) (j r d : Nat) (J rv : List Value) (pv v : Value) (x : Int) (ps : List PinD) (zss : List (List Int)) (xs : List Value) (lo : Nat) (wr : World) : Prop where
  P : At j J wr
  R : At r rv wr
  D : At d [pv, v, .int .i64 x] wr
  O : OwnP wr (r + 1) pv ps
  ob : ∀ k, pv.ownBlock = some k → k < lo ∧ k ≠ d
  G : OwnG wr lo wr.heap.size v zss xs
  B : Below W.heap.size W wr
  off : ∀ k, v.ownBlock = some k → k ≠ j ∧ k ≠ r ∧ k ≠ d
  offx : ∀ (i : Nat) (u : Value) (k : Nat), xs[i]? = some u → u.ownBlock = some k → k ≠ r ∧ k ≠ d
  lo1 : W.heap.size ≤ lo
  rl : r + 1 ≤ lo
  lo2 : lo ≤ wr.heap.size
  le : W.heap.size ≤ d
section
variable {W wr w1 w2 : World} {j r d lo : Nat} {J rv : List Value} {pv v : Value} {x : Int} {ps : List PinD} {zss : List (List Int)} {xs : List Value}
theorem KSt.on (h : KSt W j r d J rv pv v x ps zss xs lo wr) (hb : Below wr.heap.size wr w1) : KSt W j r d J rv pv v x ps zss xs lo w1 :=
  ⟨h.P.on hb, h.R.on hb, h.D.on hb, h.O.below hb, h.ob, (h.G.below hb).more hb.size (Nat.le_refl _), btr h.B hb, h.off, h.offx, h.lo1, h.rl, Nat.le_trans h.lo2 hb.size, h.le⟩
/-- One more record was appended, and the slice stored. -/
theorem KSt.app (h : KSt W j r d J rv pv v x ps zss xs lo wr) {v' u : Value} {zs : List Int} (hb : Below wr.heap.size wr w1) (hu : OwnK .u8 w1 wr.heap.size u zs)
    (ho : Own w2 lo 1 v' (zss.length + 1) (xs ++ [u])) (hg : w1.grownBy w2 v.ownBlock) (hat : v'.ownBlock = v.ownBlock ∨ v'.ownBlock = some w1.heap.size)
    (hd : d ≠ j) (hr : d ≠ r) (hJl : 0 < J.length) (hrl : 0 < rv.length) : KSt W j r d J rv pv v' x ps (zss ++ [zs]) (xs ++ [u]) lo (w2.setCell ⟨d, 1, none⟩ v') := by
  have T := h.on hb
  have hB := h.B.size
  have hsz := hb.size
  have hl2 := h.lo2
  have hJ : At j J w2 := T.P.kept hg (fun e => (h.off j e.symm).1 rfl)
  have hR := T.R.kept hg (fun e => (h.off r e.symm).2.1 rfl)
  have hD := T.D.kept hg (fun e => (h.off d e.symm).2.2 rfl)
  have lts : j < w1.heap.size ∧ r < w1.heap.size ∧ d < w1.heap.size := ⟨T.P.lt hJl, T.R.lt hrl, T.D.lt (by simp)⟩
  have G2 := OwnG.app h.G hl2 hb hu ho hg hat
  have off2 : ∀ k, v'.ownBlock = some k → k ≠ j ∧ k ≠ r ∧ k ≠ d := fun k e => by
    rcases hat with ha | ha
    · rw [ha] at e; exact h.off k e
    · rw [ha] at e; injection e with e; omega
  have ltd := h.D.lt (by simp)
  have ltr := h.R.lt hrl
  have off3 : ∀ (i : Nat) (x : Value) (k : Nat), (xs ++ [u])[i]? = some x → x.ownBlock = some k → k ≠ r ∧ k ≠ d := fun i x k hx e => by
    rcases Nat.lt_or_ge i xs.length with hi | hi
    · rw [List.getElem?_append_left hi] at hx
      exact h.offx i x k hx e
    · rw [List.getElem?_append_right hi] at hx
      have h0 := (List.getElem?_eq_some_iff.1 hx).1
      simp at h0
      rw [h0] at hx
      simp at hx
      subst hx
      have := (Own.lt hu k e).1
      omega
  have hlov : ∀ k, v.ownBlock = some k → lo ≤ k := fun k e => (h.G.own.lt k e).1
  have hO : OwnP w2 (r + 1) pv ps := Own.keep T.O hg.size fun k e => hg.block k (Own.lt T.O k e).2 (fun e2 => by have := hlov k e2.symm; have := (h.ob k e).1; omega)
  have hB2 : Below W.heap.size W w2 := T.B.grown hg (Nat.le_trans hB hsz) fun k e => Nat.le_trans h.lo1 (hlov k e)
  refine ⟨hJ.setB (Ne.symm hd) _, hR.setB (Ne.symm hr) _, by simpa using hD.set 1 v', Own.setCell hO (fun k e => (h.ob k e).2) _, h.ob, ?_, bset hB2 h.le _, off2, off3, h.lo1, h.rl, ?_, h.le⟩
  · have hk : ∀ k, k ≠ d → (w2.setCell ⟨d, 1, none⟩ v').heap[k]? = w2.heap[k]? := fun k hk => Below.heap_setCell w2 ⟨d, 1, none⟩ v' k hk
    have G3 := G2.keepP (w' := w2.setCell ⟨d, 1, none⟩ v') (by simp [World.setCell]) (fun k e => hk k (off2 k e).2.2) (fun i x k hx e => hk k (off3 i x k hx e).2)
    rw [show (w2.setCell ⟨d, 1, none⟩ v').heap.size = w2.heap.size by simp [World.setCell]]
    exact G3
  · rw [show (w2.setCell ⟨d, 1, none⟩ v').heap.size = w2.heap.size by simp [World.setCell]]
    exact Nat.le_trans hl2 (Nat.le_trans hsz hg.size)
/-- How many are safe was stored: the store as a whole. -/
theorem KSt.done (h : KSt W j r d J rv pv v x ps zss xs lo wr) (y : Int) (hn : ∀ p ∈ ps, p.n.size ≤ maxLen) (hw : ∀ zs ∈ zss, ∀ z ∈ zs, (Lit.int .u8 z).wf = true) :
    SOwn (wr.setCell ⟨d, 2, none⟩ (.int .i64 y)) (r + 1) (wr.setCell ⟨d, 2, none⟩ (.int .i64 y)).heap.size pv v ⟨ps, ⟨zss, y⟩⟩ := by
  have hk : ∀ k, k ≠ d → (wr.setCell ⟨d, 2, none⟩ (.int .i64 y)).heap[k]? = wr.heap[k]? := fun k hk => Below.heap_setCell wr ⟨d, 2, none⟩ (.int .i64 y) k hk
  have G3 := h.G.keepP (w' := wr.setCell ⟨d, 2, none⟩ (.int .i64 y)) (by simp [World.setCell]) (fun k e => hk k (h.off k e).2.2) (fun i x k hx e => hk k (h.offx i x k hx e).2)
  have O3 := Own.setCell h.O (p := ⟨d, 2, none⟩) (fun k e => (h.ob k e).2) (.int .i64 y)
  have hs : (wr.setCell ⟨d, 2, none⟩ (.int .i64 y)).heap.size = wr.heap.size := by simp [World.setCell]
  rw [hs]
  exact SOwn.mk' (W := W) (mid := lo) O3 h.rl (fun k e => (h.ob k e).1) G3 h.lo2 hn hw
end
end Go.Proofs.YtcolecidbalmhaaGreatDoor
