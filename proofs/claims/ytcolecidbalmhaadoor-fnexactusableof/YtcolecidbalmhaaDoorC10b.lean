/- Contracts of which supplied keys say something of a name, by the program and by its model. Conditions: as each theorem states. -/
import Derived.Test.YtcolecidbalmhaaDoorL10
import Derived.Test.YtcolecidbalmhaaDoorC5h
namespace Go.Proofs.YtcolecidbalmhaaDoor
open Go.RowKit
set_option maxRecDepth 100000
set_option linter.unusedVariables false

theorem l5Tlsa_cells (g o : Nat) (n : ByteArray) (u m v : Int) (w : World) (hn : n.size ≤ maxLen)
    (d0 : w.cell? ⟨g, o, none⟩ = some (.string n)) (d1 : w.cell? ⟨g, o + 1, none⟩ = some (.int .i64 u)) (d2 : w.cell? ⟨g, o + 2, none⟩ = some (.int .i64 m)) (d3 : w.cell? ⟨g, o + 3, none⟩ = some (.int .i64 v)) :
    Calls Tryd.prog 55 #[.pointer (some ⟨g, o, none⟩)] w fun e w' => e = .returned (.int .i64 (M.tlsaF n.data.toList u m v)) ∧ Below w.heap.size w w' := by
  have hL : n.data.toList.length = n.size := by simp
  have F := fun w => l5Fault_any n w hn
  by_cases h0 : M.nameF n.data.toList = 0
  · obtain ⟨h20, hm⟩ := M.nameF_zero h0
    rw [hL] at h20
    have N := fun w : World => l5Normal_any n w h20
    have Q := text_beq (M.bs (M.nrm n.data.toList)) n
    rw [M.bs_list] at Q
    rw [h0] at F
    by_cases hq : M.nrm n.data.toList = n.data.toList
    · have h1 := M.normF_yes h0 hq
      rw [decide_eq_true hq] at Q
      generalize M.bs (M.nrm n.data.toList) = R at *
      clear h0 hm hq hL
      cases hu : M.useB u
      · rw [M.tlsaF_no h1 (by rw [M.tlsaB_eq, hu]; rfl)]
        go_enter Tryd.func55, Tryd.ntmps55
        go_wp2_with fail
        refine (F _).mono ?_
        rintro r u1 ⟨rfl, b1⟩
        have p0 := cell_keep b1 d0
        go_wp2_with fail
        refine wp_region_line (Bel u1) [(0, true), (1, true), (2, true), (3, true), (5, true), (6, true), (7, true), (8, true), (4, false), (9, true)] (by kernel_rfl) (by kernel_rfl) (fun _ _ d _ _ h => by cases d <;> exact h) (Bel.drew u1) ?_
        have hst := Bel.drew u1
        have inst : Nonempty (Of (Bel u1)) := ⟨⟨_, hst⟩⟩
        have q0 := bel_cell p0
        iterate 8 (refine line_read rfl (by kernel_rfl) (fun K hK => ?_); go_big_quiet_op; refine hK _ ?_; clear hK K)
        refine line_alone rfl (by kernel_rfl) (fun K hK => ?_)
        refine call_wp (args := #[.string n]) rfl (by kernel_rfl) (by kernel_rfl) (N _) (fun wn hbn => ?_)
        have hst2 := hst.on hbn
        refine hK _ _ hst2 ?_
        clear hK K hst hbn
        have hst := hst2
        clear hst2
        simp only [Act.put, List.setIfInBounds_toArray, List.set_cons_zero, List.set_cons_succ]
        iterate 1 (refine line_read rfl (by kernel_rfl) (fun K hK => ?_); go_big_quiet_op; refine hK _ ?_; clear hK K)
        refine line_nil ?_
        have bb := btr b1 hst.out
        have y1 := cell_keep bb d1
        have y2 := cell_keep bb d2
        have y3 := cell_keep bb d3
        clear hst inst q0 p0 b1 F N d0 d1 d2 d3
        go_wp2_with fail
        refine (l1In_use _ _).mono ?_
        rintro r w' ⟨rfl, rfl⟩
        go_wp2_with fail
        go_ret
        exact ⟨rfl, bb⟩
      cases hm : M.matB m
      · rw [M.tlsaF_no h1 (by rw [M.tlsaB_eq, hm]; simp)]
        go_enter Tryd.func55, Tryd.ntmps55
        go_wp2_with fail
        refine (F _).mono ?_
        rintro r u1 ⟨rfl, b1⟩
        have p0 := cell_keep b1 d0
        go_wp2_with fail
        refine wp_region_line (Bel u1) [(0, true), (1, true), (2, true), (3, true), (5, true), (6, true), (7, true), (8, true), (4, false), (9, true)] (by kernel_rfl) (by kernel_rfl) (fun _ _ d _ _ h => by cases d <;> exact h) (Bel.drew u1) ?_
        have hst := Bel.drew u1
        have inst : Nonempty (Of (Bel u1)) := ⟨⟨_, hst⟩⟩
        have q0 := bel_cell p0
        iterate 8 (refine line_read rfl (by kernel_rfl) (fun K hK => ?_); go_big_quiet_op; refine hK _ ?_; clear hK K)
        refine line_alone rfl (by kernel_rfl) (fun K hK => ?_)
        refine call_wp (args := #[.string n]) rfl (by kernel_rfl) (by kernel_rfl) (N _) (fun wn hbn => ?_)
        have hst2 := hst.on hbn
        refine hK _ _ hst2 ?_
        clear hK K hst hbn
        have hst := hst2
        clear hst2
        simp only [Act.put, List.setIfInBounds_toArray, List.set_cons_zero, List.set_cons_succ]
        iterate 1 (refine line_read rfl (by kernel_rfl) (fun K hK => ?_); go_big_quiet_op; refine hK _ ?_; clear hK K)
        refine line_nil ?_
        have bb := btr b1 hst.out
        have y1 := cell_keep bb d1
        have y2 := cell_keep bb d2
        have y3 := cell_keep bb d3
        clear hst inst q0 p0 b1 F N d0 d1 d2 d3
        go_wp2_with fail
        refine (l1In_use _ _).mono ?_
        rintro r w' ⟨rfl, rfl⟩
        go_wp2_with fail
        refine (l1In_mat _ _).mono ?_
        rintro r w' ⟨rfl, rfl⟩
        go_wp2_with fail
        go_ret
        exact ⟨rfl, bb⟩
      cases hv : M.sumB v
      · rw [M.tlsaF_no h1 (by rw [M.tlsaB_eq, hv]; simp)]
        go_enter Tryd.func55, Tryd.ntmps55
        go_wp2_with fail
        refine (F _).mono ?_
        rintro r u1 ⟨rfl, b1⟩
        have p0 := cell_keep b1 d0
        go_wp2_with fail
        refine wp_region_line (Bel u1) [(0, true), (1, true), (2, true), (3, true), (5, true), (6, true), (7, true), (8, true), (4, false), (9, true)] (by kernel_rfl) (by kernel_rfl) (fun _ _ d _ _ h => by cases d <;> exact h) (Bel.drew u1) ?_
        have hst := Bel.drew u1
        have inst : Nonempty (Of (Bel u1)) := ⟨⟨_, hst⟩⟩
        have q0 := bel_cell p0
        iterate 8 (refine line_read rfl (by kernel_rfl) (fun K hK => ?_); go_big_quiet_op; refine hK _ ?_; clear hK K)
        refine line_alone rfl (by kernel_rfl) (fun K hK => ?_)
        refine call_wp (args := #[.string n]) rfl (by kernel_rfl) (by kernel_rfl) (N _) (fun wn hbn => ?_)
        have hst2 := hst.on hbn
        refine hK _ _ hst2 ?_
        clear hK K hst hbn
        have hst := hst2
        clear hst2
        simp only [Act.put, List.setIfInBounds_toArray, List.set_cons_zero, List.set_cons_succ]
        iterate 1 (refine line_read rfl (by kernel_rfl) (fun K hK => ?_); go_big_quiet_op; refine hK _ ?_; clear hK K)
        refine line_nil ?_
        have bb := btr b1 hst.out
        have y1 := cell_keep bb d1
        have y2 := cell_keep bb d2
        have y3 := cell_keep bb d3
        clear hst inst q0 p0 b1 F N d0 d1 d2 d3
        go_wp2_with fail
        refine (l1In_use _ _).mono ?_
        rintro r w' ⟨rfl, rfl⟩
        go_wp2_with fail
        refine (l1In_mat _ _).mono ?_
        rintro r w' ⟨rfl, rfl⟩
        go_wp2_with fail
        refine (l2Is_any _ _).mono ?_
        rintro r w' ⟨rfl, rfl⟩
        go_wp2_with fail
        go_ret
        exact ⟨rfl, bb⟩
      · rw [M.tlsaF_yes h1 (by rw [M.tlsaB_eq, hu, hm, hv]; rfl)]
        go_enter Tryd.func55, Tryd.ntmps55
        go_wp2_with fail
        refine (F _).mono ?_
        rintro r u1 ⟨rfl, b1⟩
        have p0 := cell_keep b1 d0
        go_wp2_with fail
        refine wp_region_line (Bel u1) [(0, true), (1, true), (2, true), (3, true), (5, true), (6, true), (7, true), (8, true), (4, false), (9, true)] (by kernel_rfl) (by kernel_rfl) (fun _ _ d _ _ h => by cases d <;> exact h) (Bel.drew u1) ?_
        have hst := Bel.drew u1
        have inst : Nonempty (Of (Bel u1)) := ⟨⟨_, hst⟩⟩
        have q0 := bel_cell p0
        iterate 8 (refine line_read rfl (by kernel_rfl) (fun K hK => ?_); go_big_quiet_op; refine hK _ ?_; clear hK K)
        refine line_alone rfl (by kernel_rfl) (fun K hK => ?_)
        refine call_wp (args := #[.string n]) rfl (by kernel_rfl) (by kernel_rfl) (N _) (fun wn hbn => ?_)
        have hst2 := hst.on hbn
        refine hK _ _ hst2 ?_
        clear hK K hst hbn
        have hst := hst2
        clear hst2
        simp only [Act.put, List.setIfInBounds_toArray, List.set_cons_zero, List.set_cons_succ]
        iterate 1 (refine line_read rfl (by kernel_rfl) (fun K hK => ?_); go_big_quiet_op; refine hK _ ?_; clear hK K)
        refine line_nil ?_
        have bb := btr b1 hst.out
        have y1 := cell_keep bb d1
        have y2 := cell_keep bb d2
        have y3 := cell_keep bb d3
        clear hst inst q0 p0 b1 F N d0 d1 d2 d3
        go_wp2_with fail
        refine (l1In_use _ _).mono ?_
        rintro r w' ⟨rfl, rfl⟩
        go_wp2_with fail
        refine (l1In_mat _ _).mono ?_
        rintro r w' ⟨rfl, rfl⟩
        go_wp2_with fail
        refine (l2Is_any _ _).mono ?_
        rintro r w' ⟨rfl, rfl⟩
        go_wp2_with fail
        go_ret
        exact ⟨rfl, bb⟩
    · have h1 := M.normF_form h0 hq
      rw [decide_eq_false hq] at Q
      rw [M.tlsaF_norm (by rw [h1]; omega), h1]
      generalize M.bs (M.nrm n.data.toList) = R at *
      clear h0 hm hq hL h1
      go_enter Tryd.func55, Tryd.ntmps55
      go_wp2_with fail
      refine (F _).mono ?_
      rintro r u1 ⟨rfl, b1⟩
      have p0 := cell_keep b1 d0
      go_wp2_with fail
      refine wp_region_line (Bel u1) [(0, true), (1, true), (2, true), (3, true), (5, true), (6, true), (7, true), (8, true), (4, false), (9, true)] (by kernel_rfl) (by kernel_rfl) (fun _ _ d _ _ h => by cases d <;> exact h) (Bel.drew u1) ?_
      have hst := Bel.drew u1
      have inst : Nonempty (Of (Bel u1)) := ⟨⟨_, hst⟩⟩
      have q0 := bel_cell p0
      iterate 8 (refine line_read rfl (by kernel_rfl) (fun K hK => ?_); go_big_quiet_op; refine hK _ ?_; clear hK K)
      refine line_alone rfl (by kernel_rfl) (fun K hK => ?_)
      refine call_wp (args := #[.string n]) rfl (by kernel_rfl) (by kernel_rfl) (N _) (fun wn hbn => ?_)
      have hst2 := hst.on hbn
      refine hK _ _ hst2 ?_
      clear hK K hst hbn
      have hst := hst2
      clear hst2
      simp only [Act.put, List.setIfInBounds_toArray, List.set_cons_zero, List.set_cons_succ]
      iterate 1 (refine line_read rfl (by kernel_rfl) (fun K hK => ?_); go_big_quiet_op; refine hK _ ?_; clear hK K)
      refine line_nil ?_
      have bb := btr b1 hst.out
      have y1 := cell_keep bb d1
      have y2 := cell_keep bb d2
      have y3 := cell_keep bb d3
      clear hst inst q0 p0 b1 F N d0 d1 d2 d3
      go_wp2_with fail
      go_ret
      exact ⟨rfl, bb⟩
  · have h1 := M.normF_no h0
    rw [M.tlsaF_norm (by rw [h1]; exact h0), h1]
    clear h1
    generalize M.nameF n.data.toList = c at *
    go_enter Tryd.func55, Tryd.ntmps55
    go_wp2_with fail
    refine (F _).mono ?_
    rintro r u1 ⟨rfl, b1⟩
    go_wp2_with fail
    go_ret
    exact ⟨rfl, b1⟩
theorem l5Tlsa_at (g o : Nat) (q : TlsaD) (w : World) (hn : q.n.size ≤ maxLen)
    (d0 : w.cell? ⟨g, o, none⟩ = some (.string q.n)) (d1 : w.cell? ⟨g, o + 1, none⟩ = some (.int .i64 q.u)) (d2 : w.cell? ⟨g, o + 2, none⟩ = some (.int .i64 q.m)) (d3 : w.cell? ⟨g, o + 3, none⟩ = some (.int .i64 q.v)) :
    Calls Tryd.prog 55 #[.pointer (some ⟨g, o, none⟩)] w fun e w' => e = .returned (.int .i64 q.f) ∧ Below w.heap.size w w' := l5Tlsa_cells g o q.n q.u q.m q.v w hn d0 d1 d2 d3
theorem src_new4 {P : Program} (w : World) (p : TlsaD) (t tx e' : TypeId) (hk : P.underlying tx = some (.slice e')) :
    Go.Src P 4 tx (.slice (some ⟨w.heap.size, 0, none⟩) 1 1) 1 p.vals (w.alloc (.cells #[.string p.n, .int .i64 p.u, .int .i64 p.m, .int .i64 p.v] t)) := by
  refine Go.Src.ofSlice _ hk _ _ _ _ rfl (fun j u hu => ?_) p.oneCell
  have A : At w.heap.size p.vals (w.alloc (.cells #[.string p.n, .int .i64 p.u, .int .i64 p.m, .int .i64 p.v] t)) := At.new w p.vals t
  rw [Addr.add_lit, Nat.zero_add]
  exact A.cell j u hu
theorem usable_skip {l : List UInt8} {ts : List TlsaD} {k : Nat} (hk : k < ts.length) (h : useT l (ts[k]?.getD tls0) = false) : usable l (ts.take (k + 1)) = usable l (ts.take k) := by rw [usable_next hk, h]; simp
theorem usable_take {l : List UInt8} {ts : List TlsaD} {k : Nat} (hk : k < ts.length) (h : useT l (ts[k]?.getD tls0) = true) : usable l (ts.take (k + 1)) = usable l (ts.take k) ++ [ts[k]?.getD tls0] := by rw [usable_next hk, h]; rfl
theorem useT_f {l : List UInt8} {q : TlsaD} (h : q.f ≠ 0) : useT l q = false := by unfold useT; rw [decide_eq_false h]; rfl
theorem useT_u {l : List UInt8} {q : TlsaD} (h : q.u ≠ 3) : useT l q = false := by unfold useT; rw [decide_eq_false h]; simp
theorem useT_n {l : List UInt8} {q : TlsaD} (h : q.nm ≠ l) : useT l q = false := by unfold useT; rw [decide_eq_false h]; simp
theorem useT_yes {l : List UInt8} {q : TlsaD} (h : q.f = 0) (h1 : q.u = 3) (h2 : q.nm = l) : useT l q = true := by unfold useT; rw [decide_eq_true h, decide_eq_true h1, decide_eq_true h2]; rfl
/-- What has been taken so far; the block of a result, where there is one. -/
structure UseR (W : World) (lo : Nat) (Z : Option Nat) (us : List TlsaD) (v : Value) (wr : World) : Prop where
  own : OwnT wr lo v us
  bel : Below W.heap.size W wr
  res : ∀ g, Z = some g → At g [.int .i64 0, .slice none 0 0] wr ∧ g < lo
theorem UseR.on {W wr wn : World} {lo : Nat} {Z : Option Nat} {us : List TlsaD} {v : Value} (h : UseR W lo Z us v wr) (hb : Below wr.heap.size wr wn) : UseR W lo Z us v wn := ⟨h.own.below hb, btr h.bel hb, fun g e => ⟨(h.res g e).1.on hb, (h.res g e).2⟩⟩
theorem UseR.cast {W wr : World} {lo : Nat} {Z : Option Nat} {us vs : List TlsaD} {v : Value} (h : UseR W lo Z us v wr) (e : vs = us) : UseR W lo Z vs v wr := e ▸ h
theorem UseR.alloc {W wr : World} {lo : Nat} {Z : Option Nat} {us : List TlsaD} {v : Value} (h : UseR W lo Z us v wr) (o : Obj) : UseR W lo Z us v (wr.alloc o) := h.on (bal (Below.refl _ _) o)
theorem UseR.app {W wr w3 : World} {lo : Nat} {Z : Option Nat} {us : List TlsaD} {v v3 : Value} {o : Obj} {q : TlsaD} (h : UseR W lo Z us v wr) (hl : W.heap.size ≤ lo) (hown : Own w3 lo 4 v3 (us.length + 1) (flatT us ++ q.vals)) (hg : (wr.alloc o).grownBy w3 v.ownBlock) : UseR W lo Z (us ++ [q]) v3 w3 := by
  refine ⟨?_, (bal h.bel o).grown hg (bal h.bel o).size (fun k e => ?_), fun g e => ⟨((h.res g e).1.alloc o).kept hg (fun e2 => ?_), (h.res g e).2⟩⟩
  · unfold OwnT
    rw [flatT_append, List.length_append]
    simpa [flatT] using hown
  · have := (Own.lt h.own k e).1
    omega
  · have := (Own.lt h.own _ e2.symm).1
    have := (h.res g e).2
    omega
/-- Supplied keys in memory of their own were answered. -/
def TlsasIn (us : List TlsaD) (w : World) (e : Ending) (w' : World) : Prop := ∃ x n c, e = .returned (.slice x n c) ∧ OwnT w' w.heap.size (.slice x n c) us ∧ Below w.heap.size w w'
def TlsasRes (C : Int) (us : List TlsaD) (w : World) (e : Ending) (w' : World) : Prop := ∃ x n c, e = .returned (.agg #[.int .i64 C, .slice x n c]) ∧ OwnT w' w.heap.size (.slice x n c) us ∧ Below w.heap.size w w'
set_option maxHeartbeats 4000000 in
theorem l10Usable_any (a : Option Addr) (len cap B : Nat) (ts : List TlsaD) (s : ByteArray) (w : World) (hR : TRow w B a len cap ts) (hB : B ≤ w.heap.size) (hl8 : len ≤ 8) :
    Calls Tryd.prog 33 #[.slice a len cap, .string s] w (TlsasIn (usable s.data.toList ts) w) := by
  have hL := Lib.hid hR.length
  have hm := hR.most
  have hfit := hR.fits
  unfold maxLen at hm
  obtain ⟨i0, hi0, hz0, hz1, hz2⟩ := info_parts tlsa_info
  have HR := Lib.hid hR
  clear hR
  generalize hl : s.data.toList = l at *
  have T0 : UseR w w.heap.size none (usable l (ts.take 0)) (.slice (some ⟨w.heap.size, 0, none⟩) 0 0) (w.alloc (.cells #[] 62)) := ⟨Own.made w #[] 62 0 (by omega) (by simp) rfl, bal (Below.refl _ _) _, fun _ e => by cases e⟩
  go_enter Tryd.func33, Tryd.ntmps33
  go_wp2_with fail
  generalize w.alloc (.cells #[] 62) = W1 at *
  go_loopw [5, 6] (fun v i wr => ∃ k : Nat, k ≤ len ∧ i = .int .i64 k ∧ UseR w w.heap.size none (usable l (ts.take k)) v wr) (fun _ i => fun _ => len - (intOf i).toNat)
  case atStart => exact ⟨0, Nat.zero_le _, rfl, T0⟩
  case round =>
    obtain ⟨k, hk, rfl, hT⟩ := hrel
    clear T0
    have hlo := usable_le l (ts.take k)
    have htk : (ts.take k).length ≤ 8 := by rw [List.length_take]; omega
    have hus : (usable l (ts.take k)).length ≤ 8 := by omega
    have hbs := hT.bel.size
    obtain ⟨va, vc, hva, -⟩ := hT.own.form
    subst hva
    by_cases hlt : k < len
    · have hkt : k < ts.length := by rw [hL.out]; exact hlt
      obtain ⟨b, off, ha, hbB, c0, c1, c2, c3⟩ := (HR.out.below (hT.bel.mono hB)).at' hlt
      first | subst ha | (injection ha with ha; injection ha with ea eb; subst ea; subst eb)
      have hqn := HR.out.name hlt
      have SK := Lib.hid (usable_skip (l := l) hkt)
      have TK := Lib.hid (usable_take (l := l) hkt)
      generalize usable l (ts.take k) = us at *
      generalize ts[k]?.getD tls0 = q at *
      have Q := text_beq q.n s
      clear hlo htk hkt
      have F := l5Tlsa_at b (off + k * 4) q wr hqn c0 c1 c2 c3
      by_cases h1 : q.f = 0
      case neg =>
        have E := Lib.hid (SK.out (useT_f h1))
        have g0 : (q.f == 0) = false := by simpa using h1
        generalize q.f = qf at *
        clear Q SK TK
        go_wp2_with fail
        refine F.mono ?_
        rintro r u1 ⟨rfl, b1⟩
        have d0 := cell_keep b1 c0
        have d1 := cell_keep b1 c1
        have d2 := cell_keep b1 c2
        have d3 := cell_keep b1 c3
        have T1 := hT.on b1
        have hsz := T1.bel.size
        clear c0 c1 c2 c3 hT b1 F
        have T2 := Lib.hid ((T1).cast E.out)
        clear d0
        go_wp2_with fail
        go_roundw
        case rel => exact ⟨k + 1, by omega, by go_num, T2.out⟩
        case measure => simp [intOf]; omega
      rw [h1] at F
      by_cases h2 : q.u = 3
      case neg =>
        have E := Lib.hid (SK.out (useT_u h2))
        have g1 : (q.u == 3) = false := by simpa using h2
        clear Q SK TK
        go_wp2_with fail
        refine F.mono ?_
        rintro r u1 ⟨rfl, b1⟩
        have d0 := cell_keep b1 c0
        have d1 := cell_keep b1 c1
        have d2 := cell_keep b1 c2
        have d3 := cell_keep b1 c3
        have T1 := hT.on b1
        have hsz := T1.bel.size
        clear c0 c1 c2 c3 hT b1 F
        have T2 := Lib.hid ((T1).cast E.out)
        go_wp2_with fail
        go_roundw
        case rel => exact ⟨k + 1, by omega, by go_num, T2.out⟩
        case measure => simp [intOf]; omega
      have g1 : (q.u == 3) = true := by simpa using h2
      by_cases h3 : q.n.data.toList = s.data.toList
      case neg =>
        have E := Lib.hid (SK.out (useT_n (fun e => h3 (e.trans hl.symm))))
        rw [decide_eq_false h3] at Q
        clear SK TK h2
        go_wp2_with fail
        refine F.mono ?_
        rintro r u1 ⟨rfl, b1⟩
        have d0 := cell_keep b1 c0
        have d1 := cell_keep b1 c1
        have d2 := cell_keep b1 c2
        have d3 := cell_keep b1 c3
        have T1 := hT.on b1
        have hsz := T1.bel.size
        clear c0 c1 c2 c3 hT b1 F
        have T2 := Lib.hid ((T1).cast E.out)
        go_wp2_with fail
        go_roundw
        case rel => exact ⟨k + 1, by omega, by go_num, T2.out⟩
        case measure => simp [intOf]; omega
      have E := Lib.hid (TK.out (useT_yes h1 h2 (h3.trans hl)))
      rw [decide_eq_true h3] at Q
      clear SK TK h1 g1 h3
      obtain ⟨qn, qu, qm, qv⟩ := q
      (try dsimp only at c0 c1 c2 c3 F Q h2)
      subst h2
      go_wp2_with fail
      refine F.mono ?_
      rintro r u1 ⟨rfl, b1⟩
      have d0 := cell_keep b1 c0
      have d1 := cell_keep b1 c1
      have d2 := cell_keep b1 c2
      have d3 := cell_keep b1 c3
      have T1 := hT.on b1
      have hsz := T1.bel.size
      clear c0 c1 c2 c3 hT b1 F
      have hO := (T1).own
      go_wp2_with (at_builtin; refine wpList_append_src _ rfl (.tmp 36) (.tmp 41) 29 29 rfl w.heap.size 62 i0 (TV tls0) 4 40 Tryd.underlying29 hi0 hz0 hz1 hz2 rfl _ _ _ rfl (Own.alloc hO _) _ 1 (TlsaD.mk qn 3 qm qv).vals rfl (src_new4 _ (TlsaD.mk qn 3 qm qv) _ _ _ Tryd.underlying29) (by simp only [maxLen]; omega) (by omega) (by simp; omega) ?_; intro v3 w3 hown hgrow hat)
      have T2 := Lib.hid (((T1).app (Nat.le_refl _) hown hgrow).cast E.out)
      clear hown hgrow hat
      go_wp2_with fail
      go_roundw
      case rel => exact ⟨k + 1, by omega, by go_num, T2.out⟩
      case measure => simp [intOf]; omega
    · obtain rfl : k = len := by omega
      have e : ts.take k = ts := List.take_of_length_le (by rw [hL.out]; omega)
      have hO := hT.own
      have hb := hT.bel
      rw [e] at hO
      have H := Lib.hid (show TlsasIn (usable l ts) w (.returned (.slice va (usable l (ts.take k)).length vc)) wr from ⟨va, (usable l ts).length, vc, by rw [e], hO, hb⟩)
      clear hT hO hb
      go_wp2_with fail
      go_ret
      exact H.out
theorem specUsableOf_any (a : Option Addr) (len cap B : Nat) (ts : List TlsaD) (s : ByteArray) (w : World) (hR : TRow w B a len cap ts) (hB : B ≤ w.heap.size) (hs : s.size ≤ maxLen) :
    Calls Tryd.prog 12 #[.slice a len cap, .string s] w (TlsasRes (usableC ts s.data.toList) (usableR ts s.data.toList) w) := by
  have hl := hR.length
  have hm := hR.most
  have hfit := hR.fits
  unfold maxLen at hm
  have b0 := bal (Below.refl _ w) (.cells #[.int .i64 0, .slice none 0 0] 37)
  have A0 := At.new w [.int .i64 0, .slice none 0 0] 37
  have N0 := fun w => l5Fault_any s w hs
  by_cases h1 : 8 < len
  · have e := usableC_many (ts := ts) (l := s.data.toList) (by omega)
    rw [usableR_no (by rw [e]; omega), e]
    have h1' : (8 : Int) < len := by omega
    clear hR hl e N0
    go_enter Tryd.func12, Tryd.ntmps12
    go_wp2_with fail
    refine bodyPost_ret (v := .agg #[.int .i64 2, .slice none 0 0]) (by simp [results, Tryd.results12, go_sem]) rfl ⟨none, 0, 0, rfl, OwnT.nil _ _, ?_⟩
    exact bal (Below.refl _ _) _
  have h1' : ¬ (8 : Int) < len := by omega
  have h1t : ¬ 8 < ts.length := by omega
  by_cases h2 : M.nameF s.data.toList = 0
  case neg =>
    have e := usableC_name (l := s.data.toList) h1t
    rw [usableR_no (by rw [e]; exact h2), e]
    generalize M.nameF s.data.toList = c at *
    have g0 : (c == 0) = false := by simpa using h2
    have g1 : (c != 0) = true := by simp [h2]
    clear hR hl e h1t
    go_enter Tryd.func12, Tryd.ntmps12
    go_wp2_with fail
    generalize w.alloc (.cells #[.int .i64 0, .slice none 0 0] 37) = W0 at *
    refine (N0 _).mono ?_
    rintro r u1 ⟨rfl, b1⟩
    have A1 := A0.on b1
    have q0 := A1.cell 0 _ rfl
    have q1 := A1.cell 1 _ rfl
    have z0 := A1.free 0 _ rfl
    have z1 := A1.free 1 _ rfl
    have B1 := btr b0 b1
    go_wp2_with fail
    refine bodyPost_ret (v := .agg #[.int .i64 c, .slice none 0 0]) (by simp [results, Tryd.results12, go_sem, q0, q1]) rfl ⟨none, 0, 0, rfl, OwnT.nil _ _, ?_⟩
    exact (by (iterate 2 (refine bset ?_ (by dsimp only; omega) _)); exact B1)
  have e : usableC ts s.data.toList = 0 := (usableC_name h1t).trans h2
  rw [usableR_yes e, e]
  rw [h2] at N0
  obtain ⟨h20, -⟩ := M.nameF_zero h2
  have hsz : s.data.toList.length = s.size := by simp
  have NT := fun w => l5Normal_any s w (by omega)
  have US := Lib.hid (fun (w1 : World) (h : Below w.heap.size w w1) => l10Usable_any a len cap B ts (M.bs (M.nrm s.data.toList)) w1 (hR.below (h.mono hB)) (Nat.le_trans hB h.size) (by omega))
  rw [M.bs_list] at US
  generalize M.bs (M.nrm s.data.toList) = S2 at *
  generalize usable (M.nrm s.data.toList) ts = us at *
  have lt0 := A0.lt (by simp)
  clear hR hl e h1t h2 h20 hsz
  go_enter Tryd.func12, Tryd.ntmps12
  go_wp2_with fail
  generalize w.alloc (.cells #[.int .i64 0, .slice none 0 0] 37) = W0 at *
  refine (N0 _).mono ?_
  rintro r u1 ⟨rfl, b1⟩
  go_wp2_with fail
  refine (NT _).mono ?_
  rintro r u2 ⟨rfl, b2⟩
  have B2 := btr b0 (btr b1 b2)
  have lt2 : w.heap.size < u2.heap.size := Nat.lt_of_lt_of_le lt0 (btr b1 b2).size
  go_wp2_with fail
  refine (US.out _ B2).mono ?_
  rintro r u3 ⟨xa, xn, xc, rfl, O3, b3⟩
  have A3 := A0.on (btr b1 (btr b2 b3))
  have q0 := A3.cell 0 _ rfl
  have q1 := A3.cell 1 _ rfl
  have z0 := A3.free 0 _ rfl
  have z1 := A3.free 1 _ rfl
  have HB := Lib.hid (btr B2 b3)
  have HO := Lib.hid O3
  clear A0 A3 b0 b1 b2 b3 B2 O3 N0 NT US
  go_wp2_with fail
  refine bodyPost_ret (v := .agg #[.int .i64 0, .slice xa xn xc]) (by simp [results, Tryd.results12, go_sem, q0, q1]) rfl ⟨_, _, xc, rfl, ?_, (by (iterate 2 (refine bset ?_ (by dsimp only; omega) _)); exact HB.out)⟩
  refine Own.setCell (Own.setCell (OwnT.less HO.out (by omega)) (fun k hk e => ?_) _) (fun k hk e => ?_) _
  · have := (OwnT.lt HO.out k hk).1; dsimp only at e; omega
  · have := (OwnT.lt HO.out k hk).1; dsimp only at e; omega
set_option maxHeartbeats 4000000 in
theorem implUsableOf_any (a : Option Addr) (len cap B : Nat) (ts : List TlsaD) (s : ByteArray) (w : World) (hR : TRow w B a len cap ts) (hB : B ≤ w.heap.size) (hs : s.size ≤ maxLen) :
    Calls Tryd.prog 14 #[.slice a len cap, .string s] w (TlsasRes (usableC ts s.data.toList) (usableR ts s.data.toList) w) := by
  have hL := Lib.hid hR.length
  have hm := hR.most
  have hfit := hR.fits
  unfold maxLen at hm
  have b0 := bal (Below.refl _ w) (.cells #[.int .i64 0, .slice none 0 0] 37)
  have A0 := At.new w [.int .i64 0, .slice none 0 0] 37
  have N0 := fun w => implNameFault_any s w hs
  by_cases h1 : 8 < len
  · have e := usableC_many (ts := ts) (l := s.data.toList) (by rw [hL.out]; omega)
    rw [usableR_no (by rw [e]; omega), e]
    have h1' : (8 : Int) < len := by omega
    clear hR e N0
    go_enter Tryd.func14, Tryd.ntmps14
    go_wp2_with fail
    refine bodyPost_ret (v := .agg #[.int .i64 2, .slice none 0 0]) (by simp [results, Tryd.results14, go_sem]) rfl ⟨none, 0, 0, rfl, OwnT.nil _ _, ?_⟩
    exact bal (Below.refl _ _) _
  have h1' : ¬ (8 : Int) < len := by omega
  have h1t : ¬ 8 < ts.length := by rw [hL.out]; omega
  by_cases h2 : M.nameF s.data.toList = 0
  case neg =>
    have e := usableC_name (l := s.data.toList) h1t
    rw [usableR_no (by rw [e]; exact h2), e]
    generalize M.nameF s.data.toList = c at *
    have g0 : (c == 0) = false := by simpa using h2
    have g1 : (c != 0) = true := by simp [h2]
    clear hR e h1t
    go_enter Tryd.func14, Tryd.ntmps14
    go_wp2_with fail
    generalize w.alloc (.cells #[.int .i64 0, .slice none 0 0] 37) = W0 at *
    refine (N0 _).mono ?_
    rintro r u1 ⟨rfl, rfl⟩
    have q0 := A0.cell 0 _ rfl
    have q1 := A0.cell 1 _ rfl
    have z0 := A0.free 0 _ rfl
    have z1 := A0.free 1 _ rfl
    have B1 := b0
    go_wp2_with fail
    refine bodyPost_ret (v := .agg #[.int .i64 c, .slice none 0 0]) (by simp [results, Tryd.results14, go_sem, q0, q1]) rfl ⟨none, 0, 0, rfl, OwnT.nil _ _, ?_⟩
    exact (by (iterate 2 (refine bset ?_ (by dsimp only; omega) _)); exact B1)
  have e : usableC ts s.data.toList = 0 := (usableC_name h1t).trans h2
  rw [usableR_yes e, e]
  rw [h2] at N0
  obtain ⟨h20, hmd⟩ := M.nameF_zero h2
  have hsz : s.data.toList.length = s.size := by simp
  have NT := fun w => normalText_any s w (by omega) hmd
  have HS2 : (M.bs (M.nrm s.data.toList)).data.toList = M.nrm s.data.toList := M.bs_list _
  generalize M.bs (M.nrm s.data.toList) = S2 at *
  generalize hl : M.nrm s.data.toList = l at *
  have lt0 := A0.lt (by simp)
  have hl8 : len ≤ 8 := by omega
  have HR := Lib.hid hR
  clear hR e h1t h2 h20 hsz hl hmd
  obtain ⟨i0, hi0, hz0, hz1, hz2⟩ := info_parts tlsa_info
  have hmk : ∀ W : World, (Instr.makeSlice 29 (.int .i64 0) (.int .i64 (len : Int))).run Tryd.prog W = .ok (.slice (some ⟨W.heap.size, 0, none⟩) 0 len) (W.alloc (.cells (madeCells (TV tls0).cells (len * 4)) 62)) := by
    intro W
    have := run_make (P := Tryd.prog) W 29 62 i0 (TV tls0) Tryd.underlying29 hi0 hz0 .i64 .i64 0 len (by omega) (by omega) (by rw [hz2]; omega) (by omega)
    simpa [hz1] using this
  have hms := size_madeCells (TV tls0).cells (len * 4)
  generalize madeCells (TV tls0).cells (len * 4) = mc at *
  have T00 : ∀ u : World, Below w.heap.size w u → At w.heap.size [.int .i64 0, .slice none 0 0] u → UseR w (w.heap.size + 1) (some w.heap.size) (usable l (ts.take 0)) (.slice (some ⟨u.heap.size, 0, none⟩) 0 len) (u.alloc (.cells mc 62)) := fun u hb hA => ⟨Own.made u mc 62 len (hA.lt (by simp)) (by simp only [maxLen]; omega) hms, bal hb _, fun g e => by injection e with e; subst e; exact ⟨hA.alloc _, by omega⟩⟩
  go_enter Tryd.func14, Tryd.ntmps14
  go_wp2_with fail
  generalize w.alloc (.cells #[.int .i64 0, .slice none 0 0] 37) = W0 at *
  refine (N0 _).mono ?_
  rintro r u1 ⟨rfl, rfl⟩
  go_wp2_with fail
  refine (NT _).mono ?_
  rintro r u2 ⟨rfl, b2⟩
  have T0 := T00 u2 (btr b0 b2) (A0.on b2)
  clear T00 A0 b0 b2 N0 NT hms
  go_wp2_with fail
  generalize u2.alloc (.cells mc 62) = W1 at *
  go_loopw [7, 27] (fun v i wr => ∃ k : Nat, k ≤ len ∧ i = .int .i64 k ∧ UseR w (w.heap.size + 1) (some w.heap.size) (usable l (ts.take k)) v wr) (fun _ i => fun _ => len - (intOf i).toNat)
  case atStart => exact ⟨0, Nat.zero_le _, rfl, T0⟩
  case round =>
    obtain ⟨k, hk, rfl, hT⟩ := hrel
    clear T0
    have hlo := usable_le l (ts.take k)
    have htk : (ts.take k).length ≤ 8 := by rw [List.length_take]; omega
    have hus : (usable l (ts.take k)).length ≤ 8 := by omega
    have hbs := hT.bel.size
    obtain ⟨va, vc, hva, -⟩ := hT.own.form
    subst hva
    by_cases hlt : k < len
    · have hkt : k < ts.length := by rw [hL.out]; exact hlt
      obtain ⟨b, off, ha, hbB, c0, c1, c2, c3⟩ := (HR.out.below (hT.bel.mono hB)).at' hlt
      first | subst ha | (injection ha with ha; injection ha with ea eb; subst ea; subst eb)
      have hqn := HR.out.name hlt
      have SK := Lib.hid (usable_skip (l := l) hkt)
      have TK := Lib.hid (usable_take (l := l) hkt)
      generalize usable l (ts.take k) = us at *
      generalize ts[k]?.getD tls0 = q at *
      have Q := text_beq q.n S2
      clear hlo htk hkt
      have F := fun w' : World => (show Calls Tryd.prog 37 #[TV q] w' fun e w'' => e = .returned (.int .i64 q.f) ∧ Below w'.heap.size w' w'' from implTlsaFault_any q.n q.u q.m q.v w' hqn)
      by_cases h1 : q.f = 0
      case neg =>
        have E := Lib.hid (SK.out (useT_f h1))
        have g0 : (q.f == 0) = false := by simpa using h1
        generalize q.f = qf at *
        clear Q SK TK
        have A1 : At wr.heap.size (TlsaD.vals q) (wr.alloc (.cells #[.string q.n, .int .i64 q.u, .int .i64 q.m, .int .i64 q.v] 62)) := At.new wr (TlsaD.vals q) 62
        have TA := hT.alloc (.cells #[.string q.n, .int .i64 q.u, .int .i64 q.m, .int .i64 q.v] 62)
        clear hT
        go_wp2_with fail
        generalize wr.alloc (.cells #[.string q.n, .int .i64 q.u, .int .i64 q.m, .int .i64 q.v] 62) = v0 at *
        generalize wr.heap.size = gb at *
        refine (F _).mono ?_
        rintro r u1 ⟨rfl, b1⟩
        have A2 := A1.on b1
        have d0 := A2.cell 0 _ rfl
        have d1 := A2.cell 1 _ rfl
        have d2 := A2.cell 2 _ rfl
        have d3 := A2.cell 3 _ rfl
        have T1 := TA.on b1
        have hsz : w.heap.size + 1 ≤ u1.heap.size := (T1.res _ rfl).1.lt (by simp)
        clear c0 c1 c2 c3 A1 A2 TA b1 F
        have T2 := Lib.hid ((T1).cast E.out)
        clear d0
        go_wp2_with fail
        go_roundw
        case rel => exact ⟨k + 1, by omega, by go_num, T2.out⟩
        case measure => simp [intOf]; omega
      rw [h1] at F
      by_cases h2 : q.u = 3
      case neg =>
        have E := Lib.hid (SK.out (useT_u h2))
        have g1 : (q.u == 3) = false := by simpa using h2
        clear Q SK TK
        have A1 : At wr.heap.size (TlsaD.vals q) (wr.alloc (.cells #[.string q.n, .int .i64 q.u, .int .i64 q.m, .int .i64 q.v] 62)) := At.new wr (TlsaD.vals q) 62
        have TA := hT.alloc (.cells #[.string q.n, .int .i64 q.u, .int .i64 q.m, .int .i64 q.v] 62)
        clear hT
        go_wp2_with fail
        generalize wr.alloc (.cells #[.string q.n, .int .i64 q.u, .int .i64 q.m, .int .i64 q.v] 62) = v0 at *
        generalize wr.heap.size = gb at *
        refine (F _).mono ?_
        rintro r u1 ⟨rfl, b1⟩
        have A2 := A1.on b1
        have d0 := A2.cell 0 _ rfl
        have d1 := A2.cell 1 _ rfl
        have d2 := A2.cell 2 _ rfl
        have d3 := A2.cell 3 _ rfl
        have T1 := TA.on b1
        have hsz : w.heap.size + 1 ≤ u1.heap.size := (T1.res _ rfl).1.lt (by simp)
        clear c0 c1 c2 c3 A1 A2 TA b1 F
        have T2 := Lib.hid ((T1).cast E.out)
        go_wp2_with fail
        go_roundw
        case rel => exact ⟨k + 1, by omega, by go_num, T2.out⟩
        case measure => simp [intOf]; omega
      have g1 : (q.u == 3) = true := by simpa using h2
      by_cases h3 : q.n.data.toList = S2.data.toList
      case neg =>
        have E := Lib.hid (SK.out (useT_n (fun e => h3 (e.trans HS2.symm))))
        rw [decide_eq_false h3] at Q
        clear SK TK h2
        have A1 : At wr.heap.size (TlsaD.vals q) (wr.alloc (.cells #[.string q.n, .int .i64 q.u, .int .i64 q.m, .int .i64 q.v] 62)) := At.new wr (TlsaD.vals q) 62
        have TA := hT.alloc (.cells #[.string q.n, .int .i64 q.u, .int .i64 q.m, .int .i64 q.v] 62)
        clear hT
        go_wp2_with fail
        generalize wr.alloc (.cells #[.string q.n, .int .i64 q.u, .int .i64 q.m, .int .i64 q.v] 62) = v0 at *
        generalize wr.heap.size = gb at *
        refine (F _).mono ?_
        rintro r u1 ⟨rfl, b1⟩
        have A2 := A1.on b1
        have d0 := A2.cell 0 _ rfl
        have d1 := A2.cell 1 _ rfl
        have d2 := A2.cell 2 _ rfl
        have d3 := A2.cell 3 _ rfl
        have T1 := TA.on b1
        have hsz : w.heap.size + 1 ≤ u1.heap.size := (T1.res _ rfl).1.lt (by simp)
        clear c0 c1 c2 c3 A1 A2 TA b1 F
        have T2 := Lib.hid ((T1).cast E.out)
        go_wp2_with fail
        go_roundw
        case rel => exact ⟨k + 1, by omega, by go_num, T2.out⟩
        case measure => simp [intOf]; omega
      have E := Lib.hid (TK.out (useT_yes h1 h2 (h3.trans HS2)))
      rw [decide_eq_true h3] at Q
      clear SK TK h1 g1 h3
      obtain ⟨qn, qu, qm, qv⟩ := q
      (try dsimp only at c0 c1 c2 c3 F Q h2)
      subst h2
      have A1 : At wr.heap.size (TlsaD.vals ⟨qn, 3, qm, qv⟩) (wr.alloc (.cells #[.string qn, .int .i64 3, .int .i64 qm, .int .i64 qv] 62)) := At.new wr (TlsaD.vals ⟨qn, 3, qm, qv⟩) 62
      have TA := hT.alloc (.cells #[.string qn, .int .i64 3, .int .i64 qm, .int .i64 qv] 62)
      clear hT
      go_wp2_with fail
      generalize wr.alloc (.cells #[.string qn, .int .i64 3, .int .i64 qm, .int .i64 qv] 62) = v0 at *
      generalize wr.heap.size = gb at *
      refine (F _).mono ?_
      rintro r u1 ⟨rfl, b1⟩
      have A2 := A1.on b1
      have d0 := A2.cell 0 _ rfl
      have d1 := A2.cell 1 _ rfl
      have d2 := A2.cell 2 _ rfl
      have d3 := A2.cell 3 _ rfl
      have T1 := TA.on b1
      have hsz : w.heap.size + 1 ≤ u1.heap.size := (T1.res _ rfl).1.lt (by simp)
      clear c0 c1 c2 c3 A1 A2 TA b1 F
      have hO := (T1).own
      go_wp2_with (at_builtin; refine wpList_append_src _ rfl (.tmp 45) (.tmp 47) 29 29 rfl (w.heap.size + 1) 62 i0 (TV tls0) 4 40 Tryd.underlying29 hi0 hz0 hz1 hz2 rfl _ _ _ rfl (Own.alloc hO _) _ 1 (TlsaD.mk qn 3 qm qv).vals rfl (src_new4 _ (TlsaD.mk qn 3 qm qv) _ _ _ Tryd.underlying29) (by simp only [maxLen]; omega) (by omega) (by simp; omega) ?_; intro v3 w3 hown hgrow hat)
      have T2 := Lib.hid (((T1).app (Nat.le_succ _) hown hgrow).cast E.out)
      clear hown hgrow hat
      go_wp2_with fail
      go_roundw
      case rel => exact ⟨k + 1, by omega, by go_num, T2.out⟩
      case measure => simp [intOf]; omega
    · obtain rfl : k = len := by omega
      have e : ts.take k = ts := List.take_of_length_le (by rw [hL.out]; omega)
      have hO := hT.own
      have hb := hT.bel
      have hr := (hT.res _ rfl).1
      rw [e] at hO
      have hn : (usable l (ts.take k)).length = (usable l ts).length := by rw [e]
      have q0 := hr.cell 0 _ rfl
      have q1 := hr.cell 1 _ rfl
      have z0 := hr.free 0 _ rfl
      have z1 := hr.free 1 _ rfl
      clear hT hr hlo hus
      generalize (usable l (ts.take k)).length = nn at *
      subst hn
      generalize usable l ts = us at *
      have HB := Lib.hid hb
      have HO := Lib.hid hO
      clear hO hb
      go_wp2_with fail
      refine bodyPost_ret (v := .agg #[.int .i64 0, .slice va us.length vc]) (by simp [results, Tryd.results14, go_sem, q0, q1]) rfl ⟨_, _, vc, rfl, ?_, (by (iterate 2 (refine bset ?_ (by dsimp only; omega) _)); exact HB.out)⟩
      refine Own.setCell (Own.setCell (OwnT.less HO.out (by omega)) (fun k hk e => ?_) _) (fun k hk e => ?_) _
      · have := (OwnT.lt HO.out k hk).1; dsimp only at e; omega
      · have := (OwnT.lt HO.out k hk).1; dsimp only at e; omega
end Go.Proofs.YtcolecidbalmhaaDoor
