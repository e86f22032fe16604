/- Texts of this seat that several laws rest on, laid into one. Conditions: as each theorem states. -/
import Derived.Test.YtlodhleihnlchaaGreatDoorQ0
import Derived.Test.YtlodhleihnlchaaGreatDoorQ2
import Derived.Test.YtlodhleihnlchaaGreatDoorQ3
import Derived.Test.YtlodhleihnlchaaGreatDoorQ4
import Derived.Test.YtlodhleihnlchaaGreatDoorQ5
import Derived.Test.YtlodhleihnlchaaGreatDoorQ7
import Derived.Test.YtlodhleihnlchaaGreatDoorQ8
import Derived.DeepKeys4
namespace Go.Proofs.YtlodhleihnlchaaGreatDoor
open Go.RowKit
set_option maxRecDepth 100000
set_option linter.unusedVariables false

theorem dane_none {ts : List TlsaD} {p : Int} {k : Nat} (hk : k < ts.length) (h : daneB (ts.take k) p = false) (h1 : (ts[k]?.getD tls0).v ≠ M.valM p (ts[k]?.getD tls0).m) : daneB (ts.take (k + 1)) p = false := by
  unfold daneB at *
  rw [List.take_succ_eq_append_getElem hk, List.any_append, h]
  rw [List.getElem?_eq_getElem hk] at h1
  simpa using h1
theorem dane_some {ts : List TlsaD} {p : Int} {k : Nat} (hk : k < ts.length) (h1 : (ts[k]?.getD tls0).v = M.valM p (ts[k]?.getD tls0).m) : daneB ts p = true := by
  unfold daneB
  rw [List.getElem?_eq_getElem hk] at h1
  exact List.any_eq_true.2 ⟨ts[k], List.getElem_mem _, by simpa using h1⟩
set_option maxHeartbeats 2000000 in
theorem l10Dane_any (a : Option Addr) (len cap B : Nat) (ts : List TlsaD) (p : Int) (w : World) (hR : TRow w B a len cap ts) (hB : B ≤ w.heap.size) (hl8 : len ≤ 8) (hp : M.sumB p = true) :
    Calls Tryz.prog 243 #[.slice a len cap, .int .i64 p] w fun e w' => e = .returned (.int .i64 (if daneB ts p then 1 else 2)) ∧ Below w.heap.size w w' := by
  have hL := Lib.hid hR.length
  have hm := hR.most
  have hfit := hR.fits
  unfold maxLen at hm
  have HR := Lib.hid hR
  clear hR
  generalize hd : daneB ts p = d
  have HD := Lib.hid hd
  clear hd
  go_enter Tryz.func243, Tryz.ntmps243
  go_wp2_with fail
  go_loopw [5] (fun i wr => ∃ k : Nat, k ≤ len ∧ i = .int .i64 k ∧ daneB (ts.take k) p = false ∧ Below w.heap.size w wr) (fun i _ => len - (intOf i).toNat)
  case atStart => exact ⟨0, Nat.zero_le _, rfl, rfl, Below.refl _ _⟩
  case round =>
    obtain ⟨k, hk, rfl, hn, hb⟩ := hrel
    by_cases hlt : k < len
    · have hkt : k < ts.length := by rw [hL.out]; exact hlt
      obtain ⟨b, off, ha, hbB, c0, c1, c2, c3⟩ := (HR.out.below (hb.mono hB)).at' hlt
      subst ha
      have V := fun w => l5Value_any p (ts[k]?.getD tls0).m w hp
      by_cases hv : (ts[k]?.getD tls0).v = M.valM p (ts[k]?.getD tls0).m
      · have ed : d = true := by rw [← HD.out]; exact dane_some hkt hv
        subst ed
        have HB := Lib.hid hb
        clear hn hkt hb HD
        rw [hv] at c3
        generalize M.valM p (ts[k]?.getD tls0).m = x at *
        generalize ts[k]?.getD tls0 = q at *
        clear hv
        go_wp2_with fail
        refine wp_region_line (Bel wr) [(0, true), (1, true), (2, true), (3, true), (4, true), (5, true), (6, true), (7, true), (8, true), (9, true), (10, true), (11, false), (12, true)] (by kernel_rfl) (by kernel_rfl) (fun _ _ d _ _ h => by cases d <;> exact h) (Bel.drew wr) ?_
        have hst := Bel.drew wr
        have inst : Nonempty (Of (Bel wr)) := ⟨⟨_, hst⟩⟩
        have y2 := bel_cell c2
        have y3 := bel_cell c3
        iterate 11 (refine line_read rfl (by kernel_rfl) (fun K hK => ?_); go_big_quiet_op; refine hK _ ?_; clear hK K)
        refine line_alone rfl (by kernel_rfl) (fun K hK => ?_)
        refine call_wp (args := #[.int .i64 p, .int .i64 q.m]) rfl (by kernel_rfl) (by kernel_rfl) (V _) (fun wn hbn => ?_)
        have hst2 := hst.on hbn
        refine hK _ _ hst2 ?_
        clear hK K hst hbn
        have hst := hst2
        clear hst2
        simp only [Act.put, List.setIfInBounds_toArray, List.set_cons_zero, List.set_cons_succ]
        iterate 1 (refine line_read rfl (by kernel_rfl) (fun K hK => ?_); go_big_quiet_op; refine hK _ ?_; clear hK K)
        refine line_nil ?_
        have bb := Lib.hid (btr HB.out hst.out)
        clear hst inst y2 y3 c0 c1 c2 c3 V HB
        go_wp2_with fail
        go_ret
        exact ⟨rfl, bb.out⟩
      · have HN := Lib.hid (dane_none hkt hn hv)
        have q9 : ((ts[k]?.getD tls0).v == M.valM p (ts[k]?.getD tls0).m) = false := by simpa using hv
        have HB := Lib.hid hb
        clear hn hkt hb hv
        generalize M.valM p (ts[k]?.getD tls0).m = x at *
        generalize ts[k]?.getD tls0 = q at *
        go_wp2_with fail
        refine wp_region_line (Bel wr) [(0, true), (1, true), (2, true), (3, true), (4, true), (5, true), (6, true), (7, true), (8, true), (9, true), (10, true), (11, false), (12, true)] (by kernel_rfl) (by kernel_rfl) (fun _ _ d _ _ h => by cases d <;> exact h) (Bel.drew wr) ?_
        have hst := Bel.drew wr
        have inst : Nonempty (Of (Bel wr)) := ⟨⟨_, hst⟩⟩
        have y2 := bel_cell c2
        have y3 := bel_cell c3
        iterate 11 (refine line_read rfl (by kernel_rfl) (fun K hK => ?_); go_big_quiet_op; refine hK _ ?_; clear hK K)
        refine line_alone rfl (by kernel_rfl) (fun K hK => ?_)
        refine call_wp (args := #[.int .i64 p, .int .i64 q.m]) rfl (by kernel_rfl) (by kernel_rfl) (V _) (fun wn hbn => ?_)
        have hst2 := hst.on hbn
        refine hK _ _ hst2 ?_
        clear hK K hst hbn
        have hst := hst2
        clear hst2
        simp only [Act.put, List.setIfInBounds_toArray, List.set_cons_zero, List.set_cons_succ]
        iterate 1 (refine line_read rfl (by kernel_rfl) (fun K hK => ?_); go_big_quiet_op; refine hK _ ?_; clear hK K)
        refine line_nil ?_
        have bb := Lib.hid (btr HB.out hst.out)
        clear hst inst y2 y3 c0 c1 c2 c3 V HB
        go_wp2_with fail
        go_roundw
        case rel => exact ⟨k + 1, by omega, by go_num, HN.out, bb.out⟩
        case measure => simp [intOf]; omega
    · obtain rfl : k = len := by omega
      have e : ts.take k = ts := List.take_of_length_le (by rw [hL.out]; omega)
      rw [e, HD.out] at hn
      subst hn
      go_wp2_with fail
      go_ret
      exact ⟨rfl, hb⟩
theorem l7Live_at (g o : Nat) (u t : Int) (w : World) (c4 : w.cell? ⟨g, o + 4, none⟩ = some (.int .i64 u)) : Calls Tryz.prog 292 #[.pointer (some ⟨g, o, none⟩), .int .i64 t] w fun e w' => e = .returned (.bool (decide (t ≤ u))) ∧ Below w.heap.size w w' := by
  go_enter Tryz.func292, Tryz.ntmps292
  go_wp2_with fail
  go_ret
  exact ⟨rfl, Below.refl _ _⟩
theorem l10Pin_at (g o : Nat) (q : PinD) (p t : Int) (w : World) (c1 : w.cell? ⟨g, o + 1, none⟩ = some (.int .i64 q.a)) (c2 : w.cell? ⟨g, o + 2, none⟩ = some (.int .i64 q.b)) (c4 : w.cell? ⟨g, o + 4, none⟩ = some (.int .i64 q.u)) :
    Calls Tryz.prog 244 #[.pointer (some ⟨g, o, none⟩), .int .i64 p, .int .i64 t] w fun e w' => e = .returned (.int .i64 (pinReason q p t)) ∧ Below w.heap.size w w' := by
  have L := l7Live_at g o q.u t w c4
  unfold pinReason
  by_cases h1 : t ≤ q.u
  case neg =>
    rw [if_neg h1]
    rw [decide_eq_false h1] at L
    go_enter Tryz.func244, Tryz.ntmps244
    go_wp2_with fail
    refine L.mono ?_
    rintro r u1 ⟨rfl, b1⟩
    have d1 := cell_keep b1 c1
    have d2 := cell_keep b1 c2
    clear c1 c2 c4 L
    go_wp2_with fail
    go_ret
    exact ⟨rfl, b1⟩
  rw [if_pos h1]
  rw [decide_eq_true h1] at L
  clear h1
  by_cases h2 : q.a = p
  · rw [if_pos h2]
    rw [h2] at c1
    clear h2
    go_enter Tryz.func244, Tryz.ntmps244
    go_wp2_with fail
    refine L.mono ?_
    rintro r u1 ⟨rfl, b1⟩
    have d1 := cell_keep b1 c1
    have d2 := cell_keep b1 c2
    clear c1 c2 c4 L
    go_wp2_with fail
    go_ret
    exact ⟨rfl, b1⟩
  rw [if_neg h2]
  have g2 : (q.a == p) = false := by simpa using h2
  by_cases h3 : q.b = p
  · rw [if_pos h3]
    rw [h3] at c2
    clear h3
    go_enter Tryz.func244, Tryz.ntmps244
    go_wp2_with fail
    refine L.mono ?_
    rintro r u1 ⟨rfl, b1⟩
    have d1 := cell_keep b1 c1
    have d2 := cell_keep b1 c2
    clear c1 c2 c4 L
    go_wp2_with fail
    go_ret
    exact ⟨rfl, b1⟩
  · rw [if_neg h3]
    have g3 : (q.b == p) = false := by simpa using h3
    go_enter Tryz.func244, Tryz.ntmps244
    go_wp2_with fail
    refine L.mono ?_
    rintro r u1 ⟨rfl, b1⟩
    have d1 := cell_keep b1 c1
    have d2 := cell_keep b1 c2
    clear c1 c2 c4 L
    go_wp2_with fail
    go_ret
    exact ⟨rfl, b1⟩
set_option maxHeartbeats 4000000 in
theorem l10Reason_any (g : Nat) (a1 : Option Addr) (n1 c1 : Nat) (a2 : Option Addr) (n2 c2 B : Nat) (q : AskD) (w : World) (A0 : At g (A6L a1 n1 c1 a2 n2 c2 q) w) (hR : ARow w B a1 n1 c1 a2 n2 c2 q) (hB : B ≤ w.heap.size) (h0 : askF q = 0) :
    Calls Tryz.prog 155 #[.pointer (some ⟨g, 0, none⟩)] w fun r w' => r = .returned (.int .i64 (reason q)) ∧ Below w.heap.size w w' := by
  obtain ⟨hpf, ht8, hnf, hpub, htim⟩ := askF_zero h0
  obtain ⟨h20, -⟩ := M.nameF_zero hnf
  have hsz : q.nm.length = q.n.size := by simp [AskD.nm]
  have NT := fun w => l5Normal_any q.n w (by omega)
  have lt2 := hR.ts.length
  have lp2 := hR.ps.length
  have US := Lib.hid (fun (w1 : World) (h : Below w.heap.size w w1) => l10Usable_any a2 n2 c2 B q.ts (M.bs (M.nrm q.nm)) w1 (hR.ts.below (h.mono hB)) (Nat.le_trans hB h.size) (by omega))
  have AT := Lib.hid (fun (w1 : World) (h : Below w.heap.size w w1) => l7At_any a1 n1 c1 B q.ps (M.bs (M.nrm q.nm)) w1 (hR.ps.below (h.mono hB)) (Nat.le_trans hB h.size))
  have AS := atI_spec q.ps (M.nrm q.nm) 0
  rw [M.bs_list] at US AT
  have hul := usable_le (M.nrm q.nm) q.ts
  have hun : ∀ x ∈ usable (M.nrm q.nm) q.ts, x.n.size ≤ maxLen := fun x hx => hR.ts.names x (usable_mem hx).1
  have RD := reason_dane (a := q)
  have RP := fun (x : PinD) => reason_pin (a := q) (q := x)
  have RN := reason_none (a := q)
  have HR := Lib.hid hR.ps
  have hps := pub_sum hpub
  have HN := Lib.hid hun
  have DN := Lib.hid (fun (x : Option Addr) (c : Nat) (w' : World) (h : TRow w' w'.heap.size x (usable (M.nrm q.nm) q.ts).length c (usable (M.nrm q.nm) q.ts)) => l10Dane_any x _ c w'.heap.size _ q.p w' h (Nat.le_refl _) (by omega) hps)
  have e1 : q.nm = q.n.data.toList := rfl
  rw [← e1] at NT
  unfold TlsasIn at US
  clear hR hpf ht8 hnf hpub htim h20 hun hps h0
  generalize M.bs (M.nrm q.nm) = S2 at *
  generalize usable (M.nrm q.nm) q.ts = us at *
  generalize daneB us q.p = db at *
  generalize (if db = true then (1 : Int) else 2) = dv at *
  generalize atI q.ps (M.nrm q.nm) 0 = ix at *
  generalize findP q.ps (M.nrm q.nm) = fo at *
  clear e1 hsz
  obtain ⟨f, ps, ts, n, p, t⟩ := q
  unfold A6L at A0
  dsimp only at *
  have y0 := A0.cell 0 _ rfl
  have y1 := A0.cell 1 _ rfl
  have y2 := A0.cell 2 _ rfl
  have y3 := A0.cell 3 _ rfl
  have y4 := A0.cell 4 _ rfl
  have y5 := A0.cell 5 _ rfl
  generalize hm : us.length = m at *
  have HM := Lib.hid hm
  clear hm
  by_cases hu : m = 0
  case neg =>
    rw [RD hu]
    have hu' : (0 : Int) < m := by omega
    clear RD RP RN AS AT
    go_enter Tryz.func155, Tryz.ntmps155
    go_wp2_with fail
    refine (NT _).mono ?_
    rintro r u1 ⟨rfl, b1⟩
    have A1 := A0.on b1
    clear y0 y1 y2 y3 y4 y5
    have y0 := A1.cell 0 _ rfl
    have y1 := A1.cell 1 _ rfl
    have y2 := A1.cell 2 _ rfl
    have y3 := A1.cell 3 _ rfl
    have y4 := A1.cell 4 _ rfl
    have y5 := A1.cell 5 _ rfl
    go_wp2_with fail
    refine (US.out _ b1).mono ?_
    rintro r u2 ⟨xa, xn, xc, rfl, O2, b2⟩
    obtain rfl : xn = m := O2.len.trans HM.out
    have A2 := A1.on b2
    have B2 := btr b1 b2
    clear y0 y1 y2 y3 y4 y5 A0 A1 NT US b1
    have y0 := A2.cell 0 _ rfl
    have y1 := A2.cell 1 _ rfl
    have y2 := A2.cell 2 _ rfl
    have y3 := A2.cell 3 _ rfl
    have y4 := A2.cell 4 _ rfl
    have y5 := A2.cell 5 _ rfl
    have R2 := O2.row HN.out
    clear O2
    go_wp2_with fail
    refine (DN.out _ _ _ R2).mono ?_
    rintro r u3 ⟨rfl, b3⟩
    have bb := btr B2 b3
    clear b2 b3 R2 A2
    go_wp2_with fail
    go_ret
    exact ⟨rfl, bb⟩
  have hu' : ¬ (0 : Int) < m := by omega
  rcases AS with ⟨rfl, rfl⟩ | ⟨k, hk, rfl, rfl⟩
  · rw [RN hu rfl]
    clear RD RP RN DN
    cases f
    all_goals
      go_enter Tryz.func155, Tryz.ntmps155
      go_wp2_with fail
      refine (NT _).mono ?_
      rintro r u1 ⟨rfl, b1⟩
      have A1 := A0.on b1
      clear y0 y1 y2 y3 y4 y5
      have y0 := A1.cell 0 _ rfl
      have y1 := A1.cell 1 _ rfl
      have y2 := A1.cell 2 _ rfl
      have y3 := A1.cell 3 _ rfl
      have y4 := A1.cell 4 _ rfl
      have y5 := A1.cell 5 _ rfl
      go_wp2_with fail
      refine (US.out _ b1).mono ?_
      rintro r u2 ⟨xa, xn, xc, rfl, O2, b2⟩
      obtain rfl : xn = m := O2.len.trans HM.out
      have A2 := A1.on b2
      have B2 := btr b1 b2
      clear y0 y1 y2 y3 y4 y5 A0 A1 NT US b1
      have y0 := A2.cell 0 _ rfl
      have y1 := A2.cell 1 _ rfl
      have y2 := A2.cell 2 _ rfl
      have y3 := A2.cell 3 _ rfl
      have y4 := A2.cell 4 _ rfl
      have y5 := A2.cell 5 _ rfl
      clear O2
      go_wp2_with fail
      refine (AT.out _ B2).mono ?_
      rintro r u3 ⟨rfl, b3⟩
      have A3 := A2.on b3
      have B3 := btr B2 b3
      clear y0 y1 y2 y3 y4 y5 A2 b2 b3
      have y0 := A3.cell 0 _ rfl
      have y1 := A3.cell 1 _ rfl
      have y2 := A3.cell 2 _ rfl
      have y3 := A3.cell 3 _ rfl
      have y4 := A3.cell 4 _ rfl
      have y5 := A3.cell 5 _ rfl
      go_wp2_with fail
      go_ret
      exact ⟨rfl, B3⟩
  · rw [RP _ hu rfl]
    clear RD RP RN DN
    have hkl : k < n1 := by omega
    obtain ⟨b, off, ha, -⟩ := HR.out.at' hkl
    subst ha
    have hk0 : (0 : Int) ≤ 0 + k := by omega
    have hk1 : (0 : Int) ≤ k := by omega
    generalize hpp : ps[k]?.getD pin0 = pp at *
    have HP := Lib.hid hpp
    clear hpp
    have PN := fun (b o : Nat) (w' : World) (c1 : w'.cell? ⟨b, o + 1, none⟩ = some (.int .i64 pp.a)) (c2 : w'.cell? ⟨b, o + 2, none⟩ = some (.int .i64 pp.b)) (c4 : w'.cell? ⟨b, o + 4, none⟩ = some (.int .i64 pp.u)) => l10Pin_at b o pp p t w' c1 c2 c4
    generalize pinReason pp p t = rs at *
    go_enter Tryz.func155, Tryz.ntmps155
    go_wp2_with fail
    refine (NT _).mono ?_
    rintro r u1 ⟨rfl, b1⟩
    have A1 := A0.on b1
    clear y0 y1 y2 y3 y4 y5
    have y0 := A1.cell 0 _ rfl
    have y1 := A1.cell 1 _ rfl
    have y2 := A1.cell 2 _ rfl
    have y3 := A1.cell 3 _ rfl
    have y4 := A1.cell 4 _ rfl
    have y5 := A1.cell 5 _ rfl
    go_wp2_with fail
    refine (US.out _ b1).mono ?_
    rintro r u2 ⟨xa, xn, xc, rfl, O2, b2⟩
    obtain rfl : xn = m := O2.len.trans HM.out
    have A2 := A1.on b2
    have B2 := btr b1 b2
    clear y0 y1 y2 y3 y4 y5 A0 A1 NT US b1
    have y0 := A2.cell 0 _ rfl
    have y1 := A2.cell 1 _ rfl
    have y2 := A2.cell 2 _ rfl
    have y3 := A2.cell 3 _ rfl
    have y4 := A2.cell 4 _ rfl
    have y5 := A2.cell 5 _ rfl
    clear O2
    go_wp2_with fail
    refine (AT.out _ B2).mono ?_
    rintro r u3 ⟨rfl, b3⟩
    have A3 := A2.on b3
    have B3 := btr B2 b3
    obtain ⟨b', off', ha', hbB', z0, z1, z2, z3, z4⟩ := (HR.out.below (B3.mono hB)).at' hkl
    injection ha' with ha'
    injection ha' with e1 e2
    subst e1
    subst e2
    rw [HP.out] at z1 z2 z4
    clear y0 y1 y2 y3 y4 y5 A2 b2 b3 z0 z3
    go_wp2_with fail
    refine wp_region_line (Bel u3) [(0, true), (1, true), (2, true), (3, true), (4, true), (5, true), (6, true), (7, true), (8, true), (9, true), (10, true), (11, true), (12, true), (13, true), (14, false), (15, true)] (by kernel_rfl) (by kernel_rfl) (fun _ _ d _ _ h => by cases d <;> exact h) (Bel.drew u3) ?_
    have hst := Bel.drew u3
    have inst : Nonempty (Of (Bel u3)) := ⟨⟨_, hst⟩⟩
    have y1 := bel_cell (A3.cell 1 _ rfl)
    have y4 := bel_cell (A3.cell 4 _ rfl)
    have y5 := bel_cell (A3.cell 5 _ rfl)
    iterate 14 (refine line_read rfl (by kernel_rfl) (fun K hK => ?_); go_big_quiet_op; refine hK _ ?_; clear hK K)
    refine line_alone rfl (by kernel_rfl) (fun K hK => ?_)
    refine call_wp (args := #[.pointer (some ⟨b, off + k * 5, none⟩), .int .i64 p, .int .i64 t]) rfl (by kernel_rfl) (by kernel_rfl) (PN _ _ _ (cell_keep hst.out z1) (cell_keep hst.out z2) (cell_keep hst.out z4)) (fun wn hbn => ?_)
    have hst2 := hst.on hbn
    refine hK _ _ hst2 ?_
    clear hK K hst hbn
    have hst := hst2
    clear hst2
    simp only [Act.put, List.setIfInBounds_toArray, List.set_cons_zero, List.set_cons_succ]
    iterate 1 (refine line_read rfl (by kernel_rfl) (fun K hK => ?_); go_big_quiet_op; refine hK _ ?_; clear hK K)
    refine line_nil ?_
    have bb := btr B3 hst.out
    clear hst inst y1 y4 y5 z1 z2 z4 A3 B3 PN
    go_wp2_with fail
    go_ret
    exact ⟨rfl, bb⟩
abbrev Z3 (c : Int) (b : Bool) (r : Int) : Value := .agg #[.int .i64 c, .bool b, .int .i64 r]
set_option maxHeartbeats 2000000 in
theorem specDecide_any (a1 : Option Addr) (n1 c1 : Nat) (a2 : Option Addr) (n2 c2 B : Nat) (q : AskD) (w : World) (hR : ARow w B a1 n1 c1 a2 n2 c2 q) (hB : B ≤ w.heap.size) :
    Calls Tryz.prog 55 #[A6 a1 n1 c1 a2 n2 c2 q] w fun r w' => r = .returned (Z3 (askF q) (decA q) (decR q)) ∧ Below w.heap.size w w' := by
  have b0 := bal (bal (Below.refl _ w) (.cells #[.bool q.first, .slice a1 n1 c1, .slice a2 n2 c2, .string q.n, .int .i64 q.p, .int .i64 q.t] 80)) (.cells #[.int .i64 0, .bool false, .int .i64 0] 83)
  have A0 : At w.heap.size (A6L a1 n1 c1 a2 n2 c2 q) ((w.alloc (.cells #[.bool q.first, .slice a1 n1 c1, .slice a2 n2 c2, .string q.n, .int .i64 q.p, .int .i64 q.t] 80)).alloc (.cells #[.int .i64 0, .bool false, .int .i64 0] 83)) := (At.new w (A6L a1 n1 c1 a2 n2 c2 q) 80).alloc _
  have R0 := At.new (w.alloc (.cells #[.bool q.first, .slice a1 n1 c1, .slice a2 n2 c2, .string q.n, .int .i64 q.p, .int .i64 q.t] 80)) [.int .i64 0, .bool false, .int .i64 0] 83
  rw [World.size_alloc] at R0
  have HR0 := Lib.hid (show At (w.heap.size + 1) [.int .i64 0, .bool false, .int .i64 0] ((w.alloc (.cells #[.bool q.first, .slice a1 n1 c1, .slice a2 n2 c2, .string q.n, .int .i64 q.p, .int .i64 q.t] 80)).alloc (.cells #[.int .i64 0, .bool false, .int .i64 0] 83)) from R0)
  have F := l10Fault_any w.heap.size a1 n1 c1 a2 n2 c2 B q _ A0 (hR.below (b0.mono hB)) (Nat.le_trans hB b0.size)
  clear R0
  by_cases h0 : askF q = 0
  case neg =>
    rw [decA_no h0, decR_no h0]
    generalize askF q = c at *
    have g1 : (c != 0) = true := by simp [h0]
    have g0 : (c == 0) = false := by simpa using h0
    clear hR
    go_enter Tryz.func55, Tryz.ntmps55
    go_wp2_with fail
    generalize (w.alloc (.cells #[.bool q.first, .slice a1 n1 c1, .slice a2 n2 c2, .string q.n, .int .i64 q.p, .int .i64 q.t] 80)).alloc (.cells #[.int .i64 0, .bool false, .int .i64 0] 83) = W0 at *
    refine F.mono ?_
    rintro r u1 ⟨rfl, b1⟩
    have R1 := HR0.out.on b1
    have B1 := btr b0 b1
    have q0 := R1.cell 0 _ rfl
    have q1 := R1.cell 1 _ rfl
    have q2 := R1.cell 2 _ rfl
    have z0 := R1.free 0 _ rfl
    have z1 := R1.free 1 _ rfl
    have z2 := R1.free 2 _ rfl
    clear A0 R1 HR0
    go_wp2_with fail
    refine bodyPost_ret (v := Z3 c false 0) (by simp [results, Tryz.results55, go_sem, q0, q1, q2]) rfl ⟨rfl, ?_⟩
    exact (by (iterate 3 (refine bset ?_ (by dsimp only; omega) _)); exact B1)
  rw [decA_yes h0, decR_yes h0]
  have RR := Lib.hid (fun (w1 : World) (h : Below w.heap.size w w1) (A : At w.heap.size (A6L a1 n1 c1 a2 n2 c2 q) w1) => l10Reason_any w.heap.size a1 n1 c1 a2 n2 c2 B q w1 A (hR.below (h.mono hB)) (Nat.le_trans hB h.size) h0)
  rw [h0] at F ⊢
  generalize reason q = rs at *
  have AC := fun w => l10Accept_any rs w
  generalize acceptB rs = ab at *
  clear hR h0
  have HA0 := Lib.hid A0
  clear A0
  go_enter Tryz.func55, Tryz.ntmps55
  go_wp2_with fail
  generalize (w.alloc (.cells #[.bool q.first, .slice a1 n1 c1, .slice a2 n2 c2, .string q.n, .int .i64 q.p, .int .i64 q.t] 80)).alloc (.cells #[.int .i64 0, .bool false, .int .i64 0] 83) = W0 at *
  refine F.mono ?_
  rintro r u1 ⟨rfl, b1⟩
  go_wp2_with fail
  refine (RR.out _ (btr b0 b1) (HA0.out.on b1)).mono ?_
  rintro r u2 ⟨rfl, b2⟩
  go_wp2_with fail
  refine (AC _).mono ?_
  rintro r u3 ⟨rfl, rfl⟩
  have R1 := HR0.out.on (btr b1 b2)
  have B1 := btr b0 (btr b1 b2)
  have q0 := R1.cell 0 _ rfl
  have q1 := R1.cell 1 _ rfl
  have q2 := R1.cell 2 _ rfl
  have z0 := R1.free 0 _ rfl
  have z1 := R1.free 1 _ rfl
  have z2 := R1.free 2 _ rfl
  clear HA0 R1 HR0 F RR AC
  go_wp2_with fail
  refine bodyPost_ret (v := Z3 0 ab rs) (by simp [results, Tryz.results55, go_sem, q0, q1, q2]) rfl ⟨rfl, ?_⟩
  exact (by (iterate 3 (refine bset ?_ (by dsimp only; omega) _)); exact B1)
end Go.Proofs.YtlodhleihnlchaaGreatDoor
namespace Go.Proofs.YtlodhleihnlchaaGreatDoor
open Go.RowKit Go.Maps Go.WideShapes
open Go.ChangeMaps (putKey delKey notKey)
set_option maxRecDepth 100000
set_option linter.unusedVariables false

abbrev KeyOk (k : ByteArray × Int) : Prop := k.1.size ≤ maxLen ∧ (Lit.int .i64 k.2).wf = true
def keyC (k : ByteArray × Int) : List UInt8 := keyBytes [.string k.1.data.toList, .int .i64 k.2]
theorem keyC_inj {k l : ByteArray × Int} (hk : KeyOk k) (hl : KeyOk l) (h : keyC k = keyC l) : k = l := by
  have h1 : k.1.data.toList.length ≤ maxLen := by have := hk.1; simpa using this
  have h2 : l.1.data.toList.length ≤ maxLen := by have := hl.1; simpa using this
  have e := keyBytes_inj (l := [.string k.1.data.toList, .int .i64 k.2]) (l' := [.string l.1.data.toList, .int .i64 l.2]) ⟨trivial, rfl, trivial⟩ (by
    intro a ha
    simp only [List.mem_cons, List.not_mem_nil, or_false] at ha
    rcases ha with rfl | rfl
    · exact h1
    · exact hk.2) (by
    intro a ha
    simp only [List.mem_cons, List.not_mem_nil, or_false] at ha
    rcases ha with rfl | rfl
    · exact h2
    · exact hl.2) h
  simp only [List.cons.injEq, Lit.string.injEq, Lit.int.injEq, and_true, true_and] at e
  obtain ⟨e1, e2⟩ := e
  have e3 := nm_inj e1
  obtain ⟨a, b⟩ := k
  obtain ⟨c, d⟩ := l
  simp only at e2 e3
  rw [e2, e3]
theorem claim_deep : Tryz.prog.keyTypeAt 3 355 = true := by kernel_rfl
theorem claim_type : Tryz.prog.keyType 355 = true := by kernel_rfl
theorem claim_wide : (match Tryz.prog.underlying 355 with | some (.array _ _) | some (.struct _) => true | _ => false) = true := by kernel_rfl
theorem claim_law : Keyed Tryz.prog 355 := Keyed.of_law (deep_law_laid (by kernel_rfl) (m := 3) (by omega) (of_decide_eq_true (by kernel_rfl)) claim_deep claim_wide)
theorem claim_cells : Tryz.prog.cellsOf 355 = 2 := by kernel_rfl
theorem key_claim {k : ByteArray × Int} (hk : KeyOk k) : keyOf Tryz.prog 355 (.agg #[.string k.1, .int .i64 k.2]) = some (.string (keyC k)) := by
  obtain ⟨h1, h2⟩ := hk
  obtain ⟨m, hm⟩ : ∃ m, Tryz.prog.types.size = m + 1 := ⟨Tryz.prog.types.size - 1, by have : 0 < Tryz.prog.types.size := of_decide_eq_true (by kernel_rfl); omega⟩
  have q0 : Tryz.prog.cellsOf 9 = 1 := by kernel_rfl
  have q1 : Tryz.prog.cellsOf 2 = 1 := by kernel_rfl
  unfold keyOf
  simp only [Tryz.underlying355]
  rw [if_pos (by simp [claim_type, Value.formed, Tryz.underlying355, claim_cells]), hm]
  unfold Program.keyLits
  simp only [Tryz.underlying355, Value.cells]
  rw [if_pos (by simp [claim_cells])]
  simp [q0, q1, Program.keyLits, Tryz.underlying9, Tryz.underlying2, h1, h2, keyC]
def clmR (v : Value) : Option (DataW Int × List MemPlace) :=
  match v with
  | .int .i64 a => some (.held a, [])
  | _ => none
theorem clmR_mk (a : Int) : clmR (.int .i64 a) = some (.held a, []) := rfl
theorem clmR_inv {v : Value} {y : DataW Int × List MemPlace} (h : clmR v = some y) : ∃ a, v = .int .i64 a ∧ y = (.held a, []) := by
  unfold clmR at h
  split at h
  · rename_i a
    injection h with h
    exact ⟨a, rfl, h.symm⟩
  · cases h
abbrev Clm : Type := (ByteArray × Int) × Int
def entC (e : Clm) : Lit × DataW Int := (.string (keyC e.1), .held e.2)
def MapIsC (D : DataW Int) (es : List Clm) : Prop := ∃ fs, D = .map fs ∧ fs.Perm (es.map entC)
theorem MapIsC.nil : MapIsC (.map []) [] := ⟨[], rfl, .refl _⟩
theorem same_ent {es : List Clm} (ho : ∀ e ∈ es, KeyOk e.1) {k : ByteArray × Int} (hk : KeyOk k) {e : Clm} (he : e ∈ es) : (entC e).1.sameKey (.string (keyC k)) = decide (e.1 = k) := by
  show (Lit.string (keyC e.1)).sameKey (.string (keyC k)) = _
  rw [same_str]
  by_cases h : e.1 = k
  · simp [h]
  · rw [decide_eq_false h, decide_eq_false fun h2 => h (keyC_inj (ho e he) hk h2)]
theorem MapIsC.has {D : DataW Int} {es : List Clm} (h : MapIsC D es) (ho : ∀ e ∈ es, KeyOk e.1) {n : ByteArray} {x : Int} (hk : KeyOk (n, x)) : Maps.has D (.string (keyC (n, x))) = (lookL es n x).isSome := by
  obtain ⟨fs, rfl, hp⟩ := h
  rw [Maps.has_eq, Bool.eq_iff_iff, List.any_eq_true]
  unfold lookL
  rw [Option.isSome_map, List.find?_isSome]
  constructor
  · rintro ⟨y, hy, hs⟩
    obtain ⟨e, he, rfl⟩ := List.mem_map.1 (hp.mem_iff.1 hy)
    exact ⟨e, he, by rw [← same_ent ho hk he]; exact hs⟩
  · rintro ⟨e, he, hs⟩
    exact ⟨entC e, hp.mem_iff.2 (List.mem_map.2 ⟨e, he, rfl⟩), by rw [same_ent ho hk he]; exact hs⟩
theorem apartC_inj : ∀ {es : List Clm}, es.Pairwise (fun p q => p.1 ≠ q.1) → ∀ {p q : Clm}, p ∈ es → q ∈ es → p.1 = q.1 → p = q
  | [], _, _, _, h, _, _ => by cases h
  | x :: r, hr, p, q, hp, hq, e => by
    obtain ⟨h1, h2⟩ := List.pairwise_cons.1 hr
    rcases List.mem_cons.1 hp with rfl | hp'
    · rcases List.mem_cons.1 hq with rfl | hq'
      · rfl
      · exact absurd e (h1 q hq')
    · rcases List.mem_cons.1 hq with rfl | hq'
      · exact absurd e.symm (h1 p hp')
      · exact apartC_inj h2 hp' hq' e
theorem MapIsC.at' {D : DataW Int} {es : List Clm} (h : MapIsC D es) (ho : ∀ e ∈ es, KeyOk e.1) (ha : es.Pairwise (fun p q => p.1 ≠ q.1)) {n : ByteArray} {x : Int} (hk : KeyOk (n, x)) : D.atKey (.string (keyC (n, x))) (.held 0) = .held ((lookL es n x).getD 0) := by
  obtain ⟨fs, rfl, hp⟩ := h
  unfold DataW.atKey
  cases hf : fs.find? (fun p => p.1.sameKey (.string (keyC (n, x)))) with
  | none =>
    have : lookL es n x = none := by
      unfold lookL
      rw [Option.map_eq_none_iff, List.find?_eq_none]
      intro e he
      have := List.find?_eq_none.1 hf (entC e) (hp.mem_iff.2 (List.mem_map.2 ⟨e, he, rfl⟩))
      rw [same_ent ho hk he] at this
      exact this
    simp only [hf]
    rw [this]
    rfl
  | some y =>
    have hy := List.mem_of_find?_eq_some hf
    have hs := List.find?_some hf
    obtain ⟨e, he, rfl⟩ := List.mem_map.1 (hp.mem_iff.1 hy)
    rw [same_ent ho hk he] at hs
    have hl : e.1 = (n, x) := of_decide_eq_true hs
    have : lookL es n x = some e.2 := by
      unfold lookL
      cases hq : es.find? (fun e => decide (e.1 = (n, x))) with
      | none =>
        have := List.find?_eq_none.1 hq e he
        simp [hl] at this
      | some q =>
        have q1 := List.mem_of_find?_eq_some hq
        have q2 : q.1 = (n, x) := of_decide_eq_true (by simpa using List.find?_some hq)
        rw [apartC_inj ha q1 he (q2.trans hl.symm)]
        rfl
    simp only [hf]
    rw [this]
    rfl
theorem MapIsC.put {D : DataW Int} {es : List Clm} (h : MapIsC D es) (ho : ∀ e ∈ es, KeyOk e.1) {e : Clm} (hk : KeyOk e.1) (hn : ∀ q ∈ es, q.1 ≠ e.1) : MapIsC (D.put (.string (keyC e.1)) (.held e.2)) (es ++ [e]) := by
  obtain ⟨fs, rfl, hp⟩ := h
  refine ⟨_, DataW.put_eq _ _ _, ?_⟩
  unfold putKey
  have hf : fs.filter (notKey (.string (keyC e.1))) = fs := by
    refine List.filter_eq_self.2 fun y hy => ?_
    obtain ⟨q, hq, rfl⟩ := List.mem_map.1 (hp.mem_iff.1 hy)
    show (!(entC q).1.sameKey (.string (keyC e.1))) = true
    rw [same_ent ho hk hq, decide_eq_false (hn q hq)]
    rfl
  refine (insert_perm _ _).trans ?_
  rw [List.map_append]
  have h1 : ((Lit.string (keyC e.1), DataW.held e.2) :: fs.filter (notKey (.string (keyC e.1)))).Perm (entC e :: es.map entC) := by
    rw [hf]
    exact hp.cons _
  exact h1.trans (List.perm_append_singleton _ _).symm
theorem MapIsC.size {D : DataW Int} {es : List Clm} (h : MapIsC D es) : Maps.size D = es.length := by
  obtain ⟨fs, rfl, hp⟩ := h
  rw [Maps.size_eq, hp.length_eq, List.length_map]
structure CMap (w : World) (b : Nat) (es : List Clm) : Prop where
  own : ∃ D, w.ownsMap Tryz.prog 355 clmR b es.length D ∧ MapIsC D es
  apart : es.Pairwise fun p q => p.1 ≠ q.1
  ok : ∀ e ∈ es, KeyOk e.1
section
variable {w w' : World} {b : Nat} {es : List Clm}
theorem mapC_fit {n : Nat} {D : DataW Int} (h : w.ownsMap Tryz.prog 355 clmR b n D) (hm : MapIsC D es) : w.ownsMap Tryz.prog 355 clmR b es.length D := by
  have hz := hm.size
  obtain ⟨fs, c, hb, F, hs, rfl⟩ := h
  refine ⟨fs, c, hb, F, ?_, rfl⟩
  rw [← hz]
  simp [Maps.size, length_sorted]
theorem CMap.lt (h : CMap w b es) : b < w.heap.size := by
  obtain ⟨D, ho, _⟩ := h.own
  exact ho.lt
theorem CMap.keep (h : CMap w b es) (hk : w'.heap[b]? = w.heap[b]?) : CMap w' b es := by
  obtain ⟨D, ⟨fs, c, hb, r⟩, hm⟩ := h.own
  exact ⟨⟨D, ⟨fs, c, hk.trans hb, r⟩, hm⟩, h.apart, h.ok⟩
theorem CMap.on (h : CMap w b es) (hb : Below w.heap.size w w') : CMap w' b es := h.keep (hb.block b h.lt)
theorem CMap.alloc (h : CMap w b es) (o : Obj) : CMap (w.alloc o) b es := h.on (bal (Below.refl _ _) o)
theorem CMap.new (w : World) : CMap (w.alloc (.map #[] 0)) w.heap.size [] := ⟨⟨_, World.ownsMap_made w _ _ _, MapIsC.nil⟩, .nil, by simp⟩
theorem CMap.look (h : CMap w b es) {n : ByteArray} {x : Int} (hk : KeyOk (n, x)) :
    (Instr.lookup 352 (.map (some b)) (.agg #[.string n, .int .i64 x]) true).run Tryz.prog w = .ok (.tuple #[.int .i64 ((lookL es n x).getD 0), .bool (lookL es n x).isSome]) w := by
  obtain ⟨D, ho, hm⟩ := h.own
  obtain ⟨v, z, hrun, hv⟩ := ho.look_ok claim_law Tryz.underlying352 (z := .int .i64 0) (by kernel_rfl) (clmR_mk 0) (key_claim hk)
  rw [hm.at' h.ok h.apart hk] at hv
  obtain ⟨p, rfl, e⟩ := clmR_inv hv
  injection e with e1 e2
  injection e1 with e1
  rw [hm.has h.ok hk] at hrun
  rw [hrun, e1]
theorem CMap.store (h : CMap w b es) {e : Clm} (hl : es.length ≤ 1000) (hk : KeyOk e.1) (hn : ∀ q ∈ es, q.1 ≠ e.1) :
    ∃ w', (Instr.mapUpdate 352 (.map (some b)) (.agg #[.string e.1.1, .int .i64 e.1.2]) (.int .i64 e.2)).run Tryz.prog w = .ok () w' ∧ CMap w' b (es ++ [e]) ∧ w.mapTurned w' b := by
  obtain ⟨D, ho, hm⟩ := h.own
  obtain ⟨w', hrun, h1, h2⟩ := ho.store claim_law Tryz.underlying352 (by simp only [maxLen]; omega) (key_claim hk) (clmR_mk e.2)
  refine ⟨w', hrun, ⟨⟨_, mapC_fit h1 (hm.put h.ok hk hn), hm.put h.ok hk hn⟩, ?_, ?_⟩, h2⟩
  · exact List.pairwise_append.2 ⟨h.apart, by simp, fun q hq r hr => by simp at hr; subst hr; exact hn q hq⟩
  · intro q hq
    rcases List.mem_append.1 hq with hq | hq
    · exact h.ok q hq
    · simp at hq
      subst hq
      exact hk
end
end Go.Proofs.YtlodhleihnlchaaGreatDoor
namespace Go.Proofs.YtlodhleihnlchaaGreatDoor
open Go.RowKit
set_option maxRecDepth 100000
set_option linter.unusedVariables false

theorem pin_keys {p : PinD} (h : p.f = 0) (hn : p.n.size ≤ maxLen) : KeyOk (p.n, p.a) ∧ KeyOk (p.n, p.b) ∧ p.b ≠ p.a := by
  obtain ⟨_, h1, h2, _, _, h5⟩ := pinF_zero h
  have w : ∀ v : Int, 0 ≤ v ∧ v ≤ 2878 → (Lit.int .i64 v).wf = true := fun v hv => by
    simp only [Lit.wf, IntKind.min, IntKind.max, IntKind.signed, IntKind.bits, Bool.and_eq_true, decide_eq_true_eq, if_true]
    omega
  have b1 : 0 ≤ p.a ∧ p.a ≤ 2878 := by simp only [pubB, inB, Bool.and_eq_true, decide_eq_true_eq] at h1; omega
  have b2 : 0 ≤ p.b ∧ p.b ≤ 2878 := by
    unfold bakB at h2
    simp only [Bool.or_eq_true, decide_eq_true_eq] at h2
    rcases h2 with h2 | h2
    · omega
    · simp only [pubB, inB, Bool.and_eq_true, decide_eq_true_eq] at h2; omega
  exact ⟨⟨hn, w _ b1⟩, ⟨hn, w _ b2⟩, h5⟩
theorem pub_key {n : ByteArray} {x : Int} (hn : n.size ≤ maxLen) (h : pubB x = true) : KeyOk (n, x) := by
  refine ⟨hn, ?_⟩
  simp only [pubB, inB, Bool.and_eq_true, decide_eq_true_eq] at h
  simp only [Lit.wf, IntKind.min, IntKind.max, IntKind.signed, IntKind.bits, Bool.and_eq_true, decide_eq_true_eq, if_true]
  omega
structure ByClaim (w : World) (ps : List PinD) (k : Nat) (wr : World) : Prop where
  map : CMap wr w.heap.size (claimsL (ps.take k))
  bel : Below w.heap.size w wr
theorem claims_apart {ps : List PinD} (h : Rise ps) {k : Nat} (hk : k < ps.length) (x : Int) : ∀ e ∈ claimsL (ps.take k), e.1 ≠ ((ps[k]?.getD pin0).n, x) := by
  intro e he h1
  obtain ⟨q, hq, h2⟩ := claimsL_name he
  have := take_apart h.apart hk q hq
  rw [h1] at h2
  exact this (by unfold PinD.nm; rw [← h2])
theorem claims_next {ps : List PinD} {k : Nat} (hk : k < ps.length) : claimsL (ps.take k) ++ [(((ps[k]?.getD pin0).n, (ps[k]?.getD pin0).a), 3)] ++ [(((ps[k]?.getD pin0).n, (ps[k]?.getD pin0).b), 4)] = claimsL (ps.take (k + 1)) := by
  rw [← take_snoc hk, claimsL_append]
  simp [claimsL]
theorem run_makeMap_claims (n : Int) (w : World) : (Instr.makeMap 352 (some (.int .i64 n))).run Tryz.prog w = .ok (.map (some w.heap.size)) (w.alloc (.map #[] 0)) := by
  simp [Instr.makeMap, run_underlying Tryz.underlying352, asInt, asIntOf]
set_option maxHeartbeats 2000000 in
theorem claimsOf_any (a : Option Addr) (len cap B : Nat) (ps : List PinD) (w : World) (hR : PRow w B a len cap ps) (hB : B ≤ w.heap.size) (hp : pinsF ps = 0) :
    Calls Tryz.prog 288 #[.slice a len cap] w fun e w' => e = .returned (.map (some w.heap.size)) ∧ CMap w' w.heap.size (claimsL ps) ∧ Below w.heap.size w w' := by
  obtain ⟨hl4, hgood, hrise⟩ := pinsF_zero hp
  have hL := Lib.hid hR.length
  have hl : len ≤ 4 := by rw [← hL.out]; exact hl4
  have hmm := fun w => run_makeMap_claims (2 * len) w
  have T0 : ByClaim w ps 0 (w.alloc (.map #[] 0)) := ⟨CMap.new w, bal (Below.refl _ _) _⟩
  clear hp hl4
  go_enter Tryz.func288, Tryz.ntmps288
  go_wp2_with fail
  generalize w.alloc (.map #[] 0) = w1 at *
  go_loopw [12] (fun i wr => ∃ k : Nat, k ≤ len ∧ i = .int .i64 k ∧ ByClaim w ps k wr) (fun i _ => len - (intOf i).toNat)
  case atStart => exact ⟨0, Nat.zero_le _, rfl, T0⟩
  case round =>
    obtain ⟨k, hk, rfl, hT⟩ := hrel
    clear T0
    by_cases hlt : k < len
    · obtain ⟨b, off, hab, hbB, c0, c1, c2, c3, c4⟩ := (hR.below (hT.bel.mono hB)).at' hlt
      subst hab
      have hkp : k < ps.length := by rw [hL.out]; exact hlt
      have hbs := hT.bel.size
      have hlm := hT.map.lt
      obtain ⟨k1, k2, kne⟩ := pin_keys (hgood _ (hR.mem hlt)) (hR.name hlt)
      have ap := claims_apart hrise hkp
      have nx := claims_next hkp
      have hcl := claimsL_length (ps.take k)
      have htk : (ps.take k).length ≤ 4 := by rw [List.length_take]; omega
      have M0 := hT.map.alloc (.cells #[.string (ps[k]?.getD pin0).n, .int .i64 (ps[k]?.getD pin0).a, .int .i64 (ps[k]?.getD pin0).b, .int .i64 (ps[k]?.getD pin0).e, .int .i64 (ps[k]?.getD pin0).u] 59)
      have X0 := At.new wr (ps[k]?.getD pin0).vals 59
      have B0 := bal hT.bel (.cells #[.string (ps[k]?.getD pin0).n, .int .i64 (ps[k]?.getD pin0).a, .int .i64 (ps[k]?.getD pin0).b, .int .i64 (ps[k]?.getD pin0).e, .int .i64 (ps[k]?.getD pin0).u] 59)
      generalize ps[k]?.getD pin0 = p at *
      obtain ⟨w2, run1, M2, tn1⟩ := M0.store (e := ((p.n, p.a), 3)) (by omega) k1 (ap p.a)
      have X2 : At wr.heap.size p.vals w2 := X0.kept tn1.grown (fun e => by injection e with e; omega)
      have B2 := turned_below tn1 B0 (Nat.le_refl _)
      obtain ⟨w3, run2, M3, tn2⟩ := M2.store (e := ((p.n, p.b), 4)) (by simp; omega) k2 (by
        intro q hq
        rcases List.mem_append.1 hq with hq | hq
        · exact ap p.b q hq
        · simp at hq
          subst hq
          intro h
          injection h with _ h
          exact kne h.symm)
      have B3 := turned_below tn2 B2 (Nat.le_refl _)
      rw [nx] at M3
      have T2 := Lib.hid (ByClaim.mk M3 B3)
      have x0 := X2.cell 0 _ rfl
      have x1 := X2.cell 1 _ rfl
      have x2 := X2.cell 2 _ rfl
      have x3 := X2.cell 3 _ rfl
      have x4 := X2.cell 4 _ rfl
      clear M0 M2 M3 X0 X2 B0 B2 B3 tn1 tn2 hT hmm k1 k2 kne ap nx hgood hrise
      dsimp only at run1 run2
      go_wp2_with fail
      go_roundw
      case rel => exact ⟨k + 1, by omega, by go_num, T2.out⟩
      case measure => simp [intOf]; omega
    · obtain rfl : k = len := by omega
      have e : ps.take k = ps := List.take_of_length_le (by rw [hL.out]; omega)
      have HM := Lib.hid (e ▸ hT.map)
      have HB := Lib.hid hT.bel
      clear hT hmm
      go_wp2_with fail
      go_ret
      exact ⟨rfl, HM.out, HB.out⟩
end Go.Proofs.YtlodhleihnlchaaGreatDoor
namespace Go.Proofs.YtlodhleihnlchaaGreatDoor
open Go.RowKit
set_option maxRecDepth 100000
set_option linter.unusedVariables false

theorem implMatchesTlsa_any (n : ByteArray) (u m v : Int) (s : ByteArray) (p : Int) (w : World) (lab : Labels w) (hs : s.size ≤ maxLen) :
    Calls Tryz.prog 57 #[T4 n u m v, .string s, .int .i64 p] w fun e w' => e = .returned (.bool (M.matchB n.data.toList u m v s.data.toList (pubB p) p)) ∧ Below w.heap.size w w' := by
  have b0 := bal (Below.refl _ w) (.cells #[.string n, .int .i64 u, .int .i64 m, .int .i64 v] 98)
  have A0 := At.new w (TL4 n u m v) 98
  have L0 := lab.on b0
  have F := fun w lab => implTlsaFor_any s p m w lab hs
  rw [M.matchB_for pub_sum]
  by_cases h0 : M.forC s.data.toList (pubB p) m = 0
  · simp only [forT_yes h0] at F
    rw [decide_eq_true h0, Bool.true_and]
    have Q := text_beq (M.bs (M.nrm s.data.toList)) n
    rw [M.bs_list] at Q
    rw [← Q]
    generalize M.bs (M.nrm s.data.toList) = R at *
    generalize M.valM p m = x at *
    clear h0 Q
    go_enter Tryz.func57, Tryz.ntmps57
    go_wp2_with fail
    generalize w.alloc (.cells #[.string n, .int .i64 u, .int .i64 m, .int .i64 v] 98) = W0 at *
    refine (F _ L0).mono ?_
    rintro r u1 ⟨rfl, b1⟩
    have A2 := (A0.on b1).alloc (.cells #[.int .i64 0, .string R, .int .i64 3, .int .i64 m, .int .i64 x] 225)
    have A3 := At.new u1 (TL5 0 R 3 m x) 225
    have p0 := A2.cell 0 _ rfl
    have p1 := A2.cell 1 _ rfl
    have p2 := A2.cell 2 _ rfl
    have p3 := A2.cell 3 _ rfl
    have q0 := A3.cell 0 _ rfl
    have q1 := A3.cell 1 _ rfl
    have q2 := A3.cell 2 _ rfl
    have q3 := A3.cell 3 _ rfl
    have q4 := A3.cell 4 _ rfl
    have B3 := bal (btr b0 b1) (.cells #[.int .i64 0, .string R, .int .i64 3, .int .i64 m, .int .i64 x] 225)
    clear A0 A2 A3 F L0 b0 b1
    have HB := Lib.hid B3
    clear B3
    go_wp2_with fail
    all_goals
      go_ret
      refine ⟨ret_bool ?_, ?_⟩
      · simp_all
      · have B4 := HB.out
        simp_all
  · simp only [forT_no h0] at F
    rw [decide_eq_false h0, Bool.false_and]
    generalize M.forC s.data.toList (pubB p) m = c at *
    go_enter Tryz.func57, Tryz.ntmps57
    go_wp2_with fail
    generalize w.alloc (.cells #[.string n, .int .i64 u, .int .i64 m, .int .i64 v] 98) = W0 at *
    refine (F _ L0).mono ?_
    rintro r u1 ⟨rfl, b1⟩
    have B3 := bal (btr b0 b1) (.cells #[.int .i64 c, .string { data := #[] }, .int .i64 0, .int .i64 0, .int .i64 0] 225)
    have q : (c == 0) = false := by simpa using h0
    clear A0 F L0 b0 b1
    go_wp2_with fail
    go_ret
    exact ⟨rfl, B3⟩

end Go.Proofs.YtlodhleihnlchaaGreatDoor
namespace Go.Proofs.YtlodhleihnlchaaGreatDoor
open Go.RowKit
set_option maxRecDepth 100000
set_option linter.unusedVariables false

theorem supplied1_any (bx : Nat) (a1 : Option Addr) (n1 c1 : Nat) (a2 : Option Addr) (n2 c2 : Nat) (q : AskD) (t : TlsaD) (w : World) (lab : Labels w) (A0 : At bx (A6L a1 n1 c1 a2 n2 c2 q) w) (hs : q.n.size ≤ maxLen) :
    Calls Tryz.prog 286 #[TV t, .pointer (some ⟨bx, 0, none⟩)] w fun e w' => e = .returned (.bool (M.matchB t.nm t.u t.m t.v q.nm (pubB q.p) q.p)) ∧ Below w.heap.size w w' := by
  have b0 := bal (Below.refl _ w) (.cells #[.string t.n, .int .i64 t.u, .int .i64 t.m, .int .i64 t.v] 98)
  have MT := implMatchesTlsa_any t.n t.u t.m t.v q.n q.p _ (lab.on b0) hs
  have A1 := A0.on b0
  have X1 : At w.heap.size t.vals (w.alloc (.cells #[.string t.n, .int .i64 t.u, .int .i64 t.m, .int .i64 t.v] 98)) := At.new w t.vals 98
  have lt := A0.lt (by simp [A6L])
  unfold A6L at A1
  rw [show M.matchB t.nm t.u t.m t.v q.nm (pubB q.p) q.p = M.matchB t.n.data.toList t.u t.m t.v q.n.data.toList (pubB q.p) q.p from rfl]
  generalize M.matchB t.n.data.toList t.u t.m t.v q.n.data.toList (pubB q.p) q.p = b at *
  unfold A6L at A0
  have y0 := A0.cell 0 _ rfl
  have y1 := A0.cell 1 _ rfl
  have y2 := A0.cell 2 _ rfl
  have y3 := A0.cell 3 _ rfl
  have y4 := A0.cell 4 _ rfl
  have y5 := A0.cell 5 _ rfl
  clear A0 A1 X1 lab
  go_enter Tryz.func286, Tryz.ntmps286
  go_wp2_with fail
  refine MT.mono ?_
  rintro r u1 ⟨rfl, b1⟩
  have hb := btr b0 b1
  go_wp2_with fail
  go_ret
  exact ⟨rfl, hb⟩
set_option maxHeartbeats 2000000 in
theorem indexFunc_any (bx : Nat) (pr : TlsaD → Bool) (a : Option Addr) (len cap B : Nat) (ts : List TlsaD) (w : World) (hR : TRow w B a len cap ts) (hB : B ≤ w.heap.size)
    (C : ∀ (w' : World) (t : TlsaD), Below w.heap.size w w' → Calls Tryz.prog 286 #[TV t, .pointer (some ⟨bx, 0, none⟩)] w' fun e w2 => e = .returned (.bool (pr t)) ∧ Below w'.heap.size w' w2) :
    Calls Tryz.prog 314 #[.slice a len cap, .func (.func 286) #[] #[.pointer (some ⟨bx, 0, none⟩)]] w fun e w' => ∃ i : Int, e = .returned (.int .i64 i) ∧ decide (0 ≤ i) = ts.any pr ∧ Below w.heap.size w w' := by
  have hL := Lib.hid hR.length
  have hm := hR.most
  have hfit := hR.fits
  unfold maxLen at hm
  have HR := Lib.hid hR
  have HC := Lib.hid C
  clear hR C
  generalize hd : ts.any pr = d
  have HD := Lib.hid hd
  clear hd
  go_enter Tryz.func314, Tryz.ntmps314
  go_wp2_with fail
  go_loopw [8] (fun i wr => ∃ k : Nat, k ≤ len ∧ i = .int .i64 k ∧ (ts.take k).any pr = false ∧ Below w.heap.size w wr) (fun i _ => len - (intOf i).toNat)
  case atStart => exact ⟨0, Nat.zero_le _, rfl, rfl, Below.refl _ _⟩
  case round =>
    obtain ⟨k, hk, rfl, hn, hb⟩ := hrel
    by_cases hlt : k < len
    · have hkt : k < ts.length := by rw [hL.out]; exact hlt
      obtain ⟨b, off, ha, hbB, c0, c1, c2, c3⟩ := (HR.out.below (hb.mono hB)).at' hlt
      subst ha
      have CC := HC.out wr (ts[k]?.getD tls0) hb
      have HB := Lib.hid hb
      cases hp : pr (ts[k]?.getD tls0)
      · have HN := Lib.hid (show (ts.take (k + 1)).any pr = false by
          rw [List.take_succ_eq_append_getElem hkt, List.any_append, hn]
          rw [List.getElem?_eq_getElem hkt] at hp
          simpa using hp)
        rw [hp] at CC
        clear hn hkt hb hp HC
        generalize ts[k]?.getD tls0 = q at *
        go_wp2_with fail
        refine CC.mono ?_
        rintro r u1 ⟨rfl, b1⟩
        have bb := Lib.hid (btr HB.out b1)
        clear c0 c1 c2 c3 HB b1
        go_wp2_with fail
        go_roundw
        case rel => exact ⟨k + 1, by omega, by go_num, HN.out, bb.out⟩
        case measure => simp [intOf]; omega
      · have HN := Lib.hid (show ts.any pr = true by
          refine List.any_eq_true.2 ⟨ts[k], List.getElem_mem _, ?_⟩
          rw [List.getElem?_eq_getElem hkt] at hp
          exact hp)
        rw [hp] at CC
        clear hn hkt hb hp HC
        generalize ts[k]?.getD tls0 = q at *
        go_wp2_with fail
        refine CC.mono ?_
        rintro r u1 ⟨rfl, b1⟩
        have bb := Lib.hid (btr HB.out b1)
        clear c0 c1 c2 c3 HB b1
        go_wp2_with fail
        go_ret
        exact ⟨k, rfl, by rw [← HD.out, HN.out]; simp, bb.out⟩
    · obtain rfl : k = len := by omega
      have e : ts.take k = ts := List.take_of_length_le (by rw [hL.out]; omega)
      rw [e, HD.out] at hn
      subst hn
      go_wp2_with fail
      go_ret
      exact ⟨-1, rfl, by simp, hb⟩
theorem containsFunc_any (bx : Nat) (pr : TlsaD → Bool) (a : Option Addr) (len cap B : Nat) (ts : List TlsaD) (w : World) (hR : TRow w B a len cap ts) (hB : B ≤ w.heap.size)
    (C : ∀ (w' : World) (t : TlsaD), Below w.heap.size w w' → Calls Tryz.prog 286 #[TV t, .pointer (some ⟨bx, 0, none⟩)] w' fun e w2 => e = .returned (.bool (pr t)) ∧ Below w'.heap.size w' w2) :
    Calls Tryz.prog 287 #[.slice a len cap, .func (.func 286) #[] #[.pointer (some ⟨bx, 0, none⟩)]] w fun e w' => e = .returned (.bool (ts.any pr)) ∧ Below w.heap.size w w' := by
  have I := indexFunc_any bx pr a len cap B ts w hR hB C
  generalize ts.any pr = d at *
  clear hR C
  go_enter Tryz.func287, Tryz.ntmps287
  go_wp2_with fail
  refine I.mono ?_
  rintro r u1 ⟨i, rfl, hi, b1⟩
  go_wp2_with fail
  go_ret
  exact ⟨by rw [← hi]; rfl, b1⟩
theorem any_dane {l : List UInt8} {ts : List TlsaD} {p : Int} {q : AskD} (hn : M.nameF l = 0) (hq : q.nm = l) (hp : q.p = p) (hb : pubB p = true) : (usable (M.nrm l) ts).any (fun t => M.matchB t.nm t.u t.m t.v q.nm (pubB q.p) q.p) = daneB (usable (M.nrm l) ts) p := by
  subst hq
  subst hp
  unfold daneB
  rw [Bool.eq_iff_iff, List.any_eq_true, List.any_eq_true]
  constructor
  · rintro ⟨t, ht, h⟩
    rw [hb, dane_match hn t ht] at h
    exact ⟨t, ht, h⟩
  · rintro ⟨t, ht, h⟩
    refine ⟨t, ht, ?_⟩
    rw [hb, dane_match hn t ht]
    exact h
theorem implSupplied_any (x : Option Addr) (n c : Nat) (us : List TlsaD) (a1 : Option Addr) (n1 c1 : Nat) (a2 : Option Addr) (n2 c2 B : Nat) (q : AskD) (w : World) (lab : Labels w) (hR : TRow w B x n c us) (hB : B ≤ w.heap.size) (hs : q.n.size ≤ maxLen) :
    Calls Tryz.prog 235 #[.slice x n c, A6 a1 n1 c1 a2 n2 c2 q] w fun e w' => e = .returned (.int .i64 (if us.any (fun t => M.matchB t.nm t.u t.m t.v q.nm (pubB q.p) q.p) then 1 else 2)) ∧ Below w.heap.size w w' := by
  have b0 := bal (Below.refl _ w) (.cells #[.bool q.first, .slice a1 n1 c1, .slice a2 n2 c2, .string q.n, .int .i64 q.p, .int .i64 q.t] 80)
  have A0 : At w.heap.size (A6L a1 n1 c1 a2 n2 c2 q) (w.alloc (.cells #[.bool q.first, .slice a1 n1 c1, .slice a2 n2 c2, .string q.n, .int .i64 q.p, .int .i64 q.t] 80)) := At.new w (A6L a1 n1 c1 a2 n2 c2 q) 80
  have hmf : ∀ (fn : Fn) (first cap : Array Value) (w : World), (Instr.makeFunc fn first cap).run Tryz.prog w = .ok (.func fn first cap) w := fun _ _ _ _ => rfl
  have CF := containsFunc_any w.heap.size (fun t => M.matchB t.nm t.u t.m t.v q.nm (pubB q.p) q.p) x n c B us _ (hR.below (b0.mono hB)) (Nat.le_trans hB b0.size) (fun w' t hb => supplied1_any w.heap.size a1 n1 c1 a2 n2 c2 q t w' ((lab.on b0).on hb) (A0.on hb) hs)
  generalize us.any (fun t => M.matchB t.nm t.u t.m t.v q.nm (pubB q.p) q.p) = d at *
  clear A0 lab hR
  cases d
  all_goals
    go_enter Tryz.func235, Tryz.ntmps235
    go_wp2_with fail
    refine CF.mono ?_
    rintro r u1 ⟨rfl, b1⟩
    have hb := btr b0 b1
    go_wp2_with fail
    go_ret
    exact ⟨rfl, hb⟩
set_option maxHeartbeats 2000000 in
theorem implPinned_any (pp : PinD) (a1 : Option Addr) (n1 c1 : Nat) (a2 : Option Addr) (n2 c2 B : Nat) (q : AskD) (w : World) (hR : ARow w B a1 n1 c1 a2 n2 c2 q) (hB : B ≤ w.heap.size) (h0 : askF q = 0) (hp : pp ∈ q.ps) :
    Calls Tryz.prog 236 #[P5 pp, A6 a1 n1 c1 a2 n2 c2 q] w fun e w' => e = .returned (.int .i64 (pinReason pp q.p q.t)) ∧ Below w.heap.size w w' := by
  obtain ⟨hpf, ht8, hnf, hpub, htim⟩ := askF_zero h0
  have hpp := (pinsF_zero hpf).2.1 pp hp
  have hri := (pinsF_zero hpf).2.2
  have hpn := hR.ps.names pp hp
  have b0 := bal (bal (Below.refl _ w) (.cells #[.string pp.n, .int .i64 pp.a, .int .i64 pp.b, .int .i64 pp.e, .int .i64 pp.u] 59)) (.cells #[.bool q.first, .slice a1 n1 c1, .slice a2 n2 c2, .string q.n, .int .i64 q.p, .int .i64 q.t] 80)
  have P0 : At w.heap.size pp.vals ((w.alloc (.cells #[.string pp.n, .int .i64 pp.a, .int .i64 pp.b, .int .i64 pp.e, .int .i64 pp.u] 59)).alloc (.cells #[.bool q.first, .slice a1 n1 c1, .slice a2 n2 c2, .string q.n, .int .i64 q.p, .int .i64 q.t] 80)) := (At.new w pp.vals 59).alloc _
  have A0 := At.new (w.alloc (.cells #[.string pp.n, .int .i64 pp.a, .int .i64 pp.b, .int .i64 pp.e, .int .i64 pp.u] 59)) (A6L a1 n1 c1 a2 n2 c2 q) 80
  rw [World.size_alloc] at A0
  have HA0 := Lib.hid (show At (w.heap.size + 1) (A6L a1 n1 c1 a2 n2 c2 q) ((w.alloc (.cells #[.string pp.n, .int .i64 pp.a, .int .i64 pp.b, .int .i64 pp.e, .int .i64 pp.u] 59)).alloc (.cells #[.bool q.first, .slice a1 n1 c1, .slice a2 n2 c2, .string q.n, .int .i64 q.p, .int .i64 q.t] 80)) from A0)
  have LV := fun w => implIsLive_any pp q.t w hpn
  have elv : liveB pp q.t = decide (q.t ≤ pp.u) := by simp [liveB, hpp, htim]
  rw [elv] at LV
  have CO := Lib.hid (fun (w1 : World) (h : Below w.heap.size w w1) => claimsOf_any a1 n1 c1 B q.ps w1 (hR.ps.below (h.mono hB)) (Nat.le_trans hB h.size) hpf)
  have LK := lookL_claims hri q.p hp
  have HK := Lib.hid (pub_key (n := pp.n) hpn hpub)
  unfold pinReason
  clear hR A0 h0 hpf ht8 hnf hpub htim hpp hri hp elv
  obtain ⟨f, ps, ts, n, p, t⟩ := q
  unfold A6L at HA0
  dsimp only at *
  by_cases h1 : t ≤ pp.u
  case neg =>
    rw [if_neg h1]
    rw [decide_eq_false h1] at LV
    clear LK CO
    have y0 := HA0.out.cell 0 _ rfl
    have y1 := HA0.out.cell 1 _ rfl
    have y2 := HA0.out.cell 2 _ rfl
    have y3 := HA0.out.cell 3 _ rfl
    have y4 := HA0.out.cell 4 _ rfl
    have y5 := HA0.out.cell 5 _ rfl
    go_enter Tryz.func236, Tryz.ntmps236
    go_wp2_with fail
    generalize (w.alloc (.cells #[.string pp.n, .int .i64 pp.a, .int .i64 pp.b, .int .i64 pp.e, .int .i64 pp.u] 59)).alloc (.cells #[.bool f, .slice a1 n1 c1, .slice a2 n2 c2, .string n, .int .i64 p, .int .i64 t] 80) = W0 at *
    refine (LV _).mono ?_
    rintro r u1 ⟨rfl, b1⟩
    have B1 := btr b0 b1
    have A1 := HA0.out.on b1
    have P1 := P0.on b1
    clear y0 y1 y2 y3 y4 y5 b0 b1 LV HA0 P0
    go_wp2_with fail
    go_ret
    exact ⟨rfl, B1⟩
  rw [if_pos h1]
  rw [decide_eq_true h1] at LV
  clear h1
  by_cases h2 : pp.a = p
  · rw [if_pos h2]
    rw [if_pos h2] at LK
    have LK := Lib.hid LK
    clear h2
    have y0 := HA0.out.cell 0 _ rfl
    have y1 := HA0.out.cell 1 _ rfl
    have y2 := HA0.out.cell 2 _ rfl
    have y3 := HA0.out.cell 3 _ rfl
    have y4 := HA0.out.cell 4 _ rfl
    have y5 := HA0.out.cell 5 _ rfl
    go_enter Tryz.func236, Tryz.ntmps236
    go_wp2_with fail
    generalize (w.alloc (.cells #[.string pp.n, .int .i64 pp.a, .int .i64 pp.b, .int .i64 pp.e, .int .i64 pp.u] 59)).alloc (.cells #[.bool f, .slice a1 n1 c1, .slice a2 n2 c2, .string n, .int .i64 p, .int .i64 t] 80) = W0 at *
    refine (LV _).mono ?_
    rintro r u1 ⟨rfl, b1⟩
    have B1 := btr b0 b1
    have A1 := HA0.out.on b1
    have P1 := P0.on b1
    clear y0 y1 y2 y3 y4 y5 b0 b1 LV HA0 P0
    go_wp2_with fail
    refine wp_region_line (Bel u1) [(0, true), (1, true), (3, true), (4, true), (5, true), (6, true), (7, true), (2, false), (8, false), (9, true), (10, true), (11, true), (12, true), (13, true)] (by kernel_rfl) (by kernel_rfl) (fun _ _ d _ _ h => by cases d <;> exact h) (Bel.drew u1) ?_
    have hst := Bel.drew u1
    have inst : Nonempty (Of (Bel u1)) := ⟨⟨_, hst⟩⟩
    have y1 := bel_cell (A1.cell 1 _ rfl)
    have y4 := bel_cell (A1.cell 4 _ rfl)
    have x0 := bel_cell (P1.cell 0 _ rfl)
    generalize u1.drew = V1 at *
    iterate 7 (refine line_read rfl (by kernel_rfl) (fun K hK => ?_); go_big_quiet_op; refine hK _ ?_; clear hK K)
    refine line_alone rfl (by kernel_rfl) (fun K hK => ?_)
    refine call_any (args := #[.slice a1 n1 c1]) rfl (by kernel_rfl) (by kernel_rfl) (CO.out _ (btr B1 hst.out)) ?_
    rintro e x1 ⟨rfl, M1, hbn⟩
    have hst2 := hst.on hbn
    have lk := M1.look HK.out
    rw [LK.out] at lk
    refine ⟨_, rfl, hK _ _ hst2 ?_⟩
    clear hK K hst hbn
    have hst := hst2
    clear hst2
    simp only [Act.put, List.setIfInBounds_toArray, List.set_cons_zero, List.set_cons_succ]
    dsimp only [Option.getD, Option.isSome] at lk
    refine line_alone rfl (by kernel_rfl) (fun K hK => ?_)
    go_big_op
    refine hK _ _ (hst) ?_
    clear hK K
    iterate 5 (refine line_read rfl (by kernel_rfl) (fun K hK => ?_); go_big_quiet_op; refine hK _ ?_; clear hK K)
    refine line_nil ?_
    have bb := btr B1 hst.out
    clear hst inst y1 y4 x0 A1 P1 M1 lk
    go_wp2_with fail
    go_ret
    exact ⟨rfl, bb⟩
  rw [if_neg h2]
  rw [if_neg h2] at LK
  by_cases h3 : pp.b = p
  · rw [if_pos h3]
    rw [if_pos h3] at LK
    have LK := Lib.hid LK
    clear h2 h3
    have y0 := HA0.out.cell 0 _ rfl
    have y1 := HA0.out.cell 1 _ rfl
    have y2 := HA0.out.cell 2 _ rfl
    have y3 := HA0.out.cell 3 _ rfl
    have y4 := HA0.out.cell 4 _ rfl
    have y5 := HA0.out.cell 5 _ rfl
    go_enter Tryz.func236, Tryz.ntmps236
    go_wp2_with fail
    generalize (w.alloc (.cells #[.string pp.n, .int .i64 pp.a, .int .i64 pp.b, .int .i64 pp.e, .int .i64 pp.u] 59)).alloc (.cells #[.bool f, .slice a1 n1 c1, .slice a2 n2 c2, .string n, .int .i64 p, .int .i64 t] 80) = W0 at *
    refine (LV _).mono ?_
    rintro r u1 ⟨rfl, b1⟩
    have B1 := btr b0 b1
    have A1 := HA0.out.on b1
    have P1 := P0.on b1
    clear y0 y1 y2 y3 y4 y5 b0 b1 LV HA0 P0
    go_wp2_with fail
    refine wp_region_line (Bel u1) [(0, true), (1, true), (3, true), (4, true), (5, true), (6, true), (7, true), (2, false), (8, false), (9, true), (10, true), (11, true), (12, true), (13, true)] (by kernel_rfl) (by kernel_rfl) (fun _ _ d _ _ h => by cases d <;> exact h) (Bel.drew u1) ?_
    have hst := Bel.drew u1
    have inst : Nonempty (Of (Bel u1)) := ⟨⟨_, hst⟩⟩
    have y1 := bel_cell (A1.cell 1 _ rfl)
    have y4 := bel_cell (A1.cell 4 _ rfl)
    have x0 := bel_cell (P1.cell 0 _ rfl)
    generalize u1.drew = V1 at *
    iterate 7 (refine line_read rfl (by kernel_rfl) (fun K hK => ?_); go_big_quiet_op; refine hK _ ?_; clear hK K)
    refine line_alone rfl (by kernel_rfl) (fun K hK => ?_)
    refine call_any (args := #[.slice a1 n1 c1]) rfl (by kernel_rfl) (by kernel_rfl) (CO.out _ (btr B1 hst.out)) ?_
    rintro e x1 ⟨rfl, M1, hbn⟩
    have hst2 := hst.on hbn
    have lk := M1.look HK.out
    rw [LK.out] at lk
    refine ⟨_, rfl, hK _ _ hst2 ?_⟩
    clear hK K hst hbn
    have hst := hst2
    clear hst2
    simp only [Act.put, List.setIfInBounds_toArray, List.set_cons_zero, List.set_cons_succ]
    dsimp only [Option.getD, Option.isSome] at lk
    refine line_alone rfl (by kernel_rfl) (fun K hK => ?_)
    go_big_op
    refine hK _ _ (hst) ?_
    clear hK K
    iterate 5 (refine line_read rfl (by kernel_rfl) (fun K hK => ?_); go_big_quiet_op; refine hK _ ?_; clear hK K)
    refine line_nil ?_
    have bb := btr B1 hst.out
    clear hst inst y1 y4 x0 A1 P1 M1 lk
    go_wp2_with fail
    go_ret
    exact ⟨rfl, bb⟩
  · rw [if_neg h3]
    rw [if_neg h3] at LK
    have LK := Lib.hid LK
    clear h2 h3
    have y0 := HA0.out.cell 0 _ rfl
    have y1 := HA0.out.cell 1 _ rfl
    have y2 := HA0.out.cell 2 _ rfl
    have y3 := HA0.out.cell 3 _ rfl
    have y4 := HA0.out.cell 4 _ rfl
    have y5 := HA0.out.cell 5 _ rfl
    go_enter Tryz.func236, Tryz.ntmps236
    go_wp2_with fail
    generalize (w.alloc (.cells #[.string pp.n, .int .i64 pp.a, .int .i64 pp.b, .int .i64 pp.e, .int .i64 pp.u] 59)).alloc (.cells #[.bool f, .slice a1 n1 c1, .slice a2 n2 c2, .string n, .int .i64 p, .int .i64 t] 80) = W0 at *
    refine (LV _).mono ?_
    rintro r u1 ⟨rfl, b1⟩
    have B1 := btr b0 b1
    have A1 := HA0.out.on b1
    have P1 := P0.on b1
    clear y0 y1 y2 y3 y4 y5 b0 b1 LV HA0 P0
    go_wp2_with fail
    refine wp_region_line (Bel u1) [(0, true), (1, true), (3, true), (4, true), (5, true), (6, true), (7, true), (2, false), (8, false), (9, true), (10, true), (11, true), (12, true), (13, true)] (by kernel_rfl) (by kernel_rfl) (fun _ _ d _ _ h => by cases d <;> exact h) (Bel.drew u1) ?_
    have hst := Bel.drew u1
    have inst : Nonempty (Of (Bel u1)) := ⟨⟨_, hst⟩⟩
    have y1 := bel_cell (A1.cell 1 _ rfl)
    have y4 := bel_cell (A1.cell 4 _ rfl)
    have x0 := bel_cell (P1.cell 0 _ rfl)
    generalize u1.drew = V1 at *
    iterate 7 (refine line_read rfl (by kernel_rfl) (fun K hK => ?_); go_big_quiet_op; refine hK _ ?_; clear hK K)
    refine line_alone rfl (by kernel_rfl) (fun K hK => ?_)
    refine call_any (args := #[.slice a1 n1 c1]) rfl (by kernel_rfl) (by kernel_rfl) (CO.out _ (btr B1 hst.out)) ?_
    rintro e x1 ⟨rfl, M1, hbn⟩
    have hst2 := hst.on hbn
    have lk := M1.look HK.out
    rw [LK.out] at lk
    refine ⟨_, rfl, hK _ _ hst2 ?_⟩
    clear hK K hst hbn
    have hst := hst2
    clear hst2
    simp only [Act.put, List.setIfInBounds_toArray, List.set_cons_zero, List.set_cons_succ]
    dsimp only [Option.getD, Option.isSome] at lk
    refine line_alone rfl (by kernel_rfl) (fun K hK => ?_)
    go_big_op
    refine hK _ _ (hst) ?_
    clear hK K
    iterate 5 (refine line_read rfl (by kernel_rfl) (fun K hK => ?_); go_big_quiet_op; refine hK _ ?_; clear hK K)
    refine line_nil ?_
    have bb := btr B1 hst.out
    clear hst inst y1 y4 x0 A1 P1 M1 lk
    go_wp2_with fail
    go_ret
    exact ⟨rfl, bb⟩
theorem tl1 (c : Int) (a : Option Addr) (n k : Nat) (w : World) : Sem.run Tryz.prog (Instr.field 88 (.agg #[.int .i64 c, .slice a n k]) 1) w = .ok (.slice a n k) w := by kernel_rfl
set_option maxHeartbeats 4000000 in
theorem reasonOf_any (a1 : Option Addr) (n1 c1 : Nat) (a2 : Option Addr) (n2 c2 B : Nat) (q : AskD) (w : World) (lab : Labels w) (hR : ARow w B a1 n1 c1 a2 n2 c2 q) (hB : B ≤ w.heap.size) (h0 : askF q = 0) :
    Calls Tryz.prog 142 #[A6 a1 n1 c1 a2 n2 c2 q] w fun e w' => e = .returned (.int .i64 (reason q)) ∧ Below w.heap.size w w' := by
  obtain ⟨hpf, ht8, hnf, hpub, htim⟩ := askF_zero h0
  have b0 := bal (Below.refl _ w) (.cells #[.bool q.first, .slice a1 n1 c1, .slice a2 n2 c2, .string q.n, .int .i64 q.p, .int .i64 q.t] 80)
  have A0 : At w.heap.size (A6L a1 n1 c1 a2 n2 c2 q) (w.alloc (.cells #[.bool q.first, .slice a1 n1 c1, .slice a2 n2 c2, .string q.n, .int .i64 q.p, .int .i64 q.t] 80)) := At.new w (A6L a1 n1 c1 a2 n2 c2 q) 80
  have e0 : usableC q.ts q.nm = 0 := by rw [usableC_name (by omega)]; exact hnf
  have US := implUsableOf_any a2 n2 c2 B q.ts q.n _ (hR.ts.below (b0.mono hB)) (Nat.le_trans hB b0.size) hR.nm
  rw [show q.n.data.toList = q.nm from rfl, usableR_yes e0, e0] at US
  have hun : ∀ x ∈ usable (M.nrm q.nm) q.ts, x.n.size ≤ maxLen := fun x hx => hR.ts.names x (usable_mem hx).1
  have HN := Lib.hid hun
  have ad := any_dane (l := q.nm) (ts := q.ts) (p := q.p) (q := q) hnf rfl rfl hpub
  have SU := Lib.hid (fun (x : Option Addr) (n c : Nat) (w' : World) (h : TRow w' w'.heap.size x n c (usable (M.nrm q.nm) q.ts)) (hb : Below w.heap.size w w') => implSupplied_any x n c _ a1 n1 c1 a2 n2 c2 w'.heap.size q w' (lab.on hb) h (Nat.le_refl _) hR.nm)
  rw [ad] at SU
  have FP := Lib.hid (fun (w' : World) (hb : Below w.heap.size w w') => implFindPin_any a1 n1 c1 B q.ps q.n w' (hR.ps.below (hb.mono hB)) (Nat.le_trans hB hb.size) hR.nm)
  rw [show q.n.data.toList = q.nm from rfl, findC_ok hpf hnf, show findR q.ps q.nm = (findP q.ps (M.nrm q.nm)).getD pin0 by simp [findR, hpf, hnf]] at FP
  have PI := Lib.hid (fun (pp : PinD) (hp : pp ∈ q.ps) (w' : World) (hb : Below w.heap.size w w') => implPinned_any pp a1 n1 c1 a2 n2 c2 B q w' (hR.below (hb.mono hB)) (Nat.le_trans hB hb.size) h0 hp)
  have FM := fun (x : PinD) (h : findP q.ps (M.nrm q.nm) = some x) => (findP_mem h).1
  have RD := reason_dane (a := q)
  have RP := fun (x : PinD) => reason_pin (a := q) (q := x)
  have RN := reason_none (a := q)
  have g1 := tl1
  generalize usable (M.nrm q.nm) q.ts = us at *
  generalize daneB us q.p = db at *
  generalize (if db = true then (1 : Int) else 2) = dv at *
  generalize findP q.ps (M.nrm q.nm) = fo at *
  clear hpf ht8 hnf hpub htim e0 hun ad hR h0 lab
  generalize hm : us.length = m at *
  have HM := Lib.hid hm
  clear hm
  unfold TlsasRes at US
  obtain ⟨f, ps, ts, n, p, t⟩ := q
  unfold A6L at A0
  dsimp only at *
  have y0 := A0.cell 0 _ rfl
  have y1 := A0.cell 1 _ rfl
  have y2 := A0.cell 2 _ rfl
  have y3 := A0.cell 3 _ rfl
  have y4 := A0.cell 4 _ rfl
  have y5 := A0.cell 5 _ rfl
  by_cases hu : m = 0
  case neg =>
    rw [RD hu]
    have hu' : (0 : Int) < m := by omega
    clear RD RP RN PI FP FM
    go_enter Tryz.func142, Tryz.ntmps142
    go_wp2_with fail
    generalize w.alloc (.cells #[.bool _, .slice a1 n1 c1, .slice a2 n2 c2, .string n, .int .i64 p, .int .i64 t] 80) = W0 at *
    refine US.mono ?_
    rintro r u1 ⟨xa, xn, xc, rfl, O1, b1⟩
    obtain rfl : xn = m := O1.len.trans HM.out
    have A1 := A0.on b1
    have B1 := btr b0 b1
    clear y0 y1 y2 y3 y4 y5 A0 b0 b1 US
    have y0 := A1.cell 0 _ rfl
    have y1 := A1.cell 1 _ rfl
    have y2 := A1.cell 2 _ rfl
    have y3 := A1.cell 3 _ rfl
    have y4 := A1.cell 4 _ rfl
    have y5 := A1.cell 5 _ rfl
    have R1 := O1.row HN.out
    clear O1
    go_wp2_with fail
    refine (SU.out _ _ _ _ R1 B1).mono ?_
    rintro r u2 ⟨rfl, b2⟩
    have bb := btr B1 b2
    clear b2 R1 A1 SU g1
    go_wp2_with fail
    go_ret
    exact ⟨rfl, bb⟩
  have hu' : ¬ (0 : Int) < m := by omega
  cases fo with
  | none =>
    rw [RN hu rfl]
    dsimp only [fndC, Option.getD] at FP
    clear RD RP RN PI FM SU
    cases f
    all_goals
      go_enter Tryz.func142, Tryz.ntmps142
      go_wp2_with fail
      generalize w.alloc (.cells #[.bool _, .slice a1 n1 c1, .slice a2 n2 c2, .string n, .int .i64 p, .int .i64 t] 80) = W0 at *
      refine US.mono ?_
      rintro r u1 ⟨xa, xn, xc, rfl, O1, b1⟩
      obtain rfl : xn = m := O1.len.trans HM.out
      have A1 := A0.on b1
      have B1 := btr b0 b1
      clear y0 y1 y2 y3 y4 y5 A0 b0 b1 US
      have y0 := A1.cell 0 _ rfl
      have y1 := A1.cell 1 _ rfl
      have y2 := A1.cell 2 _ rfl
      have y3 := A1.cell 3 _ rfl
      have y4 := A1.cell 4 _ rfl
      have y5 := A1.cell 5 _ rfl
      clear O1
      go_wp2_with fail
      refine (FP.out _ B1).mono ?_
      rintro r u2 ⟨rfl, b2⟩
      have B2 := bal (btr B1 b2) (.cells #[.int .i64 4, .string pin0.n, .int .i64 pin0.a, .int .i64 pin0.b, .int .i64 pin0.e, .int .i64 pin0.u] 74)
      have A2 := A1.on b2
      have lt2 := A2.lt (by simp)
      clear y0 y1 y2 y3 y4 y5 A1
      have y0 := A2.cell 0 _ rfl
      have y1 := A2.cell 1 _ rfl
      have y2 := A2.cell 2 _ rfl
      have y3 := A2.cell 3 _ rfl
      have y4 := A2.cell 4 _ rfl
      have y5 := A2.cell 5 _ rfl
      clear A2 b2 FP g1
      go_wp2_with fail
      go_ret
      exact ⟨rfl, B2⟩
  | some pp =>
    rw [RP pp hu rfl]
    have hpp := FM pp rfl
    dsimp only [fndC, Option.getD] at FP
    have PJ := PI.out pp hpp
    generalize pinReason pp p t = rs at *
    have HPJ := Lib.hid PJ
    clear RD RP RN FM SU PI PJ
    go_enter Tryz.func142, Tryz.ntmps142
    go_wp2_with fail
    generalize w.alloc (.cells #[.bool _, .slice a1 n1 c1, .slice a2 n2 c2, .string n, .int .i64 p, .int .i64 t] 80) = W0 at *
    refine US.mono ?_
    rintro r u1 ⟨xa, xn, xc, rfl, O1, b1⟩
    obtain rfl : xn = m := O1.len.trans HM.out
    have A1 := A0.on b1
    have B1 := btr b0 b1
    clear y0 y1 y2 y3 y4 y5 A0 b0 b1 US
    have y0 := A1.cell 0 _ rfl
    have y1 := A1.cell 1 _ rfl
    have y2 := A1.cell 2 _ rfl
    have y3 := A1.cell 3 _ rfl
    have y4 := A1.cell 4 _ rfl
    have y5 := A1.cell 5 _ rfl
    clear O1
    go_wp2_with fail
    refine (FP.out _ B1).mono ?_
    rintro r u2 ⟨rfl, b2⟩
    have B2 := bal (btr B1 b2) (.cells #[.int .i64 0, .string pp.n, .int .i64 pp.a, .int .i64 pp.b, .int .i64 pp.e, .int .i64 pp.u] 74)
    have A2 := A1.on b2
    have lt2 := A2.lt (by simp)
    clear y0 y1 y2 y3 y4 y5 A1
    have y0 := A2.cell 0 _ rfl
    have y1 := A2.cell 1 _ rfl
    have y2 := A2.cell 2 _ rfl
    have y3 := A2.cell 3 _ rfl
    have y4 := A2.cell 4 _ rfl
    have y5 := A2.cell 5 _ rfl
    clear A2 b2 FP g1
    go_wp2_with fail
    refine (HPJ.out _ B2).mono ?_
    rintro r u3 ⟨rfl, b3⟩
    have bb := btr B2 b3
    go_wp2_with fail
    go_ret
    exact ⟨rfl, bb⟩
set_option maxHeartbeats 2000000 in
theorem implDecide_any (a1 : Option Addr) (n1 c1 : Nat) (a2 : Option Addr) (n2 c2 B : Nat) (q : AskD) (w : World) (lab : Labels w) (hR : ARow w B a1 n1 c1 a2 n2 c2 q) (hB : B ≤ w.heap.size) :
    Calls Tryz.prog 46 #[A6 a1 n1 c1 a2 n2 c2 q] w fun r w' => r = .returned (Z3 (askF q) (decA q) (decR q)) ∧ Below w.heap.size w w' := by
  have b0 := bal (bal (Below.refl _ w) (.cells #[.bool q.first, .slice a1 n1 c1, .slice a2 n2 c2, .string q.n, .int .i64 q.p, .int .i64 q.t] 80)) (.cells #[.int .i64 0, .bool false, .int .i64 0] 83)
  have A0 : At w.heap.size (A6L a1 n1 c1 a2 n2 c2 q) ((w.alloc (.cells #[.bool q.first, .slice a1 n1 c1, .slice a2 n2 c2, .string q.n, .int .i64 q.p, .int .i64 q.t] 80)).alloc (.cells #[.int .i64 0, .bool false, .int .i64 0] 83)) := (At.new w (A6L a1 n1 c1 a2 n2 c2 q) 80).alloc _
  have R0 := At.new (w.alloc (.cells #[.bool q.first, .slice a1 n1 c1, .slice a2 n2 c2, .string q.n, .int .i64 q.p, .int .i64 q.t] 80)) [.int .i64 0, .bool false, .int .i64 0] 83
  rw [World.size_alloc] at R0
  have HR0 := Lib.hid (show At (w.heap.size + 1) [.int .i64 0, .bool false, .int .i64 0] ((w.alloc (.cells #[.bool q.first, .slice a1 n1 c1, .slice a2 n2 c2, .string q.n, .int .i64 q.p, .int .i64 q.t] 80)).alloc (.cells #[.int .i64 0, .bool false, .int .i64 0] 83)) from R0)
  have F := implAskFault_any a1 n1 c1 a2 n2 c2 B q _ (hR.below (b0.mono hB)) (Nat.le_trans hB b0.size)
  unfold A6L at A0
  have HA0 := Lib.hid A0
  have y0 := A0.cell 0 _ rfl
  have y1 := A0.cell 1 _ rfl
  have y2 := A0.cell 2 _ rfl
  have y3 := A0.cell 3 _ rfl
  have y4 := A0.cell 4 _ rfl
  have y5 := A0.cell 5 _ rfl
  clear R0 A0
  by_cases h0 : askF q = 0
  case neg =>
    rw [decA_no h0, decR_no h0]
    generalize askF q = c at *
    have g1 : (c != 0) = true := by simp [h0]
    have g0 : (c == 0) = false := by simpa using h0
    clear hR lab
    go_enter Tryz.func46, Tryz.ntmps46
    go_wp2_with fail
    generalize (w.alloc (.cells #[.bool q.first, .slice a1 n1 c1, .slice a2 n2 c2, .string q.n, .int .i64 q.p, .int .i64 q.t] 80)).alloc (.cells #[.int .i64 0, .bool false, .int .i64 0] 83) = W0 at *
    refine F.mono ?_
    rintro r u1 ⟨rfl, b1⟩
    have R1 := HR0.out.on b1
    have B1 := btr b0 b1
    have q0 := R1.cell 0 _ rfl
    have q1 := R1.cell 1 _ rfl
    have q2 := R1.cell 2 _ rfl
    have z0 := R1.free 0 _ rfl
    have z1 := R1.free 1 _ rfl
    have z2 := R1.free 2 _ rfl
    clear HA0 R1 HR0 y0 y1 y2 y3 y4 y5
    go_wp2_with fail
    refine bodyPost_ret (v := Z3 c false 0) (by simp [results, Tryz.results46, go_sem, q0, q1, q2]) rfl ⟨rfl, ?_⟩
    exact (by (iterate 3 (refine bset ?_ (by dsimp only; omega) _)); exact B1)
  rw [decA_yes h0, decR_yes h0]
  have RR := Lib.hid (fun (w1 : World) (h : Below w.heap.size w w1) => reasonOf_any a1 n1 c1 a2 n2 c2 B q w1 (lab.on h) (hR.below (h.mono hB)) (Nat.le_trans hB h.size) h0)
  rw [h0] at F ⊢
  generalize reason q = rs at *
  have AC := fun w => implIsAccept_any rs w
  generalize acceptB rs = ab at *
  clear hR h0 lab
  go_enter Tryz.func46, Tryz.ntmps46
  go_wp2_with fail
  generalize (w.alloc (.cells #[.bool q.first, .slice a1 n1 c1, .slice a2 n2 c2, .string q.n, .int .i64 q.p, .int .i64 q.t] 80)).alloc (.cells #[.int .i64 0, .bool false, .int .i64 0] 83) = W0 at *
  refine F.mono ?_
  rintro r u1 ⟨rfl, b1⟩
  have A1 := HA0.out.on b1
  clear y0 y1 y2 y3 y4 y5
  have y0 := A1.cell 0 _ rfl
  have y1 := A1.cell 1 _ rfl
  have y2 := A1.cell 2 _ rfl
  have y3 := A1.cell 3 _ rfl
  have y4 := A1.cell 4 _ rfl
  have y5 := A1.cell 5 _ rfl
  go_wp2_with fail
  refine (RR.out _ (btr b0 b1)).mono ?_
  rintro r u2 ⟨rfl, b2⟩
  clear y0 y1 y2 y3 y4 y5
  go_wp2_with fail
  refine (AC _).mono ?_
  rintro r u3 ⟨rfl, rfl⟩
  have R1 := HR0.out.on (btr b1 b2)
  have B1 := btr b0 (btr b1 b2)
  have q0 := R1.cell 0 _ rfl
  have q1 := R1.cell 1 _ rfl
  have q2 := R1.cell 2 _ rfl
  have z0 := R1.free 0 _ rfl
  have z1 := R1.free 1 _ rfl
  have z2 := R1.free 2 _ rfl
  clear HA0 R1 HR0 F RR AC A1
  go_wp2_with fail
  refine bodyPost_ret (v := Z3 0 ab rs) (by simp [results, Tryz.results46, go_sem, q0, q1, q2]) rfl ⟨rfl, ?_⟩
  exact (by (iterate 3 (refine bset ?_ (by dsimp only; omega) _)); exact B1)
end Go.Proofs.YtlodhleihnlchaaGreatDoor
namespace Go.Proofs.YtlodhleihnlchaaGreatDoor.M

end Go.Proofs.YtlodhleihnlchaaGreatDoor.M
namespace Go.Proofs.YtlodhleihnlchaaGreatDoor
open Go.RowKit
set_option maxRecDepth 100000
set_option linter.unusedVariables false

abbrev L4 (s k : Int) (a : Option Addr) (n c : Nat) (t : Int) : List Value := [.int .i64 s, .int .i64 k, .slice a n c, .int .i64 t]
abbrev L5 (e s k : Int) (a : Option Addr) (n c : Nat) (t : Int) : List Value := [.int .i64 e, .int .i64 s, .int .i64 k, .slice a n c, .int .i64 t]

end Go.Proofs.YtlodhleihnlchaaGreatDoor
namespace Go.Proofs.YtlodhleihnlchaaGreatDoor
open Go.RowKit
set_option maxRecDepth 100000
set_option linter.unusedVariables false

end Go.Proofs.YtlodhleihnlchaaGreatDoor
