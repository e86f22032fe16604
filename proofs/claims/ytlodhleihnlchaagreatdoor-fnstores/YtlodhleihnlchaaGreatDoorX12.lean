/- Texts of this seat that several laws rest on, laid into one. Conditions: as each theorem states. -/
import Derived.Test.YtlodhleihnlchaaGreatDoorX6
import Derived.Test.YtlodhleihnlchaaGreatDoorX10
import Derived.Test.YtlodhleihnlchaaGreatDoorX11
namespace Go.Proofs.YtlodhleihnlchaaGreatDoor
open Go.RowKit
set_option maxRecDepth 100000
set_option linter.unusedVariables false

structure Hold2 (W : World) (g1 : Nat) (c1 : List Value) (g2 : Nat) (c2 : List Value) (cur : World) : Prop where
  bel : Below W.heap.size W cur
  a1 : At g1 c1 cur
  a2 : At g2 c2 cur
section
variable {W cur cur' : World} {g1 g2 : Nat} {c1 c2 : List Value}
theorem Hold2.on (h : Hold2 W g1 c1 g2 c2 cur) (hb : Below cur.heap.size cur cur') : Hold2 W g1 c1 g2 c2 cur' := ⟨btr h.bel hb, h.a1.on hb, h.a2.on hb⟩
theorem Hold2.setB (h : Hold2 W g1 c1 g2 c2 cur) {p : Addr} (hW : W.heap.size ≤ p.block) (h1 : g1 ≠ p.block) (h2 : g2 ≠ p.block) (u : Value) : Hold2 W g1 c1 g2 c2 (cur.setCell p u) := ⟨bset h.bel hW u, h.a1.setB h1 u, h.a2.setB h2 u⟩
theorem Hold2.q1 (i : Nat) (v : Value) (h : c1[i]? = some v) : ∀ z : Of (Hold2 W g1 c1 g2 c2), z.val.cell? ⟨g1, i, none⟩ = some v := fun z => z.prop.a1.cell i v h
theorem Hold2.q2 (i : Nat) (v : Value) (h : c2[i]? = some v) : ∀ z : Of (Hold2 W g1 c1 g2 c2), z.val.cell? ⟨g2, i, none⟩ = some v := fun z => z.prop.a2.cell i v h
end
def zero9 : List Value := [.int .i64 0, .slice none 0 0, .slice none 0 0, .int .i64 0]
theorem right_names {ps : List PinD} (h : pinsF ps = 0) : ∀ p ∈ ps, p.n.size ≤ maxLen := fun p hp => by
  have := (pin_bounds ((pinsF_zero h).2.1 p hp)).1
  simp only [maxLen]
  omega
structure OpenSt (w : World) (t : Nat) (dv : List Value) (v : Value) (ps : List PinD) (rs : List (List Int)) (T : Int × List PinD) (wr : World) : Prop where
  D : At w.heap.size dv wr
  R : At (w.heap.size + 1) zero9 wr
  C : At t [.int .i64 0, v] wr
  O : OwnP wr (t + 1) v ps
  B : Below w.heap.size w wr
  lo : w.heap.size + 2 ≤ t
  hs : t + 1 ≤ wr.heap.size
  ok : pinsF ps = 0
  left : openG ps rs = T
theorem OpenSt.on {w wr w1 : World} {t : Nat} {dv : List Value} {v : Value} {ps : List PinD} {rs : List (List Int)} {T : Int × List PinD} (h : OpenSt w t dv v ps rs T wr) (hb : Below wr.heap.size wr w1) : OpenSt w t dv v ps rs T w1 :=
  ⟨h.D.on hb, h.R.on hb, h.C.on hb, h.O.below hb, btr h.B hb, h.lo, Nat.le_trans h.hs hb.size, h.ok, h.left⟩
set_option maxHeartbeats 4000000 in
theorem implOpenDisk_any (a : Option Addr) (n c B : Nat) (rs : List (List Int)) (s : Int) (w : World) (hG : Grid w B a n c rs) (hB : B ≤ w.heap.size) (hw : ∀ zs ∈ rs, ∀ z ∈ zs, (Lit.int .u8 z).wf = true) :
    Calls Tryz.prog 43 #[.agg #[.slice a n c, .int .i64 s]] w (StoreRes (openC ⟨rs, s⟩) (openS ⟨rs, s⟩) w) := by
  have b0 := bal (bal (Below.refl _ w) (.cells #[.slice a n c, .int .i64 s] 55)) (.cells #[.int .i64 0, .slice none 0 0, .slice none 0 0, .int .i64 0] 63)
  have A0 : At w.heap.size [.slice a n c, .int .i64 s] ((w.alloc (.cells #[.slice a n c, .int .i64 s] 55)).alloc (.cells #[.int .i64 0, .slice none 0 0, .slice none 0 0, .int .i64 0] 63)) := (At.new w [.slice a n c, .int .i64 s] 55).alloc _
  have R0 := At.new (w.alloc (.cells #[.slice a n c, .int .i64 s] 55)) zero9 63
  have sz0 : ((w.alloc (.cells #[.slice a n c, .int .i64 s] 55)).alloc (.cells #[.int .i64 0, .slice none 0 0, .slice none 0 0, .int .i64 0] 63)).heap.size = w.heap.size + 2 := by simp
  rw [World.size_alloc] at R0
  have F := fun w' (h : Below w.heap.size w w') => implDiskFault_any a n c B rs s w' (hG.below (h.mono hB)) (Nat.le_trans hB h.size)
  have HL := Lib.hid hG.length
  have hlen := hG.fits
  have hmost := hG.most
  unfold maxLen at hmost
  have HW := Lib.hid hw
  have HG := Lib.hid (fun (w' : World) (h : Below w.heap.size w w') => hG.below (h.mono hB))
  clear hw hG
  have HA0 := Lib.hid A0
  have HR0 := Lib.hid (show At (w.heap.size + 1) zero9 ((w.alloc (.cells #[.slice a n c, .int .i64 s] 55)).alloc (.cells #[.int .i64 0, .slice none 0 0, .slice none 0 0, .int .i64 0] 63)) from R0)
  have HB0 := Lib.hid b0
  have HZ0 := Lib.hid sz0
  clear A0 R0 b0 sz0
  by_cases h0 : diskF ⟨rs, s⟩ = 0
  case neg =>
    have e1 := openC_bad h0
    have e2 := openS_no (d := ⟨rs, s⟩) (by rw [e1]; exact h0)
    rw [e1, e2]
    generalize diskF ⟨rs, s⟩ = cd at *
    have q0 : (cd != 0) = true := by simpa using h0
    clear e1 e2 HW HG
    have F0 := F _ HB0.out
    clear F
    have d0 := HA0.out.cell 0 _ rfl
    have d1 := HA0.out.cell 1 _ rfl
    go_enter Tryz.func43, Tryz.ntmps43
    go_wp2_with fail
    generalize (w.alloc (.cells #[.slice a n c, .int .i64 s] 55)).alloc (.cells #[.int .i64 0, .slice none 0 0, .slice none 0 0, .int .i64 0] 63) = W0 at *
    refine F0.mono ?_
    rintro r u1 ⟨rfl, b1⟩
    have B1 := btr HB0.out b1
    have R1 := HR0.out.on b1
    have S1 : w.heap.size ≤ u1.heap.size := B1.size
    clear q0
    have q9 : (cd != 0) = true := by simpa using h0
    unfold zero9 at R1
    have q0 := R1.cell 0 _ rfl
    have q1 := R1.cell 1 _ rfl
    have q2 := R1.cell 2 _ rfl
    have q3 := R1.cell 3 _ rfl
    have f0 := R1.free 0 _ rfl
    have f1 := R1.free 1 _ rfl
    have f2 := R1.free 2 _ rfl
    have f3 := R1.free 3 _ rfl
    clear d0 d1 HA0 HR0 HB0 HZ0 b1 R1 F0
    go_wp2_with fail
    refine bodyPost_ret (v := V4 cd none 0 0 none 0 0 0) (by simp [results, Tryz.results43, go_sem, V4, q0, q1, q2, q3]) rfl ⟨none, 0, 0, none, 0, 0, rfl, SOwn.nil _ _ ?_, ?_⟩
    · exact Nat.le_trans (B1).size (by simp [World.setCell])
    · exact (by (iterate 4 (refine bset ?_ (by dsimp only; omega) _)); exact B1)
  have ho := openC_ok (d := ⟨rs, s⟩) h0
  have hs1' := fun h => openS_yes (d := ⟨rs, s⟩) h
  have hs0' := fun h => openS_no (d := ⟨rs, s⟩) h
  obtain ⟨h12, hlong, hs0, hs1⟩ := diskF_zero h0
  have hn12 : n ≤ 12 := by rw [← HL.out]; exact h12
  have F0 := F _ HB0.out
  rw [h0] at F0
  have hbu : Tryz.prog.built 192 [] = some #[.int .i64 0, .slice none 0 0] := by kernel_rfl
  have JO := Lib.hid (fun (w' : World) (h : Below w.heap.size w w') => journalOf_any a n c B rs s w' (HG.out w' h) (Nat.le_trans hB h.size) h12 hlong)
  have dk := fun (w' : World) => disk_any rs rs.length s w' (Nat.le_refl _) h12 hlong HW.out
  simp only [← jall_def, List.take_length] at dk
  have DK := Lib.hid dk
  clear dk
  have H40 := Lib.hid (fun (k : Nat) (hk : k < rs.length) => long_no hlong hk)
  clear F hlong h12 hs0 hs1
  generalize openC ⟨rs, s⟩ = C at *
  generalize openS ⟨rs, s⟩ = S at *
  generalize hT : openG [] rs = T at *
  have HT := Lib.hid hT
  have HO := Lib.hid ho
  have HS1 := Lib.hid hs1'
  have HS0 := Lib.hid hs0'
  clear hT ho hs1' hs0'
  have d0 := HA0.out.cell 0 _ rfl
  have d1 := HA0.out.cell 1 _ rfl
  go_enter Tryz.func43, Tryz.ntmps43
  go_wp2_with fail
  generalize (w.alloc (.cells #[.slice a n c, .int .i64 s] 55)).alloc (.cells #[.int .i64 0, .slice none 0 0, .slice none 0 0, .int .i64 0] 63) = W0 at *
  refine F0.mono ?_
  rintro r u1 ⟨rfl, b1⟩
  have S0 : OpenSt w u1.heap.size [.slice a n c, .int .i64 s] (.slice none 0 0) [] rs T (u1.alloc (.cells #[.int .i64 0, .slice none 0 0] 192)) := by
    have hz := HZ0.out
    have b2 := btr b1 (bal (Below.refl _ u1) (.cells #[.int .i64 0, .slice none 0 0] 192))
    have hsz := b1.size
    exact ⟨HA0.out.on b2, HR0.out.on b2, At.new u1 [.int .i64 0, .slice none 0 0] 192, OwnP.nil _ _, btr HB0.out b2, by omega, by simp, rfl, HT.out⟩
  have HS := Lib.hid S0
  have sd0 := S0.D.cell 0 _ rfl
  have sd1 := S0.D.cell 1 _ rfl
  clear HA0 HR0 HB0 HZ0 b1 F0 d0 d1 S0
  go_upto_region 6 with fail
  generalize u1.alloc (.cells #[.int .i64 0, .slice none 0 0] 192) = W1 at *
  generalize u1.heap.size = t at *
  go_loopw [18] (fun i wr => ∃ (k : Nat) (v : Value) (ps : List PinD), k ≤ n ∧ i = .int .i64 k ∧ OpenSt w t [.slice a n c, .int .i64 s] v ps (rs.drop k) T wr) (fun i _ => n - (intOf i).toNat)
  case atStart => exact ⟨0, _, _, Nat.zero_le _, rfl, by rw [List.drop_zero]; exact HS.out⟩
  case round =>
    obtain ⟨k, v, ps, hk, rfl, hT⟩ := hrel
    clear HS sd0 sd1 hbu
    by_cases hlt : k < n
    · obtain ⟨b, off, ha, hb, hc⟩ := (HG.out wr hT.B).cells (by omega)
      obtain ⟨a', n', c', hcell, hrow⟩ := hc k hlt
      have hl2 : k < rs.length := by rw [HL.out]; exact hlt
      have hleft := hT.left
      rw [openG_drop hl2] at hleft
      have R9 := implReadRecord9_any a' n' c' B (rs[k]?.getD []) wr hrow (Nat.le_trans hB hT.B.size)
      clear hc hrow
      subst ha
      generalize rs[k]?.getD [] = zs at *
      cases hrec : recOk zs
      · rw [openG_no hrec] at hleft
        have e1 : C = 5 := by rw [HO.out, ← hleft]
        have e2 := HS0.out (by rw [e1]; omega)
        subst e1; subst e2
        rw [show rdC zs = 5 by simp [rdC, hrec]] at R9
        generalize rdP zs = pz at *
        have HT := Lib.hid hT
        clear hT hleft hrec HG HO HS0 HS1 JO DK H40 HW
        go_wp2_with fail
        refine R9.mono ?_
        rintro r u2 ⟨rfl, b2⟩
        have b3 := btr b2 (bal (Below.refl _ u2) (.cells #[.int .i64 5, .string pz.n, .int .i64 pz.a, .int .i64 pz.b, .int .i64 pz.e, .int .i64 pz.u] 74))
        have T3 := HT.out.on b3
        have B3 := T3.B
        have R3 := T3.R
        have S3 : w.heap.size ≤ (u2.alloc (.cells #[.int .i64 5, .string pz.n, .int .i64 pz.a, .int .i64 pz.b, .int .i64 pz.e, .int .i64 pz.u] 74)).heap.size := B3.size
        have P3 : At u2.heap.size (RPL6 5 pz) (u2.alloc (.cells #[.int .i64 5, .string pz.n, .int .i64 pz.a, .int .i64 pz.b, .int .i64 pz.e, .int .i64 pz.u] 74)) := At.new u2 (RPL6 5 pz) 74
        have p0 := P3.cell 0 _ rfl
        unfold zero9 at R3
        have q0 := R3.cell 0 _ rfl
        have q1 := R3.cell 1 _ rfl
        have q2 := R3.cell 2 _ rfl
        have q3 := R3.cell 3 _ rfl
        have f0 := R3.free 0 _ rfl
        have f1 := R3.free 1 _ rfl
        have f2 := R3.free 2 _ rfl
        have f3 := R3.free 3 _ rfl
        clear T3 b3 b2 R3 P3 hcell
        go_wp2_with fail
        refine bodyPost_ret (v := V4 5 none 0 0 none 0 0 0) (by simp [results, Tryz.results43, go_sem, V4, q0, q1, q2, q3]) rfl ⟨none, 0, 0, none, 0, 0, rfl, SOwn.nil _ _ ?_, ?_⟩
        · exact Nat.le_trans (B3).size (by simp [World.setCell])
        · exact (by (iterate 4 (refine bset ?_ (by dsimp only; omega) _)); exact B3)
      · obtain ⟨hpf, _, _, _⟩ := recOk_pin hrec
        rw [show rdC zs = 0 by simp [rdC, hrec], show rdP zs = pinZ (body zs) by simp [rdP, hrec]] at R9
        have hpn : (pinZ (body zs)).n.size ≤ maxLen := by have := (pin_bounds hpf).1; simp only [maxLen]; omega
        obtain ⟨hpc, hpr⟩ := put0_code hT.ok hpf
        have PP := Lib.hid (fun (a1 : Option Addr) (n1 c1 : Nat) (w' : World) (h : PRow w' w'.heap.size a1 n1 c1 ps) => implPutPin_any a1 n1 c1 w'.heap.size ps (pinZ (body zs)) w' h (Nat.le_refl _) hpn)
        rw [hpc, hpr] at PP
        obtain ⟨a1, n1, c1, hv⟩ : ∃ a n c, v = .slice a n c := by obtain ⟨a, c, e, -⟩ := Own.form hT.O; exact ⟨_, _, _, e⟩
        subst hv
        by_cases hput : put0 ps (pinZ (body zs)) = 0
        · rw [openG_put hrec hput] at hleft
          have hok2 := put_right hT.ok hpf hput
          rw [show put1 ps (pinZ (body zs)) = putL ps (pinZ (body zs)) by unfold put1; rw [if_pos hput], hput] at PP
          have HLF := Lib.hid hleft
          have HOK := Lib.hid hok2
          have HNM := Lib.hid (right_names hT.ok)
          generalize putL ps (pinZ (body zs)) = qs at *
          generalize pinZ (body zs) = pz at *
          have HT := Lib.hid hT
          clear hT hleft hok2 hpc hpr hput hrec
          go_wp2_with fail
          refine R9.mono ?_
          rintro r u2 ⟨rfl, b2⟩
          have b3 := btr b2 (bal (Below.refl _ u2) (.cells #[.int .i64 0, .string pz.n, .int .i64 pz.a, .int .i64 pz.b, .int .i64 pz.e, .int .i64 pz.u] 74))
          have T3 := HT.out.on b3
          have P3 : At u2.heap.size (RPL6 0 pz) (u2.alloc (.cells #[.int .i64 0, .string pz.n, .int .i64 pz.a, .int .i64 pz.b, .int .i64 pz.e, .int .i64 pz.u] 74)) := At.new u2 (RPL6 0 pz) 74
          have p0 := P3.cell 0 _ rfl
          have p1 := P3.cell 1 _ rfl
          have p2 := P3.cell 2 _ rfl
          have p3 := P3.cell 3 _ rfl
          have p4 := P3.cell 4 _ rfl
          have p5 := P3.cell 5 _ rfl
          have x0 := T3.C.cell 0 _ rfl
          have x1 := T3.C.cell 1 _ rfl
          have HT3 := Lib.hid T3
          clear HT b3 b2 T3 P3 hcell R9
          go_wp2_with fail
          generalize u2.alloc (.cells #[.int .i64 0, .string pz.n, .int .i64 pz.a, .int .i64 pz.b, .int .i64 pz.e, .int .i64 pz.u] 74) = W3 at *
          generalize u2.heap.size = pb at *
          refine (PP.out _ _ _ _ (OwnP.row HT3.out.O HNM.out)).mono ?_
          rintro r u4 ⟨a4, n4, c4, rfl, O4, b4⟩
          clear p0 p1 p2 p3 p4 p5 x0 x1
          have T4 := HT3.out.on b4
          have x0 := T4.C.cell 0 _ rfl
          have x1 := T4.C.cell 1 _ rfl
          have y0 := T4.C.free 0 _ rfl
          have y1 := T4.C.free 1 _ rfl
          have htl := HT3.out.lo
          have hO := (OwnP.less O4 (show t + 1 ≤ W3.heap.size from HT3.out.hs))
          have S5 : OpenSt w t [.slice (some ⟨b, off, none⟩) n c, .int .i64 s] (.slice a4 n4 c4) qs (rs.drop (k + 1)) T ((u4.setCell ⟨t, 0, none⟩ (.int .i64 0)).setCell ⟨t, 1, none⟩ (.slice a4 n4 c4)) :=
            ⟨(T4.D.setB (p := ⟨t, 0, none⟩) (by show w.heap.size ≠ t; omega) _).setB (p := ⟨t, 1, none⟩) (by show w.heap.size ≠ t; omega) _,
             (T4.R.setB (p := ⟨t, 0, none⟩) (by show w.heap.size + 1 ≠ t; omega) _).setB (p := ⟨t, 1, none⟩) (by show w.heap.size + 1 ≠ t; omega) _,
             by simpa using (T4.C.set 0 (.int .i64 0)).set 1 (.slice a4 n4 c4),
             Own.setCell (Own.setCell hO (fun g hg e => by have := (Own.lt hO g hg).1; dsimp only at e; omega) _) (fun g hg e => by have := (Own.lt hO g hg).1; dsimp only at e; omega) _,
             (by (iterate 2 (refine bset ?_ (by dsimp only; omega) _)); exact T4.B), htl, by have := T4.hs; simpa [World.setCell] using this, HOK.out, HLF.out⟩
          have HS5 := Lib.hid S5
          clear T4 O4 b4 hO S5 HT3 PP
          go_wp2_with fail
          go_roundw
          case rel => exact ⟨k + 1, _, _, by omega, by go_num, HS5.out⟩
          case measure => simp [intOf]; omega
        · rw [openG_bad hrec hput] at hleft
          have e1 : C = put0 ps (pinZ (body zs)) := by rw [HO.out, ← hleft]
          have e2 := HS0.out (by rw [e1]; exact hput)
          subst e2
          have HNM := Lib.hid (right_names hT.ok)
          generalize put0 ps (pinZ (body zs)) = cd at *
          subst e1
          generalize put1 ps (pinZ (body zs)) = qs at *
          generalize pinZ (body zs) = pz at *
          have hcd : (C != 0) = true := by simpa using hput
          have hcd2 : decide (C = 0) = false := by simpa using hput
          have HT := Lib.hid hT
          clear hT hleft hpc hpr hrec HO HS0 HS1
          go_wp2_with fail
          refine R9.mono ?_
          rintro r u2 ⟨rfl, b2⟩
          have b3 := btr b2 (bal (Below.refl _ u2) (.cells #[.int .i64 0, .string pz.n, .int .i64 pz.a, .int .i64 pz.b, .int .i64 pz.e, .int .i64 pz.u] 74))
          have T3 := HT.out.on b3
          have P3 : At u2.heap.size (RPL6 0 pz) (u2.alloc (.cells #[.int .i64 0, .string pz.n, .int .i64 pz.a, .int .i64 pz.b, .int .i64 pz.e, .int .i64 pz.u] 74)) := At.new u2 (RPL6 0 pz) 74
          have p0 := P3.cell 0 _ rfl
          have p1 := P3.cell 1 _ rfl
          have p2 := P3.cell 2 _ rfl
          have p3 := P3.cell 3 _ rfl
          have p4 := P3.cell 4 _ rfl
          have p5 := P3.cell 5 _ rfl
          have x0 := T3.C.cell 0 _ rfl
          have x1 := T3.C.cell 1 _ rfl
          have HT3 := Lib.hid T3
          clear HT b3 b2 T3 P3 hcell R9
          go_wp2_with fail
          generalize u2.alloc (.cells #[.int .i64 0, .string pz.n, .int .i64 pz.a, .int .i64 pz.b, .int .i64 pz.e, .int .i64 pz.u] 74) = W3 at *
          generalize u2.heap.size = pb at *
          refine (PP.out _ _ _ _ (OwnP.row HT3.out.O HNM.out)).mono ?_
          rintro r u4 ⟨a4, n4, c4, rfl, O4, b4⟩
          clear p0 p1 p2 p3 p4 p5 x0 x1
          have T4 := HT3.out.on b4
          have x0 := T4.C.cell 0 _ rfl
          have x1 := T4.C.cell 1 _ rfl
          have y0 := T4.C.free 0 _ rfl
          have y1 := T4.C.free 1 _ rfl
          have R5 := (T4.R.setB (p := ⟨t, 0, none⟩) (by show w.heap.size + 1 ≠ t; have := HT3.out.lo; omega) (.int .i64 C)).setB (p := ⟨t, 1, none⟩) (by show w.heap.size + 1 ≠ t; have := HT3.out.lo; omega) (.slice a4 n4 c4)
          have B5 : Below w.heap.size w ((u4.setCell ⟨t, 0, none⟩ (.int .i64 C)).setCell ⟨t, 1, none⟩ (.slice a4 n4 c4)) := by
            have := HT3.out.lo
            exact (by (iterate 2 (refine bset ?_ (by dsimp only; omega) _)); exact T4.B)
          unfold zero9 at R5
          have q0 := R5.cell 0 _ rfl
          have q1 := R5.cell 1 _ rfl
          have q2 := R5.cell 2 _ rfl
          have q3 := R5.cell 3 _ rfl
          have f0 := R5.free 0 _ rfl
          have f1 := R5.free 1 _ rfl
          have f2 := R5.free 2 _ rfl
          have f3 := R5.free 3 _ rfl
          clear T4 O4 b4 R5 PP HT3
          go_wp2_with fail
          refine bodyPost_ret (v := V4 C none 0 0 none 0 0 0) (by simp [results, Tryz.results43, go_sem, V4, q0, q1, q2, q3]) rfl ⟨none, 0, 0, none, 0, 0, rfl, SOwn.nil _ _ ?_, ?_⟩
          · exact Nat.le_trans (B5).size (by simp [World.setCell])
          · exact (by (iterate 4 (refine bset ?_ (by dsimp only; omega) _)); exact B5)
    · obtain rfl : k = n := by omega
      have hleft := hT.left
      rw [List.drop_of_length_le (by rw [HL.out]; omega), openG_nil] at hleft
      have e1 : C = 0 := by rw [HO.out, ← hleft]
      have e2 := HS1.out e1
      rw [← hleft] at e2
      subst e1
      subst e2
      obtain ⟨a1, n1, c1, hv⟩ : ∃ a n c, v = .slice a n c := by obtain ⟨a, c, e, -⟩ := Own.form hT.O; exact ⟨_, _, _, e⟩
      subst hv
      have HNM := Lib.hid (right_names hT.ok)
      have HT1 := Lib.hid (hT.on (bdrew wr))
      have HTD := Lib.hid (show Hold2 w w.heap.size [.slice a k c, .int .i64 s] t [.int .i64 0, .slice a1 n1 c1] wr.drew from ⟨(hT.on (bdrew wr)).B, (hT.on (bdrew wr)).D, (hT.on (bdrew wr)).C⟩)
      clear hT hleft HO HS1 HS0
      go_wp2_with fail
      refine wp_region_line (Hold2 w w.heap.size [.slice a k c, .int .i64 s] t [.int .i64 0, .slice a1 n1 c1]) [(0, true), (1, true), (2, true), (3, false), (4, false), (5, true), (6, true), (7, false)] (by kernel_rfl) (by kernel_rfl) (fun _ _ d _ _ h => by cases d <;> exact h) HTD.out ?_
      have hst := HTD.out
      have inst : Nonempty (Of (Hold2 w w.heap.size [.slice a k c, .int .i64 s] t [.int .i64 0, .slice a1 n1 c1])) := ⟨⟨_, hst⟩⟩
      have x1 := Hold2.q2 (W := w) (g1 := w.heap.size) (c1 := [.slice a k c, .int .i64 s]) (g2 := t) (c2 := [.int .i64 0, .slice a1 n1 c1]) 1 _ rfl
      have y0 := Hold2.q1 (W := w) (g1 := w.heap.size) (c1 := [.slice a k c, .int .i64 s]) (g2 := t) (c2 := [.int .i64 0, .slice a1 n1 c1]) 0 _ rfl
      have y1 := Hold2.q1 (W := w) (g1 := w.heap.size) (c1 := [.slice a k c, .int .i64 s]) (g2 := t) (c2 := [.int .i64 0, .slice a1 n1 c1]) 1 _ rfl
      clear HTD
      generalize wr.drew = V1 at *
      iterate 3 (refine line_read rfl (by kernel_rfl) (fun K hK => ?_); go_big_quiet_op; refine hK _ ?_; clear hK K)
      refine line_alone rfl (by kernel_rfl) (fun K hK => ?_)
      refine call_wp (args := #[.agg #[.slice a k c, .int .i64 s]]) rfl (by kernel_rfl) (by kernel_rfl) (JO.out _ hst.bel) (fun x3 b3 => ?_)
      have hst2 := hst.on b3
      have T3 := Lib.hid (HT1.out.on b3)
      refine hK _ _ hst2 ?_
      clear hK K hst b3 HT1
      have hst := hst2
      clear hst2
      simp only [Act.put, List.setIfInBounds_toArray, List.set_cons_zero, List.set_cons_succ]
      refine line_alone rfl (by kernel_rfl) (fun K hK => ?_)
      refine call_any (args := #[.agg (jall rs s).toArray]) rfl (by kernel_rfl) (by kernel_rfl) (DK.out _) ?_
      rintro e x4 ⟨a2, n2, c2, xs, rfl, G4, b4⟩
      have hst2 := hst.on b4
      have R4 := T3.out.R.on b4
      have lo4 := T3.out.lo
      have SO : SOwn x4 (t + 1) x4.heap.size (.slice a1 n1 c1) (.slice a2 n2 c2) ⟨ps, ⟨rs, s⟩⟩ :=
        SOwn.mk' (W := w) (mid := x3.heap.size) (T3.out.O.below b4) T3.out.hs (fun g hg => (Own.lt T3.out.O g hg).2) G4 b4.size HNM.out HW.out
      have HSO := Lib.hid SO
      refine ⟨_, rfl, hK _ _ hst2 ?_⟩
      clear hK K hst b4 G4 SO T3
      have hst := hst2
      clear hst2
      simp only [Act.put, List.setIfInBounds_toArray, List.set_cons_zero, List.set_cons_succ]
      refine line_readv (v := .agg #[.slice a1 n1 c1, .slice a2 n2 c2, .int .i64 s]) rfl (by kernel_rfl) (fun _ => by kernel_rfl) ?_
      simp only [Act.put, List.setIfInBounds_toArray, List.set_cons_zero, List.set_cons_succ]
      refine line_readv (v := .agg #[.int .i64 0, .slice a1 n1 c1, .slice a2 n2 c2, .int .i64 s]) rfl (by kernel_rfl) (fun _ => by kernel_rfl) ?_
      simp only [Act.put, List.setIfInBounds_toArray, List.set_cons_zero, List.set_cons_succ]
      unfold zero9 at R4
      have q0 := R4.cell 0 _ rfl
      have q1 := R4.cell 1 _ rfl
      have q2 := R4.cell 2 _ rfl
      have q3 := R4.cell 3 _ rfl
      have f0 := R4.free 0 _ rfl
      have f1 := R4.free 1 _ rfl
      have f2 := R4.free 2 _ rfl
      have f3 := R4.free 3 _ rfl
      refine line_alone rfl (by kernel_rfl) (fun K hK => ?_)
      go_big_op
      refine hK _ _ ((by (iterate 4 (refine Hold2.setB ?_ (by dsimp only; omega) (by dsimp only; omega) (by dsimp only; omega) _)); exact hst)) ?_
      clear hK K
      refine line_nil ?_
      have hS := (((HSO.out.setCell (p := ⟨w.heap.size + 1, 0, none⟩) (.inl (by show w.heap.size + 1 < t + 1; omega)) (.int .i64 0)).setCell (p := ⟨w.heap.size + 1, 1, none⟩) (.inl (by show w.heap.size + 1 < t + 1; omega)) (.slice a1 n1 c1)).setCell (p := ⟨w.heap.size + 1, 2, none⟩) (.inl (by show w.heap.size + 1 < t + 1; omega)) (.slice a2 n2 c2)).setCell (p := ⟨w.heap.size + 1, 3, none⟩) (.inl (by show w.heap.size + 1 < t + 1; omega)) (.int .i64 s)
      have hS2 := Lib.hid ((hS.less (show w.heap.size ≤ t + 1 by omega)).more hS.top.2 (Nat.le_refl _))
      have HB := Lib.hid hst.bel
      clear hst inst R4 hS HSO
      go_wp2_with fail
      refine bodyPost_ret (v := V4 0 a1 n1 c1 a2 n2 c2 s) (by simp [results, Tryz.results43, go_sem, V4, q0, q1, q2, q3]) rfl ⟨a1, n1, c1, a2, n2, c2, rfl, hS2.out, ?_⟩
      exact (by (iterate 4 (refine bset ?_ (by dsimp only; omega) _)); exact HB.out)
end Go.Proofs.YtlodhleihnlchaaGreatDoor
namespace Go.Proofs.YtlodhleihnlchaaGreatDoor
open Go.RowKit
set_option maxRecDepth 100000
set_option linter.unusedVariables false

def PinsTold (T : Int × List PinD) (w : World) (e : Ending) (w' : World) : Prop :=
  ∃ a n c, e = .returned (.tuple #[.slice a n c, .int .i64 T.1]) ∧ OwnP w' w.heap.size (.slice a n c) T.2 ∧ Below w.heap.size w w'
structure LSt (w : World) (v : Value) (ps : List PinD) (rs : List (List Int)) (T : Int × List PinD) (wr : World) : Prop where
  O : OwnP wr w.heap.size v ps
  B : Below w.heap.size w wr
  ok : pinsF ps = 0
  left : openG ps rs = T
set_option maxHeartbeats 2000000 in
theorem l9Pins_any (a : Option Addr) (n c B : Nat) (rs : List (List Int)) (w : World) (hG : Grid w B a n c rs) (hB : B ≤ w.heap.size) (h40 : rs.any longR = false) :
    Calls Tryz.prog 218 #[.slice a n c] w (PinsTold (openG [] rs) w) := by
  have HL := Lib.hid hG.length
  have hlen := hG.fits
  have hmost := hG.most
  unfold maxLen at hmost
  have HG := Lib.hid (fun (w' : World) (h : Below w.heap.size w w') => hG.below (h.mono hB))
  have H40 := Lib.hid (fun (k : Nat) (hk : k < rs.length) => long_no h40 hk)
  have S0 : LSt w (.slice (some ⟨w.heap.size, 0, none⟩) 0 0) [] rs (openG [] rs) (w.alloc (.cells #[] 59)) :=
    ⟨show Own _ _ 5 _ 0 [] from Own.made (size := 5) (B := w.heap.size) w #[] 59 0 (Nat.le_refl _) (Nat.zero_le _) (by simp), bal (Below.refl _ w) _, rfl, rfl⟩
  generalize openG [] rs = T at *
  clear hG h40
  have HS := Lib.hid S0
  clear S0
  go_enter Tryz.func218, Tryz.ntmps218
  go_wp2_with fail
  generalize w.alloc (.cells #[] 59) = W0 at *
  go_loopw [4, 5] (fun v i wr => ∃ (k : Nat) (ps : List PinD), k ≤ n ∧ i = .int .i64 k ∧ LSt w v ps (rs.drop k) T wr) (fun _ i _ => n - (intOf i).toNat)
  case atStart => exact ⟨0, _, Nat.zero_le _, rfl, by rw [List.drop_zero]; exact HS.out⟩
  case round =>
    obtain ⟨k, ps, hk, rfl, hT⟩ := hrel
    clear HS
    obtain ⟨a1, n1, c1, hv⟩ : ∃ a n c, u4 = .slice a n c := by obtain ⟨a, c, e, -⟩ := Own.form hT.O; exact ⟨_, _, _, e⟩
    subst hv
    by_cases hlt : k < n
    · obtain ⟨b, off, ha, hb, hc⟩ := (HG.out wr hT.B).cells (by omega)
      obtain ⟨a', n', c', hcell, hrow⟩ := hc k hlt
      have hl2 : k < rs.length := by rw [HL.out]; exact hlt
      have hleft := hT.left
      rw [openG_drop hl2] at hleft
      have R9 := l9Read_any a' n' c' B (rs[k]?.getD []) wr hrow (Nat.le_trans hB hT.B.size) (by rw [← hrow.length]; exact H40.out k hl2)
      unfold PinRead9 at R9
      clear hc hrow
      subst ha
      generalize rs[k]?.getD [] = zs at *
      cases hrec : recOk zs
      · rw [openG_no hrec] at hleft
        subst hleft
        rw [hrec] at R9
        have HT := Lib.hid hT
        clear hT hrec HG H40
        go_wp2_with fail
        refine R9.mono ?_
        rintro r u2 ⟨p, rfl, -, b2⟩
        have B3 := btr HT.out.B (btr b2 (bal (Below.refl _ u2) (.cells #[.string p.n, .int .i64 p.a, .int .i64 p.b, .int .i64 p.e, .int .i64 p.u] 59)))
        clear b2 HT hcell R9
        go_wp2_with fail
        exact bodyPost_ret (v := .tuple #[.slice none 0 0, .int .i64 5]) (by simp [results, Tryz.results218, go_sem]) rfl ⟨none, 0, 0, rfl, OwnP.nil _ _, B3⟩
      · obtain ⟨hpf, _, _, _⟩ := recOk_pin hrec
        rw [hrec] at R9
        have HNM := Lib.hid (right_names hT.ok)
        have h4 := (pinsF_zero hT.ok).1
        have hn1 : n1 = ps.length := (OwnP.row' hT.O HNM.out).2
        have PP := Lib.hid (fun (w' : World) (h : PRow w' w'.heap.size a1 n1 c1 ps) => l7Put_any a1 n1 c1 w'.heap.size ps (pinZ (body zs)) w' h (Nat.le_refl _) (by omega))
        clear h4 hn1
        by_cases hput : put0 ps (pinZ (body zs)) = 0
        · rw [openG_put hrec hput] at hleft
          have hok2 := put_right hT.ok hpf hput
          unfold Put0 at PP
          rw [show put1 ps (pinZ (body zs)) = putL ps (pinZ (body zs)) by unfold put1; rw [if_pos hput], hput] at PP
          have HLF := Lib.hid hleft
          have HOK := Lib.hid hok2
          generalize putL ps (pinZ (body zs)) = qs at *
          generalize pinZ (body zs) = pz at *
          have HT := Lib.hid hT
          clear hT hleft hok2 hput hrec
          go_wp2_with fail
          refine R9.mono ?_
          rintro r u2 ⟨p, rfl, hp, b2⟩
          obtain rfl := hp trivial
          have b3 := btr b2 (bal (Below.refl _ u2) (.cells #[.string p.n, .int .i64 p.a, .int .i64 p.b, .int .i64 p.e, .int .i64 p.u] 59))
          have P3 : At u2.heap.size p.vals (u2.alloc (.cells #[.string p.n, .int .i64 p.a, .int .i64 p.b, .int .i64 p.e, .int .i64 p.u] 59)) := At.new u2 p.vals 59
          have p0 := P3.cell 0 _ rfl
          have p1 := P3.cell 1 _ rfl
          have p2 := P3.cell 2 _ rfl
          have p3 := P3.cell 3 _ rfl
          have p4 := P3.cell 4 _ rfl
          have PR := Lib.hid (OwnP.row (HT.out.O.below b3) HNM.out)
          have HB3 := Lib.hid (btr HT.out.B b3)
          clear P3 b3 b2 hcell R9 HT hp
          go_wp2_with fail
          refine (PP.out _ PR.out).mono ?_
          rintro r u4' ⟨a4, n4, c4, rfl, O4, b4⟩
          have S5 := Lib.hid (LSt.mk (OwnP.less O4 HB3.out.size) (btr HB3.out b4) HOK.out HLF.out)
          clear O4 b4 PP PR p0 p1 p2 p3 p4
          go_wp2_with fail
          go_roundw
          case rel => exact ⟨k + 1, _, by omega, by go_num, S5.out⟩
          case measure => simp [intOf]; omega
        · rw [openG_bad hrec hput] at hleft
          subst hleft
          unfold Put0 at PP
          generalize put0 ps (pinZ (body zs)) = cd at *
          generalize put1 ps (pinZ (body zs)) = qs at *
          generalize pinZ (body zs) = pz at *
          have hcd : (cd != 0) = true := by simpa using hput
          have hcd2 : decide (cd = 0) = false := by simpa using hput
          have HT := Lib.hid hT
          clear hT hrec
          go_wp2_with fail
          refine R9.mono ?_
          rintro r u2 ⟨p, rfl, hp, b2⟩
          obtain rfl := hp trivial
          have b3 := btr b2 (bal (Below.refl _ u2) (.cells #[.string p.n, .int .i64 p.a, .int .i64 p.b, .int .i64 p.e, .int .i64 p.u] 59))
          have P3 : At u2.heap.size p.vals (u2.alloc (.cells #[.string p.n, .int .i64 p.a, .int .i64 p.b, .int .i64 p.e, .int .i64 p.u] 59)) := At.new u2 p.vals 59
          have p0 := P3.cell 0 _ rfl
          have p1 := P3.cell 1 _ rfl
          have p2 := P3.cell 2 _ rfl
          have p3 := P3.cell 3 _ rfl
          have p4 := P3.cell 4 _ rfl
          have PR := Lib.hid (OwnP.row (HT.out.O.below b3) HNM.out)
          have HB3 := Lib.hid (btr HT.out.B b3)
          clear P3 b3 b2 hcell R9 HT hp
          go_wp2_with fail
          refine (PP.out _ PR.out).mono ?_
          rintro r u4' ⟨a4, n4, c4, rfl, O4, b4⟩
          have B5 := Lib.hid (btr HB3.out b4)
          clear O4 b4 PP PR p0 p1 p2 p3 p4
          go_wp2_with fail
          exact bodyPost_ret (v := .tuple #[.slice none 0 0, .int .i64 cd]) (by simp [results, Tryz.results218, go_sem]) rfl ⟨none, 0, 0, rfl, OwnP.nil _ _, B5.out⟩
    · obtain rfl : k = n := by omega
      have hleft := hT.left
      rw [List.drop_of_length_le (by rw [HL.out]; omega), openG_nil] at hleft
      subst hleft
      have HT := Lib.hid (And.intro hT.O hT.B)
      clear hT HG H40
      go_wp2_with fail
      exact bodyPost_ret (v := .tuple #[.slice a1 n1 c1, .int .i64 0]) (by simp [results, Tryz.results218, go_sem]) rfl ⟨_, _, _, rfl, HT.out.1, HT.out.2⟩
end Go.Proofs.YtlodhleihnlchaaGreatDoor
namespace Go.Proofs.YtlodhleihnlchaaGreatDoor
open Go.RowKit
set_option maxRecDepth 100000
set_option linter.unusedVariables false

structure CSt (W : World) (j r d : Nat) (J : List Value) (v : Value) (s : Int) (zss : List (List Int)) (xs : List Value) (wr : World) : Prop where
  P : At j J wr
  R : At r [.slice none 0 0, .int .i64 0] wr
  D : At d [v, .int .i64 s] wr
  G : OwnG wr W.heap.size wr.heap.size v zss xs
  B : Below W.heap.size W wr
  off : ∀ k, v.ownBlock = some k → k ≠ j ∧ k ≠ r ∧ k ≠ d
  offx : ∀ (i : Nat) (u : Value) (k : Nat), xs[i]? = some u → u.ownBlock = some k → k ≠ r ∧ k ≠ d
  le : W.heap.size ≤ d
section
variable {W wr w1 w2 : World} {j r d : Nat} {J : List Value} {v : Value} {s : Int} {zss : List (List Int)} {xs : List Value}
theorem CSt.on (h : CSt W j r d J v s zss xs wr) (hb : Below wr.heap.size wr w1) : CSt W j r d J v s zss xs w1 :=
  ⟨h.P.on hb, h.R.on hb, h.D.on hb, (h.G.below hb).more hb.size (Nat.le_refl _), btr h.B hb, h.off, h.offx, h.le⟩
theorem CSt.app (h : CSt W j r d J v s zss xs wr) {v' u : Value} {zs : List Int} (hb : Below wr.heap.size wr w1) (hu : OwnK .u8 w1 wr.heap.size u zs)
    (ho : Own w2 W.heap.size 1 v' (zss.length + 1) (xs ++ [u])) (hg : w1.grownBy w2 v.ownBlock) (hat : v'.ownBlock = v.ownBlock ∨ v'.ownBlock = some w1.heap.size)
    (hd : d ≠ j) (hr : d ≠ r) (hJl : 0 < J.length) : CSt W j r d J v' s (zss ++ [zs]) (xs ++ [u]) (w2.setCell ⟨d, 0, none⟩ v') := by
  have T := h.on hb
  have hB := h.B.size
  have hsz := hb.size
  have hJ : At j J w2 := T.P.kept hg (fun e => (h.off j e.symm).1 rfl)
  have hR := T.R.kept hg (fun e => (h.off r e.symm).2.1 rfl)
  have hD := T.D.kept hg (fun e => (h.off d e.symm).2.2 rfl)
  have lts : j < w1.heap.size ∧ r < w1.heap.size ∧ d < w1.heap.size := ⟨T.P.lt hJl, T.R.lt (by simp), T.D.lt (by simp)⟩
  have G2 := OwnG.app h.G hB hb hu ho hg hat
  have off2 : ∀ k, v'.ownBlock = some k → k ≠ j ∧ k ≠ r ∧ k ≠ d := fun k e => by
    rcases hat with ha | ha
    · rw [ha] at e; exact h.off k e
    · rw [ha] at e; injection e with e; omega
  have ltd := h.D.lt (by simp)
  have ltr := h.R.lt (by simp)
  have off3 : ∀ (i : Nat) (x : Value) (k : Nat), (xs ++ [u])[i]? = some x → x.ownBlock = some k → k ≠ r ∧ k ≠ d := fun i x k hx e => by
    rcases Nat.lt_or_ge i xs.length with hi | hi
    · rw [List.getElem?_append_left hi] at hx
      exact h.offx i x k hx e
    · rw [List.getElem?_append_right hi] at hx
      have h0 := (List.getElem?_eq_some_iff.1 hx).1
      simp at h0
      rw [h0] at hx
      simp at hx
      subst hx
      have := (Own.lt hu k e).1
      omega
  have hB2 : Below W.heap.size W w2 := T.B.grown hg (Nat.le_trans hB hsz) fun k e => (h.G.own.lt k e).1
  refine ⟨hJ.setB (Ne.symm hd) _, hR.setB (Ne.symm hr) _, by simpa using hD.set 0 v', ?_, bset hB2 h.le _, off2, off3, h.le⟩
  have hk : ∀ k, k ≠ d → (w2.setCell ⟨d, 0, none⟩ v').heap[k]? = w2.heap[k]? := fun k hk => Below.heap_setCell w2 ⟨d, 0, none⟩ v' k hk
  have G3 := G2.keepP (w' := w2.setCell ⟨d, 0, none⟩ v') (by simp [World.setCell]) (fun k e => hk k (off2 k e).2.2) (fun i x k hx e => hk k (off3 i x k hx e).2)
  rw [show (w2.setCell ⟨d, 0, none⟩ v').heap.size = w2.heap.size by simp [World.setCell]]
  exact G3
end
theorem CSt.new {W x : World} {j r d : Nat} {J : List Value} {v v0 : Value} {s s0 : Int} (hJ : At j J x) (hR : At r [.slice none 0 0, .int .i64 0] x) (hD : At d [v0, .int .i64 s0] x) (hO : Own x W.heap.size 1 v 0 []) (hB : Below W.heap.size W x)
    (off : ∀ k, v.ownBlock = some k → k ≠ j ∧ k ≠ r ∧ k ≠ d) (hj : d ≠ j) (hr : d ≠ r) (le : W.heap.size ≤ d) : CSt W j r d J v s [] [] ((x.setCell ⟨d, 0, none⟩ v).setCell ⟨d, 1, none⟩ (.int .i64 s)) := by
  have hO2 := (hO.setCell (p := ⟨d, 0, none⟩) (fun k e => (off k e).2.2) v).setCell (p := ⟨d, 1, none⟩) (fun k e => (off k e).2.2) (.int .i64 s)
  exact ⟨(hJ.setB (Ne.symm hj) _).setB (Ne.symm hj) _, (hR.setB (Ne.symm hr) _).setB (Ne.symm hr) _, by simpa using (hD.set 0 v).set 1 (.int .i64 s), OwnG.fresh hO2, bset (bset hB le _) le _, off, fun i u k hu => by simp at hu, le⟩
theorem size_le40 {rs : List (List Int)} (h : rs.any longR = false) {k : Nat} (hk : k < rs.length) {n : Nat} (hn : (rs[k]?.getD []).length = n) : n ≤ 40 := by rw [← hn]; exact long_no h hk
set_option maxHeartbeats 2000000 in
theorem l9CopyDisk_any (a : Option Addr) (n c B : Nat) (rs : List (List Int)) (s : Int) (w : World) (hG : Grid w B a n c rs) (hB : B ≤ w.heap.size) (hn12 : rs.length ≤ 12) (hl : rs.any longR = false) :
    Calls Tryz.prog 230 #[.agg #[.slice a n c, .int .i64 s]] w (DiskRes rs s w) := by
  obtain ⟨i0, hi0, hz0, hz1, hz2⟩ := info_parts slices_info
  have HL := Lib.hid hG.length
  have hlen := hG.fits
  have hmost := hG.most
  unfold maxLen at hmost
  have b0 := bal (bal (bal (Below.refl _ w) (.cells #[.slice a n c, .int .i64 s] 55)) (.cells #[.slice none 0 0, .int .i64 0] 55)) (.cells #[.slice none 0 0, .int .i64 s] 55)
  have P0 : At w.heap.size [.slice a n c, .int .i64 s] (((w.alloc (.cells #[.slice a n c, .int .i64 s] 55)).alloc (.cells #[.slice none 0 0, .int .i64 0] 55)).alloc (.cells #[.slice none 0 0, .int .i64 s] 55)) := ((At.new w [.slice a n c, .int .i64 s] 55).alloc _).alloc _
  have R0 := (At.new (w.alloc (.cells #[.slice a n c, .int .i64 s] 55)) [.slice none 0 0, .int .i64 0] 55).alloc (.cells #[.slice none 0 0, .int .i64 s] 55)
  have D0 := At.new ((w.alloc (.cells #[.slice a n c, .int .i64 s] 55)).alloc (.cells #[.slice none 0 0, .int .i64 0] 55)) [.slice none 0 0, .int .i64 s] 55
  have S0 : CSt w w.heap.size (w.heap.size + 1) (w.heap.size + 1 + 1) [.slice a n c, .int .i64 s] (.slice none 0 0) s [] [] (((w.alloc (.cells #[.slice a n c, .int .i64 s] 55)).alloc (.cells #[.slice none 0 0, .int .i64 0] 55)).alloc (.cells #[.slice none 0 0, .int .i64 s] 55)) :=
    ⟨P0, by simpa using R0, by simpa using D0, OwnG.fresh (Own.nil _ _ _), b0, fun g e => by simp [Value.ownBlock] at e, fun i u g hu => by simp at hu, by omega⟩
  have d0 := S0.P.cell 0 _ rfl
  have HS := Lib.hid S0
  have HG := Lib.hid (fun (w' : World) (h : Below w.heap.size w w') => hG.below (h.mono hB))
  have HN := Lib.hid hn12
  have HLL := Lib.hid hl
  have hd1 : w.heap.size + 1 + 1 ≠ w.heap.size := by omega
  have hd2 : w.heap.size + 1 + 1 ≠ w.heap.size + 1 := by omega
  have hd0 : w.heap.size ≤ w.heap.size + 1 + 1 := by omega
  clear b0 P0 R0 D0 S0 hG hn12 hl
  go_enter Tryz.func230, Tryz.ntmps230
  go_upto_region 3 with fail
  generalize ((w.alloc (.cells #[.slice a n c, .int .i64 s] 55)).alloc (.cells #[.slice none 0 0, .int .i64 0] 55)).alloc (.cells #[.slice none 0 0, .int .i64 s] 55) = W0 at *
  generalize w.heap.size + 1 + 1 = d at *
  go_loopw [4] (fun i wr => ∃ (k : Nat) (v : Value) (xs : List Value), k ≤ n ∧ i = .int .i64 k ∧ CSt w w.heap.size (w.heap.size + 1) d [.slice a n c, .int .i64 s] v s (rs.take k) xs wr) (fun i _ => n - (intOf i).toNat)
  case atStart => exact ⟨0, _, _, Nat.zero_le _, rfl, by rw [List.take_zero]; exact HS.out⟩
  case round =>
    obtain ⟨k, v, xs, hk, rfl, hT⟩ := hrel
    clear HS d0
    have d0 := hT.P.cell 0 _ rfl
    by_cases hlt : k < n
    · obtain ⟨b, off, ha, hb, hc⟩ := (HG.out w (Below.refl _ _)).cells (by omega)
      obtain ⟨a', n', c', hcell, hrow⟩ := hc k hlt
      have hl2 : k < rs.length := by rw [HL.out]; exact hlt
      have hn40 : n' ≤ 40 := size_le40 HLL.out hl2 hrow.length
      have HRW := Lib.hid (fun (w' : World) (h : Below w.heap.size w w') => hrow.below (h.mono hB))
      have HTK := Lib.hid (M.take_snoc rs [] k hl2)
      have HLK := Lib.hid (show (rs.take k).length = k by simp; omega)
      have hk12 : k < 12 := by have := HN.out; omega
      generalize rs[k]?.getD [] = zs at *
      have H0 := Lib.hid (show Hold w w.heap.size [.slice a n c, .int .i64 s] wr.drew from ⟨hT.B.drew, hT.P.on (bdrew wr)⟩)
      have HT1 := Lib.hid (hT.on (bdrew wr))
      subst ha
      have hcw := fun z : Of (Hold w w.heap.size [.slice (some ⟨b, off, none⟩) n c, .int .i64 s]) => cell_keep z.prop.bel hcell
      clear hc hrow hT hl2
      go_wp2_with fail
      refine wp_region_fork (Hold w w.heap.size [.slice (some ⟨b, off, none⟩) n c, .int .i64 s]) (by kernel_rfl) (H0.out) ?_
      have hst : (Hold w w.heap.size [.slice (some ⟨b, off, none⟩) n c, .int .i64 s]) _ := (H0.out)
      have inst : Nonempty (Of (Hold w w.heap.size [.slice (some ⟨b, off, none⟩) n c, .int .i64 s])) := ⟨⟨_, hst⟩⟩
      have u0 := hold_cell (W := w) (g := w.heap.size) (cs := [.slice (some ⟨b, off, none⟩) n c, .int .i64 s]) 0 _ rfl
      clear H0
      generalize wr.drew = V1 at *
      refine any_seg 6 [(0, true), (2, true), (3, true), (4, true), (5, true), (6, true)] (by kernel_rfl) (fun _ _ d _ _ h => by cases d <;> exact h) ?_
      iterate 6 (refine line_read rfl (by kernel_rfl) (fun K hK => ?_); go_big_quiet_op; refine hK _ ?_; clear hK K)
      refine line_nil ?_
      clear u0 hcw hcell d0
      refine any_fork 1 7 (by kernel_rfl) rfl rfl (by kernel_rfl) (by kernel_rfl) (fun K hK => ?_) (fun K hK => ?_)
      · have e1 := (HT1.out).D.cell 0 _ rfl
        go_big_op
        refine hK _ _ hst ?_
        clear hK K e1
        refine any_rest [(7, false), (8, false), (9, false), (10, true), (11, false)] (by kernel_rfl) (fun _ _ d _ _ h => by cases d <;> exact h) ?_
        refine line_alone rfl (by kernel_rfl) (fun K hK => ?_)
        refine call_any (args := #[.slice a' n' c']) rfl (by kernel_rfl) (by kernel_rfl) (l1Copy_any _ _ _ B zs _ (HRW.out _ hst.bel) (Nat.le_trans hB hst.bel.size) (by omega)) ?_
        rintro e x6 ⟨a6, n6, c6, rfl, O6, b6⟩
        have hst2 := hst.on b6
        refine ⟨_, rfl, hK _ _ hst2 ?_⟩
        clear hK K hst
        have hst := hst2
        clear hst2
        simp only [Act.put, List.setIfInBounds_toArray, List.set_cons_zero, List.set_cons_succ]
        refine line_alone rfl (by kernel_rfl) (fun K hK => ?_)
        go_big_op
        have SR := Lib.hid (src_new (P := Tryz.prog) x6 [.slice a6 n6 c6] 1 1 22 52 22 Tryz.underlying52 rfl (by intro u hu; simp at hu; subst hu; rfl))
        have b7 := btr b6 (bal (Below.refl _ x6) (.cells #[.slice a6 n6 c6] 22))
        have O7 := Lib.hid (O6.alloc (.cells #[.slice a6 n6 c6] 22))
        have hst2 := hst.on (bal (Below.refl _ x6) (.cells #[.slice a6 n6 c6] 22))
        refine hK _ _ hst2 ?_
        clear hK K hst O6 b6
        have hst := hst2
        clear hst2
        have hc7 : (x6.alloc (.cells [Value.slice a6 n6 c6].toArray 22)) = x6.alloc (.cells #[.slice a6 n6 c6] 22) := rfl
        rw [hc7] at SR
        clear hc7
        generalize x6.alloc (.cells #[.slice a6 n6 c6] 22) = x7 at *
        generalize x6.heap.size = lit at *
        refine line_alone rfl (by kernel_rfl) (fun K hK => ?_)
        have HT7 := Lib.hid (HT1.out.on b7)
        refine wp_append_src _ (.tmp 16) (.tmp 23) 52 52 rfl w.heap.size 22 i0 (.slice none 0 0) 1 24 Tryz.underlying52 hi0 hz0 hz1 hz2 rfl v k xs rfl (by have := HT7.out.G.own; rwa [HLK.out] at this) _ 1 [.slice a6 n6 c6] rfl SR.out (by simp only [maxLen]; omega) (by omega) HT7.out.B.size (fun v8 w8 hown hgrow hat => ?_)
        obtain ⟨a8, c8, hv8, -⟩ := Own.form hown
        subst hv8
        have T8 := Lib.hid (HT1.out.app b7 O7.out (by rw [HLK.out]; exact hown) hgrow hat hd1 hd2 (by simp))
        have D8 := HT7.out.D.kept hgrow (fun e => (HT7.out.off d e.symm).2.2 rfl)
        have P8 := HT7.out.P.kept hgrow (fun e => (HT7.out.off w.heap.size e.symm).1 rfl)
        have B8 : Below w.heap.size w w8 := HT7.out.B.grown hgrow HT7.out.B.size fun k e => (HT7.out.G.own.lt k e).1
        have hst2 : Hold w w.heap.size [.slice (some ⟨b, off, none⟩) n c, .int .i64 s] w8 := ⟨B8, P8⟩
        refine hK _ _ hst2 ?_
        clear hK K hst hown hgrow hat O7 SR HT7 b7 B8 P8
        have hst := hst2
        clear hst2
        simp only [Act.put, List.setIfInBounds_toArray, List.set_cons_zero, List.set_cons_succ]
        have p0 := D8.cell 0 _ rfl
        have p1 := D8.cell 1 _ rfl
        have f0 := D8.free 0 _ rfl
        have f1 := D8.free 1 _ rfl
        iterate 1 (refine line_read rfl (by kernel_rfl) (fun K hK => ?_); go_big_quiet_op; refine hK _ ?_; clear hK K)
        refine line_alone rfl (by kernel_rfl) (fun K hK => ?_)
        go_big_op
        refine hK _ _ (hst.setB (p := ⟨d, 0, none⟩) hd0 (Ne.symm hd1) _) ?_
        clear hK K
        refine line_nil ?_
        clear p0 p1 f0 f1 D8
        go_wp2_with fail
        go_roundw
        case rel => exact ⟨k + 1, _, _, by omega, by go_num, by rw [HTK.out]; exact T8.out⟩
        case measure => simp [intOf]; omega
      · refine call_any (args := #[.slice a' n' c']) rfl (by kernel_rfl) (by kernel_rfl) (l1Copy_any _ _ _ B zs _ (HRW.out _ hst.bel) (Nat.le_trans hB hst.bel.size) (by omega)) ?_
        rintro e x6 ⟨a6, n6, c6, rfl, O6, b6⟩
        have hst2 := hst.on b6
        refine ⟨_, rfl, hK _ _ hst2 ?_⟩
        clear hK K hst
        have hst := hst2
        clear hst2
        simp only [Act.put, List.setIfInBounds_toArray, List.set_cons_zero, List.set_cons_succ]
        refine any_fork 1 8 (by kernel_rfl) rfl rfl (by kernel_rfl) (by kernel_rfl) (fun K hK => ?_) (fun K hK => ?_)
        · have e1 := (HT1.out.on b6).D.cell 0 _ rfl
          go_big_op
          refine hK _ _ hst ?_
          clear hK K e1
          refine any_rest [(8, false), (9, false), (10, true), (11, false)] (by kernel_rfl) (fun _ _ d _ _ h => by cases d <;> exact h) ?_
          refine line_alone rfl (by kernel_rfl) (fun K hK => ?_)
          go_big_op
          have SR := Lib.hid (src_new (P := Tryz.prog) x6 [.slice a6 n6 c6] 1 1 22 52 22 Tryz.underlying52 rfl (by intro u hu; simp at hu; subst hu; rfl))
          have b7 := btr b6 (bal (Below.refl _ x6) (.cells #[.slice a6 n6 c6] 22))
          have O7 := Lib.hid (O6.alloc (.cells #[.slice a6 n6 c6] 22))
          have hst2 := hst.on (bal (Below.refl _ x6) (.cells #[.slice a6 n6 c6] 22))
          refine hK _ _ hst2 ?_
          clear hK K hst O6 b6
          have hst := hst2
          clear hst2
          have hc7 : (x6.alloc (.cells [Value.slice a6 n6 c6].toArray 22)) = x6.alloc (.cells #[.slice a6 n6 c6] 22) := rfl
          rw [hc7] at SR
          clear hc7
          generalize x6.alloc (.cells #[.slice a6 n6 c6] 22) = x7 at *
          generalize x6.heap.size = lit at *
          refine line_alone rfl (by kernel_rfl) (fun K hK => ?_)
          have HT7 := Lib.hid (HT1.out.on b7)
          refine wp_append_src _ (.tmp 16) (.tmp 23) 52 52 rfl w.heap.size 22 i0 (.slice none 0 0) 1 24 Tryz.underlying52 hi0 hz0 hz1 hz2 rfl v k xs rfl (by have := HT7.out.G.own; rwa [HLK.out] at this) _ 1 [.slice a6 n6 c6] rfl SR.out (by simp only [maxLen]; omega) (by omega) HT7.out.B.size (fun v8 w8 hown hgrow hat => ?_)
          obtain ⟨a8, c8, hv8, -⟩ := Own.form hown
          subst hv8
          have T8 := Lib.hid (HT1.out.app b7 O7.out (by rw [HLK.out]; exact hown) hgrow hat hd1 hd2 (by simp))
          have D8 := HT7.out.D.kept hgrow (fun e => (HT7.out.off d e.symm).2.2 rfl)
          have P8 := HT7.out.P.kept hgrow (fun e => (HT7.out.off w.heap.size e.symm).1 rfl)
          have B8 : Below w.heap.size w w8 := HT7.out.B.grown hgrow HT7.out.B.size fun k e => (HT7.out.G.own.lt k e).1
          have hst2 : Hold w w.heap.size [.slice (some ⟨b, off, none⟩) n c, .int .i64 s] w8 := ⟨B8, P8⟩
          refine hK _ _ hst2 ?_
          clear hK K hst hown hgrow hat O7 SR HT7 b7 B8 P8
          have hst := hst2
          clear hst2
          simp only [Act.put, List.setIfInBounds_toArray, List.set_cons_zero, List.set_cons_succ]
          have p0 := D8.cell 0 _ rfl
          have p1 := D8.cell 1 _ rfl
          have f0 := D8.free 0 _ rfl
          have f1 := D8.free 1 _ rfl
          iterate 1 (refine line_read rfl (by kernel_rfl) (fun K hK => ?_); go_big_quiet_op; refine hK _ ?_; clear hK K)
          refine line_alone rfl (by kernel_rfl) (fun K hK => ?_)
          go_big_op
          refine hK _ _ (hst.setB (p := ⟨d, 0, none⟩) hd0 (Ne.symm hd1) _) ?_
          clear hK K
          refine line_nil ?_
          clear p0 p1 f0 f1 D8
          go_wp2_with fail
          go_roundw
          case rel => exact ⟨k + 1, _, _, by omega, by go_num, by rw [HTK.out]; exact T8.out⟩
          case measure => simp [intOf]; omega
        · go_big_op
          have SR := Lib.hid (src_new (P := Tryz.prog) x6 [.slice a6 n6 c6] 1 1 22 52 22 Tryz.underlying52 rfl (by intro u hu; simp at hu; subst hu; rfl))
          have b7 := btr b6 (bal (Below.refl _ x6) (.cells #[.slice a6 n6 c6] 22))
          have O7 := Lib.hid (O6.alloc (.cells #[.slice a6 n6 c6] 22))
          have hst2 := hst.on (bal (Below.refl _ x6) (.cells #[.slice a6 n6 c6] 22))
          refine hK _ _ hst2 ?_
          clear hK K hst O6 b6
          have hst := hst2
          clear hst2
          have hc7 : (x6.alloc (.cells [Value.slice a6 n6 c6].toArray 22)) = x6.alloc (.cells #[.slice a6 n6 c6] 22) := rfl
          rw [hc7] at SR
          clear hc7
          generalize x6.alloc (.cells #[.slice a6 n6 c6] 22) = x7 at *
          generalize x6.heap.size = lit at *
          refine any_rest [(1, false), (9, false), (10, true), (11, false)] (by kernel_rfl) (fun _ _ d _ _ h => by cases d <;> exact h) ?_
          refine line_alone rfl (by kernel_rfl) (fun K hK => ?_)
          have e1 := (HT1.out.on b7).D.cell 0 _ rfl
          go_big_op
          refine hK _ _ hst ?_
          clear hK K e1
          refine line_alone rfl (by kernel_rfl) (fun K hK => ?_)
          have HT7 := Lib.hid (HT1.out.on b7)
          refine wp_append_src _ (.tmp 16) (.tmp 23) 52 52 rfl w.heap.size 22 i0 (.slice none 0 0) 1 24 Tryz.underlying52 hi0 hz0 hz1 hz2 rfl v k xs rfl (by have := HT7.out.G.own; rwa [HLK.out] at this) _ 1 [.slice a6 n6 c6] rfl SR.out (by simp only [maxLen]; omega) (by omega) HT7.out.B.size (fun v8 w8 hown hgrow hat => ?_)
          obtain ⟨a8, c8, hv8, -⟩ := Own.form hown
          subst hv8
          have T8 := Lib.hid (HT1.out.app b7 O7.out (by rw [HLK.out]; exact hown) hgrow hat hd1 hd2 (by simp))
          have D8 := HT7.out.D.kept hgrow (fun e => (HT7.out.off d e.symm).2.2 rfl)
          have P8 := HT7.out.P.kept hgrow (fun e => (HT7.out.off w.heap.size e.symm).1 rfl)
          have B8 : Below w.heap.size w w8 := HT7.out.B.grown hgrow HT7.out.B.size fun k e => (HT7.out.G.own.lt k e).1
          have hst2 : Hold w w.heap.size [.slice (some ⟨b, off, none⟩) n c, .int .i64 s] w8 := ⟨B8, P8⟩
          refine hK _ _ hst2 ?_
          clear hK K hst hown hgrow hat O7 SR HT7 b7 B8 P8
          have hst := hst2
          clear hst2
          simp only [Act.put, List.setIfInBounds_toArray, List.set_cons_zero, List.set_cons_succ]
          have p0 := D8.cell 0 _ rfl
          have p1 := D8.cell 1 _ rfl
          have f0 := D8.free 0 _ rfl
          have f1 := D8.free 1 _ rfl
          iterate 1 (refine line_read rfl (by kernel_rfl) (fun K hK => ?_); go_big_quiet_op; refine hK _ ?_; clear hK K)
          refine line_alone rfl (by kernel_rfl) (fun K hK => ?_)
          go_big_op
          refine hK _ _ (hst.setB (p := ⟨d, 0, none⟩) hd0 (Ne.symm hd1) _) ?_
          clear hK K
          refine line_nil ?_
          clear p0 p1 f0 f1 D8
          go_wp2_with fail
          go_roundw
          case rel => exact ⟨k + 1, _, _, by omega, by go_num, by rw [HTK.out]; exact T8.out⟩
          case measure => simp [intOf]; omega
    · obtain rfl : k = n := by omega
      rw [List.take_of_length_le (by rw [HL.out]; omega)] at hT
      obtain ⟨a1, c1, hv, -⟩ := hT.G.form
      rw [HL.out] at hv
      subst hv
      have HF := Lib.hid hT
      have R1 := hT.R
      have D1 := hT.D
      clear hT HG
      have p0 := D1.cell 0 _ rfl
      have p1 := D1.cell 1 _ rfl
      have q0 := R1.cell 0 _ rfl
      have q1 := R1.cell 1 _ rfl
      have f0 := R1.free 0 _ rfl
      have f1 := R1.free 1 _ rfl
      clear D1 R1
      have G1 := HF.out.G.keepP (w' := (wr.setCell ⟨w.heap.size + 1, 0, none⟩ (.slice a1 k c1)).setCell ⟨w.heap.size + 1, 1, none⟩ (.int .i64 s)) (by simp [World.setCell])
        (fun g e => by
          have hg : g ≠ w.heap.size + 1 := (HF.out.off g e).2.1
          rw [Below.heap_setCell _ _ _ g hg, Below.heap_setCell _ _ _ g hg])
        (fun i x g hx e => by
          have hg : g ≠ w.heap.size + 1 := (HF.out.offx i x g hx e).1
          rw [Below.heap_setCell _ _ _ g hg, Below.heap_setCell _ _ _ g hg])
      have G2 := G1.more (hi' := ((wr.setCell ⟨w.heap.size + 1, 0, none⟩ (.slice a1 k c1)).setCell ⟨w.heap.size + 1, 1, none⟩ (.int .i64 s)).heap.size) G1.top (Nat.le_refl _)
      have B2 : Below w.heap.size w ((wr.setCell ⟨w.heap.size + 1, 0, none⟩ (.slice a1 k c1)).setCell ⟨w.heap.size + 1, 1, none⟩ (.int .i64 s)) := (by (iterate 2 (refine bset ?_ (by dsimp only; omega) _)); exact HF.out.B)
      have GB := Lib.hid (And.intro G2 B2)
      clear G1 G2 B2 HF
      go_wp2_with fail
      exact bodyPost_ret (v := .agg #[.slice a1 k c1, .int .i64 s]) (by simp [results, Tryz.results230, go_sem, q0, q1]) rfl ⟨a1, k, c1, xs, rfl, GB.out.1, GB.out.2⟩
theorem l9Bad_any (c : Int) (w : World) :
    Calls Tryz.prog 127 #[.int .i64 c] w fun r w' => r = .returned (V4 c none 0 0 none 0 0 0) ∧ Below w.heap.size w w' := by
  have b0 := bal (Below.refl _ w) (.cells #[.int .i64 c, .slice none 0 0, .slice none 0 0, .int .i64 0] 63)
  go_enter Tryz.func127, Tryz.ntmps127
  go_wp2_with fail
  refine bodyPost_ret (v := V4 c none 0 0 none 0 0 0) (by simp [results, Tryz.results127, go_sem, V4]) rfl ⟨rfl, b0⟩
theorem SOwn.res {w x : World} {lo r : Nat} {v1 v2 : Value} {s : StoreD} (h : SOwn x lo x.heap.size v1 v2 s) (hr : r < lo) (hw : w.heap.size ≤ lo) (u0 u1 u2 u3 : Value) :
    SOwn ((((x.setCell ⟨r, 0, none⟩ u0).setCell ⟨r, 1, none⟩ u1).setCell ⟨r, 2, none⟩ u2).setCell ⟨r, 3, none⟩ u3) w.heap.size ((((x.setCell ⟨r, 0, none⟩ u0).setCell ⟨r, 1, none⟩ u1).setCell ⟨r, 2, none⟩ u2).setCell ⟨r, 3, none⟩ u3).heap.size v1 v2 s := by
  have h4 := (((h.setCell (p := ⟨r, 0, none⟩) (.inl hr) u0).setCell (p := ⟨r, 1, none⟩) (.inl hr) u1).setCell (p := ⟨r, 2, none⟩) (.inl hr) u2).setCell (p := ⟨r, 3, none⟩) (.inl hr) u3
  exact (h4.less hw).more h4.top.2 (Nat.le_refl _)
set_option maxHeartbeats 2000000 in
theorem specOpenDisk_any (a : Option Addr) (n c B : Nat) (rs : List (List Int)) (s : Int) (w : World) (hG : Grid w B a n c rs) (hB : B ≤ w.heap.size) (hw : ∀ zs ∈ rs, ∀ z ∈ zs, (Lit.int .u8 z).wf = true) :
    Calls Tryz.prog 299 #[.agg #[.slice a n c, .int .i64 s]] w (StoreRes (openC ⟨rs, s⟩) (openS ⟨rs, s⟩) w) := by
  have b0 := bal (bal (Below.refl _ w) (.cells #[.slice a n c, .int .i64 s] 55)) (.cells #[.int .i64 0, .slice none 0 0, .slice none 0 0, .int .i64 0] 63)
  have A0 : At w.heap.size [.slice a n c, .int .i64 s] ((w.alloc (.cells #[.slice a n c, .int .i64 s] 55)).alloc (.cells #[.int .i64 0, .slice none 0 0, .slice none 0 0, .int .i64 0] 63)) := (At.new w [.slice a n c, .int .i64 s] 55).alloc _
  have R0 := At.new (w.alloc (.cells #[.slice a n c, .int .i64 s] 55)) zero9 63
  rw [World.size_alloc] at R0
  have HR0 := Lib.hid (show At (w.heap.size + 1) zero9 ((w.alloc (.cells #[.slice a n c, .int .i64 s] 55)).alloc (.cells #[.int .i64 0, .slice none 0 0, .slice none 0 0, .int .i64 0] 63)) from R0)
  have HA0 := Lib.hid A0
  have HB0 := Lib.hid b0
  have F0 := l9Disk_any w.heap.size a n c B rs s 0 _ (A0.cell 0 _ rfl) (A0.cell 1 _ rfl) (hG.below (b0.mono hB)) (Nat.le_trans hB b0.size)
  have HL := Lib.hid hG.length
  have HG := Lib.hid (fun (w' : World) (h : Below w.heap.size w w') => hG.below (h.mono hB))
  have HW := Lib.hid hw
  clear hG hw A0 R0 b0
  by_cases h0 : diskF ⟨rs, s⟩ = 0
  case neg =>
    have e1 := openC_bad h0
    have e2 := openS_no (d := ⟨rs, s⟩) (by rw [e1]; exact h0)
    rw [e1, e2]
    generalize diskF ⟨rs, s⟩ = cd at *
    have q9 : (cd != 0) = true := by simpa using h0
    have q8 : decide (cd = 0) = false := by simpa using h0
    clear e1 e2 HW HG
    go_enter Tryz.func299, Tryz.ntmps299
    go_wp2_with fail
    generalize (w.alloc (.cells #[.slice a n c, .int .i64 s] 55)).alloc (.cells #[.int .i64 0, .slice none 0 0, .slice none 0 0, .int .i64 0] 63) = W0 at *
    refine F0.mono ?_
    rintro r u1 ⟨rfl, b1⟩
    have B1 := Lib.hid (btr HB0.out b1)
    have R1 := Lib.hid (HR0.out.on b1)
    have A1 := Lib.hid (HA0.out.on b1)
    clear b1 F0 HB0 HR0 HA0
    go_wp2_with fail
    refine (l9Bad_any cd _).mono ?_
    rintro r u9 ⟨rfl, b9⟩
    have R9 := (R1.out).on b9
    have B9 := btr B1.out b9
    unfold zero9 at R9
    have q0 := R9.cell 0 _ rfl
    have q1 := R9.cell 1 _ rfl
    have q2 := R9.cell 2 _ rfl
    have q3 := R9.cell 3 _ rfl
    have f0 := R9.free 0 _ rfl
    have f1 := R9.free 1 _ rfl
    have f2 := R9.free 2 _ rfl
    have f3 := R9.free 3 _ rfl
    clear b9 R9
    go_wp2_with fail
    refine bodyPost_ret (v := V4 cd none 0 0 none 0 0 0) (by simp [results, Tryz.results299, go_sem, V4, q0, q1, q2, q3]) rfl ⟨none, 0, 0, none, 0, 0, rfl, SOwn.nil _ _ ?_, ?_⟩
    · exact Nat.le_trans B9.size (by simp [World.setCell])
    · exact (by (iterate 4 (refine bset ?_ (by dsimp only; omega) _)); exact B9)
  rw [h0] at F0
  obtain ⟨h12, hlong, hs0, hs1⟩ := diskF_zero h0
  have PI := Lib.hid (fun (w' : World) (h : Below w.heap.size w w') => l9Pins_any a n c B rs w' (HG.out w' h) (Nat.le_trans hB h.size) hlong)
  have CD := Lib.hid (fun (w' : World) (h : Below w.heap.size w w') => l9CopyDisk_any a n c B rs s w' (HG.out w' h) (Nat.le_trans hB h.size) h12 hlong)
  unfold PinsTold at PI
  clear HG hs0 hs1
  by_cases hc : (openG [] rs).1 = 0
  case neg =>
    have e1 := openC_ok (d := ⟨rs, s⟩) h0
    have e2 := openS_no (d := ⟨rs, s⟩) (by rw [e1]; exact hc)
    rw [e1, e2]
    have e3 := openG_ne hc
    rw [e3] at PI
    generalize (openG [] rs).1 = cd at *
    have q9 : (cd != 0) = true := by simpa using hc
    have q8 : decide (cd = 0) = false := by simpa using hc
    clear e1 e2 e3 CD HW
    go_enter Tryz.func299, Tryz.ntmps299
    go_wp2_with fail
    generalize (w.alloc (.cells #[.slice a n c, .int .i64 s] 55)).alloc (.cells #[.int .i64 0, .slice none 0 0, .slice none 0 0, .int .i64 0] 63) = W0 at *
    refine F0.mono ?_
    rintro r u1 ⟨rfl, b1⟩
    have B1 := Lib.hid (btr HB0.out b1)
    have R1 := Lib.hid (HR0.out.on b1)
    have A1 := Lib.hid (HA0.out.on b1)
    clear b1 F0 HB0 HR0 HA0
    have a0 := A1.out.cell 0 _ rfl
    go_wp2_with fail
    refine (PI.out _ B1.out).mono ?_
    rintro r u2 ⟨a2, n2, c2, rfl, O2, b2⟩
    have B2 := Lib.hid (btr B1.out b2)
    have R2 := Lib.hid (R1.out.on b2)
    have A2 := Lib.hid (A1.out.on b2)
    have HO2 := Lib.hid O2
    have HS2 := Lib.hid b2.size
    have HR2 := Lib.hid (R1.out.lt (by decide))
    have HS1 := Lib.hid B1.out.size
    clear a0 b2 O2 PI B1 R1 A1
    go_wp2_with fail
    refine (l9Bad_any cd _).mono ?_
    rintro r u9 ⟨rfl, b9⟩
    have R9 := (R2.out).on b9
    have B9 := btr B2.out b9
    unfold zero9 at R9
    have q0 := R9.cell 0 _ rfl
    have q1 := R9.cell 1 _ rfl
    have q2 := R9.cell 2 _ rfl
    have q3 := R9.cell 3 _ rfl
    have f0 := R9.free 0 _ rfl
    have f1 := R9.free 1 _ rfl
    have f2 := R9.free 2 _ rfl
    have f3 := R9.free 3 _ rfl
    clear b9 R9
    go_wp2_with fail
    refine bodyPost_ret (v := V4 cd none 0 0 none 0 0 0) (by simp [results, Tryz.results299, go_sem, V4, q0, q1, q2, q3]) rfl ⟨none, 0, 0, none, 0, 0, rfl, SOwn.nil _ _ ?_, ?_⟩
    · exact Nat.le_trans B9.size (by simp [World.setCell])
    · exact (by (iterate 4 (refine bset ?_ (by dsimp only; omega) _)); exact B9)
  have e1 : openC ⟨rs, s⟩ = 0 := openC_make h0 hc
  rw [openS_yes e1, e1]
  rw [hc] at PI
  have HNM := Lib.hid (right_names (openG_right pins0 hc))
  show Calls _ _ _ _ (StoreRes 0 ⟨(openG [] rs).2, ⟨rs, s⟩⟩ w)
  generalize (openG [] rs).2 = ps at *
  clear e1 hc hlong h12 h0
  go_enter Tryz.func299, Tryz.ntmps299
  go_wp2_with fail
  generalize (w.alloc (.cells #[.slice a n c, .int .i64 s] 55)).alloc (.cells #[.int .i64 0, .slice none 0 0, .slice none 0 0, .int .i64 0] 63) = W0 at *
  refine F0.mono ?_
  rintro r u1 ⟨rfl, b1⟩
  have B1 := Lib.hid (btr HB0.out b1)
  have R1 := Lib.hid (HR0.out.on b1)
  have A1 := Lib.hid (HA0.out.on b1)
  clear b1 F0 HB0 HR0 HA0
  have a0 := A1.out.cell 0 _ rfl
  go_wp2_with fail
  refine (PI.out _ B1.out).mono ?_
  rintro r u2 ⟨a2, n2, c2, rfl, O2, b2⟩
  have B2 := Lib.hid (btr B1.out b2)
  have R2 := Lib.hid (R1.out.on b2)
  have A2 := Lib.hid (A1.out.on b2)
  have HO2 := Lib.hid O2
  have HS2 := Lib.hid b2.size
  have HR2 := Lib.hid (R1.out.lt (by decide))
  have HS1 := Lib.hid B1.out.size
  clear a0 b2 O2 PI B1 R1 A1
  have d0 := A2.out.cell 0 _ rfl
  have d1 := A2.out.cell 1 _ rfl
  go_wp2_with fail
  refine (CD.out _ B2.out).mono ?_
  rintro r u3 ⟨a3, n3, c3, xs, rfl, G3, b3⟩
  have R3 := R2.out.on b3
  have SO : SOwn u3 u1.heap.size u3.heap.size (.slice a2 n2 c2) (.slice a3 n3 c3) ⟨ps, ⟨rs, s⟩⟩ :=
    SOwn.mk' (W := w) (mid := u2.heap.size) (HO2.out.below b3) HS2.out (fun g hg => (Own.lt HO2.out g hg).2) G3 b3.size HNM.out HW.out
  have HSO := Lib.hid (SO.res (w := w) HR2.out HS1.out (.int .i64 0) (.slice a2 n2 c2) (.slice a3 n3 c3) (.int .i64 s))
  have HB3 := Lib.hid (btr B2.out b3)
  unfold zero9 at R3
  have q0 := R3.cell 0 _ rfl
  have q1 := R3.cell 1 _ rfl
  have q2 := R3.cell 2 _ rfl
  have q3 := R3.cell 3 _ rfl
  have f0 := R3.free 0 _ rfl
  have f1 := R3.free 1 _ rfl
  have f2 := R3.free 2 _ rfl
  have f3 := R3.free 3 _ rfl
  clear G3 b3 SO d0 d1 CD HO2 B2 R2 A2
  go_wp2_with fail
  refine bodyPost_ret (v := V4 0 a2 n2 c2 a3 n3 c3 s) (by simp [results, Tryz.results299, go_sem, V4, q0, q1, q2, q3]) rfl ⟨a2, n2, c2, a3, n3, c3, rfl, HSO.out, ?_⟩
  exact (by (iterate 4 (refine bset ?_ (by dsimp only; omega) _)); exact HB3.out)
end Go.Proofs.YtlodhleihnlchaaGreatDoor
namespace Go.Proofs.YtlodhleihnlchaaGreatDoor
open Go.RowKit
set_option maxRecDepth 100000
set_option linter.unusedVariables false

theorem storeF_new (s : StoreD) : storeF s = if openC s.d = 0 then (if sameL (openS s.d).ps s.ps then 0 else 8) else openC s.d := by
  by_cases h : openC s.d = 0
  · unfold storeF
    rw [if_pos h, if_pos h, openS_yes h]
  · unfold storeF
    rw [if_neg h, if_neg h]
set_option maxHeartbeats 1000000 in
theorem implStoreFault_any (a1 : Option Addr) (n1 c1 : Nat) (a2 : Option Addr) (n2 c2 B : Nat) (s : StoreD) (w : World) (hR : SRow w B a1 n1 c1 a2 n2 c2 s) (hB : B ≤ w.heap.size) :
    Calls Tryz.prog 38 #[S3 a1 n1 c1 a2 n2 c2 s.d.s] w fun r w' => r = .returned (.int .i64 (storeF s)) ∧ Below w.heap.size w w' := by
  have b0 := bal (Below.refl _ w) (.cells #[.slice a1 n1 c1, .slice a2 n2 c2, .int .i64 s.d.s] 57)
  have A0 : At w.heap.size (S3L a1 n1 c1 a2 n2 c2 s.d.s) (w.alloc (.cells #[.slice a1 n1 c1, .slice a2 n2 c2, .int .i64 s.d.s] 57)) := At.new w (S3L a1 n1 c1 a2 n2 c2 s.d.s) 57
  have R0 := hR.below (b0.mono hB)
  have OD := implOpenDisk_any a2 n2 c2 B s.d.rs s.d.s _ R0.rs (Nat.le_trans hB b0.size) R0.wf
  have HP := Lib.hid (fun (w' : World) (h : Below w.heap.size w w') => hR.ps.below (h.mono hB))
  rw [storeF_new]
  have ed : (⟨s.d.rs, s.d.s⟩ : DiskD) = s.d := rfl
  rw [ed] at OD
  unfold StoreRes at OD
  clear hR R0 ed
  generalize openC s.d = c at *
  generalize openS s.d = t at *
  generalize s.d.s = x at *
  generalize s.ps = ps at *
  by_cases h : c = 0
  · subst h
    rw [if_pos rfl]
    have SP := Lib.hid (fun (w' : World) (h1 : PRow w' w'.heap.size a1 n1 c1 ps) (a3 : Option Addr) (n3 c3 : Nat) (h2 : PRow w' w'.heap.size a3 n3 c3 t.ps) => implSamePins_any a3 a1 n3 n1 c3 c1 w'.heap.size t.ps ps w' h2 h1 (Nat.le_refl _))
    cases hq : sameL t.ps ps
    · rw [hq] at SP
      clear hq
      go_enter Tryz.func38, Tryz.ntmps38
      have d0 := A0.cell 0 _ rfl
      have d1 := A0.cell 1 _ rfl
      have d2 := A0.cell 2 _ rfl
      go_wp2_with fail
      generalize w.alloc (.cells #[.slice a1 n1 c1, .slice a2 n2 c2, .int .i64 x] 57) = W0 at *
      refine OD.mono ?_
      rintro r u1 ⟨a3, n3, c3, a4, n4, c4, rfl, SO, b1⟩
      have T := At.new u1 [.int .i64 0, .slice a3 n3 c3, .slice a4 n4 c4, .int .i64 t.d.s] 63
      have b2 := btr b1 (bal (Below.refl _ u1) (.cells #[.int .i64 0, .slice a3 n3 c3, .slice a4 n4 c4, .int .i64 t.d.s] 63))
      have A2 := A0.on b2
      have B2 := btr b0 b2
      have SR := Lib.hid (SO.below (bal (Below.refl _ u1) (.cells #[.int .i64 0, .slice a3 n3 c3, .slice a4 n4 c4, .int .i64 t.d.s] 63))).row.ps
      clear d0 d1 d2 b1 b2 A0 b0 OD SO
      have hT2 : (u1.alloc (.cells [Value.int .i64 0, .slice a3 n3 c3, .slice a4 n4 c4, .int .i64 t.d.s].toArray 63)) = u1.alloc (.cells #[.int .i64 0, .slice a3 n3 c3, .slice a4 n4 c4, .int .i64 t.d.s] 63) := rfl
      rw [hT2] at T
      clear hT2
      have t0 := T.cell 0 _ rfl
      have t1 := T.cell 1 _ rfl
      have t2 := T.cell 2 _ rfl
      have t3 := T.cell 3 _ rfl
      have d0 := A2.cell 0 _ rfl
      have d1 := A2.cell 1 _ rfl
      have d2 := A2.cell 2 _ rfl
      clear T A2
      have PR := Lib.hid ((HP.out _ B2).more (Nat.le_trans hB B2.size))
      go_wp2_with fail
      generalize u1.alloc (.cells #[.int .i64 0, .slice a3 n3 c3, .slice a4 n4 c4, .int .i64 t.d.s] 63) = W2 at *
      refine (SP.out _ PR.out _ _ _ SR.out).mono ?_
      rintro r u3 ⟨rfl, b3⟩
      have B3 := btr B2 b3
      clear B2 b3 SP PR SR t0 t1 t2 t3 d0 d1 d2
      go_wp2_with fail
      go_ret
      exact ⟨rfl, B3⟩
    · rw [hq] at SP
      clear hq
      go_enter Tryz.func38, Tryz.ntmps38
      have d0 := A0.cell 0 _ rfl
      have d1 := A0.cell 1 _ rfl
      have d2 := A0.cell 2 _ rfl
      go_wp2_with fail
      generalize w.alloc (.cells #[.slice a1 n1 c1, .slice a2 n2 c2, .int .i64 x] 57) = W0 at *
      refine OD.mono ?_
      rintro r u1 ⟨a3, n3, c3, a4, n4, c4, rfl, SO, b1⟩
      have T := At.new u1 [.int .i64 0, .slice a3 n3 c3, .slice a4 n4 c4, .int .i64 t.d.s] 63
      have b2 := btr b1 (bal (Below.refl _ u1) (.cells #[.int .i64 0, .slice a3 n3 c3, .slice a4 n4 c4, .int .i64 t.d.s] 63))
      have A2 := A0.on b2
      have B2 := btr b0 b2
      have SR := Lib.hid (SO.below (bal (Below.refl _ u1) (.cells #[.int .i64 0, .slice a3 n3 c3, .slice a4 n4 c4, .int .i64 t.d.s] 63))).row.ps
      clear d0 d1 d2 b1 b2 A0 b0 OD SO
      have hT2 : (u1.alloc (.cells [Value.int .i64 0, .slice a3 n3 c3, .slice a4 n4 c4, .int .i64 t.d.s].toArray 63)) = u1.alloc (.cells #[.int .i64 0, .slice a3 n3 c3, .slice a4 n4 c4, .int .i64 t.d.s] 63) := rfl
      rw [hT2] at T
      clear hT2
      have t0 := T.cell 0 _ rfl
      have t1 := T.cell 1 _ rfl
      have t2 := T.cell 2 _ rfl
      have t3 := T.cell 3 _ rfl
      have d0 := A2.cell 0 _ rfl
      have d1 := A2.cell 1 _ rfl
      have d2 := A2.cell 2 _ rfl
      clear T A2
      have PR := Lib.hid ((HP.out _ B2).more (Nat.le_trans hB B2.size))
      go_wp2_with fail
      generalize u1.alloc (.cells #[.int .i64 0, .slice a3 n3 c3, .slice a4 n4 c4, .int .i64 t.d.s] 63) = W2 at *
      refine (SP.out _ PR.out _ _ _ SR.out).mono ?_
      rintro r u3 ⟨rfl, b3⟩
      have B3 := btr B2 b3
      clear B2 b3 SP PR SR t0 t1 t2 t3 d0 d1 d2
      go_wp2_with fail
      go_ret
      exact ⟨rfl, B3⟩
  · rw [if_neg h]
    have q9 : (c != 0) = true := by simpa using h
    have q8 : decide (c = 0) = false := by simpa using h
    go_enter Tryz.func38, Tryz.ntmps38
    have d0 := A0.cell 0 _ rfl
    have d1 := A0.cell 1 _ rfl
    have d2 := A0.cell 2 _ rfl
    go_wp2_with fail
    generalize w.alloc (.cells #[.slice a1 n1 c1, .slice a2 n2 c2, .int .i64 x] 57) = W0 at *
    refine OD.mono ?_
    rintro r u1 ⟨a3, n3, c3, a4, n4, c4, rfl, SO, b1⟩
    have T := At.new u1 [.int .i64 c, .slice a3 n3 c3, .slice a4 n4 c4, .int .i64 t.d.s] 63
    have b2 := btr b1 (bal (Below.refl _ u1) (.cells #[.int .i64 c, .slice a3 n3 c3, .slice a4 n4 c4, .int .i64 t.d.s] 63))
    have A2 := A0.on b2
    have B2 := btr b0 b2
    have SR := Lib.hid (SO.below (bal (Below.refl _ u1) (.cells #[.int .i64 c, .slice a3 n3 c3, .slice a4 n4 c4, .int .i64 t.d.s] 63))).row.ps
    clear d0 d1 d2 b1 b2 A0 b0 OD SO
    have hT2 : (u1.alloc (.cells [Value.int .i64 c, .slice a3 n3 c3, .slice a4 n4 c4, .int .i64 t.d.s].toArray 63)) = u1.alloc (.cells #[.int .i64 c, .slice a3 n3 c3, .slice a4 n4 c4, .int .i64 t.d.s] 63) := rfl
    rw [hT2] at T
    clear hT2
    have t0 := T.cell 0 _ rfl
    have t1 := T.cell 1 _ rfl
    have t2 := T.cell 2 _ rfl
    have t3 := T.cell 3 _ rfl
    have d0 := A2.cell 0 _ rfl
    have d1 := A2.cell 1 _ rfl
    have d2 := A2.cell 2 _ rfl
    clear T A2
    go_wp2_with fail
    go_ret
    exact ⟨rfl, B2⟩
structure SAt (w : World) (g : Nat) (B : Nat) (a1 : Option Addr) (n1 c1 : Nat) (a2 : Option Addr) (n2 c2 : Nat) (s : StoreD) : Prop where
  A : At g (S3L a1 n1 c1 a2 n2 c2 s.d.s) w
  R : SRow w B a1 n1 c1 a2 n2 c2 s
theorem SAt.on {w w' : World} {g B : Nat} {a1 a2 : Option Addr} {n1 c1 n2 c2 : Nat} {s : StoreD} (h : SAt w g B a1 n1 c1 a2 n2 c2 s) (hB : B ≤ w.heap.size) (hb : Below w.heap.size w w') : SAt w' g B a1 n1 c1 a2 n2 c2 s := ⟨h.A.on hb, h.R.below (hb.mono hB)⟩
set_option maxHeartbeats 1000000 in
theorem l9Fault_any (g : Nat) (a1 : Option Addr) (n1 c1 : Nat) (a2 : Option Addr) (n2 c2 B : Nat) (s : StoreD) (w : World) (hS : SAt w g B a1 n1 c1 a2 n2 c2 s) (hB : B ≤ w.heap.size) :
    Calls Tryz.prog 126 #[.pointer (some ⟨g, 0, none⟩)] w fun r w' => r = .returned (.int .i64 (storeF s)) ∧ Below w.heap.size w w' := by
  have F := l9Disk_any g a2 n2 c2 B s.d.rs s.d.s 1 w (hS.A.cell 1 _ rfl) (hS.A.cell 2 _ rfl) hS.R.rs hB
  have HA := Lib.hid hS.A
  have HP := Lib.hid (fun (w' : World) (h : Below w.heap.size w w') => hS.R.ps.below (h.mono hB))
  have HG := Lib.hid (fun (w' : World) (h : Below w.heap.size w w') => hS.R.rs.below (h.mono hB))
  have ed : (⟨s.d.rs, s.d.s⟩ : DiskD) = s.d := rfl
  rw [ed] at F
  have cg := hS.A.cell 0 _ rfl
  clear hS ed
  by_cases h0 : diskF s.d = 0
  case neg =>
    have e1 := openC_bad h0
    have e2 : storeF s = diskF s.d := by rw [storeF_bad (by rw [e1]; exact h0), e1]
    rw [e2]
    generalize diskF s.d = cd at *
    have q9 : (cd != 0) = true := by simpa using h0
    have q8 : decide (cd = 0) = false := by simpa using h0
    clear e1 e2
    go_enter Tryz.func126, Tryz.ntmps126
    go_wp2_with fail
    refine F.mono ?_
    rintro r u1 ⟨rfl, b1⟩
    have A1 := HA.out.on b1
    have d0 := A1.cell 0 _ rfl
    have d1 := A1.cell 1 _ rfl
    have d2 := A1.cell 2 _ rfl
    have HA1 := Lib.hid A1
    clear F A1 cg
    go_wp2_with fail
    go_ret
    exact ⟨rfl, b1⟩
  rw [h0] at F
  obtain ⟨h12, hlong, hs0, hs1⟩ := diskF_zero h0
  have PI := Lib.hid (fun (w' : World) (h : Below w.heap.size w w') => l9Pins_any a2 n2 c2 B s.d.rs w' (HG.out w' h) (Nat.le_trans hB h.size) hlong)
  unfold PinsTold at PI
  by_cases hc : (openG [] s.d.rs).1 = 0
  case neg =>
    have e1 := openC_ok h0
    have e2 : storeF s = (openG [] s.d.rs).1 := by rw [storeF_bad (by rw [e1]; exact hc), e1]
    rw [e2]
    generalize (openG [] s.d.rs).1 = cd at *
    generalize (openG [] s.d.rs).2 = qs at *
    have q9 : (cd != 0) = true := by simpa using hc
    have q8 : decide (cd = 0) = false := by simpa using hc
    clear e1 e2
    go_enter Tryz.func126, Tryz.ntmps126
    go_wp2_with fail
    refine F.mono ?_
    rintro r u1 ⟨rfl, b1⟩
    have A1 := HA.out.on b1
    have d0 := A1.cell 0 _ rfl
    have d1 := A1.cell 1 _ rfl
    have d2 := A1.cell 2 _ rfl
    have HA1 := Lib.hid A1
    clear F A1 cg
    go_wp2_with fail
    refine (PI.out _ b1).mono ?_
    rintro r u2 ⟨a3, n3, c3, rfl, O2, b2⟩
    have B2 := btr b1 b2
    have A2 := HA1.out.on b2
    clear d0 d1 d2
    have d0 := A2.cell 0 _ rfl
    have d1 := A2.cell 1 _ rfl
    have d2 := A2.cell 2 _ rfl
    clear A2 HA1 PI HG b1 b2 HA
    go_wp2_with fail
    go_ret
    exact ⟨rfl, B2⟩
  have e1 := openC_make h0 hc
  have HNM := Lib.hid (right_names (openG_right pins0 hc))
  rw [hc] at PI
  have e2 : storeF s = if sameL (openG [] s.d.rs).2 s.ps then 0 else 8 := by unfold storeF; rw [if_pos e1]
  rw [e2]
  clear e1 e2 hc h0 h12 hlong hs0 hs1
  generalize (openG [] s.d.rs).2 = qs at *
  generalize s.ps = ps at *
  have SP := Lib.hid (fun (w' : World) (h1 : PRow w' w'.heap.size a1 n1 c1 ps) (a3 : Option Addr) (n3 c3 : Nat) (h2 : PRow w' w'.heap.size a3 n3 c3 qs) => specSamePins_any a3 a1 n3 n1 c3 c1 w'.heap.size qs ps w' h2 h1 (Nat.le_refl _))
  cases hq : sameL qs ps
  · rw [hq] at SP
    clear hq
    go_enter Tryz.func126, Tryz.ntmps126
    go_wp2_with fail
    refine F.mono ?_
    rintro r u1 ⟨rfl, b1⟩
    have A1 := HA.out.on b1
    have d0 := A1.cell 0 _ rfl
    have d1 := A1.cell 1 _ rfl
    have d2 := A1.cell 2 _ rfl
    have HA1 := Lib.hid A1
    clear F A1 cg
    go_wp2_with fail
    refine (PI.out _ b1).mono ?_
    rintro r u2 ⟨a3, n3, c3, rfl, O2, b2⟩
    have B2 := btr b1 b2
    have A2 := HA1.out.on b2
    clear d0 d1 d2
    have d0 := A2.cell 0 _ rfl
    have d1 := A2.cell 1 _ rfl
    have d2 := A2.cell 2 _ rfl
    clear A2 HA1 PI HG b1 b2 HA
    have PR := Lib.hid ((HP.out _ B2).more (Nat.le_trans hB B2.size))
    have SR := Lib.hid (OwnP.row O2 HNM.out)
    clear O2
    go_wp2_with fail
    refine (SP.out _ PR.out _ _ _ SR.out).mono ?_
    rintro r u3 ⟨rfl, b3⟩
    have B3 := btr B2 b3
    clear B2 b3 SP PR SR d0 d1 d2
    go_wp2_with fail
    go_ret
    exact ⟨rfl, B3⟩
  · rw [hq] at SP
    clear hq
    go_enter Tryz.func126, Tryz.ntmps126
    go_wp2_with fail
    refine F.mono ?_
    rintro r u1 ⟨rfl, b1⟩
    have A1 := HA.out.on b1
    have d0 := A1.cell 0 _ rfl
    have d1 := A1.cell 1 _ rfl
    have d2 := A1.cell 2 _ rfl
    have HA1 := Lib.hid A1
    clear F A1 cg
    go_wp2_with fail
    refine (PI.out _ b1).mono ?_
    rintro r u2 ⟨a3, n3, c3, rfl, O2, b2⟩
    have B2 := btr b1 b2
    have A2 := HA1.out.on b2
    clear d0 d1 d2
    have d0 := A2.cell 0 _ rfl
    have d1 := A2.cell 1 _ rfl
    have d2 := A2.cell 2 _ rfl
    clear A2 HA1 PI HG b1 b2 HA
    have PR := Lib.hid ((HP.out _ B2).more (Nat.le_trans hB B2.size))
    have SR := Lib.hid (OwnP.row O2 HNM.out)
    clear O2
    go_wp2_with fail
    refine (SP.out _ PR.out _ _ _ SR.out).mono ?_
    rintro r u3 ⟨rfl, b3⟩
    have B3 := btr B2 b3
    clear B2 b3 SP PR SR d0 d1 d2
    go_wp2_with fail
    go_ret
    exact ⟨rfl, B3⟩
theorem specStoreFault_any (a1 : Option Addr) (n1 c1 : Nat) (a2 : Option Addr) (n2 c2 B : Nat) (s : StoreD) (w : World) (hR : SRow w B a1 n1 c1 a2 n2 c2 s) (hB : B ≤ w.heap.size) :
    Calls Tryz.prog 42 #[S3 a1 n1 c1 a2 n2 c2 s.d.s] w fun r w' => r = .returned (.int .i64 (storeF s)) ∧ Below w.heap.size w w' := by
  have b0 := bal (Below.refl _ w) (.cells #[.slice a1 n1 c1, .slice a2 n2 c2, .int .i64 s.d.s] 57)
  have A0 : At w.heap.size (S3L a1 n1 c1 a2 n2 c2 s.d.s) (w.alloc (.cells #[.slice a1 n1 c1, .slice a2 n2 c2, .int .i64 s.d.s] 57)) := At.new w (S3L a1 n1 c1 a2 n2 c2 s.d.s) 57
  have F := l9Fault_any w.heap.size a1 n1 c1 a2 n2 c2 B s _ ⟨A0, hR.below (b0.mono hB)⟩ (Nat.le_trans hB b0.size)
  generalize storeF s = c at *
  generalize s.d.s = x at *
  clear hR A0
  go_enter Tryz.func42, Tryz.ntmps42
  go_wp2_with fail
  refine F.mono ?_
  rintro r u1 ⟨rfl, b1⟩
  have b2 := btr b0 b1
  clear b1 F b0
  go_wp2_with fail
  go_ret
  exact ⟨rfl, b2⟩
end Go.Proofs.YtlodhleihnlchaaGreatDoor
namespace Go.Proofs.YtlodhleihnlchaaGreatDoor
open Go.RowKit
set_option maxRecDepth 100000
set_option linter.unusedVariables false

theorem syncS_no {s : StoreD} (h : storeF s ≠ 0) : syncS s = store0 := by unfold syncS; rw [if_neg h]
theorem sync_open {s : StoreD} (h : storeF s = 0) : openC ⟨s.d.rs, s.d.rs.length⟩ = 0 ∧ openS ⟨s.d.rs, s.d.rs.length⟩ = syncS s := by
  obtain ⟨hf, _⟩ := sync_f h
  have e : (syncS s).d = ⟨s.d.rs, s.d.rs.length⟩ := by unfold syncS; rw [if_pos h]
  have h1 := (storeF_zero hf).1
  have h2 := openS_self hf
  rw [e] at h1 h2
  exact ⟨h1, h2⟩
theorem begin9 (a1 : Option Addr) (n1 c1 : Nat) (a2 : Option Addr) (n2 c2 B : Nat) (s : StoreD) (w : World) (hR : SRow w B a1 n1 c1 a2 n2 c2 s) (hB : B ≤ w.heap.size) :
    Below w.heap.size w ((w.alloc (.cells #[.slice a1 n1 c1, .slice a2 n2 c2, .int .i64 s.d.s] 57)).alloc (.cells #[.int .i64 0, .slice none 0 0, .slice none 0 0, .int .i64 0] 63)) ∧
    At w.heap.size (S3L a1 n1 c1 a2 n2 c2 s.d.s) ((w.alloc (.cells #[.slice a1 n1 c1, .slice a2 n2 c2, .int .i64 s.d.s] 57)).alloc (.cells #[.int .i64 0, .slice none 0 0, .slice none 0 0, .int .i64 0] 63)) ∧
    At (w.heap.size + 1) zero9 ((w.alloc (.cells #[.slice a1 n1 c1, .slice a2 n2 c2, .int .i64 s.d.s] 57)).alloc (.cells #[.int .i64 0, .slice none 0 0, .slice none 0 0, .int .i64 0] 63)) := by
  have b0 := bal (bal (Below.refl _ w) (.cells #[.slice a1 n1 c1, .slice a2 n2 c2, .int .i64 s.d.s] 57)) (.cells #[.int .i64 0, .slice none 0 0, .slice none 0 0, .int .i64 0] 63)
  have A0 := (At.new w (S3L a1 n1 c1 a2 n2 c2 s.d.s) 57).alloc (.cells #[.int .i64 0, .slice none 0 0, .slice none 0 0, .int .i64 0] 63)
  have R0 := At.new (w.alloc (.cells #[.slice a1 n1 c1, .slice a2 n2 c2, .int .i64 s.d.s] 57)) zero9 63
  rw [World.size_alloc] at R0
  exact ⟨b0, A0, R0⟩
set_option maxHeartbeats 2000000 in
theorem implSyncStore_any (a1 : Option Addr) (n1 c1 : Nat) (a2 : Option Addr) (n2 c2 B : Nat) (s : StoreD) (w : World) (hR : SRow w B a1 n1 c1 a2 n2 c2 s) (hB : B ≤ w.heap.size) :
    Calls Tryz.prog 36 #[S3 a1 n1 c1 a2 n2 c2 s.d.s] w (StoreRes (storeF s) (syncS s) w) := by
  obtain ⟨b0, A0, R0⟩ := begin9 a1 n1 c1 a2 n2 c2 B s w hR hB
  have HR0 := Lib.hid R0
  have HA0 := Lib.hid A0
  have HB0 := Lib.hid b0
  have hRw := hR.wf
  have HR := Lib.hid (fun (w' : World) (h : Below w.heap.size w w') => hR.below (h.mono hB))
  have F0 := implStoreFault_any a1 n1 c1 a2 n2 c2 B s _ (hR.below (b0.mono hB)) (Nat.le_trans hB b0.size)
  clear A0 R0 b0 hR
  by_cases h0 : storeF s = 0
  case neg =>
    rw [syncS_no h0]
    generalize storeF s = cd at *
    have q9 : (cd != 0) = true := by simpa using h0
    have q8 : decide (cd = 0) = false := by simpa using h0
    clear HR
    have d0 := HA0.out.cell 0 _ rfl
    have d1 := HA0.out.cell 1 _ rfl
    have d2 := HA0.out.cell 2 _ rfl
    go_enter Tryz.func36, Tryz.ntmps36
    go_wp2_with fail
    generalize (w.alloc (.cells #[.slice a1 n1 c1, .slice a2 n2 c2, .int .i64 s.d.s] 57)).alloc (.cells #[.int .i64 0, .slice none 0 0, .slice none 0 0, .int .i64 0] 63) = W0 at *
    refine F0.mono ?_
    rintro r u1 ⟨rfl, b1⟩
    have B1 := Lib.hid (btr HB0.out b1)
    have R1 := Lib.hid (HR0.out.on b1)
    have A1 := Lib.hid (HA0.out.on b1)
    clear d0 d1 d2 b1 F0 HB0 HR0 HA0
    have R9 := (R1.out)
    have B9 := B1.out
    unfold zero9 at R9
    have q0 := R9.cell 0 _ rfl
    have q1 := R9.cell 1 _ rfl
    have q2 := R9.cell 2 _ rfl
    have q3 := R9.cell 3 _ rfl
    have f0 := R9.free 0 _ rfl
    have f1 := R9.free 1 _ rfl
    have f2 := R9.free 2 _ rfl
    have f3 := R9.free 3 _ rfl
    clear R9
    go_wp2_with fail
    refine bodyPost_ret (v := V4 cd none 0 0 none 0 0 0) (by simp [results, Tryz.results36, go_sem, V4, q0, q1, q2, q3]) rfl ⟨none, 0, 0, none, 0, 0, rfl, SOwn.nil _ _ ?_, ?_⟩
    · exact Nat.le_trans B9.size (by simp [World.setCell])
    · exact (by (iterate 4 (refine bset ?_ (by dsimp only; omega) _)); exact B9)
  obtain ⟨ho, hp⟩ := storeF_zero h0
  obtain ⟨h12, hlong, _, _⟩ := diskF_zero (openC_zero ho).1
  obtain ⟨e1, e2⟩ := sync_open h0
  rw [h0] at F0 ⊢
  have JO := Lib.hid (fun (w' : World) (h : Below w.heap.size w w') => journalOf_any a2 n2 c2 B s.d.rs s.d.s w' (HR.out w' h).rs (Nat.le_trans hB h.size) h12 hlong)
  have bg := fun (w' : World) => beginning_any s.d.rs s.d.rs.length s.d.s s.d.rs.length w'
  have dk := fun (w' : World) => disk_any s.d.rs s.d.rs.length s.d.rs.length w' (Nat.le_refl _) h12 hlong hRw
  simp only [← jall_def, List.take_length] at bg dk
  have BG := Lib.hid bg
  have DK := Lib.hid dk
  have od := fun (a : Option Addr) (n c : Nat) (w' : World) (h : Grid w' w'.heap.size a n c s.d.rs) => implOpenDisk_any a n c w'.heap.size s.d.rs s.d.rs.length w' h (Nat.le_refl _) hRw
  rw [e1, e2] at od
  have OD := Lib.hid od
  have hct := jall_count s.d.rs s.d.s
  have HFJ := Lib.hid (jall_fit s.d.rs s.d.s)
  have HOJ := Lib.hid (jall_one s.d.rs s.d.s)
  have HLJ := Lib.hid (jall_old [] s.d.rs 0 s.d.s)
  have hz := (zero_of_info jour_info).1
  rw [← jall_nil] at hz
  have hsy : (syncS s).d.s = s.d.rs.length := (sync_f h0).2
  have HW := Lib.hid hRw
  unfold StoreRes at OD
  clear bg dk od ho hp h12 hlong e1 e2 hsy hRw h0
  generalize syncS s = S at *
  generalize jall s.d.rs s.d.s = J at *
  generalize jall s.d.rs s.d.rs.length = K at *
  generalize jall [] 0 = E at *
  have d0 := HA0.out.cell 0 _ rfl
  have d1 := HA0.out.cell 1 _ rfl
  have d2 := HA0.out.cell 2 _ rfl
  go_enter Tryz.func36, Tryz.ntmps36
  go_wp2_with fail
  generalize (w.alloc (.cells #[.slice a1 n1 c1, .slice a2 n2 c2, .int .i64 s.d.s] 57)).alloc (.cells #[.int .i64 0, .slice none 0 0, .slice none 0 0, .int .i64 0] 63) = W0 at *
  refine F0.mono ?_
  rintro r u1 ⟨rfl, b1⟩
  have B1 := Lib.hid (btr HB0.out b1)
  have R1 := Lib.hid (HR0.out.on b1)
  have A1 := Lib.hid (HA0.out.on b1)
  clear d0 d1 d2 b1 F0 HB0 HR0 HA0
  have d0 := A1.out.cell 0 _ rfl
  have d1 := A1.out.cell 1 _ rfl
  have d2 := A1.out.cell 2 _ rfl
  go_wp2_with fail
  refine (JO.out _ B1.out).mono ?_
  rintro r u2 ⟨rfl, b2⟩
  have Q2 := (JB.new u2 E).row J
  have b3 := btr b2 (brow (bal (Below.refl _ u2) (.cells E.toArray 186)) (Nat.le_refl _) J.toArray)
  have R3 := Lib.hid (R1.out.on b3)
  have B3 := Lib.hid (btr B1.out b3)
  clear d0 d1 d2 b2 b3 A1
  go_upto_region 5 with (refine store_jour J E rfl (.tmp 4) (.tmp 13) rfl u2.heap.size rfl rfl (JB.new u2 E) HFJ.out HLJ.out HOJ.out ?_)
  generalize (u2.alloc (.cells E.toArray 186)).setRow u2.heap.size J.toArray = W3 at *
  have d0 := Q2.at hct
  have HQ2 := Lib.hid Q2
  clear Q2
  go_wp2_with (refine load_jour J rfl (.tmp 4) rfl u2.heap.size rfl HQ2.out HFJ.out ?_)
  refine (BG.out _).mono ?_
  rintro r u4 ⟨rfl, b4⟩
  have R4 := Lib.hid (R3.out.on b4)
  have B4 := Lib.hid (btr B3.out b4)
  clear d0 HQ2 b4 R3 B3
  go_wp2_with fail
  refine (DK.out _).mono ?_
  rintro r u5 ⟨a5, n5, c5, xs, rfl, G5, b5⟩
  have R5 := Lib.hid (R4.out.on b5)
  have B5 := Lib.hid (btr B4.out b5)
  have Q5 := G5.grid HW.out
  clear b5 R4 B4 G5
  go_wp2_with fail
  refine (OD.out _ _ _ _ Q5).mono ?_
  rintro r u9 ⟨a3, n3, c3, a4, n4, c4, rfl, SO9, b9⟩
  have R9 := (R5.out).on b9
  have B9 := btr (B5.out) b9
  have HS9 := Lib.hid (SO9.res (w := w) (r := w.heap.size + 1) (by have := (R5.out).lt (by decide); exact this) (B5.out).size (.int .i64 0) (.slice a3 n3 c3) (.slice a4 n4 c4) (.int .i64 S.d.s))
  unfold zero9 at R9
  have q0 := R9.cell 0 _ rfl
  have q1 := R9.cell 1 _ rfl
  have q2 := R9.cell 2 _ rfl
  have q3 := R9.cell 3 _ rfl
  have f0 := R9.free 0 _ rfl
  have f1 := R9.free 1 _ rfl
  have f2 := R9.free 2 _ rfl
  have f3 := R9.free 3 _ rfl
  clear R9 b9 SO9
  go_wp2_with fail
  refine bodyPost_ret (v := V4 0 a3 n3 c3 a4 n4 c4 S.d.s) (by simp [results, Tryz.results36, go_sem, V4, q0, q1, q2, q3]) rfl ⟨a3, n3, c3, a4, n4, c4, rfl, HS9.out, ?_⟩
  exact (by (iterate 4 (refine bset ?_ (by dsimp only; omega) _)); exact B9)
end Go.Proofs.YtlodhleihnlchaaGreatDoor
namespace Go.Proofs.YtlodhleihnlchaaGreatDoor
open Go.RowKit
set_option maxRecDepth 100000
set_option linter.unusedVariables false

section
variable {W cur cur' : World} {d r j : Nat} {dv rv J : List Value}
theorem Hold.row {g : Nat} {cs : List Value} (h : Hold W g cs cur) (K : List Value) (h1 : g ≠ j) (h3 : W.heap.size ≤ j) : Hold W g cs (cur.setRow j K.toArray) :=
  ⟨brow h.bel h3 _, h.at'.keep fun _ => setRow_other cur j g _ h1⟩
end
end Go.Proofs.YtlodhleihnlchaaGreatDoor
namespace Go.Proofs.YtlodhleihnlchaaGreatDoor
open Go.RowKit
set_option maxRecDepth 100000
set_option linter.unusedVariables false

@[go_sem] theorem min_two (ats : Array TypeId) (ty : TypeId) (k k' : IntKind) (x y : Int) : Builtin.min_ ats ty #[.int k x, .int k' y] = pure (.int k (if y < x then y else x)) := rfl
theorem crashS_no {s : StoreD} {k : Int} (h : crashC s k ≠ 0) : crashS s k = store0 := by unfold crashS; rw [if_neg h]
theorem crash_open {s : StoreD} {k : Int} (h : storeF s = 0) (hk : 0 ≤ k) : ∃ m : Nat, (m : Int) = leftN s k ∧ m ≤ s.d.rs.length ∧ leftD s k = ⟨s.d.rs.take m, m⟩ ∧ openC ⟨s.d.rs.take m, m⟩ = 0 ∧ openS ⟨s.d.rs.take m, m⟩ = crashS s k := by
  have hb := left_bd h hk
  have ho := left_open h hk
  have e : leftD s k = ⟨s.d.rs.take (leftN s k).toNat, ((leftN s k).toNat : Nat)⟩ := by
    unfold leftD
    rw [Int.toNat_of_nonneg (by omega)]
  refine ⟨(leftN s k).toNat, Int.toNat_of_nonneg (by omega), by omega, e, ?_, ?_⟩
  · rw [← e]; exact ho
  · rw [← e]; unfold crashS; rw [if_pos (crashC_yes h (by omega))]
end Go.Proofs.YtlodhleihnlchaaGreatDoor
namespace Go.Proofs.YtlodhleihnlchaaGreatDoor
open Go.RowKit
set_option maxRecDepth 100000
set_option linter.unusedVariables false

theorem flat_oneCell (ps : List PinD) : ∀ v ∈ flat ps, v.oneCell' = true := by
  intro v hv
  simp only [flat, List.mem_flatMap] at hv
  obtain ⟨p, _, h⟩ := hv
  exact pin_oneCell p v h
theorem PRow.src {w : World} {B : Nat} {a : Option Addr} {len cap : Nat} {ps : List PinD} {tx e' : TypeId} (h : PRow w B a len cap ps) (hk : Tryz.prog.underlying tx = some (.slice e')) : Go.Src Tryz.prog 5 tx (.slice a len cap) len (flat ps) w := by
  rcases Nat.eq_zero_or_pos len with h0 | h0
  · subst h0
    obtain rfl : ps = [] := List.eq_nil_of_length_eq_zero h.length
    cases a with
    | none => exact Src.ofNil w hk cap
    | some x => exact Src.ofSlice w hk x 0 cap [] rfl (fun j u hu => by simp at hu) (fun _ hu => by cases hu)
  · obtain ⟨b, off, rfl, hb, hc⟩ := h.cells h0
    refine Src.ofSlice w hk _ len cap _ (by rw [flat_length, h.length]) (fun j u hu => ?_) (flat_oneCell ps)
    have hj := (List.getElem?_eq_some_iff.1 hu).1
    rw [flat_length] at hj
    have hk5 : j / 5 < ps.length := by omega
    have hi5 : j % 5 < (ps[j / 5]?.getD pin0).vals.length := by show j % 5 < 5; omega
    have hv := flat_get ps (j / 5) (j % 5) _ hk5 (List.getElem?_eq_getElem hi5)
    rw [show j / 5 * 5 + j % 5 = j by omega, hu] at hv
    injection hv with hv
    rw [Addr.add_lit, show off + j = off + j / 5 * 5 + j % 5 by omega, hv]
    exact hc (j / 5) (by rw [← h.length]; exact hk5) (j % 5) _ (List.getElem?_eq_getElem hi5)
def CopiedS (s : StoreD) (w : World) (e : Ending) (w' : World) : Prop :=
  ∃ a1 c1 a2 c2, e = .returned (S3 a1 s.ps.length c1 a2 s.d.rs.length c2 s.d.s) ∧ SOwn w' w.heap.size w'.heap.size (.slice a1 s.ps.length c1) (.slice a2 s.d.rs.length c2) s ∧ Below w.heap.size w w'
set_option maxHeartbeats 1000000 in
theorem l9Copy_any (a1 : Option Addr) (n1 c1 : Nat) (a2 : Option Addr) (n2 c2 B : Nat) (s : StoreD) (w : World) (hR : SRow w B a1 n1 c1 a2 n2 c2 s) (hB : B ≤ w.heap.size) (hn4 : s.ps.length ≤ 4) (h12 : s.d.rs.length ≤ 12) (hl : s.d.rs.any longR = false) :
    Calls Tryz.prog 135 #[S3 a1 n1 c1 a2 n2 c2 s.d.s] w (CopiedS s w) := by
  obtain ⟨i0, hi0, hz0, hz1, hz2⟩ := info_parts pin_info
  have b0 := bal (bal (Below.refl _ w) (.cells #[.slice a1 n1 c1, .slice a2 n2 c2, .int .i64 s.d.s] 57)) (.cells #[.slice none 0 0, .slice none 0 0, .int .i64 0] 57)
  have A0 := (At.new w (S3L a1 n1 c1 a2 n2 c2 s.d.s) 57).alloc (.cells #[.slice none 0 0, .slice none 0 0, .int .i64 0] 57)
  have R0 := At.new (w.alloc (.cells #[.slice a1 n1 c1, .slice a2 n2 c2, .int .i64 s.d.s] 57)) [.slice none 0 0, .slice none 0 0, .int .i64 0] 57
  rw [World.size_alloc] at R0
  have hln := hR.ps.length
  have hrn := hR.rs.length
  have HPS := Lib.hid (fun (w' : World) (h : Below w.heap.size w w') => (hR.ps.below (h.mono hB)).src Tryz.underlying53)
  have CD := Lib.hid (fun (w' : World) (h : Below w.heap.size w w') => l9CopyDisk_any a2 n2 c2 B s.d.rs s.d.s w' (hR.rs.below (h.mono hB)) (Nat.le_trans hB h.size) h12 hl)
  have HNM := Lib.hid hR.ps.names
  have HW := Lib.hid hR.wf
  have H0 := Lib.hid (show Hold w w.heap.size (S3L a1 n1 c1 a2 n2 c2 s.d.s) (((w.alloc (.cells #[.slice a1 n1 c1, .slice a2 n2 c2, .int .i64 s.d.s] 57)).alloc (.cells #[.slice none 0 0, .slice none 0 0, .int .i64 0] 57)).drew) from ⟨b0.drew, A0.on (bdrew _)⟩)
  have HR0 := Lib.hid (show At (w.heap.size + 1) [.slice none 0 0, .slice none 0 0, .int .i64 0] (((w.alloc (.cells #[.slice a1 n1 c1, .slice a2 n2 c2, .int .i64 s.d.s] 57)).alloc (.cells #[.slice none 0 0, .slice none 0 0, .int .i64 0] 57)).drew) from R0.on (bdrew _))
  have hn1 : n1 ≤ 4 := by rw [← hln]; exact hn4
  have HLN := Lib.hid hln
  have HRN := Lib.hid hrn
  clear hR hn4 h12 hl A0 R0 b0 hln hrn
  go_enter Tryz.func135, Tryz.ntmps135
  go_wp2_with fail
  refine wp_region_line (Hold w w.heap.size (S3L a1 n1 c1 a2 n2 c2 s.d.s)) [(1, true), (2, true), (4, true), (5, true), (0, false), (3, false), (6, false), (7, true), (8, false)] (by kernel_rfl) (by kernel_rfl) (fun _ _ d _ _ h => by cases d <;> exact h) H0.out ?_
  have hst := H0.out
  have inst : Nonempty (Of (Hold w w.heap.size (S3L a1 n1 c1 a2 n2 c2 s.d.s))) := ⟨⟨_, hst⟩⟩
  have u0 := hold_cell (W := w) (g := w.heap.size) (cs := S3L a1 n1 c1 a2 n2 c2 s.d.s) 0 _ rfl
  have u1 := hold_cell (W := w) (g := w.heap.size) (cs := S3L a1 n1 c1 a2 n2 c2 s.d.s) 1 _ rfl
  have u2 := hold_cell (W := w) (g := w.heap.size) (cs := S3L a1 n1 c1 a2 n2 c2 s.d.s) 2 _ rfl
  clear H0
  generalize ((w.alloc (.cells #[.slice a1 n1 c1, .slice a2 n2 c2, .int .i64 s.d.s] 57)).alloc (.cells #[.slice none 0 0, .slice none 0 0, .int .i64 0] 57)).drew = V1 at *
  iterate 4 (refine line_read rfl (by kernel_rfl) (fun K hK => ?_); go_big_quiet_op; refine hK _ ?_; clear hK K)
  clear u0 u1 u2
  refine line_alone rfl (by kernel_rfl) (fun K hK => ?_)
  go_big_op
  have b2 := bal (Below.refl _ V1) (.cells #[] 59)
  have hst2 := hst.on b2
  have O2 := Lib.hid (show Own (V1.alloc (.cells #[] 59)) V1.heap.size 5 (.slice (some ⟨V1.heap.size, 0, none⟩) 0 0) 0 [] from Own.made V1 #[] 59 0 (Nat.le_refl _) (Nat.zero_le _) rfl)
  have S2 := Lib.hid (HPS.out _ hst2.bel)
  have R2 := Lib.hid (HR0.out.on b2)
  have hlo : w.heap.size + 1 < V1.heap.size := HR0.out.lt (by simp)
  refine hK _ _ hst2 ?_
  clear hK K hst b2 HPS HR0
  have hst := hst2
  clear hst2
  have hsz2 : V1.heap.size ≤ (V1.alloc (.cells #[] 59)).heap.size := by simp
  generalize V1.alloc (.cells #[] 59) = V2 at *
  generalize V1.heap.size = lo at *
  refine line_alone rfl (by kernel_rfl) (fun K hK => ?_)
  refine wp_append_src _ (.tmp 3) (.tmp 5) 53 53 rfl lo 59 i0 (P5 pin0) 5 48 Tryz.underlying53 hi0 hz0 hz1 hz2 rfl _ 0 [] rfl O2.out _ n1 (flat s.ps) rfl S2.out (by simp only [maxLen]; omega) (by omega) hsz2 (fun v3 w3 hown hgrow hat => ?_)
  have hst2 : Hold w w.heap.size (S3L a1 n1 c1 a2 n2 c2 s.d.s) w3 := ⟨hst.bel.grown hgrow hst.bel.size (fun k e => by have := (Own.lt O2.out k e).1; omega), hst.at'.kept hgrow (fun e => by have := (Own.lt O2.out _ e.symm).1; omega)⟩
  have R3 := Lib.hid (R2.out.kept hgrow (fun e => by have := (Own.lt O2.out _ e.symm).1; omega))
  have O3 : OwnP w3 lo v3 s.ps := by
    unfold OwnP
    rw [HLN.out]
    simpa using hown
  obtain ⟨a3, c3, hv3, -⟩ := O3.form
  subst hv3
  have HO3 := Lib.hid O3
  have hlo3 : lo ≤ w3.heap.size := Nat.le_trans hsz2 hgrow.size
  refine hK _ _ hst2 ?_
  clear hK K hst hown hgrow hat O2 S2 R2 O3 hsz2
  have hst := hst2
  clear hst2
  simp only [Act.put, List.setIfInBounds_toArray, List.set_cons_zero, List.set_cons_succ]
  refine line_alone rfl (by kernel_rfl) (fun K hK => ?_)
  refine call_any (args := #[.agg #[.slice a2 n2 c2, .int .i64 s.d.s]]) rfl (by kernel_rfl) (by kernel_rfl) (CD.out _ hst.bel) ?_
  rintro e x6 ⟨a6, n6, c6, xs, rfl, G6, b6⟩
  have hst2 := hst.on b6
  have R6 := R3.out.on b6
  have SO : SOwn x6 lo x6.heap.size (.slice a3 s.ps.length c3) (.slice a6 n6 c6) s :=
    SOwn.mk' (W := w) (mid := w3.heap.size) (HO3.out.below b6) hlo3 (fun g hg => (Own.lt HO3.out g hg).2) G6 b6.size HNM.out HW.out
  obtain ⟨-, hn6⟩ := SO.len
  subst hn6
  have HSO := Lib.hid SO
  refine ⟨_, rfl, hK _ _ hst2 ?_⟩
  clear hK K hst b6 G6 SO R3 HO3 CD
  have hst := hst2
  clear hst2
  simp only [Act.put, List.setIfInBounds_toArray, List.set_cons_zero, List.set_cons_succ]
  refine line_readv (v := .agg #[.slice a3 s.ps.length c3, .slice a6 s.d.rs.length c6, .int .i64 s.d.s]) rfl (by kernel_rfl) (fun _ => by kernel_rfl) ?_
  simp only [Act.put, List.setIfInBounds_toArray, List.set_cons_zero, List.set_cons_succ]
  have q0 := R6.cell 0 _ rfl
  have q1 := R6.cell 1 _ rfl
  have q2 := R6.cell 2 _ rfl
  have f0 := R6.free 0 _ rfl
  have f1 := R6.free 1 _ rfl
  have f2 := R6.free 2 _ rfl
  refine line_alone rfl (by kernel_rfl) (fun K hK => ?_)
  go_big_op
  refine hK _ _ ((by (iterate 3 (refine Hold.setB ?_ (by dsimp only; omega) (by dsimp only; omega) _)); exact hst)) ?_
  clear hK K
  refine line_nil ?_
  have hS := ((HSO.out.setCell (p := ⟨w.heap.size + 1, 0, none⟩) (.inl hlo) (.slice a3 s.ps.length c3)).setCell (p := ⟨w.heap.size + 1, 1, none⟩) (.inl hlo) (.slice a6 s.d.rs.length c6)).setCell (p := ⟨w.heap.size + 1, 2, none⟩) (.inl hlo) (.int .i64 s.d.s)
  have hS2 := Lib.hid ((hS.less (show w.heap.size ≤ lo by omega)).more hS.top.2 (Nat.le_refl _))
  have HB := Lib.hid hst.bel
  clear hst inst R6 hS HSO
  go_wp2_with fail
  refine bodyPost_ret (v := S3 a3 s.ps.length c3 a6 s.d.rs.length c6 s.d.s) (by simp [results, Tryz.results135, go_sem, S3, q0, q1, q2]) rfl ⟨a3, c3, a6, c6, rfl, hS2.out, ?_⟩
  exact (by (iterate 3 (refine bset ?_ (by dsimp only; omega) _)); exact HB.out)
end Go.Proofs.YtlodhleihnlchaaGreatDoor
