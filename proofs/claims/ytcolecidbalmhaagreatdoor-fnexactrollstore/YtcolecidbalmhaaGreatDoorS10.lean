/- Texts of this seat that several laws rest on, laid into one. Conditions: as each theorem states. -/
import Derived.Test.YtcolecidbalmhaaGreatDoorS2
import Derived.Test.YtcolecidbalmhaaGreatDoorS3
import Derived.Test.YtcolecidbalmhaaGreatDoorS6
import Derived.Test.YtcolecidbalmhaaGreatDoorS7
import Derived.Test.YtcolecidbalmhaaGreatDoorS8
import Derived.Test.YtcolecidbalmhaaGreatDoorS9
import Derived.Deep.DeepCutAuto
namespace Go.Proofs.YtcolecidbalmhaaGreatDoor
open Go.RowKit
set_option maxRecDepth 100000
set_option linter.unusedVariables false

/-- Below W, and two blocks hold their cells. -/
structure Hold2 (W : World) (g1 : Nat) (c1 : List Value) (g2 : Nat) (c2 : List Value) (cur : World) : Prop where
  bel : Below W.heap.size W cur
  a1 : At g1 c1 cur
  a2 : At g2 c2 cur
section
variable {W cur cur' : World} {g1 g2 : Nat} {c1 c2 : List Value}
theorem Hold2.on (h : Hold2 W g1 c1 g2 c2 cur) (hb : Below cur.heap.size cur cur') : Hold2 W g1 c1 g2 c2 cur' := ⟨btr h.bel hb, h.a1.on hb, h.a2.on hb⟩
theorem Hold2.setB (h : Hold2 W g1 c1 g2 c2 cur) {p : Addr} (hW : W.heap.size ≤ p.block) (h1 : g1 ≠ p.block) (h2 : g2 ≠ p.block) (u : Value) : Hold2 W g1 c1 g2 c2 (cur.setCell p u) := ⟨bset h.bel hW u, h.a1.setB h1 u, h.a2.setB h2 u⟩
theorem Hold2.q1 (i : Nat) (v : Value) (h : c1[i]? = some v) : ∀ z : Of (Hold2 W g1 c1 g2 c2), z.val.cell? ⟨g1, i, none⟩ = some v := fun z => z.prop.a1.cell i v h
theorem Hold2.q2 (i : Nat) (v : Value) (h : c2[i]? = some v) : ∀ z : Of (Hold2 W g1 c1 g2 c2), z.val.cell? ⟨g2, i, none⟩ = some v := fun z => z.prop.a2.cell i v h
end
/-- The cells of a store's result that is not yet told. -/
def zero9 : List Value := [.int .i64 0, .slice none 0 0, .slice none 0 0, .int .i64 0]
theorem right_names {ps : List PinD} (h : pinsF ps = 0) : ∀ p ∈ ps, p.n.size ≤ maxLen := fun p hp => by
  have := (pin_bounds ((pinsF_zero h).2.1 p hp)).1
  simp only [maxLen]
  omega
/-- A journal that is being read. -/
structure OpenSt (w : World) (t : Nat) (dv : List Value) (v : Value) (ps : List PinD) (rs : List (List Int)) (T : Int × List PinD) (wr : World) : Prop where
  D : At w.heap.size dv wr
  R : At (w.heap.size + 1) zero9 wr
  C : At t [.int .i64 0, v] wr
  O : OwnP wr (t + 1) v ps
  B : Below w.heap.size w wr
  lo : w.heap.size + 2 ≤ t
  hs : t + 1 ≤ wr.heap.size
  ok : pinsF ps = 0
  left : openG ps rs = T
theorem OpenSt.on {w wr w1 : World} {t : Nat} {dv : List Value} {v : Value} {ps : List PinD} {rs : List (List Int)} {T : Int × List PinD} (h : OpenSt w t dv v ps rs T wr) (hb : Below wr.heap.size wr w1) : OpenSt w t dv v ps rs T w1 :=
  ⟨h.D.on hb, h.R.on hb, h.C.on hb, h.O.below hb, btr h.B hb, h.lo, Nat.le_trans h.hs hb.size, h.ok, h.left⟩
set_option maxHeartbeats 4000000 in
theorem implOpenDisk_any (a : Option Addr) (n c B : Nat) (rs : List (List Int)) (s : Int) (w : World) (hG : Grid w B a n c rs) (hB : B ≤ w.heap.size) (hw : ∀ zs ∈ rs, ∀ z ∈ zs, (Lit.int .u8 z).wf = true) :
    Calls Tryz.prog 23 #[.agg #[.slice a n c, .int .i64 s]] w (StoreRes (openC ⟨rs, s⟩) (openS ⟨rs, s⟩) w) := by
  have b0 := bal (bal (Below.refl _ w) (.cells #[.slice a n c, .int .i64 s] 27)) (.cells #[.int .i64 0, .slice none 0 0, .slice none 0 0, .int .i64 0] 35)
  have A0 : At w.heap.size [.slice a n c, .int .i64 s] ((w.alloc (.cells #[.slice a n c, .int .i64 s] 27)).alloc (.cells #[.int .i64 0, .slice none 0 0, .slice none 0 0, .int .i64 0] 35)) := (At.new w [.slice a n c, .int .i64 s] 27).alloc _
  have R0 := At.new (w.alloc (.cells #[.slice a n c, .int .i64 s] 27)) zero9 35
  have sz0 : ((w.alloc (.cells #[.slice a n c, .int .i64 s] 27)).alloc (.cells #[.int .i64 0, .slice none 0 0, .slice none 0 0, .int .i64 0] 35)).heap.size = w.heap.size + 2 := by simp
  rw [World.size_alloc] at R0
  have F := fun w' (h : Below w.heap.size w w') => implDiskFault_any a n c B rs s w' (hG.below (h.mono hB)) (Nat.le_trans hB h.size)
  have HL := Lib.hid hG.length
  have hlen := hG.fits
  have hmost := hG.most
  unfold maxLen at hmost
  have HW := Lib.hid hw
  have HG := Lib.hid (fun (w' : World) (h : Below w.heap.size w w') => hG.below (h.mono hB))
  clear hw hG
  have HA0 := Lib.hid A0
  have HR0 := Lib.hid (show At (w.heap.size + 1) zero9 ((w.alloc (.cells #[.slice a n c, .int .i64 s] 27)).alloc (.cells #[.int .i64 0, .slice none 0 0, .slice none 0 0, .int .i64 0] 35)) from R0)
  have HB0 := Lib.hid b0
  have HZ0 := Lib.hid sz0
  clear A0 R0 b0 sz0
  by_cases h0 : diskF ⟨rs, s⟩ = 0
  case neg =>
    have e1 := openC_bad h0
    have e2 := openS_no (d := ⟨rs, s⟩) (by rw [e1]; exact h0)
    rw [e1, e2]
    generalize diskF ⟨rs, s⟩ = cd at *
    have q0 : (cd != 0) = true := by simpa using h0
    clear e1 e2 HW HG
    have F0 := F _ HB0.out
    clear F
    have d0 := HA0.out.cell 0 _ rfl
    have d1 := HA0.out.cell 1 _ rfl
    go_enter Tryz.func23, Tryz.ntmps23
    go_wp2_with fail
    generalize (w.alloc (.cells #[.slice a n c, .int .i64 s] 27)).alloc (.cells #[.int .i64 0, .slice none 0 0, .slice none 0 0, .int .i64 0] 35) = W0 at *
    refine F0.mono ?_
    rintro r u1 ⟨rfl, b1⟩
    have B1 := btr HB0.out b1
    have R1 := HR0.out.on b1
    have S1 : w.heap.size ≤ u1.heap.size := B1.size
    clear q0
    have q9 : (cd != 0) = true := by simpa using h0
    unfold zero9 at R1
    have q0 := R1.cell 0 _ rfl
    have q1 := R1.cell 1 _ rfl
    have q2 := R1.cell 2 _ rfl
    have q3 := R1.cell 3 _ rfl
    have f0 := R1.free 0 _ rfl
    have f1 := R1.free 1 _ rfl
    have f2 := R1.free 2 _ rfl
    have f3 := R1.free 3 _ rfl
    clear d0 d1 HA0 HR0 HB0 HZ0 b1 R1 F0
    go_wp2_with fail
    refine bodyPost_ret (v := V4 cd none 0 0 none 0 0 0) (by simp [results, Tryz.results23, go_sem, V4, q0, q1, q2, q3]) rfl ⟨none, 0, 0, none, 0, 0, rfl, SOwn.nil _ _ ?_, ?_⟩
    · exact Nat.le_trans (B1).size (by simp [World.setCell])
    · exact (by (iterate 4 (refine bset ?_ (by dsimp only; omega) _)); exact B1)
  have ho := openC_ok (d := ⟨rs, s⟩) h0
  have hs1' := fun h => openS_yes (d := ⟨rs, s⟩) h
  have hs0' := fun h => openS_no (d := ⟨rs, s⟩) h
  obtain ⟨h12, hlong, hs0, hs1⟩ := diskF_zero h0
  have hn12 : n ≤ 12 := by rw [← HL.out]; exact h12
  have F0 := F _ HB0.out
  rw [h0] at F0
  have hbu : Tryz.prog.built 120 [] = some #[.int .i64 0, .slice none 0 0] := by kernel_rfl
  have JO := Lib.hid (fun (w' : World) (h : Below w.heap.size w w') => journalOf_any a n c B rs s w' (HG.out w' h) (Nat.le_trans hB h.size) h12 hlong)
  have dk := fun (w' : World) => disk_any rs rs.length s w' (Nat.le_refl _) h12 hlong HW.out
  simp only [← jall_def, List.take_length] at dk
  have DK := Lib.hid dk
  clear dk
  have H40 := Lib.hid (fun (k : Nat) (hk : k < rs.length) => long_no hlong hk)
  clear F hlong h12 hs0 hs1
  generalize openC ⟨rs, s⟩ = C at *
  generalize openS ⟨rs, s⟩ = S at *
  generalize hT : openG [] rs = T at *
  have HT := Lib.hid hT
  have HO := Lib.hid ho
  have HS1 := Lib.hid hs1'
  have HS0 := Lib.hid hs0'
  clear hT ho hs1' hs0'
  have d0 := HA0.out.cell 0 _ rfl
  have d1 := HA0.out.cell 1 _ rfl
  go_enter Tryz.func23, Tryz.ntmps23
  go_wp2_with fail
  generalize (w.alloc (.cells #[.slice a n c, .int .i64 s] 27)).alloc (.cells #[.int .i64 0, .slice none 0 0, .slice none 0 0, .int .i64 0] 35) = W0 at *
  refine F0.mono ?_
  rintro r u1 ⟨rfl, b1⟩
  have S0 : OpenSt w u1.heap.size [.slice a n c, .int .i64 s] (.slice none 0 0) [] rs T (u1.alloc (.cells #[.int .i64 0, .slice none 0 0] 120)) := by
    have hz := HZ0.out
    have b2 := btr b1 (bal (Below.refl _ u1) (.cells #[.int .i64 0, .slice none 0 0] 120))
    have hsz := b1.size
    exact ⟨HA0.out.on b2, HR0.out.on b2, At.new u1 [.int .i64 0, .slice none 0 0] 120, OwnP.nil _ _, btr HB0.out b2, by omega, by simp, rfl, HT.out⟩
  have HS := Lib.hid S0
  have sd0 := S0.D.cell 0 _ rfl
  have sd1 := S0.D.cell 1 _ rfl
  clear HA0 HR0 HB0 HZ0 b1 F0 d0 d1 S0
  go_upto_region 6 with fail
  generalize u1.alloc (.cells #[.int .i64 0, .slice none 0 0] 120) = W1 at *
  generalize u1.heap.size = t at *
  go_loopw [18] (fun i wr => ∃ (k : Nat) (v : Value) (ps : List PinD), k ≤ n ∧ i = .int .i64 k ∧ OpenSt w t [.slice a n c, .int .i64 s] v ps (rs.drop k) T wr) (fun i _ => n - (intOf i).toNat)
  case atStart => exact ⟨0, _, _, Nat.zero_le _, rfl, by rw [List.drop_zero]; exact HS.out⟩
  case round =>
    obtain ⟨k, v, ps, hk, rfl, hT⟩ := hrel
    clear HS sd0 sd1 hbu
    by_cases hlt : k < n
    · obtain ⟨b, off, ha, hb, hc⟩ := (HG.out wr hT.B).cells (by omega)
      obtain ⟨a', n', c', hcell, hrow⟩ := hc k hlt
      have hl2 : k < rs.length := by rw [HL.out]; exact hlt
      have hleft := hT.left
      rw [openG_drop hl2] at hleft
      have R9 := implReadRecord9_any a' n' c' B (rs[k]?.getD []) wr hrow (Nat.le_trans hB hT.B.size)
      clear hc hrow
      subst ha
      generalize rs[k]?.getD [] = zs at *
      cases hrec : recOk zs
      · rw [openG_no hrec] at hleft
        have e1 : C = 5 := by rw [HO.out, ← hleft]
        have e2 := HS0.out (by rw [e1]; omega)
        subst e1; subst e2
        rw [show rdC zs = 5 by simp [rdC, hrec]] at R9
        generalize rdP zs = pz at *
        have HT := Lib.hid hT
        clear hT hleft hrec HG HO HS0 HS1 JO DK H40 HW
        go_wp2_with fail
        refine R9.mono ?_
        rintro r u2 ⟨rfl, b2⟩
        have b3 := btr b2 (bal (Below.refl _ u2) (.cells #[.int .i64 5, .string pz.n, .int .i64 pz.a, .int .i64 pz.b, .int .i64 pz.e, .int .i64 pz.u] 48))
        have T3 := HT.out.on b3
        have B3 := T3.B
        have R3 := T3.R
        have S3 : w.heap.size ≤ (u2.alloc (.cells #[.int .i64 5, .string pz.n, .int .i64 pz.a, .int .i64 pz.b, .int .i64 pz.e, .int .i64 pz.u] 48)).heap.size := B3.size
        have P3 : At u2.heap.size (RPL6 5 pz) (u2.alloc (.cells #[.int .i64 5, .string pz.n, .int .i64 pz.a, .int .i64 pz.b, .int .i64 pz.e, .int .i64 pz.u] 48)) := At.new u2 (RPL6 5 pz) 48
        have p0 := P3.cell 0 _ rfl
        unfold zero9 at R3
        have q0 := R3.cell 0 _ rfl
        have q1 := R3.cell 1 _ rfl
        have q2 := R3.cell 2 _ rfl
        have q3 := R3.cell 3 _ rfl
        have f0 := R3.free 0 _ rfl
        have f1 := R3.free 1 _ rfl
        have f2 := R3.free 2 _ rfl
        have f3 := R3.free 3 _ rfl
        clear T3 b3 b2 R3 P3 hcell
        go_wp2_with fail
        refine bodyPost_ret (v := V4 5 none 0 0 none 0 0 0) (by simp [results, Tryz.results23, go_sem, V4, q0, q1, q2, q3]) rfl ⟨none, 0, 0, none, 0, 0, rfl, SOwn.nil _ _ ?_, ?_⟩
        · exact Nat.le_trans (B3).size (by simp [World.setCell])
        · exact (by (iterate 4 (refine bset ?_ (by dsimp only; omega) _)); exact B3)
      · obtain ⟨hpf, _, _, _⟩ := recOk_pin hrec
        rw [show rdC zs = 0 by simp [rdC, hrec], show rdP zs = pinZ (body zs) by simp [rdP, hrec]] at R9
        have hpn : (pinZ (body zs)).n.size ≤ maxLen := by have := (pin_bounds hpf).1; simp only [maxLen]; omega
        obtain ⟨hpc, hpr⟩ := put0_code hT.ok hpf
        have PP := Lib.hid (fun (a1 : Option Addr) (n1 c1 : Nat) (w' : World) (h : PRow w' w'.heap.size a1 n1 c1 ps) => implPutPin_any a1 n1 c1 w'.heap.size ps (pinZ (body zs)) w' h (Nat.le_refl _) hpn)
        rw [hpc, hpr] at PP
        obtain ⟨a1, n1, c1, hv⟩ : ∃ a n c, v = .slice a n c := by obtain ⟨a, c, e, -⟩ := Own.form hT.O; exact ⟨_, _, _, e⟩
        subst hv
        by_cases hput : put0 ps (pinZ (body zs)) = 0
        · rw [openG_put hrec hput] at hleft
          have hok2 := put_right hT.ok hpf hput
          rw [show put1 ps (pinZ (body zs)) = putL ps (pinZ (body zs)) by unfold put1; rw [if_pos hput], hput] at PP
          have HLF := Lib.hid hleft
          have HOK := Lib.hid hok2
          have HNM := Lib.hid (right_names hT.ok)
          generalize putL ps (pinZ (body zs)) = qs at *
          generalize pinZ (body zs) = pz at *
          have HT := Lib.hid hT
          clear hT hleft hok2 hpc hpr hput hrec
          go_wp2_with fail
          refine R9.mono ?_
          rintro r u2 ⟨rfl, b2⟩
          have b3 := btr b2 (bal (Below.refl _ u2) (.cells #[.int .i64 0, .string pz.n, .int .i64 pz.a, .int .i64 pz.b, .int .i64 pz.e, .int .i64 pz.u] 48))
          have T3 := HT.out.on b3
          have P3 : At u2.heap.size (RPL6 0 pz) (u2.alloc (.cells #[.int .i64 0, .string pz.n, .int .i64 pz.a, .int .i64 pz.b, .int .i64 pz.e, .int .i64 pz.u] 48)) := At.new u2 (RPL6 0 pz) 48
          have p0 := P3.cell 0 _ rfl
          have p1 := P3.cell 1 _ rfl
          have p2 := P3.cell 2 _ rfl
          have p3 := P3.cell 3 _ rfl
          have p4 := P3.cell 4 _ rfl
          have p5 := P3.cell 5 _ rfl
          have x0 := T3.C.cell 0 _ rfl
          have x1 := T3.C.cell 1 _ rfl
          have HT3 := Lib.hid T3
          clear HT b3 b2 T3 P3 hcell R9
          go_wp2_with fail
          generalize u2.alloc (.cells #[.int .i64 0, .string pz.n, .int .i64 pz.a, .int .i64 pz.b, .int .i64 pz.e, .int .i64 pz.u] 48) = W3 at *
          generalize u2.heap.size = pb at *
          refine (PP.out _ _ _ _ (OwnP.row HT3.out.O HNM.out)).mono ?_
          rintro r u4 ⟨a4, n4, c4, rfl, O4, b4⟩
          clear p0 p1 p2 p3 p4 p5 x0 x1
          have T4 := HT3.out.on b4
          have x0 := T4.C.cell 0 _ rfl
          have x1 := T4.C.cell 1 _ rfl
          have y0 := T4.C.free 0 _ rfl
          have y1 := T4.C.free 1 _ rfl
          have htl := HT3.out.lo
          have hO := (OwnP.less O4 (show t + 1 ≤ W3.heap.size from HT3.out.hs))
          have S5 : OpenSt w t [.slice (some ⟨b, off, none⟩) n c, .int .i64 s] (.slice a4 n4 c4) qs (rs.drop (k + 1)) T ((u4.setCell ⟨t, 0, none⟩ (.int .i64 0)).setCell ⟨t, 1, none⟩ (.slice a4 n4 c4)) :=
            ⟨(T4.D.setB (p := ⟨t, 0, none⟩) (by show w.heap.size ≠ t; omega) _).setB (p := ⟨t, 1, none⟩) (by show w.heap.size ≠ t; omega) _,
             (T4.R.setB (p := ⟨t, 0, none⟩) (by show w.heap.size + 1 ≠ t; omega) _).setB (p := ⟨t, 1, none⟩) (by show w.heap.size + 1 ≠ t; omega) _,
             by simpa using (T4.C.set 0 (.int .i64 0)).set 1 (.slice a4 n4 c4),
             Own.setCell (Own.setCell hO (fun g hg e => by have := (Own.lt hO g hg).1; dsimp only at e; omega) _) (fun g hg e => by have := (Own.lt hO g hg).1; dsimp only at e; omega) _,
             (by (iterate 2 (refine bset ?_ (by dsimp only; omega) _)); exact T4.B), htl, by have := T4.hs; simpa [World.setCell] using this, HOK.out, HLF.out⟩
          have HS5 := Lib.hid S5
          clear T4 O4 b4 hO S5 HT3 PP
          go_wp2_with fail
          go_roundw
          case rel => exact ⟨k + 1, _, _, by omega, by go_num, HS5.out⟩
          case measure => simp [intOf]; omega
        · rw [openG_bad hrec hput] at hleft
          have e1 : C = put0 ps (pinZ (body zs)) := by rw [HO.out, ← hleft]
          have e2 := HS0.out (by rw [e1]; exact hput)
          subst e2
          have HNM := Lib.hid (right_names hT.ok)
          generalize put0 ps (pinZ (body zs)) = cd at *
          subst e1
          generalize put1 ps (pinZ (body zs)) = qs at *
          generalize pinZ (body zs) = pz at *
          have hcd : (C != 0) = true := by simpa using hput
          have hcd2 : decide (C = 0) = false := by simpa using hput
          have HT := Lib.hid hT
          clear hT hleft hpc hpr hrec HO HS0 HS1
          go_wp2_with fail
          refine R9.mono ?_
          rintro r u2 ⟨rfl, b2⟩
          have b3 := btr b2 (bal (Below.refl _ u2) (.cells #[.int .i64 0, .string pz.n, .int .i64 pz.a, .int .i64 pz.b, .int .i64 pz.e, .int .i64 pz.u] 48))
          have T3 := HT.out.on b3
          have P3 : At u2.heap.size (RPL6 0 pz) (u2.alloc (.cells #[.int .i64 0, .string pz.n, .int .i64 pz.a, .int .i64 pz.b, .int .i64 pz.e, .int .i64 pz.u] 48)) := At.new u2 (RPL6 0 pz) 48
          have p0 := P3.cell 0 _ rfl
          have p1 := P3.cell 1 _ rfl
          have p2 := P3.cell 2 _ rfl
          have p3 := P3.cell 3 _ rfl
          have p4 := P3.cell 4 _ rfl
          have p5 := P3.cell 5 _ rfl
          have x0 := T3.C.cell 0 _ rfl
          have x1 := T3.C.cell 1 _ rfl
          have HT3 := Lib.hid T3
          clear HT b3 b2 T3 P3 hcell R9
          go_wp2_with fail
          generalize u2.alloc (.cells #[.int .i64 0, .string pz.n, .int .i64 pz.a, .int .i64 pz.b, .int .i64 pz.e, .int .i64 pz.u] 48) = W3 at *
          generalize u2.heap.size = pb at *
          refine (PP.out _ _ _ _ (OwnP.row HT3.out.O HNM.out)).mono ?_
          rintro r u4 ⟨a4, n4, c4, rfl, O4, b4⟩
          clear p0 p1 p2 p3 p4 p5 x0 x1
          have T4 := HT3.out.on b4
          have x0 := T4.C.cell 0 _ rfl
          have x1 := T4.C.cell 1 _ rfl
          have y0 := T4.C.free 0 _ rfl
          have y1 := T4.C.free 1 _ rfl
          have R5 := (T4.R.setB (p := ⟨t, 0, none⟩) (by show w.heap.size + 1 ≠ t; have := HT3.out.lo; omega) (.int .i64 C)).setB (p := ⟨t, 1, none⟩) (by show w.heap.size + 1 ≠ t; have := HT3.out.lo; omega) (.slice a4 n4 c4)
          have B5 : Below w.heap.size w ((u4.setCell ⟨t, 0, none⟩ (.int .i64 C)).setCell ⟨t, 1, none⟩ (.slice a4 n4 c4)) := by
            have := HT3.out.lo
            exact (by (iterate 2 (refine bset ?_ (by dsimp only; omega) _)); exact T4.B)
          unfold zero9 at R5
          have q0 := R5.cell 0 _ rfl
          have q1 := R5.cell 1 _ rfl
          have q2 := R5.cell 2 _ rfl
          have q3 := R5.cell 3 _ rfl
          have f0 := R5.free 0 _ rfl
          have f1 := R5.free 1 _ rfl
          have f2 := R5.free 2 _ rfl
          have f3 := R5.free 3 _ rfl
          clear T4 O4 b4 R5 PP HT3
          go_wp2_with fail
          refine bodyPost_ret (v := V4 C none 0 0 none 0 0 0) (by simp [results, Tryz.results23, go_sem, V4, q0, q1, q2, q3]) rfl ⟨none, 0, 0, none, 0, 0, rfl, SOwn.nil _ _ ?_, ?_⟩
          · exact Nat.le_trans (B5).size (by simp [World.setCell])
          · exact (by (iterate 4 (refine bset ?_ (by dsimp only; omega) _)); exact B5)
    · obtain rfl : k = n := by omega
      have hleft := hT.left
      rw [List.drop_of_length_le (by rw [HL.out]; omega), openG_nil] at hleft
      have e1 : C = 0 := by rw [HO.out, ← hleft]
      have e2 := HS1.out e1
      rw [← hleft] at e2
      subst e1
      subst e2
      obtain ⟨a1, n1, c1, hv⟩ : ∃ a n c, v = .slice a n c := by obtain ⟨a, c, e, -⟩ := Own.form hT.O; exact ⟨_, _, _, e⟩
      subst hv
      have HNM := Lib.hid (right_names hT.ok)
      have HT1 := Lib.hid (hT.on (bdrew wr))
      have HTD := Lib.hid (show Hold2 w w.heap.size [.slice a k c, .int .i64 s] t [.int .i64 0, .slice a1 n1 c1] wr.drew from ⟨(hT.on (bdrew wr)).B, (hT.on (bdrew wr)).D, (hT.on (bdrew wr)).C⟩)
      clear hT hleft HO HS1 HS0
      go_wp2_with fail
      refine wp_region_line (Hold2 w w.heap.size [.slice a k c, .int .i64 s] t [.int .i64 0, .slice a1 n1 c1]) [(0, true), (1, true), (2, true), (3, false), (4, false), (5, true), (6, true), (7, false)] (by kernel_rfl) (by kernel_rfl) (fun _ _ d _ _ h => by cases d <;> exact h) HTD.out ?_
      have hst := HTD.out
      have inst : Nonempty (Of (Hold2 w w.heap.size [.slice a k c, .int .i64 s] t [.int .i64 0, .slice a1 n1 c1])) := ⟨⟨_, hst⟩⟩
      have x1 := Hold2.q2 (W := w) (g1 := w.heap.size) (c1 := [.slice a k c, .int .i64 s]) (g2 := t) (c2 := [.int .i64 0, .slice a1 n1 c1]) 1 _ rfl
      have y0 := Hold2.q1 (W := w) (g1 := w.heap.size) (c1 := [.slice a k c, .int .i64 s]) (g2 := t) (c2 := [.int .i64 0, .slice a1 n1 c1]) 0 _ rfl
      have y1 := Hold2.q1 (W := w) (g1 := w.heap.size) (c1 := [.slice a k c, .int .i64 s]) (g2 := t) (c2 := [.int .i64 0, .slice a1 n1 c1]) 1 _ rfl
      clear HTD
      generalize wr.drew = V1 at *
      iterate 3 (refine line_read rfl (by kernel_rfl) (fun K hK => ?_); go_big_quiet_op; refine hK _ ?_; clear hK K)
      refine line_alone rfl (by kernel_rfl) (fun K hK => ?_)
      refine call_wp (args := #[.agg #[.slice a k c, .int .i64 s]]) rfl (by kernel_rfl) (by kernel_rfl) (JO.out _ hst.bel) (fun x3 b3 => ?_)
      have hst2 := hst.on b3
      have T3 := Lib.hid (HT1.out.on b3)
      refine hK _ _ hst2 ?_
      clear hK K hst b3 HT1
      have hst := hst2
      clear hst2
      simp only [Act.put, List.setIfInBounds_toArray, List.set_cons_zero, List.set_cons_succ]
      refine line_alone rfl (by kernel_rfl) (fun K hK => ?_)
      refine call_any (args := #[.agg (jall rs s).toArray]) rfl (by kernel_rfl) (by kernel_rfl) (DK.out _) ?_
      rintro e x4 ⟨a2, n2, c2, xs, rfl, G4, b4⟩
      have hst2 := hst.on b4
      have R4 := T3.out.R.on b4
      have lo4 := T3.out.lo
      have SO : SOwn x4 (t + 1) x4.heap.size (.slice a1 n1 c1) (.slice a2 n2 c2) ⟨ps, ⟨rs, s⟩⟩ :=
        SOwn.mk' (W := w) (mid := x3.heap.size) (T3.out.O.below b4) T3.out.hs (fun g hg => (Own.lt T3.out.O g hg).2) G4 b4.size HNM.out HW.out
      have HSO := Lib.hid SO
      refine ⟨_, rfl, hK _ _ hst2 ?_⟩
      clear hK K hst b4 G4 SO T3
      have hst := hst2
      clear hst2
      simp only [Act.put, List.setIfInBounds_toArray, List.set_cons_zero, List.set_cons_succ]
      refine line_readv (v := .agg #[.slice a1 n1 c1, .slice a2 n2 c2, .int .i64 s]) rfl (by kernel_rfl) (fun _ => by kernel_rfl) ?_
      simp only [Act.put, List.setIfInBounds_toArray, List.set_cons_zero, List.set_cons_succ]
      refine line_readv (v := .agg #[.int .i64 0, .slice a1 n1 c1, .slice a2 n2 c2, .int .i64 s]) rfl (by kernel_rfl) (fun _ => by kernel_rfl) ?_
      simp only [Act.put, List.setIfInBounds_toArray, List.set_cons_zero, List.set_cons_succ]
      unfold zero9 at R4
      have q0 := R4.cell 0 _ rfl
      have q1 := R4.cell 1 _ rfl
      have q2 := R4.cell 2 _ rfl
      have q3 := R4.cell 3 _ rfl
      have f0 := R4.free 0 _ rfl
      have f1 := R4.free 1 _ rfl
      have f2 := R4.free 2 _ rfl
      have f3 := R4.free 3 _ rfl
      refine line_alone rfl (by kernel_rfl) (fun K hK => ?_)
      go_big_op
      refine hK _ _ ((by (iterate 4 (refine Hold2.setB ?_ (by dsimp only; omega) (by dsimp only; omega) (by dsimp only; omega) _)); exact hst)) ?_
      clear hK K
      refine line_nil ?_
      have hS := (((HSO.out.setCell (p := ⟨w.heap.size + 1, 0, none⟩) (.inl (by show w.heap.size + 1 < t + 1; omega)) (.int .i64 0)).setCell (p := ⟨w.heap.size + 1, 1, none⟩) (.inl (by show w.heap.size + 1 < t + 1; omega)) (.slice a1 n1 c1)).setCell (p := ⟨w.heap.size + 1, 2, none⟩) (.inl (by show w.heap.size + 1 < t + 1; omega)) (.slice a2 n2 c2)).setCell (p := ⟨w.heap.size + 1, 3, none⟩) (.inl (by show w.heap.size + 1 < t + 1; omega)) (.int .i64 s)
      have hS2 := Lib.hid ((hS.less (show w.heap.size ≤ t + 1 by omega)).more hS.top.2 (Nat.le_refl _))
      have HB := Lib.hid hst.bel
      clear hst inst R4 hS HSO
      go_wp2_with fail
      refine bodyPost_ret (v := V4 0 a1 n1 c1 a2 n2 c2 s) (by simp [results, Tryz.results23, go_sem, V4, q0, q1, q2, q3]) rfl ⟨a1, n1, c1, a2, n2, c2, rfl, hS2.out, ?_⟩
      exact (by (iterate 4 (refine bset ?_ (by dsimp only; omega) _)); exact HB.out)
end Go.Proofs.YtcolecidbalmhaaGreatDoor
namespace Go.Proofs.YtcolecidbalmhaaGreatDoor
open Go.RowKit
set_option maxRecDepth 100000
set_option linter.unusedVariables false

/-- Pins of new memory and a code were answered. -/
def PinsTold (T : Int × List PinD) (w : World) (e : Ending) (w' : World) : Prop :=
  ∃ a n c, e = .returned (.tuple #[.slice a n c, .int .i64 T.1]) ∧ OwnP w' w.heap.size (.slice a n c) T.2 ∧ Below w.heap.size w w'
structure LSt (w : World) (v : Value) (ps : List PinD) (rs : List (List Int)) (T : Int × List PinD) (wr : World) : Prop where
  O : OwnP wr w.heap.size v ps
  B : Below w.heap.size w wr
  ok : pinsF ps = 0
  left : openG ps rs = T
set_option maxHeartbeats 2000000 in
theorem l9Pins_any (a : Option Addr) (n c B : Nat) (rs : List (List Int)) (w : World) (hG : Grid w B a n c rs) (hB : B ≤ w.heap.size) (h40 : rs.any longR = false) :
    Calls Tryz.prog 95 #[.slice a n c] w (PinsTold (openG [] rs) w) := by
  have HL := Lib.hid hG.length
  have hlen := hG.fits
  have hmost := hG.most
  unfold maxLen at hmost
  have HG := Lib.hid (fun (w' : World) (h : Below w.heap.size w w') => hG.below (h.mono hB))
  have H40 := Lib.hid (fun (k : Nat) (hk : k < rs.length) => long_no h40 hk)
  have S0 : LSt w (.slice (some ⟨w.heap.size, 0, none⟩) 0 0) [] rs (openG [] rs) (w.alloc (.cells #[] 31)) :=
    ⟨show Own _ _ 5 _ 0 [] from Own.made (size := 5) (B := w.heap.size) w #[] 31 0 (Nat.le_refl _) (Nat.zero_le _) (by simp), bal (Below.refl _ w) _, rfl, rfl⟩
  generalize openG [] rs = T at *
  clear hG h40
  have HS := Lib.hid S0
  clear S0
  go_enter Tryz.func95, Tryz.ntmps95
  go_wp2_with fail
  generalize w.alloc (.cells #[] 31) = W0 at *
  go_loopw [4, 5] (fun v i wr => ∃ (k : Nat) (ps : List PinD), k ≤ n ∧ i = .int .i64 k ∧ LSt w v ps (rs.drop k) T wr) (fun _ i _ => n - (intOf i).toNat)
  case atStart => exact ⟨0, _, Nat.zero_le _, rfl, by rw [List.drop_zero]; exact HS.out⟩
  case round =>
    obtain ⟨k, ps, hk, rfl, hT⟩ := hrel
    clear HS
    obtain ⟨a1, n1, c1, hv⟩ : ∃ a n c, u4 = .slice a n c := by obtain ⟨a, c, e, -⟩ := Own.form hT.O; exact ⟨_, _, _, e⟩
    subst hv
    by_cases hlt : k < n
    · obtain ⟨b, off, ha, hb, hc⟩ := (HG.out wr hT.B).cells (by omega)
      obtain ⟨a', n', c', hcell, hrow⟩ := hc k hlt
      have hl2 : k < rs.length := by rw [HL.out]; exact hlt
      have hleft := hT.left
      rw [openG_drop hl2] at hleft
      have R9 := l9Read_any a' n' c' B (rs[k]?.getD []) wr hrow (Nat.le_trans hB hT.B.size) (by rw [← hrow.length]; exact H40.out k hl2)
      unfold PinRead9 at R9
      clear hc hrow
      subst ha
      generalize rs[k]?.getD [] = zs at *
      cases hrec : recOk zs
      · rw [openG_no hrec] at hleft
        subst hleft
        rw [hrec] at R9
        have HT := Lib.hid hT
        clear hT hrec HG H40
        go_wp2_with fail
        refine R9.mono ?_
        rintro r u2 ⟨p, rfl, -, b2⟩
        have B3 := btr HT.out.B (btr b2 (bal (Below.refl _ u2) (.cells #[.string p.n, .int .i64 p.a, .int .i64 p.b, .int .i64 p.e, .int .i64 p.u] 31)))
        clear b2 HT hcell R9
        go_wp2_with fail
        exact bodyPost_ret (v := .tuple #[.slice none 0 0, .int .i64 5]) (by simp [results, Tryz.results95, go_sem]) rfl ⟨none, 0, 0, rfl, OwnP.nil _ _, B3⟩
      · obtain ⟨hpf, _, _, _⟩ := recOk_pin hrec
        rw [hrec] at R9
        have HNM := Lib.hid (right_names hT.ok)
        have h4 := (pinsF_zero hT.ok).1
        have hn1 : n1 = ps.length := (OwnP.row' hT.O HNM.out).2
        have PP := Lib.hid (fun (w' : World) (h : PRow w' w'.heap.size a1 n1 c1 ps) => l7Put_any a1 n1 c1 w'.heap.size ps (pinZ (body zs)) w' h (Nat.le_refl _) (by omega))
        clear h4 hn1
        by_cases hput : put0 ps (pinZ (body zs)) = 0
        · rw [openG_put hrec hput] at hleft
          have hok2 := put_right hT.ok hpf hput
          unfold Put0 at PP
          rw [show put1 ps (pinZ (body zs)) = putL ps (pinZ (body zs)) by unfold put1; rw [if_pos hput], hput] at PP
          have HLF := Lib.hid hleft
          have HOK := Lib.hid hok2
          generalize putL ps (pinZ (body zs)) = qs at *
          generalize pinZ (body zs) = pz at *
          have HT := Lib.hid hT
          clear hT hleft hok2 hput hrec
          go_wp2_with fail
          refine R9.mono ?_
          rintro r u2 ⟨p, rfl, hp, b2⟩
          obtain rfl := hp trivial
          have b3 := btr b2 (bal (Below.refl _ u2) (.cells #[.string p.n, .int .i64 p.a, .int .i64 p.b, .int .i64 p.e, .int .i64 p.u] 31))
          have P3 : At u2.heap.size p.vals (u2.alloc (.cells #[.string p.n, .int .i64 p.a, .int .i64 p.b, .int .i64 p.e, .int .i64 p.u] 31)) := At.new u2 p.vals 31
          have p0 := P3.cell 0 _ rfl
          have p1 := P3.cell 1 _ rfl
          have p2 := P3.cell 2 _ rfl
          have p3 := P3.cell 3 _ rfl
          have p4 := P3.cell 4 _ rfl
          have PR := Lib.hid (OwnP.row (HT.out.O.below b3) HNM.out)
          have HB3 := Lib.hid (btr HT.out.B b3)
          clear P3 b3 b2 hcell R9 HT hp
          go_wp2_with fail
          refine (PP.out _ PR.out).mono ?_
          rintro r u4' ⟨a4, n4, c4, rfl, O4, b4⟩
          have S5 := Lib.hid (LSt.mk (OwnP.less O4 HB3.out.size) (btr HB3.out b4) HOK.out HLF.out)
          clear O4 b4 PP PR p0 p1 p2 p3 p4
          go_wp2_with fail
          go_roundw
          case rel => exact ⟨k + 1, _, by omega, by go_num, S5.out⟩
          case measure => simp [intOf]; omega
        · rw [openG_bad hrec hput] at hleft
          subst hleft
          unfold Put0 at PP
          generalize put0 ps (pinZ (body zs)) = cd at *
          generalize put1 ps (pinZ (body zs)) = qs at *
          generalize pinZ (body zs) = pz at *
          have hcd : (cd != 0) = true := by simpa using hput
          have hcd2 : decide (cd = 0) = false := by simpa using hput
          have HT := Lib.hid hT
          clear hT hrec
          go_wp2_with fail
          refine R9.mono ?_
          rintro r u2 ⟨p, rfl, hp, b2⟩
          obtain rfl := hp trivial
          have b3 := btr b2 (bal (Below.refl _ u2) (.cells #[.string p.n, .int .i64 p.a, .int .i64 p.b, .int .i64 p.e, .int .i64 p.u] 31))
          have P3 : At u2.heap.size p.vals (u2.alloc (.cells #[.string p.n, .int .i64 p.a, .int .i64 p.b, .int .i64 p.e, .int .i64 p.u] 31)) := At.new u2 p.vals 31
          have p0 := P3.cell 0 _ rfl
          have p1 := P3.cell 1 _ rfl
          have p2 := P3.cell 2 _ rfl
          have p3 := P3.cell 3 _ rfl
          have p4 := P3.cell 4 _ rfl
          have PR := Lib.hid (OwnP.row (HT.out.O.below b3) HNM.out)
          have HB3 := Lib.hid (btr HT.out.B b3)
          clear P3 b3 b2 hcell R9 HT hp
          go_wp2_with fail
          refine (PP.out _ PR.out).mono ?_
          rintro r u4' ⟨a4, n4, c4, rfl, O4, b4⟩
          have B5 := Lib.hid (btr HB3.out b4)
          clear O4 b4 PP PR p0 p1 p2 p3 p4
          go_wp2_with fail
          exact bodyPost_ret (v := .tuple #[.slice none 0 0, .int .i64 cd]) (by simp [results, Tryz.results95, go_sem]) rfl ⟨none, 0, 0, rfl, OwnP.nil _ _, B5.out⟩
    · obtain rfl : k = n := by omega
      have hleft := hT.left
      rw [List.drop_of_length_le (by rw [HL.out]; omega), openG_nil] at hleft
      subst hleft
      have HT := Lib.hid (And.intro hT.O hT.B)
      clear hT HG H40
      go_wp2_with fail
      exact bodyPost_ret (v := .tuple #[.slice a1 n1 c1, .int .i64 0]) (by simp [results, Tryz.results95, go_sem]) rfl ⟨_, _, _, rfl, HT.out.1, HT.out.2⟩
end Go.Proofs.YtcolecidbalmhaaGreatDoor
namespace Go.Proofs.YtcolecidbalmhaaGreatDoor
open Go.RowKit
set_option maxRecDepth 100000
set_option linter.unusedVariables false

/-- A disk that is read, a result and a disk that is made, each in a block of its own. -/
structure CSt (W : World) (j r d : Nat) (J : List Value) (v : Value) (s : Int) (zss : List (List Int)) (xs : List Value) (wr : World) : Prop where
  P : At j J wr
  R : At r [.slice none 0 0, .int .i64 0] wr
  D : At d [v, .int .i64 s] wr
  G : OwnG wr W.heap.size wr.heap.size v zss xs
  B : Below W.heap.size W wr
  off : ∀ k, v.ownBlock = some k → k ≠ j ∧ k ≠ r ∧ k ≠ d
  offx : ∀ (i : Nat) (u : Value) (k : Nat), xs[i]? = some u → u.ownBlock = some k → k ≠ r ∧ k ≠ d
  le : W.heap.size ≤ d
section
variable {W wr w1 w2 : World} {j r d : Nat} {J : List Value} {v : Value} {s : Int} {zss : List (List Int)} {xs : List Value}
theorem CSt.on (h : CSt W j r d J v s zss xs wr) (hb : Below wr.heap.size wr w1) : CSt W j r d J v s zss xs w1 :=
  ⟨h.P.on hb, h.R.on hb, h.D.on hb, (h.G.below hb).more hb.size (Nat.le_refl _), btr h.B hb, h.off, h.offx, h.le⟩
/-- One more record was appended, and the slice stored. -/
theorem CSt.app (h : CSt W j r d J v s zss xs wr) {v' u : Value} {zs : List Int} (hb : Below wr.heap.size wr w1) (hu : OwnK .u8 w1 wr.heap.size u zs)
    (ho : Own w2 W.heap.size 1 v' (zss.length + 1) (xs ++ [u])) (hg : w1.grownBy w2 v.ownBlock) (hat : v'.ownBlock = v.ownBlock ∨ v'.ownBlock = some w1.heap.size)
    (hd : d ≠ j) (hr : d ≠ r) (hJl : 0 < J.length) : CSt W j r d J v' s (zss ++ [zs]) (xs ++ [u]) (w2.setCell ⟨d, 0, none⟩ v') := by
  have T := h.on hb
  have hB := h.B.size
  have hsz := hb.size
  have hJ : At j J w2 := T.P.kept hg (fun e => (h.off j e.symm).1 rfl)
  have hR := T.R.kept hg (fun e => (h.off r e.symm).2.1 rfl)
  have hD := T.D.kept hg (fun e => (h.off d e.symm).2.2 rfl)
  have lts : j < w1.heap.size ∧ r < w1.heap.size ∧ d < w1.heap.size := ⟨T.P.lt hJl, T.R.lt (by simp), T.D.lt (by simp)⟩
  have G2 := OwnG.app h.G hB hb hu ho hg hat
  have off2 : ∀ k, v'.ownBlock = some k → k ≠ j ∧ k ≠ r ∧ k ≠ d := fun k e => by
    rcases hat with ha | ha
    · rw [ha] at e; exact h.off k e
    · rw [ha] at e; injection e with e; omega
  have ltd := h.D.lt (by simp)
  have ltr := h.R.lt (by simp)
  have off3 : ∀ (i : Nat) (x : Value) (k : Nat), (xs ++ [u])[i]? = some x → x.ownBlock = some k → k ≠ r ∧ k ≠ d := fun i x k hx e => by
    rcases Nat.lt_or_ge i xs.length with hi | hi
    · rw [List.getElem?_append_left hi] at hx
      exact h.offx i x k hx e
    · rw [List.getElem?_append_right hi] at hx
      have h0 := (List.getElem?_eq_some_iff.1 hx).1
      simp at h0
      rw [h0] at hx
      simp at hx
      subst hx
      have := (Own.lt hu k e).1
      omega
  have hB2 : Below W.heap.size W w2 := T.B.grown hg (Nat.le_trans hB hsz) fun k e => (h.G.own.lt k e).1
  refine ⟨hJ.setB (Ne.symm hd) _, hR.setB (Ne.symm hr) _, by simpa using hD.set 0 v', ?_, bset hB2 h.le _, off2, off3, h.le⟩
  have hk : ∀ k, k ≠ d → (w2.setCell ⟨d, 0, none⟩ v').heap[k]? = w2.heap[k]? := fun k hk => Below.heap_setCell w2 ⟨d, 0, none⟩ v' k hk
  have G3 := G2.keepP (w' := w2.setCell ⟨d, 0, none⟩ v') (by simp [World.setCell]) (fun k e => hk k (off2 k e).2.2) (fun i x k hx e => hk k (off3 i x k hx e).2)
  rw [show (w2.setCell ⟨d, 0, none⟩ v').heap.size = w2.heap.size by simp [World.setCell]]
  exact G3
end
theorem CSt.new {W x : World} {j r d : Nat} {J : List Value} {v v0 : Value} {s s0 : Int} (hJ : At j J x) (hR : At r [.slice none 0 0, .int .i64 0] x) (hD : At d [v0, .int .i64 s0] x) (hO : Own x W.heap.size 1 v 0 []) (hB : Below W.heap.size W x)
    (off : ∀ k, v.ownBlock = some k → k ≠ j ∧ k ≠ r ∧ k ≠ d) (hj : d ≠ j) (hr : d ≠ r) (le : W.heap.size ≤ d) : CSt W j r d J v s [] [] ((x.setCell ⟨d, 0, none⟩ v).setCell ⟨d, 1, none⟩ (.int .i64 s)) := by
  have hO2 := (hO.setCell (p := ⟨d, 0, none⟩) (fun k e => (off k e).2.2) v).setCell (p := ⟨d, 1, none⟩) (fun k e => (off k e).2.2) (.int .i64 s)
  exact ⟨(hJ.setB (Ne.symm hj) _).setB (Ne.symm hj) _, (hR.setB (Ne.symm hr) _).setB (Ne.symm hr) _, by simpa using (hD.set 0 v).set 1 (.int .i64 s), OwnG.fresh hO2, bset (bset hB le _) le _, off, fun i u k hu => by simp at hu, le⟩
theorem size_le40 {rs : List (List Int)} (h : rs.any longR = false) {k : Nat} (hk : k < rs.length) {n : Nat} (hn : (rs[k]?.getD []).length = n) : n ≤ 40 := by rw [← hn]; exact long_no h hk
set_option maxHeartbeats 2000000 in
theorem l9CopyDisk_any (a : Option Addr) (n c B : Nat) (rs : List (List Int)) (s : Int) (w : World) (hG : Grid w B a n c rs) (hB : B ≤ w.heap.size) (hn12 : rs.length ≤ 12) (hl : rs.any longR = false) :
    Calls Tryz.prog 96 #[.agg #[.slice a n c, .int .i64 s]] w (DiskRes rs s w) := by
  obtain ⟨i0, hi0, hz0, hz1, hz2⟩ := info_parts slices_info
  have HL := Lib.hid hG.length
  have hlen := hG.fits
  have hmost := hG.most
  unfold maxLen at hmost
  have b0 := bal (bal (bal (Below.refl _ w) (.cells #[.slice a n c, .int .i64 s] 27)) (.cells #[.slice none 0 0, .int .i64 0] 27)) (.cells #[.slice none 0 0, .int .i64 s] 27)
  have P0 : At w.heap.size [.slice a n c, .int .i64 s] (((w.alloc (.cells #[.slice a n c, .int .i64 s] 27)).alloc (.cells #[.slice none 0 0, .int .i64 0] 27)).alloc (.cells #[.slice none 0 0, .int .i64 s] 27)) := ((At.new w [.slice a n c, .int .i64 s] 27).alloc _).alloc _
  have R0 := (At.new (w.alloc (.cells #[.slice a n c, .int .i64 s] 27)) [.slice none 0 0, .int .i64 0] 27).alloc (.cells #[.slice none 0 0, .int .i64 s] 27)
  have D0 := At.new ((w.alloc (.cells #[.slice a n c, .int .i64 s] 27)).alloc (.cells #[.slice none 0 0, .int .i64 0] 27)) [.slice none 0 0, .int .i64 s] 27
  have S0 : CSt w w.heap.size (w.heap.size + 1) (w.heap.size + 1 + 1) [.slice a n c, .int .i64 s] (.slice none 0 0) s [] [] (((w.alloc (.cells #[.slice a n c, .int .i64 s] 27)).alloc (.cells #[.slice none 0 0, .int .i64 0] 27)).alloc (.cells #[.slice none 0 0, .int .i64 s] 27)) :=
    ⟨P0, by simpa using R0, by simpa using D0, OwnG.fresh (Own.nil _ _ _), b0, fun g e => by simp [Value.ownBlock] at e, fun i u g hu => by simp at hu, by omega⟩
  have d0 := S0.P.cell 0 _ rfl
  have HS := Lib.hid S0
  have HG := Lib.hid (fun (w' : World) (h : Below w.heap.size w w') => hG.below (h.mono hB))
  have HN := Lib.hid hn12
  have HLL := Lib.hid hl
  have hd1 : w.heap.size + 1 + 1 ≠ w.heap.size := by omega
  have hd2 : w.heap.size + 1 + 1 ≠ w.heap.size + 1 := by omega
  have hd0 : w.heap.size ≤ w.heap.size + 1 + 1 := by omega
  clear b0 P0 R0 D0 S0 hG hn12 hl
  go_enter Tryz.func96, Tryz.ntmps96
  go_upto_region 3 with fail
  generalize ((w.alloc (.cells #[.slice a n c, .int .i64 s] 27)).alloc (.cells #[.slice none 0 0, .int .i64 0] 27)).alloc (.cells #[.slice none 0 0, .int .i64 s] 27) = W0 at *
  generalize w.heap.size + 1 + 1 = d at *
  go_loopw [4] (fun i wr => ∃ (k : Nat) (v : Value) (xs : List Value), k ≤ n ∧ i = .int .i64 k ∧ CSt w w.heap.size (w.heap.size + 1) d [.slice a n c, .int .i64 s] v s (rs.take k) xs wr) (fun i _ => n - (intOf i).toNat)
  case atStart => exact ⟨0, _, _, Nat.zero_le _, rfl, by rw [List.take_zero]; exact HS.out⟩
  case round =>
    obtain ⟨k, v, xs, hk, rfl, hT⟩ := hrel
    clear HS d0
    have d0 := hT.P.cell 0 _ rfl
    by_cases hlt : k < n
    · obtain ⟨b, off, ha, hb, hc⟩ := (HG.out w (Below.refl _ _)).cells (by omega)
      obtain ⟨a', n', c', hcell, hrow⟩ := hc k hlt
      have hl2 : k < rs.length := by rw [HL.out]; exact hlt
      have hn40 : n' ≤ 40 := size_le40 HLL.out hl2 hrow.length
      have HRW := Lib.hid (fun (w' : World) (h : Below w.heap.size w w') => hrow.below (h.mono hB))
      have HTK := Lib.hid (M.take_snoc rs [] k hl2)
      have HLK := Lib.hid (show (rs.take k).length = k by simp; omega)
      have hk12 : k < 12 := by have := HN.out; omega
      generalize rs[k]?.getD [] = zs at *
      have H0 := Lib.hid (show Hold w w.heap.size [.slice a n c, .int .i64 s] wr.drew from ⟨hT.B.drew, hT.P.on (bdrew wr)⟩)
      have HT1 := Lib.hid (hT.on (bdrew wr))
      subst ha
      have hcw := fun z : Of (Hold w w.heap.size [.slice (some ⟨b, off, none⟩) n c, .int .i64 s]) => cell_keep z.prop.bel hcell
      clear hc hrow hT hl2
      go_wp2_with fail
      refine wp_region_fork (Hold w w.heap.size [.slice (some ⟨b, off, none⟩) n c, .int .i64 s]) (by kernel_rfl) (H0.out) ?_
      have hst : (Hold w w.heap.size [.slice (some ⟨b, off, none⟩) n c, .int .i64 s]) _ := (H0.out)
      have inst : Nonempty (Of (Hold w w.heap.size [.slice (some ⟨b, off, none⟩) n c, .int .i64 s])) := ⟨⟨_, hst⟩⟩
      have u0 := hold_cell (W := w) (g := w.heap.size) (cs := [.slice (some ⟨b, off, none⟩) n c, .int .i64 s]) 0 _ rfl
      clear H0
      generalize wr.drew = V1 at *
      refine any_seg 6 [(0, true), (2, true), (3, true), (4, true), (5, true), (6, true)] (by kernel_rfl) (fun _ _ d _ _ h => by cases d <;> exact h) ?_
      iterate 6 (refine line_read rfl (by kernel_rfl) (fun K hK => ?_); go_big_quiet_op; refine hK _ ?_; clear hK K)
      refine line_nil ?_
      clear u0 hcw hcell d0
      refine any_fork 1 7 (by kernel_rfl) rfl rfl (by kernel_rfl) (by kernel_rfl) (fun K hK => ?_) (fun K hK => ?_)
      · have e1 := (HT1.out).D.cell 0 _ rfl
        go_big_op
        refine hK _ _ hst ?_
        clear hK K e1
        refine any_rest [(7, false), (8, false), (9, false), (10, true), (11, false)] (by kernel_rfl) (fun _ _ d _ _ h => by cases d <;> exact h) ?_
        refine line_alone rfl (by kernel_rfl) (fun K hK => ?_)
        refine call_any (args := #[.slice a' n' c']) rfl (by kernel_rfl) (by kernel_rfl) (l1Copy_any _ _ _ B zs _ (HRW.out _ hst.bel) (Nat.le_trans hB hst.bel.size) (by omega)) ?_
        rintro e x6 ⟨a6, n6, c6, rfl, O6, b6⟩
        have hst2 := hst.on b6
        refine ⟨_, rfl, hK _ _ hst2 ?_⟩
        clear hK K hst
        have hst := hst2
        clear hst2
        simp only [Act.put, List.setIfInBounds_toArray, List.set_cons_zero, List.set_cons_succ]
        refine line_alone rfl (by kernel_rfl) (fun K hK => ?_)
        go_big_op
        have SR := Lib.hid (src_new (P := Tryz.prog) x6 [.slice a6 n6 c6] 1 1 22 25 22 Tryz.underlying25 rfl (by intro u hu; simp at hu; subst hu; rfl))
        have b7 := btr b6 (bal (Below.refl _ x6) (.cells #[.slice a6 n6 c6] 22))
        have O7 := Lib.hid (O6.alloc (.cells #[.slice a6 n6 c6] 22))
        have hst2 := hst.on (bal (Below.refl _ x6) (.cells #[.slice a6 n6 c6] 22))
        refine hK _ _ hst2 ?_
        clear hK K hst O6 b6
        have hst := hst2
        clear hst2
        have hc7 : (x6.alloc (.cells [Value.slice a6 n6 c6].toArray 22)) = x6.alloc (.cells #[.slice a6 n6 c6] 22) := rfl
        rw [hc7] at SR
        clear hc7
        generalize x6.alloc (.cells #[.slice a6 n6 c6] 22) = x7 at *
        generalize x6.heap.size = lit at *
        refine line_alone rfl (by kernel_rfl) (fun K hK => ?_)
        have HT7 := Lib.hid (HT1.out.on b7)
        refine wp_append_src _ (.tmp 16) (.tmp 23) 25 25 rfl w.heap.size 22 i0 (.slice none 0 0) 1 24 Tryz.underlying25 hi0 hz0 hz1 hz2 rfl v k xs rfl (by have := HT7.out.G.own; rwa [HLK.out] at this) _ 1 [.slice a6 n6 c6] rfl SR.out (by simp only [maxLen]; omega) (by omega) HT7.out.B.size (fun v8 w8 hown hgrow hat => ?_)
        obtain ⟨a8, c8, hv8, -⟩ := Own.form hown
        subst hv8
        have T8 := Lib.hid (HT1.out.app b7 O7.out (by rw [HLK.out]; exact hown) hgrow hat hd1 hd2 (by simp))
        have D8 := HT7.out.D.kept hgrow (fun e => (HT7.out.off d e.symm).2.2 rfl)
        have P8 := HT7.out.P.kept hgrow (fun e => (HT7.out.off w.heap.size e.symm).1 rfl)
        have B8 : Below w.heap.size w w8 := HT7.out.B.grown hgrow HT7.out.B.size fun k e => (HT7.out.G.own.lt k e).1
        have hst2 : Hold w w.heap.size [.slice (some ⟨b, off, none⟩) n c, .int .i64 s] w8 := ⟨B8, P8⟩
        refine hK _ _ hst2 ?_
        clear hK K hst hown hgrow hat O7 SR HT7 b7 B8 P8
        have hst := hst2
        clear hst2
        simp only [Act.put, List.setIfInBounds_toArray, List.set_cons_zero, List.set_cons_succ]
        have p0 := D8.cell 0 _ rfl
        have p1 := D8.cell 1 _ rfl
        have f0 := D8.free 0 _ rfl
        have f1 := D8.free 1 _ rfl
        iterate 1 (refine line_read rfl (by kernel_rfl) (fun K hK => ?_); go_big_quiet_op; refine hK _ ?_; clear hK K)
        refine line_alone rfl (by kernel_rfl) (fun K hK => ?_)
        go_big_op
        refine hK _ _ (hst.setB (p := ⟨d, 0, none⟩) hd0 (Ne.symm hd1) _) ?_
        clear hK K
        refine line_nil ?_
        clear p0 p1 f0 f1 D8
        go_wp2_with fail
        go_roundw
        case rel => exact ⟨k + 1, _, _, by omega, by go_num, by rw [HTK.out]; exact T8.out⟩
        case measure => simp [intOf]; omega
      · refine call_any (args := #[.slice a' n' c']) rfl (by kernel_rfl) (by kernel_rfl) (l1Copy_any _ _ _ B zs _ (HRW.out _ hst.bel) (Nat.le_trans hB hst.bel.size) (by omega)) ?_
        rintro e x6 ⟨a6, n6, c6, rfl, O6, b6⟩
        have hst2 := hst.on b6
        refine ⟨_, rfl, hK _ _ hst2 ?_⟩
        clear hK K hst
        have hst := hst2
        clear hst2
        simp only [Act.put, List.setIfInBounds_toArray, List.set_cons_zero, List.set_cons_succ]
        refine any_fork 1 8 (by kernel_rfl) rfl rfl (by kernel_rfl) (by kernel_rfl) (fun K hK => ?_) (fun K hK => ?_)
        · have e1 := (HT1.out.on b6).D.cell 0 _ rfl
          go_big_op
          refine hK _ _ hst ?_
          clear hK K e1
          refine any_rest [(8, false), (9, false), (10, true), (11, false)] (by kernel_rfl) (fun _ _ d _ _ h => by cases d <;> exact h) ?_
          refine line_alone rfl (by kernel_rfl) (fun K hK => ?_)
          go_big_op
          have SR := Lib.hid (src_new (P := Tryz.prog) x6 [.slice a6 n6 c6] 1 1 22 25 22 Tryz.underlying25 rfl (by intro u hu; simp at hu; subst hu; rfl))
          have b7 := btr b6 (bal (Below.refl _ x6) (.cells #[.slice a6 n6 c6] 22))
          have O7 := Lib.hid (O6.alloc (.cells #[.slice a6 n6 c6] 22))
          have hst2 := hst.on (bal (Below.refl _ x6) (.cells #[.slice a6 n6 c6] 22))
          refine hK _ _ hst2 ?_
          clear hK K hst O6 b6
          have hst := hst2
          clear hst2
          have hc7 : (x6.alloc (.cells [Value.slice a6 n6 c6].toArray 22)) = x6.alloc (.cells #[.slice a6 n6 c6] 22) := rfl
          rw [hc7] at SR
          clear hc7
          generalize x6.alloc (.cells #[.slice a6 n6 c6] 22) = x7 at *
          generalize x6.heap.size = lit at *
          refine line_alone rfl (by kernel_rfl) (fun K hK => ?_)
          have HT7 := Lib.hid (HT1.out.on b7)
          refine wp_append_src _ (.tmp 16) (.tmp 23) 25 25 rfl w.heap.size 22 i0 (.slice none 0 0) 1 24 Tryz.underlying25 hi0 hz0 hz1 hz2 rfl v k xs rfl (by have := HT7.out.G.own; rwa [HLK.out] at this) _ 1 [.slice a6 n6 c6] rfl SR.out (by simp only [maxLen]; omega) (by omega) HT7.out.B.size (fun v8 w8 hown hgrow hat => ?_)
          obtain ⟨a8, c8, hv8, -⟩ := Own.form hown
          subst hv8
          have T8 := Lib.hid (HT1.out.app b7 O7.out (by rw [HLK.out]; exact hown) hgrow hat hd1 hd2 (by simp))
          have D8 := HT7.out.D.kept hgrow (fun e => (HT7.out.off d e.symm).2.2 rfl)
          have P8 := HT7.out.P.kept hgrow (fun e => (HT7.out.off w.heap.size e.symm).1 rfl)
          have B8 : Below w.heap.size w w8 := HT7.out.B.grown hgrow HT7.out.B.size fun k e => (HT7.out.G.own.lt k e).1
          have hst2 : Hold w w.heap.size [.slice (some ⟨b, off, none⟩) n c, .int .i64 s] w8 := ⟨B8, P8⟩
          refine hK _ _ hst2 ?_
          clear hK K hst hown hgrow hat O7 SR HT7 b7 B8 P8
          have hst := hst2
          clear hst2
          simp only [Act.put, List.setIfInBounds_toArray, List.set_cons_zero, List.set_cons_succ]
          have p0 := D8.cell 0 _ rfl
          have p1 := D8.cell 1 _ rfl
          have f0 := D8.free 0 _ rfl
          have f1 := D8.free 1 _ rfl
          iterate 1 (refine line_read rfl (by kernel_rfl) (fun K hK => ?_); go_big_quiet_op; refine hK _ ?_; clear hK K)
          refine line_alone rfl (by kernel_rfl) (fun K hK => ?_)
          go_big_op
          refine hK _ _ (hst.setB (p := ⟨d, 0, none⟩) hd0 (Ne.symm hd1) _) ?_
          clear hK K
          refine line_nil ?_
          clear p0 p1 f0 f1 D8
          go_wp2_with fail
          go_roundw
          case rel => exact ⟨k + 1, _, _, by omega, by go_num, by rw [HTK.out]; exact T8.out⟩
          case measure => simp [intOf]; omega
        · go_big_op
          have SR := Lib.hid (src_new (P := Tryz.prog) x6 [.slice a6 n6 c6] 1 1 22 25 22 Tryz.underlying25 rfl (by intro u hu; simp at hu; subst hu; rfl))
          have b7 := btr b6 (bal (Below.refl _ x6) (.cells #[.slice a6 n6 c6] 22))
          have O7 := Lib.hid (O6.alloc (.cells #[.slice a6 n6 c6] 22))
          have hst2 := hst.on (bal (Below.refl _ x6) (.cells #[.slice a6 n6 c6] 22))
          refine hK _ _ hst2 ?_
          clear hK K hst O6 b6
          have hst := hst2
          clear hst2
          have hc7 : (x6.alloc (.cells [Value.slice a6 n6 c6].toArray 22)) = x6.alloc (.cells #[.slice a6 n6 c6] 22) := rfl
          rw [hc7] at SR
          clear hc7
          generalize x6.alloc (.cells #[.slice a6 n6 c6] 22) = x7 at *
          generalize x6.heap.size = lit at *
          refine any_rest [(1, false), (9, false), (10, true), (11, false)] (by kernel_rfl) (fun _ _ d _ _ h => by cases d <;> exact h) ?_
          refine line_alone rfl (by kernel_rfl) (fun K hK => ?_)
          have e1 := (HT1.out.on b7).D.cell 0 _ rfl
          go_big_op
          refine hK _ _ hst ?_
          clear hK K e1
          refine line_alone rfl (by kernel_rfl) (fun K hK => ?_)
          have HT7 := Lib.hid (HT1.out.on b7)
          refine wp_append_src _ (.tmp 16) (.tmp 23) 25 25 rfl w.heap.size 22 i0 (.slice none 0 0) 1 24 Tryz.underlying25 hi0 hz0 hz1 hz2 rfl v k xs rfl (by have := HT7.out.G.own; rwa [HLK.out] at this) _ 1 [.slice a6 n6 c6] rfl SR.out (by simp only [maxLen]; omega) (by omega) HT7.out.B.size (fun v8 w8 hown hgrow hat => ?_)
          obtain ⟨a8, c8, hv8, -⟩ := Own.form hown
          subst hv8
          have T8 := Lib.hid (HT1.out.app b7 O7.out (by rw [HLK.out]; exact hown) hgrow hat hd1 hd2 (by simp))
          have D8 := HT7.out.D.kept hgrow (fun e => (HT7.out.off d e.symm).2.2 rfl)
          have P8 := HT7.out.P.kept hgrow (fun e => (HT7.out.off w.heap.size e.symm).1 rfl)
          have B8 : Below w.heap.size w w8 := HT7.out.B.grown hgrow HT7.out.B.size fun k e => (HT7.out.G.own.lt k e).1
          have hst2 : Hold w w.heap.size [.slice (some ⟨b, off, none⟩) n c, .int .i64 s] w8 := ⟨B8, P8⟩
          refine hK _ _ hst2 ?_
          clear hK K hst hown hgrow hat O7 SR HT7 b7 B8 P8
          have hst := hst2
          clear hst2
          simp only [Act.put, List.setIfInBounds_toArray, List.set_cons_zero, List.set_cons_succ]
          have p0 := D8.cell 0 _ rfl
          have p1 := D8.cell 1 _ rfl
          have f0 := D8.free 0 _ rfl
          have f1 := D8.free 1 _ rfl
          iterate 1 (refine line_read rfl (by kernel_rfl) (fun K hK => ?_); go_big_quiet_op; refine hK _ ?_; clear hK K)
          refine line_alone rfl (by kernel_rfl) (fun K hK => ?_)
          go_big_op
          refine hK _ _ (hst.setB (p := ⟨d, 0, none⟩) hd0 (Ne.symm hd1) _) ?_
          clear hK K
          refine line_nil ?_
          clear p0 p1 f0 f1 D8
          go_wp2_with fail
          go_roundw
          case rel => exact ⟨k + 1, _, _, by omega, by go_num, by rw [HTK.out]; exact T8.out⟩
          case measure => simp [intOf]; omega
    · obtain rfl : k = n := by omega
      rw [List.take_of_length_le (by rw [HL.out]; omega)] at hT
      obtain ⟨a1, c1, hv, -⟩ := hT.G.form
      rw [HL.out] at hv
      subst hv
      have HF := Lib.hid hT
      have R1 := hT.R
      have D1 := hT.D
      clear hT HG
      have p0 := D1.cell 0 _ rfl
      have p1 := D1.cell 1 _ rfl
      have q0 := R1.cell 0 _ rfl
      have q1 := R1.cell 1 _ rfl
      have f0 := R1.free 0 _ rfl
      have f1 := R1.free 1 _ rfl
      clear D1 R1
      have G1 := HF.out.G.keepP (w' := (wr.setCell ⟨w.heap.size + 1, 0, none⟩ (.slice a1 k c1)).setCell ⟨w.heap.size + 1, 1, none⟩ (.int .i64 s)) (by simp [World.setCell])
        (fun g e => by
          have hg : g ≠ w.heap.size + 1 := (HF.out.off g e).2.1
          rw [Below.heap_setCell _ _ _ g hg, Below.heap_setCell _ _ _ g hg])
        (fun i x g hx e => by
          have hg : g ≠ w.heap.size + 1 := (HF.out.offx i x g hx e).1
          rw [Below.heap_setCell _ _ _ g hg, Below.heap_setCell _ _ _ g hg])
      have G2 := G1.more (hi' := ((wr.setCell ⟨w.heap.size + 1, 0, none⟩ (.slice a1 k c1)).setCell ⟨w.heap.size + 1, 1, none⟩ (.int .i64 s)).heap.size) G1.top (Nat.le_refl _)
      have B2 : Below w.heap.size w ((wr.setCell ⟨w.heap.size + 1, 0, none⟩ (.slice a1 k c1)).setCell ⟨w.heap.size + 1, 1, none⟩ (.int .i64 s)) := (by (iterate 2 (refine bset ?_ (by dsimp only; omega) _)); exact HF.out.B)
      have GB := Lib.hid (And.intro G2 B2)
      clear G1 G2 B2 HF
      go_wp2_with fail
      exact bodyPost_ret (v := .agg #[.slice a1 k c1, .int .i64 s]) (by simp [results, Tryz.results96, go_sem, q0, q1]) rfl ⟨a1, k, c1, xs, rfl, GB.out.1, GB.out.2⟩
theorem l9Bad_any (c : Int) (w : World) :
    Calls Tryz.prog 80 #[.int .i64 c] w fun r w' => r = .returned (V4 c none 0 0 none 0 0 0) ∧ Below w.heap.size w w' := by
  have b0 := bal (Below.refl _ w) (.cells #[.int .i64 c, .slice none 0 0, .slice none 0 0, .int .i64 0] 35)
  go_enter Tryz.func80, Tryz.ntmps80
  go_wp2_with fail
  refine bodyPost_ret (v := V4 c none 0 0 none 0 0 0) (by simp [results, Tryz.results80, go_sem, V4]) rfl ⟨rfl, b0⟩
theorem SOwn.res {w x : World} {lo r : Nat} {v1 v2 : Value} {s : StoreD} (h : SOwn x lo x.heap.size v1 v2 s) (hr : r < lo) (hw : w.heap.size ≤ lo) (u0 u1 u2 u3 : Value) :
    SOwn ((((x.setCell ⟨r, 0, none⟩ u0).setCell ⟨r, 1, none⟩ u1).setCell ⟨r, 2, none⟩ u2).setCell ⟨r, 3, none⟩ u3) w.heap.size ((((x.setCell ⟨r, 0, none⟩ u0).setCell ⟨r, 1, none⟩ u1).setCell ⟨r, 2, none⟩ u2).setCell ⟨r, 3, none⟩ u3).heap.size v1 v2 s := by
  have h4 := (((h.setCell (p := ⟨r, 0, none⟩) (.inl hr) u0).setCell (p := ⟨r, 1, none⟩) (.inl hr) u1).setCell (p := ⟨r, 2, none⟩) (.inl hr) u2).setCell (p := ⟨r, 3, none⟩) (.inl hr) u3
  exact (h4.less hw).more h4.top.2 (Nat.le_refl _)
end Go.Proofs.YtcolecidbalmhaaGreatDoor
namespace Go.Proofs.YtcolecidbalmhaaGreatDoor
open Go.RowKit
set_option maxRecDepth 100000
set_option linter.unusedVariables false

theorem storeF_new (s : StoreD) : storeF s = if openC s.d = 0 then (if sameL (openS s.d).ps s.ps then 0 else 8) else openC s.d := by
  by_cases h : openC s.d = 0
  · unfold storeF
    rw [if_pos h, if_pos h, openS_yes h]
  · unfold storeF
    rw [if_neg h, if_neg h]
set_option maxHeartbeats 1000000 in
theorem implStoreFault_any (a1 : Option Addr) (n1 c1 : Nat) (a2 : Option Addr) (n2 c2 B : Nat) (s : StoreD) (w : World) (hR : SRow w B a1 n1 c1 a2 n2 c2 s) (hB : B ≤ w.heap.size) :
    Calls Tryz.prog 18 #[S3 a1 n1 c1 a2 n2 c2 s.d.s] w fun r w' => r = .returned (.int .i64 (storeF s)) ∧ Below w.heap.size w w' := by
  have b0 := bal (Below.refl _ w) (.cells #[.slice a1 n1 c1, .slice a2 n2 c2, .int .i64 s.d.s] 29)
  have A0 : At w.heap.size (S3L a1 n1 c1 a2 n2 c2 s.d.s) (w.alloc (.cells #[.slice a1 n1 c1, .slice a2 n2 c2, .int .i64 s.d.s] 29)) := At.new w (S3L a1 n1 c1 a2 n2 c2 s.d.s) 29
  have R0 := hR.below (b0.mono hB)
  have OD := implOpenDisk_any a2 n2 c2 B s.d.rs s.d.s _ R0.rs (Nat.le_trans hB b0.size) R0.wf
  have HP := Lib.hid (fun (w' : World) (h : Below w.heap.size w w') => hR.ps.below (h.mono hB))
  rw [storeF_new]
  have ed : (⟨s.d.rs, s.d.s⟩ : DiskD) = s.d := rfl
  rw [ed] at OD
  unfold StoreRes at OD
  clear hR R0 ed
  generalize openC s.d = c at *
  generalize openS s.d = t at *
  generalize s.d.s = x at *
  generalize s.ps = ps at *
  by_cases h : c = 0
  · subst h
    rw [if_pos rfl]
    have SP := Lib.hid (fun (w' : World) (h1 : PRow w' w'.heap.size a1 n1 c1 ps) (a3 : Option Addr) (n3 c3 : Nat) (h2 : PRow w' w'.heap.size a3 n3 c3 t.ps) => implSamePins_any a3 a1 n3 n1 c3 c1 w'.heap.size t.ps ps w' h2 h1 (Nat.le_refl _))
    cases hq : sameL t.ps ps
    · rw [hq] at SP
      clear hq
      go_enter Tryz.func18, Tryz.ntmps18
      have d0 := A0.cell 0 _ rfl
      have d1 := A0.cell 1 _ rfl
      have d2 := A0.cell 2 _ rfl
      go_wp2_with fail
      generalize w.alloc (.cells #[.slice a1 n1 c1, .slice a2 n2 c2, .int .i64 x] 29) = W0 at *
      refine OD.mono ?_
      rintro r u1 ⟨a3, n3, c3, a4, n4, c4, rfl, SO, b1⟩
      have T := At.new u1 [.int .i64 0, .slice a3 n3 c3, .slice a4 n4 c4, .int .i64 t.d.s] 35
      have b2 := btr b1 (bal (Below.refl _ u1) (.cells #[.int .i64 0, .slice a3 n3 c3, .slice a4 n4 c4, .int .i64 t.d.s] 35))
      have A2 := A0.on b2
      have B2 := btr b0 b2
      have SR := Lib.hid (SO.below (bal (Below.refl _ u1) (.cells #[.int .i64 0, .slice a3 n3 c3, .slice a4 n4 c4, .int .i64 t.d.s] 35))).row.ps
      clear d0 d1 d2 b1 b2 A0 b0 OD SO
      have hT2 : (u1.alloc (.cells [Value.int .i64 0, .slice a3 n3 c3, .slice a4 n4 c4, .int .i64 t.d.s].toArray 35)) = u1.alloc (.cells #[.int .i64 0, .slice a3 n3 c3, .slice a4 n4 c4, .int .i64 t.d.s] 35) := rfl
      rw [hT2] at T
      clear hT2
      have t0 := T.cell 0 _ rfl
      have t1 := T.cell 1 _ rfl
      have t2 := T.cell 2 _ rfl
      have t3 := T.cell 3 _ rfl
      have d0 := A2.cell 0 _ rfl
      have d1 := A2.cell 1 _ rfl
      have d2 := A2.cell 2 _ rfl
      clear T A2
      have PR := Lib.hid ((HP.out _ B2).more (Nat.le_trans hB B2.size))
      go_wp2_with fail
      generalize u1.alloc (.cells #[.int .i64 0, .slice a3 n3 c3, .slice a4 n4 c4, .int .i64 t.d.s] 35) = W2 at *
      refine (SP.out _ PR.out _ _ _ SR.out).mono ?_
      rintro r u3 ⟨rfl, b3⟩
      have B3 := btr B2 b3
      clear B2 b3 SP PR SR t0 t1 t2 t3 d0 d1 d2
      go_wp2_with fail
      go_ret
      exact ⟨rfl, B3⟩
    · rw [hq] at SP
      clear hq
      go_enter Tryz.func18, Tryz.ntmps18
      have d0 := A0.cell 0 _ rfl
      have d1 := A0.cell 1 _ rfl
      have d2 := A0.cell 2 _ rfl
      go_wp2_with fail
      generalize w.alloc (.cells #[.slice a1 n1 c1, .slice a2 n2 c2, .int .i64 x] 29) = W0 at *
      refine OD.mono ?_
      rintro r u1 ⟨a3, n3, c3, a4, n4, c4, rfl, SO, b1⟩
      have T := At.new u1 [.int .i64 0, .slice a3 n3 c3, .slice a4 n4 c4, .int .i64 t.d.s] 35
      have b2 := btr b1 (bal (Below.refl _ u1) (.cells #[.int .i64 0, .slice a3 n3 c3, .slice a4 n4 c4, .int .i64 t.d.s] 35))
      have A2 := A0.on b2
      have B2 := btr b0 b2
      have SR := Lib.hid (SO.below (bal (Below.refl _ u1) (.cells #[.int .i64 0, .slice a3 n3 c3, .slice a4 n4 c4, .int .i64 t.d.s] 35))).row.ps
      clear d0 d1 d2 b1 b2 A0 b0 OD SO
      have hT2 : (u1.alloc (.cells [Value.int .i64 0, .slice a3 n3 c3, .slice a4 n4 c4, .int .i64 t.d.s].toArray 35)) = u1.alloc (.cells #[.int .i64 0, .slice a3 n3 c3, .slice a4 n4 c4, .int .i64 t.d.s] 35) := rfl
      rw [hT2] at T
      clear hT2
      have t0 := T.cell 0 _ rfl
      have t1 := T.cell 1 _ rfl
      have t2 := T.cell 2 _ rfl
      have t3 := T.cell 3 _ rfl
      have d0 := A2.cell 0 _ rfl
      have d1 := A2.cell 1 _ rfl
      have d2 := A2.cell 2 _ rfl
      clear T A2
      have PR := Lib.hid ((HP.out _ B2).more (Nat.le_trans hB B2.size))
      go_wp2_with fail
      generalize u1.alloc (.cells #[.int .i64 0, .slice a3 n3 c3, .slice a4 n4 c4, .int .i64 t.d.s] 35) = W2 at *
      refine (SP.out _ PR.out _ _ _ SR.out).mono ?_
      rintro r u3 ⟨rfl, b3⟩
      have B3 := btr B2 b3
      clear B2 b3 SP PR SR t0 t1 t2 t3 d0 d1 d2
      go_wp2_with fail
      go_ret
      exact ⟨rfl, B3⟩
  · rw [if_neg h]
    have q9 : (c != 0) = true := by simpa using h
    have q8 : decide (c = 0) = false := by simpa using h
    go_enter Tryz.func18, Tryz.ntmps18
    have d0 := A0.cell 0 _ rfl
    have d1 := A0.cell 1 _ rfl
    have d2 := A0.cell 2 _ rfl
    go_wp2_with fail
    generalize w.alloc (.cells #[.slice a1 n1 c1, .slice a2 n2 c2, .int .i64 x] 29) = W0 at *
    refine OD.mono ?_
    rintro r u1 ⟨a3, n3, c3, a4, n4, c4, rfl, SO, b1⟩
    have T := At.new u1 [.int .i64 c, .slice a3 n3 c3, .slice a4 n4 c4, .int .i64 t.d.s] 35
    have b2 := btr b1 (bal (Below.refl _ u1) (.cells #[.int .i64 c, .slice a3 n3 c3, .slice a4 n4 c4, .int .i64 t.d.s] 35))
    have A2 := A0.on b2
    have B2 := btr b0 b2
    have SR := Lib.hid (SO.below (bal (Below.refl _ u1) (.cells #[.int .i64 c, .slice a3 n3 c3, .slice a4 n4 c4, .int .i64 t.d.s] 35))).row.ps
    clear d0 d1 d2 b1 b2 A0 b0 OD SO
    have hT2 : (u1.alloc (.cells [Value.int .i64 c, .slice a3 n3 c3, .slice a4 n4 c4, .int .i64 t.d.s].toArray 35)) = u1.alloc (.cells #[.int .i64 c, .slice a3 n3 c3, .slice a4 n4 c4, .int .i64 t.d.s] 35) := rfl
    rw [hT2] at T
    clear hT2
    have t0 := T.cell 0 _ rfl
    have t1 := T.cell 1 _ rfl
    have t2 := T.cell 2 _ rfl
    have t3 := T.cell 3 _ rfl
    have d0 := A2.cell 0 _ rfl
    have d1 := A2.cell 1 _ rfl
    have d2 := A2.cell 2 _ rfl
    clear T A2
    go_wp2_with fail
    go_ret
    exact ⟨rfl, B2⟩
/-- A store that a pointer points to. -/
structure SAt (w : World) (g : Nat) (B : Nat) (a1 : Option Addr) (n1 c1 : Nat) (a2 : Option Addr) (n2 c2 : Nat) (s : StoreD) : Prop where
  A : At g (S3L a1 n1 c1 a2 n2 c2 s.d.s) w
  R : SRow w B a1 n1 c1 a2 n2 c2 s
theorem SAt.on {w w' : World} {g B : Nat} {a1 a2 : Option Addr} {n1 c1 n2 c2 : Nat} {s : StoreD} (h : SAt w g B a1 n1 c1 a2 n2 c2 s) (hB : B ≤ w.heap.size) (hb : Below w.heap.size w w') : SAt w' g B a1 n1 c1 a2 n2 c2 s := ⟨h.A.on hb, h.R.below (hb.mono hB)⟩
set_option maxHeartbeats 1000000 in
theorem l9Fault_any (g : Nat) (a1 : Option Addr) (n1 c1 : Nat) (a2 : Option Addr) (n2 c2 B : Nat) (s : StoreD) (w : World) (hS : SAt w g B a1 n1 c1 a2 n2 c2 s) (hB : B ≤ w.heap.size) :
    Calls Tryz.prog 79 #[.pointer (some ⟨g, 0, none⟩)] w fun r w' => r = .returned (.int .i64 (storeF s)) ∧ Below w.heap.size w w' := by
  have F := l9Disk_any g a2 n2 c2 B s.d.rs s.d.s 1 w (hS.A.cell 1 _ rfl) (hS.A.cell 2 _ rfl) hS.R.rs hB
  have HA := Lib.hid hS.A
  have HP := Lib.hid (fun (w' : World) (h : Below w.heap.size w w') => hS.R.ps.below (h.mono hB))
  have HG := Lib.hid (fun (w' : World) (h : Below w.heap.size w w') => hS.R.rs.below (h.mono hB))
  have ed : (⟨s.d.rs, s.d.s⟩ : DiskD) = s.d := rfl
  rw [ed] at F
  have cg := hS.A.cell 0 _ rfl
  clear hS ed
  by_cases h0 : diskF s.d = 0
  case neg =>
    have e1 := openC_bad h0
    have e2 : storeF s = diskF s.d := by rw [storeF_bad (by rw [e1]; exact h0), e1]
    rw [e2]
    generalize diskF s.d = cd at *
    have q9 : (cd != 0) = true := by simpa using h0
    have q8 : decide (cd = 0) = false := by simpa using h0
    clear e1 e2
    go_enter Tryz.func79, Tryz.ntmps79
    go_wp2_with fail
    refine F.mono ?_
    rintro r u1 ⟨rfl, b1⟩
    have A1 := HA.out.on b1
    have d0 := A1.cell 0 _ rfl
    have d1 := A1.cell 1 _ rfl
    have d2 := A1.cell 2 _ rfl
    have HA1 := Lib.hid A1
    clear F A1 cg
    go_wp2_with fail
    go_ret
    exact ⟨rfl, b1⟩
  rw [h0] at F
  obtain ⟨h12, hlong, hs0, hs1⟩ := diskF_zero h0
  have PI := Lib.hid (fun (w' : World) (h : Below w.heap.size w w') => l9Pins_any a2 n2 c2 B s.d.rs w' (HG.out w' h) (Nat.le_trans hB h.size) hlong)
  unfold PinsTold at PI
  by_cases hc : (openG [] s.d.rs).1 = 0
  case neg =>
    have e1 := openC_ok h0
    have e2 : storeF s = (openG [] s.d.rs).1 := by rw [storeF_bad (by rw [e1]; exact hc), e1]
    rw [e2]
    generalize (openG [] s.d.rs).1 = cd at *
    generalize (openG [] s.d.rs).2 = qs at *
    have q9 : (cd != 0) = true := by simpa using hc
    have q8 : decide (cd = 0) = false := by simpa using hc
    clear e1 e2
    go_enter Tryz.func79, Tryz.ntmps79
    go_wp2_with fail
    refine F.mono ?_
    rintro r u1 ⟨rfl, b1⟩
    have A1 := HA.out.on b1
    have d0 := A1.cell 0 _ rfl
    have d1 := A1.cell 1 _ rfl
    have d2 := A1.cell 2 _ rfl
    have HA1 := Lib.hid A1
    clear F A1 cg
    go_wp2_with fail
    refine (PI.out _ b1).mono ?_
    rintro r u2 ⟨a3, n3, c3, rfl, O2, b2⟩
    have B2 := btr b1 b2
    have A2 := HA1.out.on b2
    clear d0 d1 d2
    have d0 := A2.cell 0 _ rfl
    have d1 := A2.cell 1 _ rfl
    have d2 := A2.cell 2 _ rfl
    clear A2 HA1 PI HG b1 b2 HA
    go_wp2_with fail
    go_ret
    exact ⟨rfl, B2⟩
  have e1 := openC_make h0 hc
  have HNM := Lib.hid (right_names (openG_right pins0 hc))
  rw [hc] at PI
  have e2 : storeF s = if sameL (openG [] s.d.rs).2 s.ps then 0 else 8 := by unfold storeF; rw [if_pos e1]
  rw [e2]
  clear e1 e2 hc h0 h12 hlong hs0 hs1
  generalize (openG [] s.d.rs).2 = qs at *
  generalize s.ps = ps at *
  have SP := Lib.hid (fun (w' : World) (h1 : PRow w' w'.heap.size a1 n1 c1 ps) (a3 : Option Addr) (n3 c3 : Nat) (h2 : PRow w' w'.heap.size a3 n3 c3 qs) => specSamePins_any a3 a1 n3 n1 c3 c1 w'.heap.size qs ps w' h2 h1 (Nat.le_refl _))
  cases hq : sameL qs ps
  · rw [hq] at SP
    clear hq
    go_enter Tryz.func79, Tryz.ntmps79
    go_wp2_with fail
    refine F.mono ?_
    rintro r u1 ⟨rfl, b1⟩
    have A1 := HA.out.on b1
    have d0 := A1.cell 0 _ rfl
    have d1 := A1.cell 1 _ rfl
    have d2 := A1.cell 2 _ rfl
    have HA1 := Lib.hid A1
    clear F A1 cg
    go_wp2_with fail
    refine (PI.out _ b1).mono ?_
    rintro r u2 ⟨a3, n3, c3, rfl, O2, b2⟩
    have B2 := btr b1 b2
    have A2 := HA1.out.on b2
    clear d0 d1 d2
    have d0 := A2.cell 0 _ rfl
    have d1 := A2.cell 1 _ rfl
    have d2 := A2.cell 2 _ rfl
    clear A2 HA1 PI HG b1 b2 HA
    have PR := Lib.hid ((HP.out _ B2).more (Nat.le_trans hB B2.size))
    have SR := Lib.hid (OwnP.row O2 HNM.out)
    clear O2
    go_wp2_with fail
    refine (SP.out _ PR.out _ _ _ SR.out).mono ?_
    rintro r u3 ⟨rfl, b3⟩
    have B3 := btr B2 b3
    clear B2 b3 SP PR SR d0 d1 d2
    go_wp2_with fail
    go_ret
    exact ⟨rfl, B3⟩
  · rw [hq] at SP
    clear hq
    go_enter Tryz.func79, Tryz.ntmps79
    go_wp2_with fail
    refine F.mono ?_
    rintro r u1 ⟨rfl, b1⟩
    have A1 := HA.out.on b1
    have d0 := A1.cell 0 _ rfl
    have d1 := A1.cell 1 _ rfl
    have d2 := A1.cell 2 _ rfl
    have HA1 := Lib.hid A1
    clear F A1 cg
    go_wp2_with fail
    refine (PI.out _ b1).mono ?_
    rintro r u2 ⟨a3, n3, c3, rfl, O2, b2⟩
    have B2 := btr b1 b2
    have A2 := HA1.out.on b2
    clear d0 d1 d2
    have d0 := A2.cell 0 _ rfl
    have d1 := A2.cell 1 _ rfl
    have d2 := A2.cell 2 _ rfl
    clear A2 HA1 PI HG b1 b2 HA
    have PR := Lib.hid ((HP.out _ B2).more (Nat.le_trans hB B2.size))
    have SR := Lib.hid (OwnP.row O2 HNM.out)
    clear O2
    go_wp2_with fail
    refine (SP.out _ PR.out _ _ _ SR.out).mono ?_
    rintro r u3 ⟨rfl, b3⟩
    have B3 := btr B2 b3
    clear B2 b3 SP PR SR d0 d1 d2
    go_wp2_with fail
    go_ret
    exact ⟨rfl, B3⟩
end Go.Proofs.YtcolecidbalmhaaGreatDoor
namespace Go.Proofs.YtcolecidbalmhaaGreatDoor
open Go.RowKit
set_option maxRecDepth 100000
set_option linter.unusedVariables false

/-- The marks that are written into slices of bytes, from k on. -/
def marksG (k : Int) : List (List Int) → List (List Int)
  | [] => []
  | z :: r => marks k z.length :: marksG (k + (z.length : Nat)) r
theorem marksG_length : ∀ (k : Int) (zss : List (List Int)), (marksG k zss).length = zss.length
  | k, [] => rfl
  | k, z :: r => by rw [marksG, List.length_cons, List.length_cons, marksG_length]
theorem marksG_at : ∀ (k : Int) (zss : List (List Int)) (j : Nat), j < zss.length → (marksG k zss)[j]?.getD [] = marks (k + (sumLens (zss.take j) : Nat)) (zss[j]?.getD []).length
  | k, [], j, h => by simp at h
  | k, z :: r, 0, h => by simp [marksG, sumLens]
  | k, z :: r, j + 1, h => by
    have := marksG_at (k + (z.length : Nat)) r j (by simpa using h)
    rw [marksG, List.getElem?_cons_succ, this, List.take_succ_cons, List.getElem?_cons_succ]
    congr 1
    simp only [sumLens, List.map_cons, List.sum_cons]
    omega
theorem marksG_append : ∀ (k : Int) (xs ys : List (List Int)), marksG k (xs ++ ys) = marksG k xs ++ marksG (k + (sumLens xs : Nat)) ys
  | k, [], ys => by simp [marksG, sumLens]
  | k, z :: r, ys => by
    rw [List.cons_append, marksG, marksG_append, marksG, List.cons_append]
    congr 3
    simp only [sumLens, List.map_cons, List.sum_cons]
    omega
theorem marksG_next (k : Int) (zss : List (List Int)) {j : Nat} (h : j < zss.length) :
    (marksG k (zss.take j) ++ zss.drop j).set j (marks (k + (sumLens (zss.take j) : Nat)) (zss[j]?.getD []).length) = marksG k (zss.take (j + 1)) ++ zss.drop (j + 1) := by
  have e : zss.drop j = zss[j] :: zss.drop (j + 1) := List.drop_eq_getElem_cons h
  have hl : (marksG k (zss.take j)).length = j := by rw [marksG_length, List.length_take]; omega
  rw [e, List.set_append_right _ _ (by omega), hl, Nat.sub_self, List.set_cons_zero, M.take_snoc zss [] j h, marksG_append]
  simp only [marksG, List.append_assoc, List.cons_append, List.nil_append, List.getElem?_eq_getElem h, Option.getD_some]
theorem marksG_wf (k : Int) (zss : List (List Int)) : ∀ zs ∈ marksG k zss, ∀ z ∈ zs, (Lit.int .u8 z).wf = true := by
  intro zs hzs z hz
  obtain ⟨j, hj, rfl⟩ := List.getElem_of_mem hzs
  rw [marksG_length] at hj
  have e := marksG_at k zss j hj
  rw [List.getElem?_eq_getElem (by rw [marksG_length]; exact hj)] at e
  simp only [Option.getD_some] at e
  rw [e] at hz
  exact marks_wf _ _ z hz
theorem mid_at (k : Int) (zss : List (List Int)) {j : Nat} (h : j < zss.length) : (marksG k (zss.take j) ++ zss.drop j)[j]?.getD [] = zss[j]?.getD [] := by
  have hl : (marksG k (zss.take j)).length = j := by rw [marksG_length, List.length_take]; omega
  rw [List.getElem?_append_right (by omega), hl, Nat.sub_self, List.getElem?_drop, Nat.add_zero]
/-- One slice is written into. -/
theorem OwnG.mark {w w' : World} {lo hi : Nat} {v u : Value} {zss : List (List Int)} {xs : List Value} {j : Nat} {ms : List Int} (h : OwnG w lo hi v zss xs) (hu : xs[j]? = some u) (ho : OwnK .u8 w' lo u ms) (hg : w.grownBy w' u.ownBlock) : OwnG w' lo hi v (zss.set j ms) xs := by
  obtain ⟨_, hb, ha⟩ := h.row j u hu
  have hjl : j < zss.length := by have := (List.getElem?_eq_some_iff.1 hu).1; rw [h.len] at this; exact this
  refine ⟨?_, Nat.le_trans h.top hg.size, h.lt, fun i x hx => ?_, h.sep⟩
  · rw [List.length_set]
    exact h.own.keep hg.size fun k e => hg.block k (h.own.lt k e).2 (fun e2 => ha k e2.symm e)
  · obtain ⟨r1, r2, r3⟩ := h.row i x hx
    refine ⟨?_, r2, r3⟩
    by_cases hij : i = j
    · subst hij
      rw [hu] at hx
      injection hx with hx
      subst hx
      rw [List.getElem?_set_self hjl]
      exact ho
    · rw [List.getElem?_set_ne (fun e => hij e.symm)]
      exact Own.keep r1 hg.size fun k e => hg.block k (Own.lt r1 k e).2 (fun e2 => h.sep i j x u hij hx hu k e e2.symm)
/-- Slices of bytes that are being marked. -/
structure MarkG (w : World) (lo hi : Nat) (v : Value) (k : Int) (zss : List (List Int)) (xs : List Value) (j : Nat) (wr : World) : Prop where
  own : OwnG wr lo hi v (marksG k (zss.take j) ++ zss.drop j) xs
  inn : Inn lo hi w wr
set_option maxHeartbeats 1000000 in
theorem markByteSS_any (a : Option Addr) (n c lo hi : Nat) (k : Int) (zss : List (List Int)) (xs : List Value) (w : World) (h : OwnG w lo hi (.slice a n c) zss xs) (k0 : 0 ≤ k) (k1 : k ≤ 10000000) (hn : n ≤ 1048576) (hs : sumLens zss ≤ 1048576) :
    Calls Tryz.prog 187 #[.slice a n c, .int .i64 k] w fun r w' => r = .returned (.int .i64 (k + (sumLens zss : Nat))) ∧ OwnG w' lo hi (.slice a n c) (marksG k zss) xs ∧ Inn lo hi w w' := by
  have hl : n = zss.length := h.len'
  have hxl := h.len
  have hfit : n ≤ c ∧ c ≤ maxLen := by obtain ⟨a', c', e, f1, f2, _⟩ := h.form; injection e with e1 e2 e3; subst e3; subst e2; exact ⟨f1, f2⟩
  obtain ⟨hf1, hf2⟩ := hfit
  unfold maxLen at hf2
  have T0 : MarkG w lo hi (.slice a n c) k zss xs 0 w := ⟨by simpa [marksG] using h, Inn.refl _ _ _⟩
  have HL := Lib.hid hl
  have HX := Lib.hid hxl
  have HT0 := Lib.hid T0
  have HS := Lib.hid hs
  clear h hl hxl T0 hs
  go_enter Tryz.func187, Tryz.ntmps187
  go_wp2_with fail
  go_loopw [1, 5] (fun q i wr => ∃ j : Nat, j ≤ n ∧ i = .int .i64 j ∧ q = .int .i64 (k + (sumLens (zss.take j) : Nat)) ∧ MarkG w lo hi (.slice a n c) k zss xs j wr) (fun _ i _ => n - (intOf i).toNat)
  case atStart => exact ⟨0, Nat.zero_le _, rfl, by simp [sumLens], HT0.out⟩
  case round =>
    obtain ⟨j, hj, rfl, rfl, hT⟩ := hrel
    clear HT0
    have hle := sumLens_le zss j
    have hS := HS.out
    by_cases hlt : j < n
    · have hjl : j < zss.length := by have := HL.out; omega
      have hjx : j < xs.length := by have := HX.out; omega
      have hu : xs[j]? = some xs[j] := List.getElem?_eq_getElem hjx
      obtain ⟨hrow, hub, hap⟩ := hT.own.row j _ hu
      rw [mid_at k zss hjl] at hrow
      have hcell : ∃ b, a = some ⟨b, 0, none⟩ ∧ wr.cell? ⟨b, j, none⟩ = some xs[j] := by
        rcases hT.own.own.2 with ⟨e, h0⟩ | ⟨g, c', e, _, _, _, _, hc, _⟩
        · injection e with _ e2 _
          omega
        · injection e with e1 e2 e3
          exact ⟨g, e1, hc j _ hu⟩
      obtain ⟨b, ha, hcell⟩ := hcell
      obtain ⟨a', c', ev, -⟩ := Own.form hrow
      have hst := sumLens_take zss j hjl
      have hmem : (zss[j]?.getD []).length ≤ 1048576 := by
        have := sumLens_mem zss (zss[j]?.getD []) (by rw [List.getElem?_eq_getElem hjl]; exact List.getElem_mem hjl)
        omega
      have hnext := marksG_next k zss hjl
      rw [ev] at hrow hub hcell
      have MB := markByteS_any a' _ c' lo (k + (sumLens (zss.take j) : Nat)) (zss[j]?.getD []) wr hrow (by omega) (by omega) hmem
      have hu2 := hu
      rw [ev] at hu2
      have HK := Lib.hid (fun (w' : World) (ho : OwnK .u8 w' lo (.slice a' (zss[j]?.getD []).length c') (marks (k + (sumLens (zss.take j) : Nat)) (zss[j]?.getD []).length)) (hg : wr.grownBy w' (Value.ownBlock (.slice a' (zss[j]?.getD []).length c'))) =>
        MarkG.mk (w := w) (k := k) (zss := zss) (j := j + 1) (by have := hT.own.mark hu2 ho hg; rwa [hnext] at this) (hT.inn.trans (Inn.of_grown hg (fun g e => ⟨(Own.lt hrow g e).1, hub g e⟩))))
      have HST := Lib.hid hst
      subst ha
      clear hT hrow hub hap hu hu2 hnext ev hst
      generalize (zss[j]?.getD []).length = m at *
      go_wp2_with fail
      refine MB.mono ?_
      rintro r w2 ⟨rfl, ho, hg⟩
      have T2 := Lib.hid (HK.out w2 ho hg)
      clear ho hg HK MB hcell
      go_wp2_with fail
      go_roundw
      case rel => exact ⟨j + 1, by omega, by go_num, by have := HST.out; congr 1; omega, T2.out⟩
      case measure => simp [intOf]; omega
    · obtain rfl : j = n := by omega
      have e1 : zss.take j = zss := List.take_of_length_le (by have := HL.out; omega)
      have e2 : zss.drop j = [] := List.drop_of_length_le (by have := HL.out; omega)
      have T2 := hT.own
      rw [e1, e2, List.append_nil] at T2
      have HT2 := Lib.hid (And.intro T2 hT.inn)
      rw [e1]
      clear hT T2 e1 e2
      go_wp2_with fail
      go_ret
      exact ⟨rfl, HT2.out.1, HT2.out.2⟩
set_option maxHeartbeats 1000000 in
theorem heldByteSS_any (a : Option Addr) (n c B : Nat) (k : Int) (zss : List (List Int)) (w : World) (hG : Grid w B a n c (marksG k zss)) (k0 : 0 ≤ k) (k1 : k ≤ 10000000) (hn : n ≤ 1048576) (hs : sumLens zss ≤ 1048576) :
    Calls Tryz.prog 233 #[.slice a n c, .int .i64 k] w fun r w' => r = .returned (.int .i64 (k + (sumLens zss : Nat))) ∧ w = w' := by
  have hl : zss.length = n := by rw [← marksG_length k zss]; exact hG.length
  have hf1 := hG.fits
  have hf2 := hG.most
  unfold maxLen at hf2
  have HL := Lib.hid hl
  have HS := Lib.hid hs
  clear hl hs
  go_enter Tryz.func233, Tryz.ntmps233
  go_wp2_with fail
  go_loop [1, 5] (fun q i => ∃ j : Nat, j ≤ n ∧ i = .int .i64 j ∧ q = .int .i64 (k + (sumLens (zss.take j) : Nat))) (fun _ i => n - (intOf i).toNat)
  case atStart => exact ⟨0, Nat.zero_le _, rfl, by simp [sumLens]⟩
  case round =>
    obtain ⟨j, hj, rfl, rfl⟩ := hrel
    have hle := sumLens_le zss j
    have hS := HS.out
    by_cases hlt : j < n
    · have hjl : j < zss.length := by have := HL.out; omega
      obtain ⟨b, off, ha, hb, hc⟩ := hG.cells (by omega)
      obtain ⟨a', n', c', hcell, hrow⟩ := hc j hlt
      rw [marksG_at k zss j hjl] at hrow
      have hst := sumLens_take zss j hjl
      have hmem : (zss[j]?.getD []).length ≤ 1048576 := by
        have := sumLens_mem zss (zss[j]?.getD []) (by rw [List.getElem?_eq_getElem hjl]; exact List.getElem_mem hjl)
        omega
      have hn' : (zss[j]?.getD []).length = n' := by have := hrow.length; rwa [marks_length] at this
      rw [hn'] at hrow hst hmem
      have MB := heldByteS_any a' n' c' B (k + (sumLens (zss.take j) : Nat)) w hrow (by omega) (by omega) hmem
      have HST := Lib.hid hst
      have hnn : ¬ (k + ((sumLens (zss.take j) : Nat) : Int) + (n' : Nat) < 0) := by omega
      subst ha
      clear hc hrow hst
      go_wp2_with fail
      refine MB.mono ?_
      rintro r w2 ⟨rfl, rfl⟩
      clear MB
      go_wp2_with fail
      go_round
      case rel => exact ⟨j + 1, by omega, by go_num, by have := HST.out; congr 1; omega⟩
      case measure => simp [intOf]; omega
    · obtain rfl : j = n := by omega
      have e1 : zss.take j = zss := List.take_of_length_le (by have := HL.out; omega)
      have HE := Lib.hid e1
      clear e1 hG
      go_wp2_with fail
      go_ret
      exact ⟨by rw [HE.out]; rfl, rfl⟩
end Go.Proofs.YtcolecidbalmhaaGreatDoor
namespace Go.Proofs.YtcolecidbalmhaaGreatDoor
open Go.RowKit
set_option maxRecDepth 100000
set_option linter.unusedVariables false

/-- A store that is small enough. -/
structure SmallS (s : StoreD) : Prop where
  ps : s.ps.length ≤ 1048576
  rs : s.d.rs.length ≤ 1048576
  sum : sumLens s.d.rs ≤ 1048576
/-- What is left of L behind a store's sizes; or -1. -/
def szSt (s : StoreD) (L : Int) : Int := if szP s.ps L < 0 then -1 else szR s.d.rs (szP s.ps L)
theorem szSt_small {s : StoreD} {L : Int} (h : 0 ≤ szSt s L) (hL : L ≤ 1048576) : SmallS s ∧ szSt s L ≤ L ∧ ∀ zs ∈ s.d.rs, zs.length ≤ 1048576 := by
  unfold szSt at h ⊢
  split at h
  · omega
  · rename_i h1
    rw [if_neg h1]
    obtain ⟨p1, p2, p3⟩ := szP_ok (by omega : 0 ≤ szP s.ps L)
    unfold szR at h ⊢
    split at h
    · rename_i h2
      rw [if_pos h2]
      refine ⟨⟨by omega, by omega, by omega⟩, by omega, fun zs hz => ?_⟩
      have := sumLens_mem s.d.rs zs hz
      omega
    · omega
theorem szP_range (ps : List PinD) (L : Int) (h : 0 ≤ L) : szP ps L ≤ L ∧ -1 ≤ szP ps L := by
  unfold szP
  split
  · omega
  · have := szL_le ps (L - ps.length) (by omega)
    omega
set_option maxHeartbeats 1000000 in
theorem szStore_any (a1 : Option Addr) (n1 c1 : Nat) (a2 : Option Addr) (n2 c2 B : Nat) (x L : Int) (s : StoreD) (w : World) (h : SRow w B a1 n1 c1 a2 n2 c2 s) (hB : B ≤ w.heap.size) (h0 : 0 ≤ L) (h1 : L ≤ 1048576) :
    Calls Tryz.prog 51 #[S3 a1 n1 c1 a2 n2 c2 x, .int .i64 L] w fun r w' => r = .returned (.int .i64 (szSt s L)) ∧ Below w.heap.size w w' := by
  have b0 := bal (Below.refl _ w) (.cells #[.slice a1 n1 c1, .slice a2 n2 c2, .int .i64 x] 84)
  have A0 := At.new w [.slice a1 n1 c1, .slice a2 n2 c2, .int .i64 x] 84
  have hR := h.below (b0.mono hB)
  have P := szPinS_any a1 n1 c1 B s.ps L _ hR.ps (Nat.le_trans hB b0.size) h0 h1
  have hr := szP_range s.ps L h0
  have HA0 := Lib.hid A0
  have HB0 := Lib.hid b0
  have d0 := A0.cell 0 _ rfl
  have d1 := A0.cell 1 _ rfl
  have d2 := A0.cell 2 _ rfl
  clear A0 b0
  by_cases hp : szP s.ps L < 0
  · have e1 : szP s.ps L = -1 := by omega
    have e2 : szSt s L = -1 := by unfold szSt; rw [if_pos hp]
    rw [e2]
    rw [e1] at P
    clear h hR e1 e2 hp hr
    go_enter Tryz.func51, Tryz.ntmps51
    go_wp2_with fail
    generalize w.alloc (.cells #[.slice a1 n1 c1, .slice a2 n2 c2, .int .i64 x] 84) = W0 at *
    refine P.mono ?_
    rintro r u1 ⟨rfl, b1⟩
    have B1 := btr HB0.out b1
    clear P HA0 HB0 d0 d1 d2 b1
    go_wp2_with fail
    go_ret
    exact ⟨rfl, B1⟩
  have e2 : szSt s L = szR s.d.rs (szP s.ps L) := by unfold szSt; rw [if_neg hp]
  rw [e2]
  generalize szP s.ps L = t at *
  have D := Lib.hid (fun (w' : World) (hb : Below w.heap.size w w') => szDisk_any a2 n2 c2 B s.d.rs x t w' (h.rs.below (hb.mono hB)) (Nat.le_trans hB hb.size) (by omega) (by omega))
  have hc : szR s.d.rs t = -1 ∨ 0 ≤ szR s.d.rs t := by unfold szR; split <;> omega
  generalize szR s.d.rs t = q at *
  clear h hR e2
  rcases hc with rfl | hc
  · go_enter Tryz.func51, Tryz.ntmps51
    go_wp2_with fail
    generalize w.alloc (.cells #[.slice a1 n1 c1, .slice a2 n2 c2, .int .i64 x] 84) = W0 at *
    refine P.mono ?_
    rintro r u1 ⟨rfl, b1⟩
    have B1 := btr HB0.out b1
    have A1 := HA0.out.on b1
    have HB1 := Lib.hid B1
    clear P HA0 HB0 d0 d1 d2 b1 B1
    have d0 := A1.cell 0 _ rfl
    have d1 := A1.cell 1 _ rfl
    have d2 := A1.cell 2 _ rfl
    clear A1
    go_wp2_with fail
    refine (D.out _ HB1.out).mono ?_
    rintro r u2 ⟨rfl, b2⟩
    have B2 := btr HB1.out b2
    clear b2 HB1 D d0 d1 d2
    go_wp2_with fail
    go_ret
    exact ⟨rfl, B2⟩
  · have hn : ¬ q < 0 := by omega
    go_enter Tryz.func51, Tryz.ntmps51
    go_wp2_with fail
    generalize w.alloc (.cells #[.slice a1 n1 c1, .slice a2 n2 c2, .int .i64 x] 84) = W0 at *
    refine P.mono ?_
    rintro r u1 ⟨rfl, b1⟩
    have B1 := btr HB0.out b1
    have A1 := HA0.out.on b1
    have HB1 := Lib.hid B1
    clear P HA0 HB0 d0 d1 d2 b1 B1
    have d0 := A1.cell 0 _ rfl
    have d1 := A1.cell 1 _ rfl
    have d2 := A1.cell 2 _ rfl
    clear A1
    go_wp2_with fail
    refine (D.out _ HB1.out).mono ?_
    rintro r u2 ⟨rfl, b2⟩
    have B2 := btr HB1.out b2
    clear b2 HB1 D d0 d1 d2
    go_wp2_with fail
    go_ret
    exact ⟨rfl, B2⟩
/-- A store was copied. -/
def StoreCopied (s : StoreD) (w : World) (e : Ending) (w' : World) : Prop :=
  ∃ a1 a2, e = .returned (S3 a1 s.ps.length s.ps.length a2 s.d.rs.length s.d.rs.length s.d.s) ∧ SOwn w' w.heap.size w'.heap.size (.slice a1 s.ps.length s.ps.length) (.slice a2 s.d.rs.length s.d.rs.length) s ∧ Below w.heap.size w w'
set_option maxHeartbeats 1000000 in
theorem toStore_any (a1 : Option Addr) (n1 c1 : Nat) (a2 : Option Addr) (n2 c2 B : Nat) (s : StoreD) (w : World) (h : SRow w B a1 n1 c1 a2 n2 c2 s) (hB : B ≤ w.heap.size) (hs : SmallS s) (hr : ∀ zs ∈ s.d.rs, zs.length ≤ 1048576) :
    Calls Tryz.prog 53 #[S3 a1 n1 c1 a2 n2 c2 s.d.s] w (StoreCopied s w) := by
  have b0 := bal (bal (bal (Below.refl _ w) (.cells #[.slice a1 n1 c1, .slice a2 n2 c2, .int .i64 s.d.s] 84)) (.cells #[.slice none 0 0, .slice none 0 0, .int .i64 0] 29)) (.cells #[.slice none 0 0, .slice none 0 0, .int .i64 0] 29)
  have A0 : At w.heap.size [.slice a1 n1 c1, .slice a2 n2 c2, .int .i64 s.d.s] (((w.alloc (.cells #[.slice a1 n1 c1, .slice a2 n2 c2, .int .i64 s.d.s] 84)).alloc (.cells #[.slice none 0 0, .slice none 0 0, .int .i64 0] 29)).alloc (.cells #[.slice none 0 0, .slice none 0 0, .int .i64 0] 29)) := ((At.new w [.slice a1 n1 c1, .slice a2 n2 c2, .int .i64 s.d.s] 84).alloc _).alloc _
  have R0 := (At.new (w.alloc (.cells #[.slice a1 n1 c1, .slice a2 n2 c2, .int .i64 s.d.s] 84)) [.slice none 0 0, .slice none 0 0, .int .i64 0] 29).alloc (.cells #[.slice none 0 0, .slice none 0 0, .int .i64 0] 29)
  have D0 := At.new ((w.alloc (.cells #[.slice a1 n1 c1, .slice a2 n2 c2, .int .i64 s.d.s] 84)).alloc (.cells #[.slice none 0 0, .slice none 0 0, .int .i64 0] 29)) [.slice none 0 0, .slice none 0 0, .int .i64 0] 29
  rw [World.size_alloc] at R0
  rw [World.size_alloc, World.size_alloc] at D0
  have sz0 : (((w.alloc (.cells #[.slice a1 n1 c1, .slice a2 n2 c2, .int .i64 s.d.s] 84)).alloc (.cells #[.slice none 0 0, .slice none 0 0, .int .i64 0] 29)).alloc (.cells #[.slice none 0 0, .slice none 0 0, .int .i64 0] 29)).heap.size = w.heap.size + 1 + 1 + 1 := by simp
  have hR := h.below (b0.mono hB)
  have g1 := hs.ps
  have g2 := hs.rs
  have l1 := h.ps.length
  have l2 := h.rs.length
  have HNM := Lib.hid h.ps.names
  have HWF := Lib.hid h.wf
  have P := toPinS_any a1 n1 c1 B s.ps _ hR.ps (Nat.le_trans hB b0.size) (by omega)
  have D := Lib.hid (fun (w' : World) (hb : Below w.heap.size w w') => toDisk_any a2 n2 c2 B s.d.rs s.d.s w' (h.rs.below (hb.mono hB)) (Nat.le_trans hB hb.size) (by omega) hr)
  have HS := Lib.hid (show StoreCopied s w = fun e w' => ∃ a1 a2, e = .returned (S3 a1 n1 n1 a2 n2 n2 s.d.s) ∧ SOwn w' w.heap.size w'.heap.size (.slice a1 n1 n1) (.slice a2 n2 n2) ⟨s.ps, ⟨s.d.rs, s.d.s⟩⟩ ∧ Below w.heap.size w w' by unfold StoreCopied; rw [l1, l2])
  rw [HS.out]
  unfold CopiedP at P
  unfold DiskCopied at D
  have HA0 := Lib.hid A0
  have HR0 := Lib.hid (show At (w.heap.size + 1) [.slice none 0 0, .slice none 0 0, .int .i64 0] (((w.alloc (.cells #[.slice a1 n1 c1, .slice a2 n2 c2, .int .i64 s.d.s] 84)).alloc (.cells #[.slice none 0 0, .slice none 0 0, .int .i64 0] 29)).alloc (.cells #[.slice none 0 0, .slice none 0 0, .int .i64 0] 29)) from R0)
  have HD0 := Lib.hid (show At (w.heap.size + 1 + 1) [.slice none 0 0, .slice none 0 0, .int .i64 0] (((w.alloc (.cells #[.slice a1 n1 c1, .slice a2 n2 c2, .int .i64 s.d.s] 84)).alloc (.cells #[.slice none 0 0, .slice none 0 0, .int .i64 0] 29)).alloc (.cells #[.slice none 0 0, .slice none 0 0, .int .i64 0] 29)) from D0)
  have HB0 := Lib.hid b0
  have HZ0 := Lib.hid sz0
  clear HS h hR hs hr R0 D0 b0 sz0 g1 g2 l1 l2
  generalize s.ps = ps at *
  generalize s.d.rs = rs at *
  generalize s.d.s = x at *
  have d0 := A0.cell 0 _ rfl
  have d1 := A0.cell 1 _ rfl
  have d2 := A0.cell 2 _ rfl
  clear A0
  go_enter Tryz.func53, Tryz.ntmps53
  go_wp2_with fail
  generalize ((w.alloc (.cells #[.slice a1 n1 c1, .slice a2 n2 c2, .int .i64 x] 84)).alloc (.cells #[.slice none 0 0, .slice none 0 0, .int .i64 0] 29)).alloc (.cells #[.slice none 0 0, .slice none 0 0, .int .i64 0] 29) = W0 at *
  refine P.mono ?_
  rintro r u1 ⟨rfl, O1, b1⟩
  have hz0 : w.heap.size + 1 + 1 < W0.heap.size := by have := HZ0.out; omega
  have lt1 : W0.heap.size ≤ u1.heap.size := b1.size
  have A1 := HA0.out.on b1
  have D1 := HD0.out.on b1
  clear d0 d1 d2 P
  have d0 := A1.cell 0 _ rfl
  have d1 := A1.cell 1 _ rfl
  have d2 := A1.cell 2 _ rfl
  have p0 := D1.cell 0 _ rfl
  have p1 := D1.cell 1 _ rfl
  have p2 := D1.cell 2 _ rfl
  have z0 := D1.free 0 _ rfl
  have z1 := D1.free 1 _ rfl
  have z2 := D1.free 2 _ rfl
  have hne : w.heap.size ≠ w.heap.size + 1 + 1 := by omega
  have hne1 : w.heap.size + 1 ≠ w.heap.size + 1 + 1 := by omega
  have A2 := A1.setB (p := ⟨w.heap.size + 1 + 1, 0, none⟩) (by show w.heap.size ≠ w.heap.size + 1 + 1; omega) (.slice (some ⟨W0.heap.size, 0, none⟩) n1 n1)
  have R2 := (HR0.out.on b1).setB (p := ⟨w.heap.size + 1 + 1, 0, none⟩) (by show w.heap.size + 1 ≠ w.heap.size + 1 + 1; omega) (.slice (some ⟨W0.heap.size, 0, none⟩) n1 n1)
  have D2 := D1.set 0 (.slice (some ⟨W0.heap.size, 0, none⟩) n1 n1)
  have O2 : OwnP (u1.setCell ⟨w.heap.size + 1 + 1, 0, none⟩ (.slice (some ⟨W0.heap.size, 0, none⟩) n1 n1)) W0.heap.size (.slice (some ⟨W0.heap.size, 0, none⟩) n1 n1) ps := Own.setCell O1 (fun k e => by have := (Own.lt O1 k e).1; show k ≠ w.heap.size + 1 + 1; omega) _
  have B2 : Below w.heap.size w (u1.setCell ⟨w.heap.size + 1 + 1, 0, none⟩ (.slice (some ⟨W0.heap.size, 0, none⟩) n1 n1)) := bset (btr HB0.out b1) (by show w.heap.size ≤ w.heap.size + 1 + 1; omega) _
  have hs2 : (u1.setCell ⟨w.heap.size + 1 + 1, 0, none⟩ (.slice (some ⟨W0.heap.size, 0, none⟩) n1 n1)).heap.size = u1.heap.size := by simp [World.setCell]
  have HA2 := Lib.hid A2
  have HR2 := Lib.hid R2
  have HD2 := Lib.hid D2
  have HO2 := Lib.hid O2
  have HB2 := Lib.hid B2
  have HS2 := Lib.hid hs2
  clear A1 D1 A2 R2 D2 O2 B2 hs2 O1 b1 HA0 HR0 HD0 HB0
  go_upto_region 3 with fail
  generalize u1.setCell ⟨w.heap.size + 1 + 1, 0, none⟩ (.slice (some ⟨W0.heap.size, 0, none⟩) n1 n1) = W2 at *
  clear d0 d1 d2 p0 p1 p2 z0 z1 z2
  have d0 := HA2.out.cell 0 _ rfl
  have d1 := HA2.out.cell 1 _ rfl
  have d2 := HA2.out.cell 2 _ rfl
  go_wp2_with fail
  refine (D.out _ HB2.out).mono ?_
  rintro r u3 ⟨a3, xs, rfl, G3, b3⟩
  have D3 := HD2.out.on b3
  have R3 := HR2.out.on b3
  have B3 := btr HB2.out b3
  have SO : SOwn u3 W0.heap.size u3.heap.size (.slice (some ⟨W0.heap.size, 0, none⟩) n1 n1) (.slice a3 n2 n2) ⟨ps, ⟨rs, x⟩⟩ :=
    SOwn.mk' (W := w) (mid := W2.heap.size) (HO2.out.below b3) (by have := HS2.out; omega) (fun g hg => (Own.lt HO2.out g hg).2) G3 b3.size HNM.out HWF.out
  have S5 := ((((SO.setCell (p := ⟨w.heap.size + 1 + 1, 1, none⟩) (.inl (by show w.heap.size + 1 + 1 < W0.heap.size; omega)) (.slice a3 n2 n2)).setCell (p := ⟨w.heap.size + 1 + 1, 2, none⟩) (.inl (by show w.heap.size + 1 + 1 < W0.heap.size; omega)) (.int .i64 x)).setCell (p := ⟨w.heap.size + 1, 0, none⟩) (.inl (by show w.heap.size + 1 < W0.heap.size; omega)) (.slice (some ⟨W0.heap.size, 0, none⟩) n1 n1)).setCell (p := ⟨w.heap.size + 1, 1, none⟩) (.inl (by show w.heap.size + 1 < W0.heap.size; omega)) (.slice a3 n2 n2)).setCell (p := ⟨w.heap.size + 1, 2, none⟩) (.inl (by show w.heap.size + 1 < W0.heap.size; omega)) (.int .i64 x)
  have HSO := Lib.hid ((S5.less (show w.heap.size ≤ W0.heap.size by omega)).more S5.top.2 (Nat.le_refl _))
  have HB3 := Lib.hid B3
  clear S5 d0 d1 d2 G3 b3 SO B3 HA2 HR2 HD2 HO2 HB2 D
  have p0 := D3.cell 0 _ rfl
  have p1 := D3.cell 1 _ rfl
  have p2 := D3.cell 2 _ rfl
  have z0 := D3.free 0 _ rfl
  have z1 := D3.free 1 _ rfl
  have z2 := D3.free 2 _ rfl
  have q0 := R3.cell 0 _ rfl
  have q1 := R3.cell 1 _ rfl
  have q2 := R3.cell 2 _ rfl
  have f0 := R3.free 0 _ rfl
  have f1 := R3.free 1 _ rfl
  have f2 := R3.free 2 _ rfl
  clear D3 R3
  go_wp2_with fail
  refine bodyPost_ret (v := S3 (some ⟨W0.heap.size, 0, none⟩) n1 n1 a3 n2 n2 x) (by simp [results, Tryz.results53, go_sem, q0, q1, q2]) rfl ⟨_, _, rfl, HSO.out, ?_⟩
  exact (by (iterate 5 (refine bset ?_ (by dsimp only; omega) _)); exact HB3.out)
set_option maxHeartbeats 1000000 in
theorem eqStore_any (a1 b1 : Option Addr) (n1 c1 d1 : Nat) (a2 b2 : Option Addr) (n2 c2 d2 B : Nat) (s : StoreD) (w : World) (h : SRow w B a1 n1 c1 a2 n2 c2 s) (g : SRow w B b1 n1 d1 b2 n2 d2 s) (hB : B ≤ w.heap.size) :
    Calls Tryz.prog 56 #[S3 a1 n1 c1 a2 n2 c2 s.d.s, S3 b1 n1 d1 b2 n2 d2 s.d.s] w fun e w' => e = .returned (.bool true) ∧ Below w.heap.size w w' := by
  have b0 := bal (bal (Below.refl _ w) (.cells #[.slice a1 n1 c1, .slice a2 n2 c2, .int .i64 s.d.s] 29)) (.cells #[.slice b1 n1 d1, .slice b2 n2 d2, .int .i64 s.d.s] 29)
  have A0 : At w.heap.size [.slice a1 n1 c1, .slice a2 n2 c2, .int .i64 s.d.s] ((w.alloc (.cells #[.slice a1 n1 c1, .slice a2 n2 c2, .int .i64 s.d.s] 29)).alloc (.cells #[.slice b1 n1 d1, .slice b2 n2 d2, .int .i64 s.d.s] 29)) := (At.new w [.slice a1 n1 c1, .slice a2 n2 c2, .int .i64 s.d.s] 29).alloc _
  have A1 := At.new (w.alloc (.cells #[.slice a1 n1 c1, .slice a2 n2 c2, .int .i64 s.d.s] 29)) [.slice b1 n1 d1, .slice b2 n2 d2, .int .i64 s.d.s] 29
  rw [World.size_alloc] at A1
  have E := eqPinS_any a1 b1 n1 c1 d1 B s.ps _ (h.ps.below (b0.mono hB)) (g.ps.below (b0.mono hB)) (Nat.le_trans hB b0.size)
  have D := Lib.hid (fun (w' : World) (hb : Below w.heap.size w w') => eqDisk_any a2 b2 n2 c2 d2 B s.d.rs s.d.s w' (h.rs.below (hb.mono hB)) (g.rs.below (hb.mono hB)) (Nat.le_trans hB hb.size))
  have HA0 := Lib.hid A0
  have HA1 := Lib.hid (show At (w.heap.size + 1) [.slice b1 n1 d1, .slice b2 n2 d2, .int .i64 s.d.s] ((w.alloc (.cells #[.slice a1 n1 c1, .slice a2 n2 c2, .int .i64 s.d.s] 29)).alloc (.cells #[.slice b1 n1 d1, .slice b2 n2 d2, .int .i64 s.d.s] 29)) from A1)
  have HB0 := Lib.hid b0
  clear h g A0 A1 b0
  generalize s.d.s = x at *
  generalize s.ps = ps at *
  generalize s.d.rs = rs at *
  go_enter Tryz.func56, Tryz.ntmps56
  have p0 := HA0.out.cell 0 _ rfl
  have p1 := HA0.out.cell 1 _ rfl
  have p2 := HA0.out.cell 2 _ rfl
  have q0 := HA1.out.cell 0 _ rfl
  have q1 := HA1.out.cell 1 _ rfl
  have q2 := HA1.out.cell 2 _ rfl
  go_wp2_with fail
  generalize (w.alloc (.cells #[.slice a1 n1 c1, .slice a2 n2 c2, .int .i64 x] 29)).alloc (.cells #[.slice b1 n1 d1, .slice b2 n2 d2, .int .i64 x] 29) = W0 at *
  refine E.mono ?_
  rintro r u1 ⟨rfl, e1⟩
  have B1 := btr HB0.out e1
  have X0 := HA0.out.on e1
  have X1 := HA1.out.on e1
  have HB1 := Lib.hid B1
  clear p0 p1 p2 q0 q1 q2 E B1 e1
  have p0 := X0.cell 0 _ rfl
  have p1 := X0.cell 1 _ rfl
  have p2 := X0.cell 2 _ rfl
  have q0 := X1.cell 0 _ rfl
  have q1 := X1.cell 1 _ rfl
  have q2 := X1.cell 2 _ rfl
  clear X0 X1 HA0 HA1 HB0
  go_wp2_with fail
  refine (D.out _ HB1.out).mono ?_
  rintro r u2 ⟨rfl, e2⟩
  have B2 := btr HB1.out e2
  clear e2 HB1 D p0 p1 p2 q0 q1 q2
  go_wp2_with fail
  go_ret
  exact ⟨rfl, B2⟩
theorem eqStoreRes_any (c : Int) (a1 b1 : Option Addr) (n1 c1 d1 : Nat) (a2 b2 : Option Addr) (n2 c2 d2 B : Nat) (s : StoreD) (w : World) (h : SRow w B a1 n1 c1 a2 n2 c2 s) (g : SRow w B b1 n1 d1 b2 n2 d2 s) (hB : B ≤ w.heap.size) :
    Calls Tryz.prog 55 #[V4 c a1 n1 c1 a2 n2 c2 s.d.s, V4 c b1 n1 d1 b2 n2 d2 s.d.s] w fun e w' => e = .returned (.bool true) ∧ Below w.heap.size w w' := by
  have b0 := bal (bal (Below.refl _ w) (.cells #[.int .i64 c, .slice a1 n1 c1, .slice a2 n2 c2, .int .i64 s.d.s] 35)) (.cells #[.int .i64 c, .slice b1 n1 d1, .slice b2 n2 d2, .int .i64 s.d.s] 35)
  have E := eqStore_any a1 b1 n1 c1 d1 a2 b2 n2 c2 d2 B s _ (h.below (b0.mono hB)) (g.below (b0.mono hB)) (Nat.le_trans hB b0.size)
  clear h g
  generalize s.d.s = x at *
  go_enter Tryz.func55, Tryz.ntmps55
  go_wp2_with fail
  refine E.mono ?_
  rintro r u1 ⟨rfl, e1⟩
  have B1 := btr b0 e1
  clear b0 e1 E
  go_wp2_with fail
  go_ret
  exact ⟨rfl, B1⟩
end Go.Proofs.YtcolecidbalmhaaGreatDoor
namespace Go.Proofs.YtcolecidbalmhaaGreatDoor
open Go.RowKit
set_option maxRecDepth 100000
set_option linter.unusedVariables false

theorem markDisk_any (a : Option Addr) (n c lo hi : Nat) (k x : Int) (zss : List (List Int)) (xs : List Value) (w : World) (h : OwnG w lo hi (.slice a n c) zss xs) (k0 : 0 ≤ k) (k1 : k ≤ 10000000) (hn : n ≤ 1048576) (hs : sumLens zss ≤ 1048576) :
    Calls Tryz.prog 127 #[.agg #[.slice a n c, .int .i64 x], .int .i64 k] w fun r w' => r = .returned (.int .i64 (k + (sumLens zss : Nat))) ∧ OwnG w' lo hi (.slice a n c) (marksG k zss) xs ∧ Inn lo hi w w' := by
  have h0 := h.alloc (.cells #[.slice a n c, .int .i64 x] 27)
  have M := markByteSS_any a n c lo hi k zss xs _ h0 k0 k1 hn hs
  have hI := Lib.hid (show Inn lo hi w (w.alloc (.cells #[.slice a n c, .int .i64 x] 27)) from Inn.of_below (bal (Below.refl _ _) _))
  clear h h0
  generalize k + (sumLens zss : Nat) = t at *
  go_enter Tryz.func127, Tryz.ntmps127
  go_wp2_with fail
  refine M.mono ?_
  rintro r w2 ⟨rfl, ho, hi2⟩
  have F := Lib.hid (And.intro ho (hI.out.trans hi2))
  clear ho hi2 M
  go_wp2_with fail
  go_ret
  exact ⟨rfl, F.out.1, F.out.2⟩
theorem heldDisk_any (a : Option Addr) (n c B : Nat) (k x : Int) (zss : List (List Int)) (w : World) (hG : Grid w B a n c (marksG k zss)) (hB : B ≤ w.heap.size) (k0 : 0 ≤ k) (k1 : k ≤ 10000000) (hn : n ≤ 1048576) (hs : sumLens zss ≤ 1048576) :
    Calls Tryz.prog 189 #[.agg #[.slice a n c, .int .i64 x], .int .i64 k] w fun r w' => r = .returned (.int .i64 (k + (sumLens zss : Nat))) ∧ Below w.heap.size w w' := by
  have b0 := bal (Below.refl _ w) (.cells #[.slice a n c, .int .i64 x] 27)
  have H := heldByteSS_any a n c B k zss _ (hG.below (b0.mono hB)) k0 k1 hn hs
  have ht : 0 ≤ k + (sumLens zss : Nat) := by omega
  generalize k + (sumLens zss : Nat) = t at *
  have hnn : ¬ t < 0 := by omega
  clear hG
  go_enter Tryz.func189, Tryz.ntmps189
  go_wp2_with fail
  refine H.mono ?_
  rintro r w2 ⟨rfl, rfl⟩
  go_wp2_with fail
  go_ret
  exact ⟨rfl, b0⟩
/-- A store whose pins and records bear marks, from k on. -/
def markS (k : Nat) (s : StoreD) : StoreD := ⟨marksP k s.ps.length, ⟨marksG ((k + 5 * s.ps.length : Nat) : Int) s.d.rs, s.d.s⟩⟩
def markN (k : Nat) (s : StoreD) : Int := ((k + 5 * s.ps.length : Nat) : Int) + (sumLens s.d.rs : Nat)
set_option maxHeartbeats 1000000 in
theorem markStore_any (a1 : Option Addr) (n1 c1 : Nat) (a2 : Option Addr) (n2 c2 lo hi : Nat) (x : Int) (s : StoreD) (w : World) (h : SOwn w lo hi (.slice a1 n1 c1) (.slice a2 n2 c2) s) (hs : SmallS s) :
    Calls Tryz.prog 57 #[S3 a1 n1 c1 a2 n2 c2 x, .int .i64 1] w fun r w' => r = .returned (.int .i64 (markN 1 s)) ∧ SOwn w' lo hi (.slice a1 n1 c1) (.slice a2 n2 c2) (markS 1 s) ∧ Inn lo hi w w' := by
  obtain ⟨l1, l2⟩ := h.len
  obtain ⟨mid, xs, h1, h2, h3, h4, h5, h6⟩ := h
  have b0 := bal (Below.refl _ w) (.cells #[.slice a1 n1 c1, .slice a2 n2 c2, .int .i64 x] 29)
  have A0 := At.new w [.slice a1 n1 c1, .slice a2 n2 c2, .int .i64 x] 29
  have g := hs.ps
  have g2 := hs.rs
  have g3 := hs.sum
  have M1 := markPinS_any a1 n1 c1 lo 1 s.ps (w.alloc (.cells #[.slice a1 n1 c1, .slice a2 n2 c2, .int .i64 x] 29)) (OwnP.below h3 b0) (by omega) (by omega) (by omega)
  have h5' := Lib.hid (h5.below b0)
  have M2 := Lib.hid (fun (w' : World) (h : OwnG w' mid hi (.slice a2 n2 c2) s.d.rs xs) => markDisk_any a2 n2 c2 mid hi ((1 + 5 * n1 : Nat) : Int) x s.d.rs xs w' h (by omega) (by omega) (by omega) g3)
  have HV := Lib.hid (fun (k : Nat) (e : Value.ownBlock (.slice a1 n1 c1) = some k) => And.intro (Own.lt h3 k e).1 (h4 k e))
  have hI := Lib.hid (show Inn lo hi w (w.alloc (.cells #[.slice a1 n1 c1, .slice a2 n2 c2, .int .i64 x] 29)) from Inn.of_below b0)
  have hgA : ∀ k, Value.ownBlock (.slice a1 n1 c1) = some k → w.heap.size ≠ k := fun k e => by have := (Own.lt h3 k e).2; omega
  have HNM := Lib.hid (marksP_names 1 n1 (by omega) (by omega))
  have HWF := Lib.hid (marksG_wf ((1 + 5 * n1 : Nat) : Int) s.d.rs)
  have e1 : markN 1 s = ((1 + 5 * n1 : Nat) : Int) + (sumLens s.d.rs : Nat) := by unfold markN; rw [l1]
  have e2 : markS 1 s = ⟨marksP 1 n1, ⟨marksG ((1 + 5 * n1 : Nat) : Int) s.d.rs, s.d.s⟩⟩ := by unfold markS; rw [l1]
  rw [e1, e2]
  have hle : lo ≤ mid ∧ mid ≤ hi := ⟨h1, h2⟩
  clear h5 h3 h4 h6 b0 e1 e2 g g2 l1 l2 hs h1 h2
  generalize hk1 : ((1 + 5 * n1 : Nat) : Int) = k1 at *
  have HK1 := Lib.hid hk1
  clear hk1
  generalize marksG k1 s.d.rs = ms at *
  generalize k1 + (sumLens s.d.rs : Nat) = t at *
  have d0 := A0.cell 0 _ rfl
  have d1 := A0.cell 1 _ rfl
  have d2 := A0.cell 2 _ rfl
  have HA0 := Lib.hid A0
  clear A0
  go_enter Tryz.func57, Tryz.ntmps57
  go_wp2_with fail
  generalize w.alloc (.cells #[.slice a1 n1 c1, .slice a2 n2 c2, .int .i64 x] 29) = W0 at *
  refine M1.mono ?_
  rintro r u1 ⟨hr, O1, g1⟩
  rw [HK1.out] at hr
  subst hr
  have A1 := HA0.out.kept g1 (fun e => hgA _ e.symm rfl)
  have I1 : Inn lo mid W0 u1 := Inn.of_grown g1 (fun k e => HV.out k e)
  have G1 := Lib.hid (h5'.out.inn I1 (.inr (Nat.le_refl _)))
  have HI1 := Lib.hid (hI.out.trans (I1.wide (Nat.le_refl _) hle.2))
  have HO1 := Lib.hid O1
  clear d0 d1 d2 M1 O1 g1 I1 HA0 hI hgA
  have d0 := A1.cell 0 _ rfl
  have d1 := A1.cell 1 _ rfl
  have d2 := A1.cell 2 _ rfl
  clear A1
  go_wp2_with fail
  refine (M2.out _ G1.out).mono ?_
  rintro r u2 ⟨rfl, G2, I2⟩
  have O2 := Own.inn (show Own u1 lo 5 _ _ _ from HO1.out) I2 (fun g e => .inl (HV.out g e).2)
  have HF := Lib.hid (And.intro (show SOwn u2 lo hi (.slice a1 n1 c1) (.slice a2 n2 c2) ⟨marksP 1 n1, ⟨ms, s.d.s⟩⟩ from ⟨mid, xs, hle.1, hle.2, O2, fun g e => (HV.out g e).2, G2, HNM.out, HWF.out⟩) (HI1.out.trans (I2.wide hle.1 (Nat.le_refl _))))
  clear G2 I2 O2 HO1 HI1 G1 M2 d0 d1 d2
  go_wp2_with fail
  go_ret
  exact ⟨rfl, HF.out.1, HF.out.2⟩
theorem markStoreRes_any (c : Int) (a1 : Option Addr) (n1 c1 : Nat) (a2 : Option Addr) (n2 c2 lo hi : Nat) (x : Int) (s : StoreD) (w : World) (h : SOwn w lo hi (.slice a1 n1 c1) (.slice a2 n2 c2) s) (hs : SmallS s) :
    Calls Tryz.prog 58 #[V4 c a1 n1 c1 a2 n2 c2 x, .int .i64 1] w fun r w' => r = .returned (.int .i64 (markN 1 s)) ∧ SOwn w' lo hi (.slice a1 n1 c1) (.slice a2 n2 c2) (markS 1 s) ∧ Inn lo hi w w' := by
  have b0 := bal (Below.refl _ w) (.cells #[.int .i64 c, .slice a1 n1 c1, .slice a2 n2 c2, .int .i64 x] 35)
  have M := markStore_any a1 n1 c1 a2 n2 c2 lo hi x s _ (h.below b0) hs
  have hI := Lib.hid (show Inn lo hi w (w.alloc (.cells #[.int .i64 c, .slice a1 n1 c1, .slice a2 n2 c2, .int .i64 x] 35)) from Inn.of_below b0)
  clear h b0
  generalize markN 1 s = t at *
  go_enter Tryz.func58, Tryz.ntmps58
  go_wp2_with fail
  refine M.mono ?_
  rintro r w2 ⟨rfl, ho, hi2⟩
  have F := Lib.hid (And.intro ho (hI.out.trans hi2))
  clear ho hi2 M
  go_wp2_with fail
  go_ret
  exact ⟨rfl, F.out.1, F.out.2⟩
set_option maxHeartbeats 1000000 in
theorem heldStore_any (a1 : Option Addr) (n1 c1 : Nat) (a2 : Option Addr) (n2 c2 B : Nat) (x : Int) (s : StoreD) (w : World) (h : SRow w B a1 n1 c1 a2 n2 c2 (markS 1 s)) (hB : B ≤ w.heap.size) (hs : SmallS s) :
    Calls Tryz.prog 128 #[S3 a1 n1 c1 a2 n2 c2 x, .int .i64 1] w fun r w' => r = .returned (.int .i64 (markN 1 s)) ∧ Below w.heap.size w w' := by
  have l1 : n1 = s.ps.length := by rw [← h.ps.length]; exact marksP_length _ _
  have l2 : n2 = s.d.rs.length := by rw [← h.rs.length]; exact marksG_length _ _
  have b0 := bal (Below.refl _ w) (.cells #[.slice a1 n1 c1, .slice a2 n2 c2, .int .i64 x] 29)
  have A0 := At.new w [.slice a1 n1 c1, .slice a2 n2 c2, .int .i64 x] 29
  have g := hs.ps
  have g2 := hs.rs
  have g3 := hs.sum
  have hR := h.below (b0.mono hB)
  have hP : PRow (w.alloc (.cells #[.slice a1 n1 c1, .slice a2 n2 c2, .int .i64 x] 29)) B a1 n1 c1 (marksP 1 n1) := by have := hR.ps; unfold markS at this; rw [← l1] at this; exact this
  have hG : Grid (w.alloc (.cells #[.slice a1 n1 c1, .slice a2 n2 c2, .int .i64 x] 29)) B a2 n2 c2 (marksG ((1 + 5 * n1 : Nat) : Int) s.d.rs) := by have := hR.rs; unfold markS at this; rw [← l1] at this; exact this
  have M1 := heldPinS_any a1 n1 c1 B 1 _ hP (Nat.le_trans hB b0.size) (by omega) (by omega) (by omega)
  have HG := Lib.hid (fun (w' : World) (hb : Below (w.alloc (.cells #[.slice a1 n1 c1, .slice a2 n2 c2, .int .i64 x] 29)).heap.size (w.alloc (.cells #[.slice a1 n1 c1, .slice a2 n2 c2, .int .i64 x] 29)) w') => heldDisk_any a2 n2 c2 B ((1 + 5 * n1 : Nat) : Int) x s.d.rs w' (hG.below (hb.mono (Nat.le_trans hB b0.size))) (Nat.le_trans hB (Nat.le_trans b0.size hb.size)) (by omega) (by omega) (by omega) g3)
  have e1 : markN 1 s = ((1 + 5 * n1 : Nat) : Int) + (sumLens s.d.rs : Nat) := by unfold markN; rw [l1]
  rw [e1]
  have hn1 : ¬ ((1 + 5 * n1 : Nat) : Int) < 0 := by omega
  have hn2 : ¬ ((1 + 5 * n1 : Nat) : Int) + (sumLens s.d.rs : Nat) < 0 := by omega
  clear h hR hP hG e1 g g2 g3 l1 l2 hs
  generalize ((1 + 5 * n1 : Nat) : Int) + (sumLens s.d.rs : Nat) = t at *
  generalize hk1 : ((1 + 5 * n1 : Nat) : Int) = k1 at *
  have HK1 := Lib.hid hk1
  clear hk1
  have HA0 := Lib.hid A0
  have HB0 := Lib.hid b0
  have d0 := A0.cell 0 _ rfl
  have d1 := A0.cell 1 _ rfl
  have d2 := A0.cell 2 _ rfl
  clear A0 b0
  go_enter Tryz.func128, Tryz.ntmps128
  go_wp2_with fail
  generalize w.alloc (.cells #[.slice a1 n1 c1, .slice a2 n2 c2, .int .i64 x] 29) = W0 at *
  refine M1.mono ?_
  rintro r u1 ⟨hr, b1⟩
  subst hr
  have A1 := HA0.out.on b1
  have H2 := HG.out u1 b1
  have B1 := btr HB0.out b1
  clear d0 d1 d2 M1 HG HA0 b1
  have d0 := A1.cell 0 _ rfl
  have d1 := A1.cell 1 _ rfl
  have d2 := A1.cell 2 _ rfl
  clear A1
  go_wp2_with fail
  refine H2.mono ?_
  rintro r u2 ⟨rfl, b2⟩
  have B2 := btr B1 b2
  clear b2 B1 H2 d0 d1 d2
  go_wp2_with fail
  go_ret
  exact ⟨rfl, B2⟩
theorem heldStoreRes_any (c : Int) (a1 : Option Addr) (n1 c1 : Nat) (a2 : Option Addr) (n2 c2 B : Nat) (x : Int) (s : StoreD) (w : World) (h : SRow w B a1 n1 c1 a2 n2 c2 (markS 1 s)) (hB : B ≤ w.heap.size) (hs : SmallS s) :
    Calls Tryz.prog 59 #[V4 c a1 n1 c1 a2 n2 c2 x, .int .i64 1] w fun r w' => r = .returned (.int .i64 (markN 1 s)) ∧ Below w.heap.size w w' := by
  have b0 := bal (Below.refl _ w) (.cells #[.int .i64 c, .slice a1 n1 c1, .slice a2 n2 c2, .int .i64 x] 35)
  have M := heldStore_any a1 n1 c1 a2 n2 c2 B x s _ (h.below (b0.mono hB)) (Nat.le_trans hB b0.size) hs
  have hn : ¬ markN 1 s < 0 := by unfold markN; omega
  clear h
  generalize markN 1 s = t at *
  go_enter Tryz.func59, Tryz.ntmps59
  go_wp2_with fail
  refine M.mono ?_
  rintro r w2 ⟨rfl, b2⟩
  have B2 := btr b0 b2
  clear b0 b2 M
  go_wp2_with fail
  go_ret
  exact ⟨rfl, B2⟩
end Go.Proofs.YtcolecidbalmhaaGreatDoor
namespace Go.Proofs.YtcolecidbalmhaaGreatDoor
open Go.RowKit

theorem szR_neg {rs : List (List Int)} {L : Int} (h : szR rs L < 0) : szR rs L = -1 := by
  unfold szR at h ⊢
  split at h <;> rename_i h' <;> simp only [h', if_true, if_false] <;> omega
end Go.Proofs.YtcolecidbalmhaaGreatDoor
