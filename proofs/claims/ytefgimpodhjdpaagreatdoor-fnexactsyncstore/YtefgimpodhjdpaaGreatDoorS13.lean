/- Texts of this seat that several laws rest on, laid into one. Conditions: as each theorem states. -/
import Derived.Test.YtefgimpodhjdpaaGreatDoorS12
import Derived.DataShut
namespace Go.Proofs.YtefgimpodhjdpaaGreatDoor
open Go.RowKit
set_option maxRecDepth 100000
set_option linter.unusedVariables false

theorem Grid.upto {w : World} {B : Nat} {a : Option Addr} {len cap : Nat} {zss : List (List Int)} (h : Grid w B a len cap zss) (n : Nat) (hn : n ≤ len) : Grid w B a n cap (zss.take n) :=
  ⟨by rw [List.length_take, h.length]; omega, Nat.le_trans hn h.fits, h.most, fun hp => by
    obtain ⟨b, off, e, hb, hc⟩ := h.cells (by omega)
    refine ⟨b, off, e, hb, fun j hj => ?_⟩
    obtain ⟨a', n', c', h1, h2⟩ := hc j (by omega)
    refine ⟨a', n', c', h1, ?_⟩
    rw [List.getElem?_take_of_lt hj]
    exact h2⟩
theorem i64_top {x : Int} (h : (Lit.int .i64 x).wf = true) : x ≤ 9223372036854775807 := by
  have := ((Lit.wf_int_iff .i64 x).1 h).2
  rw [IntKind.max_i64] at this
  exact this
theorem l1Min_any (a b : Int) (w : World) : Calls Tryz.prog 84 #[.int .i64 a, .int .i64 b] w fun e w' => e = .returned (.int .i64 (if a < b then a else b)) ∧ w = w' := by
  by_cases h : a < b
  · rw [if_pos h]
    go_enter Tryz.func84, Tryz.ntmps84
    go_wp2_with fail
    go_ret
    exact ⟨rfl, rfl⟩
  · rw [if_neg h]
    go_enter Tryz.func84, Tryz.ntmps84
    go_wp2_with fail
    go_ret
    exact ⟨rfl, rfl⟩
set_option maxHeartbeats 1000000 in
theorem specSyncStore_any (a1 : Option Addr) (n1 c1 : Nat) (a2 : Option Addr) (n2 c2 B : Nat) (s : StoreD) (w : World) (hR : SRow w B a1 n1 c1 a2 n2 c2 s) (hB : B ≤ w.heap.size) :
    Calls Tryz.prog 24 #[S3 a1 n1 c1 a2 n2 c2 s.d.s] w (StoreRes (storeF s) (syncS s) w) := by
  obtain ⟨b0, A0, R0⟩ := begin9 a1 n1 c1 a2 n2 c2 B s w hR hB
  have HR0 := Lib.hid R0
  have HA0 := Lib.hid A0
  have HB0 := Lib.hid b0
  have hRw := hR.wf
  have HR := Lib.hid (fun (w' : World) (h : Below w.heap.size w w') => hR.below (h.mono hB))
  have F0 := l9Fault_any w.heap.size a1 n1 c1 a2 n2 c2 B s _ ⟨A0, hR.below (b0.mono hB)⟩ (Nat.le_trans hB b0.size)
  clear A0 R0 b0
  by_cases h0 : storeF s = 0
  case neg =>
    rw [syncS_no h0]
    generalize storeF s = cd at *
    have q9 : (cd != 0) = true := by simpa using h0
    have q8 : decide (cd = 0) = false := by simpa using h0
    clear HR hR
    go_enter Tryz.func24, Tryz.ntmps24
    go_wp2_with fail
    generalize (w.alloc (.cells #[.slice a1 n1 c1, .slice a2 n2 c2, .int .i64 s.d.s] 29)).alloc (.cells #[.int .i64 0, .slice none 0 0, .slice none 0 0, .int .i64 0] 35) = W0 at *
    refine F0.mono ?_
    rintro r u1 ⟨rfl, b1⟩
    have B1 := Lib.hid (btr HB0.out b1)
    have R1 := Lib.hid (HR0.out.on b1)
    have A1 := Lib.hid (HA0.out.on b1)
    clear b1 F0 HB0 HR0 HA0
    go_wp2_with fail
    refine (l9Bad_any cd _).mono ?_
    rintro r u9 ⟨rfl, b9⟩
    have R9 := (R1.out).on b9
    have B9 := btr B1.out b9
    unfold zero9 at R9
    have q0 := R9.cell 0 _ rfl
    have q1 := R9.cell 1 _ rfl
    have q2 := R9.cell 2 _ rfl
    have q3 := R9.cell 3 _ rfl
    have f0 := R9.free 0 _ rfl
    have f1 := R9.free 1 _ rfl
    have f2 := R9.free 2 _ rfl
    have f3 := R9.free 3 _ rfl
    clear b9 R9
    go_wp2_with fail
    refine bodyPost_ret (v := V4 cd none 0 0 none 0 0 0) (by simp [results, Tryz.results24, go_sem, V4, q0, q1, q2, q3]) rfl ⟨none, 0, 0, none, 0, 0, rfl, SOwn.nil _ _ ?_, ?_⟩
    · exact Nat.le_trans B9.size (by simp [World.setCell])
    · exact (by (iterate 4 (refine bset ?_ (by dsimp only; omega) _)); exact B9)
  obtain ⟨hp4, -, -⟩ := pinsF_zero (storeF_pins h0)
  obtain ⟨h12, hlong, -, -⟩ := diskF_zero (openC_zero (storeF_zero h0).1).1
  have CP := Lib.hid (fun (w' : World) (h : Below w.heap.size w w') => l9Copy_any a1 n1 c1 a2 n2 c2 B s w' (HR.out w' h) (Nat.le_trans hB h.size) hp4 h12 hlong)
  have hn2 := hR.rs.length
  subst hn2
  have e : syncS s = ⟨s.ps, ⟨s.d.rs, s.d.rs.length⟩⟩ := by unfold syncS; rw [if_pos h0]
  rw [e, h0]
  rw [h0] at F0
  have hlen : s.d.rs.length ≤ 12 := h12
  clear h0 hp4 h12 hlong e HR hR hRw
  go_enter Tryz.func24, Tryz.ntmps24
  go_wp2_with fail
  generalize (w.alloc (.cells #[.slice a1 n1 c1, .slice a2 s.d.rs.length c2, .int .i64 s.d.s] 29)).alloc (.cells #[.int .i64 0, .slice none 0 0, .slice none 0 0, .int .i64 0] 35) = W0 at *
  refine F0.mono ?_
  rintro r u1 ⟨rfl, b1⟩
  have B1 := Lib.hid (btr HB0.out b1)
  have R1 := Lib.hid (HR0.out.on b1)
  have A1 := Lib.hid (HA0.out.on b1)
  clear b1 F0 HB0 HR0 HA0
  have d0 := A1.out.cell 0 _ rfl
  have d1 := A1.out.cell 1 _ rfl
  have d2 := A1.out.cell 2 _ rfl
  go_wp2_with fail
  refine (CP.out _ B1.out).mono ?_
  rintro r u2 ⟨a3, c3, a4, c4, rfl, SO, b2⟩
  have b3 := btr b2 (bal (Below.refl _ u2) (.cells #[.slice a3 s.ps.length c3, .slice a4 s.d.rs.length c4, .int .i64 s.d.s] 29))
  have P3 : At u2.heap.size [.slice a3 s.ps.length c3, .slice a4 s.d.rs.length c4, .int .i64 s.d.s] (u2.alloc (.cells #[.slice a3 s.ps.length c3, .slice a4 s.d.rs.length c4, .int .i64 s.d.s] 29)) := At.new u2 [.slice a3 s.ps.length c3, .slice a4 s.d.rs.length c4, .int .i64 s.d.s] 29
  have HSO := Lib.hid (SO.below (bal (Below.refl _ u2) (.cells #[.slice a3 s.ps.length c3, .slice a4 s.d.rs.length c4, .int .i64 s.d.s] 29)))
  have R3 := Lib.hid (R1.out.on b3)
  have A3 := Lib.hid (A1.out.on b3)
  have B3 := Lib.hid (btr B1.out b3)
  have hst2 : w.heap.size ≤ u2.heap.size := (btr B1.out b2).size
  have hlt1 : w.heap.size + 1 < u1.heap.size := R1.out.lt (by simp [zero9])
  have hlt2 : u1.heap.size ≤ u2.heap.size := b2.size
  have HP3 := Lib.hid P3
  clear d0 d1 d2 b2 b3 P3 SO R1 A1
  go_upto_region 5 with fail
  generalize u2.alloc (.cells #[.slice a3 s.ps.length c3, .slice a4 s.d.rs.length c4, .int .i64 s.d.s] 29) = W3 at *
  have d0 := A3.out.cell 0 _ rfl
  have d1 := A3.out.cell 1 _ rfl
  have d2 := A3.out.cell 2 _ rfl
  have p0 := HP3.out.cell 0 _ rfl
  have p1 := HP3.out.cell 1 _ rfl
  have p2 := HP3.out.cell 2 _ rfl
  have g0 := HP3.out.free 0 _ rfl
  have g1 := HP3.out.free 1 _ rfl
  have g2 := HP3.out.free 2 _ rfl
  go_upto_region 6 with fail
  have P4 : At u2.heap.size [.slice a3 s.ps.length c3, .slice a4 s.d.rs.length c4, .int .i64 s.d.rs.length] (W3.setCell ⟨u2.heap.size, 2, none⟩ (.int .i64 s.d.rs.length)) := by simpa using HP3.out.set 2 (.int .i64 s.d.rs.length)
  have R4 := R3.out.setB (p := ⟨u2.heap.size, 2, none⟩) (by show w.heap.size + 1 ≠ u2.heap.size; omega) (.int .i64 s.d.rs.length)
  have B4 : Below w.heap.size w (W3.setCell ⟨u2.heap.size, 2, none⟩ (.int .i64 s.d.rs.length)) := bset B3.out (by show w.heap.size ≤ u2.heap.size; omega) _
  have SO9 : SOwn (W3.setCell ⟨u2.heap.size, 2, none⟩ (.int .i64 s.d.rs.length)) u1.heap.size (W3.setCell ⟨u2.heap.size, 2, none⟩ (.int .i64 s.d.rs.length)).heap.size (.slice a3 s.ps.length c3) (.slice a4 s.d.rs.length c4) ⟨s.ps, ⟨s.d.rs, s.d.rs.length⟩⟩ := by
    have h := HSO.out.setCell (p := ⟨u2.heap.size, 2, none⟩) (.inr (Nat.le_refl _)) (.int .i64 s.d.rs.length)
    exact h.more h.top.2 (Nat.le_refl _)
  generalize W3.setCell ⟨u2.heap.size, 2, none⟩ (.int .i64 s.d.rs.length) = W4 at *
  have HS9 := Lib.hid (SO9.res (w := w) (r := w.heap.size + 1) hlt1 (by omega) (.int .i64 0) (.slice a3 s.ps.length c3) (.slice a4 s.d.rs.length c4) (.int .i64 s.d.rs.length))
  have HB4 := Lib.hid B4
  clear d0 d1 d2 p0 p1 p2 g0 g1 g2 SO9 HP3 R3 A3 B3 HSO
  have p0 := P4.cell 0 _ rfl
  have p1 := P4.cell 1 _ rfl
  have p2 := P4.cell 2 _ rfl
  unfold zero9 at R4
  have q0 := R4.cell 0 _ rfl
  have q1 := R4.cell 1 _ rfl
  have q2 := R4.cell 2 _ rfl
  have q3 := R4.cell 3 _ rfl
  have f0 := R4.free 0 _ rfl
  have f1 := R4.free 1 _ rfl
  have f2 := R4.free 2 _ rfl
  have f3 := R4.free 3 _ rfl
  clear P4 R4
  go_wp2_with fail
  refine bodyPost_ret (v := V4 0 a3 s.ps.length c3 a4 s.d.rs.length c4 s.d.rs.length) (by simp [results, Tryz.results24, go_sem, V4, q0, q1, q2, q3]) rfl ⟨a3, s.ps.length, c3, a4, s.d.rs.length, c4, rfl, HS9.out, ?_⟩
  exact (by (iterate 4 (refine bset ?_ (by dsimp only; omega) _)); exact HB4.out)
set_option maxHeartbeats 2000000 in
theorem specCrashStore_any (a1 : Option Addr) (n1 c1 : Nat) (a2 : Option Addr) (n2 c2 B : Nat) (s : StoreD) (k : Int) (w : World) (hR : SRow w B a1 n1 c1 a2 n2 c2 s) (hB : B ≤ w.heap.size) (hkm : k ≤ 9223372036854775807) :
    Calls Tryz.prog 31 #[S3 a1 n1 c1 a2 n2 c2 s.d.s, .int .i64 k] w (StoreRes (crashC s k) (crashS s k) w) := by
  obtain ⟨b0, A0, R0⟩ := begin9 a1 n1 c1 a2 n2 c2 B s w hR hB
  have HR0 := Lib.hid R0
  have HA0 := Lib.hid A0
  have HB0 := Lib.hid b0
  have hRw := hR.wf
  have HR := Lib.hid (fun (w' : World) (h : Below w.heap.size w w') => hR.below (h.mono hB))
  have F0 := l9Fault_any w.heap.size a1 n1 c1 a2 n2 c2 B s _ ⟨A0, hR.below (b0.mono hB)⟩ (Nat.le_trans hB b0.size)
  clear A0 R0 b0
  by_cases h0 : storeF s = 0
  case neg =>
    have ec := crashC_bad (k := k) h0
    rw [crashS_no (by rw [ec]; exact h0), ec]
    generalize storeF s = cd at *
    have q9 : (cd != 0) = true := by simpa using h0
    have q8 : decide (cd = 0) = false := by simpa using h0
    clear HR ec hR
    go_enter Tryz.func31, Tryz.ntmps31
    go_wp2_with fail
    generalize (w.alloc (.cells #[.slice a1 n1 c1, .slice a2 n2 c2, .int .i64 s.d.s] 29)).alloc (.cells #[.int .i64 0, .slice none 0 0, .slice none 0 0, .int .i64 0] 35) = W0 at *
    refine F0.mono ?_
    rintro r u1 ⟨rfl, b1⟩
    have B1 := Lib.hid (btr HB0.out b1)
    have R1 := Lib.hid (HR0.out.on b1)
    have A1 := Lib.hid (HA0.out.on b1)
    clear b1 F0 HB0 HR0 HA0
    go_wp2_with fail
    refine (l9Bad_any cd _).mono ?_
    rintro r u9 ⟨rfl, b9⟩
    have R9 := (R1.out).on b9
    have B9 := btr B1.out b9
    unfold zero9 at R9
    have q0 := R9.cell 0 _ rfl
    have q1 := R9.cell 1 _ rfl
    have q2 := R9.cell 2 _ rfl
    have q3 := R9.cell 3 _ rfl
    have f0 := R9.free 0 _ rfl
    have f1 := R9.free 1 _ rfl
    have f2 := R9.free 2 _ rfl
    have f3 := R9.free 3 _ rfl
    clear b9 R9
    go_wp2_with fail
    refine bodyPost_ret (v := V4 cd none 0 0 none 0 0 0) (by simp [results, Tryz.results31, go_sem, V4, q0, q1, q2, q3]) rfl ⟨none, 0, 0, none, 0, 0, rfl, SOwn.nil _ _ ?_, ?_⟩
    · exact Nat.le_trans B9.size (by simp [World.setCell])
    · exact (by (iterate 4 (refine bset ?_ (by dsimp only; omega) _)); exact B9)
  by_cases hk : k < 0
  · have ec := crashC_neg h0 hk
    rw [crashS_no (by rw [ec]; decide), ec]
    rw [h0] at F0
    clear HR ec hR
    go_enter Tryz.func31, Tryz.ntmps31
    go_wp2_with fail
    generalize (w.alloc (.cells #[.slice a1 n1 c1, .slice a2 n2 c2, .int .i64 s.d.s] 29)).alloc (.cells #[.int .i64 0, .slice none 0 0, .slice none 0 0, .int .i64 0] 35) = W0 at *
    refine F0.mono ?_
    rintro r u1 ⟨rfl, b1⟩
    have B1 := Lib.hid (btr HB0.out b1)
    have R1 := Lib.hid (HR0.out.on b1)
    have A1 := Lib.hid (HA0.out.on b1)
    clear b1 F0 HB0 HR0 HA0
    go_wp2_with fail
    refine (l9Bad_any 3 _).mono ?_
    rintro r u9 ⟨rfl, b9⟩
    have R9 := (R1.out).on b9
    have B9 := btr B1.out b9
    unfold zero9 at R9
    have q0 := R9.cell 0 _ rfl
    have q1 := R9.cell 1 _ rfl
    have q2 := R9.cell 2 _ rfl
    have q3 := R9.cell 3 _ rfl
    have f0 := R9.free 0 _ rfl
    have f1 := R9.free 1 _ rfl
    have f2 := R9.free 2 _ rfl
    have f3 := R9.free 3 _ rfl
    clear b9 R9
    go_wp2_with fail
    refine bodyPost_ret (v := V4 3 none 0 0 none 0 0 0) (by simp [results, Tryz.results31, go_sem, V4, q0, q1, q2, q3]) rfl ⟨none, 0, 0, none, 0, 0, rfl, SOwn.nil _ _ ?_, ?_⟩
    · exact Nat.le_trans B9.size (by simp [World.setCell])
    · exact (by (iterate 4 (refine bset ?_ (by dsimp only; omega) _)); exact B9)
  have hk0 : 0 ≤ k := by omega
  obtain ⟨h12, hlong, hd0, hd1⟩ := diskF_zero (openC_zero (storeF_zero h0).1).1
  obtain ⟨m, hm, hml, -, e1, e2⟩ := crash_open h0 hk0
  rw [crashC_yes h0 hk]
  rw [h0] at F0
  have hn2 := hR.rs.length
  subst hn2
  have hwt : ∀ zs ∈ s.d.rs.take m, ∀ z ∈ zs, (Lit.int .u8 z).wf = true := fun zs hz => hRw zs (List.mem_of_mem_take hz)
  have od := fun (w' : World) (hb : Below w.heap.size w w') (t : Int) (tn : Nat) (ht : t = m) (htn : tn = m) => (show Calls Tryz.prog 37 #[.agg #[.slice a2 tn c2, .int .i64 t]] w' (StoreRes (openC ⟨s.d.rs.take m, m⟩) (openS ⟨s.d.rs.take m, m⟩) w') from by rw [ht, htn]; exact specOpenDisk_any a2 m c2 B (s.d.rs.take m) m w' ((HR.out w' hb).rs.upto m hml) (Nat.le_trans hB hb.size) hwt)
  rw [e1, e2] at od
  have OD := Lib.hid od
  have hsy : (crashS s k).d.s = m := by
    have := (crash_ok (crashC_yes h0 hk)).d
    rw [this, hm]; rfl
  have hfit := hR.rs.fits
  have hmost := hR.rs.most
  unfold maxLen at hmost
  have hlen : s.d.rs.length ≤ 12 := h12
  have hs0 : 0 ≤ s.d.s := hd0
  have hs1 : s.d.s ≤ s.d.rs.length := hd1
  have ME : (if k < (s.d.rs.length : Int) - s.d.s then k else (s.d.rs.length : Int) - s.d.s) = m - s.d.s := by
    unfold leftN at hm
    split at hm <;> split <;> omega
  have MI := Lib.hid (fun w' => ME ▸ l1Min_any k ((s.d.rs.length : Int) - s.d.s) w')
  unfold StoreRes at OD
  clear od h12 hlong e1 e2 hRw h0 hwt hd0 hd1 hsy hm ME HR hR
  generalize crashS s k = S at *
  go_enter Tryz.func31, Tryz.ntmps31
  go_wp2_with fail
  generalize (w.alloc (.cells #[.slice a1 n1 c1, .slice a2 s.d.rs.length c2, .int .i64 s.d.s] 29)).alloc (.cells #[.int .i64 0, .slice none 0 0, .slice none 0 0, .int .i64 0] 35) = W0 at *
  refine F0.mono ?_
  rintro r u1 ⟨rfl, b1⟩
  have B1 := Lib.hid (btr HB0.out b1)
  have R1 := Lib.hid (HR0.out.on b1)
  have A1 := Lib.hid (HA0.out.on b1)
  clear b1 F0 HB0 HR0 HA0
  have d0 := A1.out.cell 0 _ rfl
  have d1 := A1.out.cell 1 _ rfl
  have d2 := A1.out.cell 2 _ rfl
  go_wp2_with fail
  refine wp_region_line (Bel u1) [(0, true), (1, true), (2, true), (3, true), (4, true), (5, true), (6, true), (7, true), (8, true), (9, true), (10, true), (11, true), (12, false), (13, true), (14, true)] (by kernel_rfl) (by kernel_rfl) (fun _ _ d _ _ h => by cases d <;> exact h) (Bel.drew u1) ?_
  have hst := Bel.drew u1
  have inst : Nonempty (Of (Bel u1)) := ⟨⟨_, hst⟩⟩
  have v0 := bel_cell d0
  have v1 := bel_cell d1
  have v2 := bel_cell d2
  generalize u1.drew = V1 at *
  iterate 12 (refine line_read rfl (by kernel_rfl) (fun K hK => ?_); go_big_quiet_op; refine hK _ ?_; clear hK K)
  refine line_alone rfl (by kernel_rfl) (fun K hK => ?_)
  refine call_wp (args := #[.int .i64 k, .int .i64 ((s.d.rs.length : Int) - s.d.s)]) rfl (by kernel_rfl) (by kernel_rfl) (MI.out _) (fun wn hbn => ?_)
  subst hbn
  refine hK _ _ hst ?_
  clear hK K
  simp only [Act.put, List.setIfInBounds_toArray, List.set_cons_zero, List.set_cons_succ]
  iterate 2 (refine line_read rfl (by kernel_rfl) (fun K hK => ?_); go_big_quiet_op; refine hK _ ?_; clear hK K)
  refine line_nil ?_
  have A2 := Lib.hid (A1.out.on hst.out)
  have R2 := Lib.hid (R1.out.on hst.out)
  have B2 := Lib.hid (btr B1.out hst.out)
  clear hst inst v0 v1 v2 d0 d1 d2 A1 R1 B1
  have d0 := A2.out.cell 0 _ rfl
  have d1 := A2.out.cell 1 _ rfl
  have d2 := A2.out.cell 2 _ rfl
  go_wp2_with fail
  refine (OD.out _ B2.out _ _ (by omega) (by omega)).mono ?_
  rintro r u9 ⟨a3, n3, c3, a4, n4, c4, rfl, SO9, b9⟩
  have R9 := (R2.out).on b9
  have B9 := btr (B2.out) b9
  have HS9 := Lib.hid (SO9.res (w := w) (r := w.heap.size + 1) (by have := (R2.out).lt (by decide); exact this) (B2.out).size (.int .i64 0) (.slice a3 n3 c3) (.slice a4 n4 c4) (.int .i64 S.d.s))
  unfold zero9 at R9
  have q0 := R9.cell 0 _ rfl
  have q1 := R9.cell 1 _ rfl
  have q2 := R9.cell 2 _ rfl
  have q3 := R9.cell 3 _ rfl
  have f0 := R9.free 0 _ rfl
  have f1 := R9.free 1 _ rfl
  have f2 := R9.free 2 _ rfl
  have f3 := R9.free 3 _ rfl
  clear R9 b9 SO9
  go_wp2_with fail
  refine bodyPost_ret (v := V4 0 a3 n3 c3 a4 n4 c4 S.d.s) (by simp [results, Tryz.results31, go_sem, V4, q0, q1, q2, q3]) rfl ⟨a3, n3, c3, a4, n4, c4, rfl, HS9.out, ?_⟩
  exact (by (iterate 4 (refine bset ?_ (by dsimp only; omega) _)); exact B9)
end Go.Proofs.YtefgimpodhjdpaaGreatDoor
