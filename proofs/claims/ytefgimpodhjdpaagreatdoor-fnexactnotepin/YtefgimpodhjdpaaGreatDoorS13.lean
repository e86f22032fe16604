/- Texts of this seat that several laws rest on, laid into one. Conditions: as each theorem states. -/
import Derived.Test.YtefgimpodhjdpaaGreatDoorS11
import Derived.Test.YtefgimpodhjdpaaGreatDoorS12
import Derived.DataShut
import Derived.Defers
namespace Go.Proofs.YtefgimpodhjdpaaGreatDoor
open Go.RowKit
set_option maxRecDepth 100000
set_option linter.unusedVariables false

theorem Grid.upto {w : World} {B : Nat} {a : Option Addr} {len cap : Nat} {zss : List (List Int)} (h : Grid w B a len cap zss) (n : Nat) (hn : n ≤ len) : Grid w B a n cap (zss.take n) :=
  ⟨by rw [List.length_take, h.length]; omega, Nat.le_trans hn h.fits, h.most, fun hp => by
    obtain ⟨b, off, e, hb, hc⟩ := h.cells (by omega)
    refine ⟨b, off, e, hb, fun j hj => ?_⟩
    obtain ⟨a', n', c', h1, h2⟩ := hc j (by omega)
    refine ⟨a', n', c', h1, ?_⟩
    rw [List.getElem?_take_of_lt hj]
    exact h2⟩
theorem i64_top {x : Int} (h : (Lit.int .i64 x).wf = true) : x ≤ 9223372036854775807 := by
  have := ((Lit.wf_int_iff .i64 x).1 h).2
  rw [IntKind.max_i64] at this
  exact this
theorem l1Min_any (a b : Int) (w : World) : Calls Tryz.prog 84 #[.int .i64 a, .int .i64 b] w fun e w' => e = .returned (.int .i64 (if a < b then a else b)) ∧ w = w' := by
  by_cases h : a < b
  · rw [if_pos h]
    go_enter Tryz.func84, Tryz.ntmps84
    go_wp2_with fail
    go_ret
    exact ⟨rfl, rfl⟩
  · rw [if_neg h]
    go_enter Tryz.func84, Tryz.ntmps84
    go_wp2_with fail
    go_ret
    exact ⟨rfl, rfl⟩
set_option maxHeartbeats 1000000 in
theorem specSyncStore_any (a1 : Option Addr) (n1 c1 : Nat) (a2 : Option Addr) (n2 c2 B : Nat) (s : StoreD) (w : World) (hR : SRow w B a1 n1 c1 a2 n2 c2 s) (hB : B ≤ w.heap.size) :
    Calls Tryz.prog 24 #[S3 a1 n1 c1 a2 n2 c2 s.d.s] w (StoreRes (storeF s) (syncS s) w) := by
  obtain ⟨b0, A0, R0⟩ := begin9 a1 n1 c1 a2 n2 c2 B s w hR hB
  have HR0 := Lib.hid R0
  have HA0 := Lib.hid A0
  have HB0 := Lib.hid b0
  have hRw := hR.wf
  have HR := Lib.hid (fun (w' : World) (h : Below w.heap.size w w') => hR.below (h.mono hB))
  have F0 := l9Fault_any w.heap.size a1 n1 c1 a2 n2 c2 B s _ ⟨A0, hR.below (b0.mono hB)⟩ (Nat.le_trans hB b0.size)
  clear A0 R0 b0
  by_cases h0 : storeF s = 0
  case neg =>
    rw [syncS_no h0]
    generalize storeF s = cd at *
    have q9 : (cd != 0) = true := by simpa using h0
    have q8 : decide (cd = 0) = false := by simpa using h0
    clear HR hR
    go_enter Tryz.func24, Tryz.ntmps24
    go_wp2_with fail
    generalize (w.alloc (.cells #[.slice a1 n1 c1, .slice a2 n2 c2, .int .i64 s.d.s] 29)).alloc (.cells #[.int .i64 0, .slice none 0 0, .slice none 0 0, .int .i64 0] 35) = W0 at *
    refine F0.mono ?_
    rintro r u1 ⟨rfl, b1⟩
    have B1 := Lib.hid (btr HB0.out b1)
    have R1 := Lib.hid (HR0.out.on b1)
    have A1 := Lib.hid (HA0.out.on b1)
    clear b1 F0 HB0 HR0 HA0
    go_wp2_with fail
    refine (l9Bad_any cd _).mono ?_
    rintro r u9 ⟨rfl, b9⟩
    have R9 := (R1.out).on b9
    have B9 := btr B1.out b9
    unfold zero9 at R9
    have q0 := R9.cell 0 _ rfl
    have q1 := R9.cell 1 _ rfl
    have q2 := R9.cell 2 _ rfl
    have q3 := R9.cell 3 _ rfl
    have f0 := R9.free 0 _ rfl
    have f1 := R9.free 1 _ rfl
    have f2 := R9.free 2 _ rfl
    have f3 := R9.free 3 _ rfl
    clear b9 R9
    go_wp2_with fail
    refine bodyPost_ret (v := V4 cd none 0 0 none 0 0 0) (by simp [results, Tryz.results24, go_sem, V4, q0, q1, q2, q3]) rfl ⟨none, 0, 0, none, 0, 0, rfl, SOwn.nil _ _ ?_, ?_⟩
    · exact Nat.le_trans B9.size (by simp [World.setCell])
    · exact (by (iterate 4 (refine bset ?_ (by dsimp only; omega) _)); exact B9)
  obtain ⟨hp4, -, -⟩ := pinsF_zero (storeF_pins h0)
  obtain ⟨h12, hlong, -, -⟩ := diskF_zero (openC_zero (storeF_zero h0).1).1
  have CP := Lib.hid (fun (w' : World) (h : Below w.heap.size w w') => l9Copy_any a1 n1 c1 a2 n2 c2 B s w' (HR.out w' h) (Nat.le_trans hB h.size) hp4 h12 hlong)
  have hn2 := hR.rs.length
  subst hn2
  have e : syncS s = ⟨s.ps, ⟨s.d.rs, s.d.rs.length⟩⟩ := by unfold syncS; rw [if_pos h0]
  rw [e, h0]
  rw [h0] at F0
  have hlen : s.d.rs.length ≤ 12 := h12
  clear h0 hp4 h12 hlong e HR hR hRw
  go_enter Tryz.func24, Tryz.ntmps24
  go_wp2_with fail
  generalize (w.alloc (.cells #[.slice a1 n1 c1, .slice a2 s.d.rs.length c2, .int .i64 s.d.s] 29)).alloc (.cells #[.int .i64 0, .slice none 0 0, .slice none 0 0, .int .i64 0] 35) = W0 at *
  refine F0.mono ?_
  rintro r u1 ⟨rfl, b1⟩
  have B1 := Lib.hid (btr HB0.out b1)
  have R1 := Lib.hid (HR0.out.on b1)
  have A1 := Lib.hid (HA0.out.on b1)
  clear b1 F0 HB0 HR0 HA0
  have d0 := A1.out.cell 0 _ rfl
  have d1 := A1.out.cell 1 _ rfl
  have d2 := A1.out.cell 2 _ rfl
  go_wp2_with fail
  refine (CP.out _ B1.out).mono ?_
  rintro r u2 ⟨a3, c3, a4, c4, rfl, SO, b2⟩
  have b3 := btr b2 (bal (Below.refl _ u2) (.cells #[.slice a3 s.ps.length c3, .slice a4 s.d.rs.length c4, .int .i64 s.d.s] 29))
  have P3 : At u2.heap.size [.slice a3 s.ps.length c3, .slice a4 s.d.rs.length c4, .int .i64 s.d.s] (u2.alloc (.cells #[.slice a3 s.ps.length c3, .slice a4 s.d.rs.length c4, .int .i64 s.d.s] 29)) := At.new u2 [.slice a3 s.ps.length c3, .slice a4 s.d.rs.length c4, .int .i64 s.d.s] 29
  have HSO := Lib.hid (SO.below (bal (Below.refl _ u2) (.cells #[.slice a3 s.ps.length c3, .slice a4 s.d.rs.length c4, .int .i64 s.d.s] 29)))
  have R3 := Lib.hid (R1.out.on b3)
  have A3 := Lib.hid (A1.out.on b3)
  have B3 := Lib.hid (btr B1.out b3)
  have hst2 : w.heap.size ≤ u2.heap.size := (btr B1.out b2).size
  have hlt1 : w.heap.size + 1 < u1.heap.size := R1.out.lt (by simp [zero9])
  have hlt2 : u1.heap.size ≤ u2.heap.size := b2.size
  have HP3 := Lib.hid P3
  clear d0 d1 d2 b2 b3 P3 SO R1 A1
  go_upto_region 5 with fail
  generalize u2.alloc (.cells #[.slice a3 s.ps.length c3, .slice a4 s.d.rs.length c4, .int .i64 s.d.s] 29) = W3 at *
  have d0 := A3.out.cell 0 _ rfl
  have d1 := A3.out.cell 1 _ rfl
  have d2 := A3.out.cell 2 _ rfl
  have p0 := HP3.out.cell 0 _ rfl
  have p1 := HP3.out.cell 1 _ rfl
  have p2 := HP3.out.cell 2 _ rfl
  have g0 := HP3.out.free 0 _ rfl
  have g1 := HP3.out.free 1 _ rfl
  have g2 := HP3.out.free 2 _ rfl
  go_upto_region 6 with fail
  have P4 : At u2.heap.size [.slice a3 s.ps.length c3, .slice a4 s.d.rs.length c4, .int .i64 s.d.rs.length] (W3.setCell ⟨u2.heap.size, 2, none⟩ (.int .i64 s.d.rs.length)) := by simpa using HP3.out.set 2 (.int .i64 s.d.rs.length)
  have R4 := R3.out.setB (p := ⟨u2.heap.size, 2, none⟩) (by show w.heap.size + 1 ≠ u2.heap.size; omega) (.int .i64 s.d.rs.length)
  have B4 : Below w.heap.size w (W3.setCell ⟨u2.heap.size, 2, none⟩ (.int .i64 s.d.rs.length)) := bset B3.out (by show w.heap.size ≤ u2.heap.size; omega) _
  have SO9 : SOwn (W3.setCell ⟨u2.heap.size, 2, none⟩ (.int .i64 s.d.rs.length)) u1.heap.size (W3.setCell ⟨u2.heap.size, 2, none⟩ (.int .i64 s.d.rs.length)).heap.size (.slice a3 s.ps.length c3) (.slice a4 s.d.rs.length c4) ⟨s.ps, ⟨s.d.rs, s.d.rs.length⟩⟩ := by
    have h := HSO.out.setCell (p := ⟨u2.heap.size, 2, none⟩) (.inr (Nat.le_refl _)) (.int .i64 s.d.rs.length)
    exact h.more h.top.2 (Nat.le_refl _)
  generalize W3.setCell ⟨u2.heap.size, 2, none⟩ (.int .i64 s.d.rs.length) = W4 at *
  have HS9 := Lib.hid (SO9.res (w := w) (r := w.heap.size + 1) hlt1 (by omega) (.int .i64 0) (.slice a3 s.ps.length c3) (.slice a4 s.d.rs.length c4) (.int .i64 s.d.rs.length))
  have HB4 := Lib.hid B4
  clear d0 d1 d2 p0 p1 p2 g0 g1 g2 SO9 HP3 R3 A3 B3 HSO
  have p0 := P4.cell 0 _ rfl
  have p1 := P4.cell 1 _ rfl
  have p2 := P4.cell 2 _ rfl
  unfold zero9 at R4
  have q0 := R4.cell 0 _ rfl
  have q1 := R4.cell 1 _ rfl
  have q2 := R4.cell 2 _ rfl
  have q3 := R4.cell 3 _ rfl
  have f0 := R4.free 0 _ rfl
  have f1 := R4.free 1 _ rfl
  have f2 := R4.free 2 _ rfl
  have f3 := R4.free 3 _ rfl
  clear P4 R4
  go_wp2_with fail
  refine bodyPost_ret (v := V4 0 a3 s.ps.length c3 a4 s.d.rs.length c4 s.d.rs.length) (by simp [results, Tryz.results24, go_sem, V4, q0, q1, q2, q3]) rfl ⟨a3, s.ps.length, c3, a4, s.d.rs.length, c4, rfl, HS9.out, ?_⟩
  exact (by (iterate 4 (refine bset ?_ (by dsimp only; omega) _)); exact HB4.out)
set_option maxHeartbeats 2000000 in
theorem specCrashStore_any (a1 : Option Addr) (n1 c1 : Nat) (a2 : Option Addr) (n2 c2 B : Nat) (s : StoreD) (k : Int) (w : World) (hR : SRow w B a1 n1 c1 a2 n2 c2 s) (hB : B ≤ w.heap.size) (hkm : k ≤ 9223372036854775807) :
    Calls Tryz.prog 31 #[S3 a1 n1 c1 a2 n2 c2 s.d.s, .int .i64 k] w (StoreRes (crashC s k) (crashS s k) w) := by
  obtain ⟨b0, A0, R0⟩ := begin9 a1 n1 c1 a2 n2 c2 B s w hR hB
  have HR0 := Lib.hid R0
  have HA0 := Lib.hid A0
  have HB0 := Lib.hid b0
  have hRw := hR.wf
  have HR := Lib.hid (fun (w' : World) (h : Below w.heap.size w w') => hR.below (h.mono hB))
  have F0 := l9Fault_any w.heap.size a1 n1 c1 a2 n2 c2 B s _ ⟨A0, hR.below (b0.mono hB)⟩ (Nat.le_trans hB b0.size)
  clear A0 R0 b0
  by_cases h0 : storeF s = 0
  case neg =>
    have ec := crashC_bad (k := k) h0
    rw [crashS_no (by rw [ec]; exact h0), ec]
    generalize storeF s = cd at *
    have q9 : (cd != 0) = true := by simpa using h0
    have q8 : decide (cd = 0) = false := by simpa using h0
    clear HR ec hR
    go_enter Tryz.func31, Tryz.ntmps31
    go_wp2_with fail
    generalize (w.alloc (.cells #[.slice a1 n1 c1, .slice a2 n2 c2, .int .i64 s.d.s] 29)).alloc (.cells #[.int .i64 0, .slice none 0 0, .slice none 0 0, .int .i64 0] 35) = W0 at *
    refine F0.mono ?_
    rintro r u1 ⟨rfl, b1⟩
    have B1 := Lib.hid (btr HB0.out b1)
    have R1 := Lib.hid (HR0.out.on b1)
    have A1 := Lib.hid (HA0.out.on b1)
    clear b1 F0 HB0 HR0 HA0
    go_wp2_with fail
    refine (l9Bad_any cd _).mono ?_
    rintro r u9 ⟨rfl, b9⟩
    have R9 := (R1.out).on b9
    have B9 := btr B1.out b9
    unfold zero9 at R9
    have q0 := R9.cell 0 _ rfl
    have q1 := R9.cell 1 _ rfl
    have q2 := R9.cell 2 _ rfl
    have q3 := R9.cell 3 _ rfl
    have f0 := R9.free 0 _ rfl
    have f1 := R9.free 1 _ rfl
    have f2 := R9.free 2 _ rfl
    have f3 := R9.free 3 _ rfl
    clear b9 R9
    go_wp2_with fail
    refine bodyPost_ret (v := V4 cd none 0 0 none 0 0 0) (by simp [results, Tryz.results31, go_sem, V4, q0, q1, q2, q3]) rfl ⟨none, 0, 0, none, 0, 0, rfl, SOwn.nil _ _ ?_, ?_⟩
    · exact Nat.le_trans B9.size (by simp [World.setCell])
    · exact (by (iterate 4 (refine bset ?_ (by dsimp only; omega) _)); exact B9)
  by_cases hk : k < 0
  · have ec := crashC_neg h0 hk
    rw [crashS_no (by rw [ec]; decide), ec]
    rw [h0] at F0
    clear HR ec hR
    go_enter Tryz.func31, Tryz.ntmps31
    go_wp2_with fail
    generalize (w.alloc (.cells #[.slice a1 n1 c1, .slice a2 n2 c2, .int .i64 s.d.s] 29)).alloc (.cells #[.int .i64 0, .slice none 0 0, .slice none 0 0, .int .i64 0] 35) = W0 at *
    refine F0.mono ?_
    rintro r u1 ⟨rfl, b1⟩
    have B1 := Lib.hid (btr HB0.out b1)
    have R1 := Lib.hid (HR0.out.on b1)
    have A1 := Lib.hid (HA0.out.on b1)
    clear b1 F0 HB0 HR0 HA0
    go_wp2_with fail
    refine (l9Bad_any 3 _).mono ?_
    rintro r u9 ⟨rfl, b9⟩
    have R9 := (R1.out).on b9
    have B9 := btr B1.out b9
    unfold zero9 at R9
    have q0 := R9.cell 0 _ rfl
    have q1 := R9.cell 1 _ rfl
    have q2 := R9.cell 2 _ rfl
    have q3 := R9.cell 3 _ rfl
    have f0 := R9.free 0 _ rfl
    have f1 := R9.free 1 _ rfl
    have f2 := R9.free 2 _ rfl
    have f3 := R9.free 3 _ rfl
    clear b9 R9
    go_wp2_with fail
    refine bodyPost_ret (v := V4 3 none 0 0 none 0 0 0) (by simp [results, Tryz.results31, go_sem, V4, q0, q1, q2, q3]) rfl ⟨none, 0, 0, none, 0, 0, rfl, SOwn.nil _ _ ?_, ?_⟩
    · exact Nat.le_trans B9.size (by simp [World.setCell])
    · exact (by (iterate 4 (refine bset ?_ (by dsimp only; omega) _)); exact B9)
  have hk0 : 0 ≤ k := by omega
  obtain ⟨h12, hlong, hd0, hd1⟩ := diskF_zero (openC_zero (storeF_zero h0).1).1
  obtain ⟨m, hm, hml, -, e1, e2⟩ := crash_open h0 hk0
  rw [crashC_yes h0 hk]
  rw [h0] at F0
  have hn2 := hR.rs.length
  subst hn2
  have hwt : ∀ zs ∈ s.d.rs.take m, ∀ z ∈ zs, (Lit.int .u8 z).wf = true := fun zs hz => hRw zs (List.mem_of_mem_take hz)
  have od := fun (w' : World) (hb : Below w.heap.size w w') (t : Int) (tn : Nat) (ht : t = m) (htn : tn = m) => (show Calls Tryz.prog 37 #[.agg #[.slice a2 tn c2, .int .i64 t]] w' (StoreRes (openC ⟨s.d.rs.take m, m⟩) (openS ⟨s.d.rs.take m, m⟩) w') from by rw [ht, htn]; exact specOpenDisk_any a2 m c2 B (s.d.rs.take m) m w' ((HR.out w' hb).rs.upto m hml) (Nat.le_trans hB hb.size) hwt)
  rw [e1, e2] at od
  have OD := Lib.hid od
  have hsy : (crashS s k).d.s = m := by
    have := (crash_ok (crashC_yes h0 hk)).d
    rw [this, hm]; rfl
  have hfit := hR.rs.fits
  have hmost := hR.rs.most
  unfold maxLen at hmost
  have hlen : s.d.rs.length ≤ 12 := h12
  have hs0 : 0 ≤ s.d.s := hd0
  have hs1 : s.d.s ≤ s.d.rs.length := hd1
  have ME : (if k < (s.d.rs.length : Int) - s.d.s then k else (s.d.rs.length : Int) - s.d.s) = m - s.d.s := by
    unfold leftN at hm
    split at hm <;> split <;> omega
  have MI := Lib.hid (fun w' => ME ▸ l1Min_any k ((s.d.rs.length : Int) - s.d.s) w')
  unfold StoreRes at OD
  clear od h12 hlong e1 e2 hRw h0 hwt hd0 hd1 hsy hm ME HR hR
  generalize crashS s k = S at *
  go_enter Tryz.func31, Tryz.ntmps31
  go_wp2_with fail
  generalize (w.alloc (.cells #[.slice a1 n1 c1, .slice a2 s.d.rs.length c2, .int .i64 s.d.s] 29)).alloc (.cells #[.int .i64 0, .slice none 0 0, .slice none 0 0, .int .i64 0] 35) = W0 at *
  refine F0.mono ?_
  rintro r u1 ⟨rfl, b1⟩
  have B1 := Lib.hid (btr HB0.out b1)
  have R1 := Lib.hid (HR0.out.on b1)
  have A1 := Lib.hid (HA0.out.on b1)
  clear b1 F0 HB0 HR0 HA0
  have d0 := A1.out.cell 0 _ rfl
  have d1 := A1.out.cell 1 _ rfl
  have d2 := A1.out.cell 2 _ rfl
  go_wp2_with fail
  refine wp_region_line (Bel u1) [(0, true), (1, true), (2, true), (3, true), (4, true), (5, true), (6, true), (7, true), (8, true), (9, true), (10, true), (11, true), (12, false), (13, true), (14, true)] (by kernel_rfl) (by kernel_rfl) (fun _ _ d _ _ h => by cases d <;> exact h) (Bel.drew u1) ?_
  have hst := Bel.drew u1
  have inst : Nonempty (Of (Bel u1)) := ⟨⟨_, hst⟩⟩
  have v0 := bel_cell d0
  have v1 := bel_cell d1
  have v2 := bel_cell d2
  generalize u1.drew = V1 at *
  iterate 12 (refine line_read rfl (by kernel_rfl) (fun K hK => ?_); go_big_quiet_op; refine hK _ ?_; clear hK K)
  refine line_alone rfl (by kernel_rfl) (fun K hK => ?_)
  refine call_wp (args := #[.int .i64 k, .int .i64 ((s.d.rs.length : Int) - s.d.s)]) rfl (by kernel_rfl) (by kernel_rfl) (MI.out _) (fun wn hbn => ?_)
  subst hbn
  refine hK _ _ hst ?_
  clear hK K
  simp only [Act.put, List.setIfInBounds_toArray, List.set_cons_zero, List.set_cons_succ]
  iterate 2 (refine line_read rfl (by kernel_rfl) (fun K hK => ?_); go_big_quiet_op; refine hK _ ?_; clear hK K)
  refine line_nil ?_
  have A2 := Lib.hid (A1.out.on hst.out)
  have R2 := Lib.hid (R1.out.on hst.out)
  have B2 := Lib.hid (btr B1.out hst.out)
  clear hst inst v0 v1 v2 d0 d1 d2 A1 R1 B1
  have d0 := A2.out.cell 0 _ rfl
  have d1 := A2.out.cell 1 _ rfl
  have d2 := A2.out.cell 2 _ rfl
  go_wp2_with fail
  refine (OD.out _ B2.out _ _ (by omega) (by omega)).mono ?_
  rintro r u9 ⟨a3, n3, c3, a4, n4, c4, rfl, SO9, b9⟩
  have R9 := (R2.out).on b9
  have B9 := btr (B2.out) b9
  have HS9 := Lib.hid (SO9.res (w := w) (r := w.heap.size + 1) (by have := (R2.out).lt (by decide); exact this) (B2.out).size (.int .i64 0) (.slice a3 n3 c3) (.slice a4 n4 c4) (.int .i64 S.d.s))
  unfold zero9 at R9
  have q0 := R9.cell 0 _ rfl
  have q1 := R9.cell 1 _ rfl
  have q2 := R9.cell 2 _ rfl
  have q3 := R9.cell 3 _ rfl
  have f0 := R9.free 0 _ rfl
  have f1 := R9.free 1 _ rfl
  have f2 := R9.free 2 _ rfl
  have f3 := R9.free 3 _ rfl
  clear R9 b9 SO9
  go_wp2_with fail
  refine bodyPost_ret (v := V4 0 a3 n3 c3 a4 n4 c4 S.d.s) (by simp [results, Tryz.results31, go_sem, V4, q0, q1, q2, q3]) rfl ⟨a3, n3, c3, a4, n4, c4, rfl, HS9.out, ?_⟩
  exact (by (iterate 4 (refine bset ?_ (by dsimp only; omega) _)); exact B9)
end Go.Proofs.YtefgimpodhjdpaaGreatDoor
namespace Go.Proofs.YtefgimpodhjdpaaGreatDoor
open Go.RowKit
set_option maxRecDepth 100000
set_option linter.unusedVariables false

/-- Two blocks of cells and a journal. -/
structure Hold3 (W : World) (d : Nat) (dv : List Value) (r : Nat) (rv : List Value) (j : Nat) (J : List Value) (cur : World) : Prop where
  bel : Below W.heap.size W cur
  D : At d dv cur
  R : At r rv cur
  J : JB j J cur
section
variable {W cur cur' : World} {d r j : Nat} {dv rv J : List Value}
theorem Hold3.on (h : Hold3 W d dv r rv j J cur) (hb : Below cur.heap.size cur cur') : Hold3 W d dv r rv j J cur' := ⟨btr h.bel hb, h.D.on hb, h.R.on hb, h.J.on hb⟩
theorem Hold3.row (h : Hold3 W d dv r rv j J cur) (K : List Value) (h1 : d ≠ j) (h2 : r ≠ j) (h3 : W.heap.size ≤ j) : Hold3 W d dv r rv j K (cur.setRow j K.toArray) :=
  ⟨brow h.bel h3 _, h.D.keep fun _ => setRow_other cur j d _ h1, h.R.keep fun _ => setRow_other cur j r _ h2, h.J.row K⟩
theorem Hold.row {g : Nat} {cs : List Value} (h : Hold W g cs cur) (K : List Value) (h1 : g ≠ j) (h3 : W.heap.size ≤ j) : Hold W g cs (cur.setRow j K.toArray) :=
  ⟨brow h.bel h3 _, h.at'.keep fun _ => setRow_other cur j g _ h1⟩
end
theorem packS_no {s : StoreD} (h : storeF s ≠ 0) : packSt s = store0 := by unfold packSt; rw [if_neg h]
theorem pack_open {s : StoreD} (h : storeF s = 0) : openC ⟨s.ps.map recP, (s.ps.map recP).length⟩ = 0 ∧ openS ⟨s.ps.map recP, (s.ps.map recP).length⟩ = packSt s := by
  have hf := (pack_ok h).f
  have e : (packSt s).d = ⟨s.ps.map recP, (s.ps.map recP).length⟩ := by unfold packSt; rw [if_pos h, List.length_map]
  have h1 := (storeF_zero hf).1
  have h2 := openS_self hf
  rw [e] at h1 h2
  exact ⟨h1, h2⟩
set_option maxHeartbeats 2000000 in
theorem implPackStore_any (a1 : Option Addr) (n1 c1 : Nat) (a2 : Option Addr) (n2 c2 B : Nat) (s : StoreD) (w : World) (hR : SRow w B a1 n1 c1 a2 n2 c2 s) (hB : B ≤ w.heap.size) :
    Calls Tryz.prog 35 #[S3 a1 n1 c1 a2 n2 c2 s.d.s] w (StoreRes (storeF s) (packSt s) w) := by
  have hln := hR.ps.length
  have hfit := hR.ps.fits
  have hmost := hR.ps.most
  unfold maxLen at hmost
  obtain ⟨b0, A0, R0⟩ := begin9 a1 n1 c1 a2 n2 c2 B s w hR hB
  have HR0 := Lib.hid R0
  have HA0 := Lib.hid A0
  have HB0 := Lib.hid b0
  have hRw := hR.wf
  have HR := Lib.hid (fun (w' : World) (h : Below w.heap.size w w') => hR.below (h.mono hB))
  have F0 := implStoreFault_any a1 n1 c1 a2 n2 c2 B s _ (hR.below (b0.mono hB)) (Nat.le_trans hB b0.size)
  clear A0 R0 b0 hR
  by_cases h0 : storeF s = 0
  case neg =>
    rw [packS_no h0]
    generalize storeF s = cd at *
    have q9 : (cd != 0) = true := by simpa using h0
    have q8 : decide (cd = 0) = false := by simpa using h0
    clear HR
    have d0 := HA0.out.cell 0 _ rfl
    have d1 := HA0.out.cell 1 _ rfl
    have d2 := HA0.out.cell 2 _ rfl
    go_enter Tryz.func35, Tryz.ntmps35
    go_wp2_with fail
    generalize (w.alloc (.cells #[.slice a1 n1 c1, .slice a2 n2 c2, .int .i64 s.d.s] 29)).alloc (.cells #[.int .i64 0, .slice none 0 0, .slice none 0 0, .int .i64 0] 35) = W0 at *
    refine F0.mono ?_
    rintro r u1 ⟨rfl, b1⟩
    have B1 := Lib.hid (btr HB0.out b1)
    have R1 := Lib.hid (HR0.out.on b1)
    have A1 := Lib.hid (HA0.out.on b1)
    clear d0 d1 d2 b1 F0 HB0 HR0 HA0
    have R9 := (R1.out)
    have B9 := B1.out
    unfold zero9 at R9
    have q0 := R9.cell 0 _ rfl
    have q1 := R9.cell 1 _ rfl
    have q2 := R9.cell 2 _ rfl
    have q3 := R9.cell 3 _ rfl
    have f0 := R9.free 0 _ rfl
    have f1 := R9.free 1 _ rfl
    have f2 := R9.free 2 _ rfl
    have f3 := R9.free 3 _ rfl
    clear R9
    go_wp2_with fail
    refine bodyPost_ret (v := V4 cd none 0 0 none 0 0 0) (by simp [results, Tryz.results35, go_sem, V4, q0, q1, q2, q3]) rfl ⟨none, 0, 0, none, 0, 0, rfl, SOwn.nil _ _ ?_, ?_⟩
    · exact Nat.le_trans B9.size (by simp [World.setCell])
    · exact (by (iterate 4 (refine bset ?_ (by dsimp only; omega) _)); exact B9)
  obtain ⟨hp4, hpf, hpr⟩ := pinsF_zero (storeF_pins h0)
  obtain ⟨e1, e2⟩ := pack_open h0
  rw [h0] at F0 ⊢
  have hrl : (s.ps.map recP).length = n1 := by rw [List.length_map]; exact hln
  have hrk : ∀ k, k < n1 → (s.ps.map recP)[k]?.getD [] = recP (s.ps[k]?.getD pin0) := fun k hk => by
    rw [List.getElem?_map, List.getElem?_eq_getElem (by rw [hln]; exact hk)]; rfl
  have hrw : ∀ zs ∈ s.ps.map recP, ∀ z ∈ zs, (Lit.int .u8 z).wf = true := fun zs hz z hzz => by
    obtain ⟨p, hm, rfl⟩ := List.mem_map.1 hz
    exact byte_wf (recP_byte (hpf p hm) z hzz)
  have hlong : (s.ps.map recP).any longR = false := List.any_eq_false.2 fun r hr => by
    obtain ⟨p, hm, rfl⟩ := List.mem_map.1 hr
    rw [recP_short (hpf p hm)]
    simp
  have h12 : (s.ps.map recP).length ≤ 12 := by rw [hrl, ← hln]; omega
  have hsy : (packSt s).d.s = (s.ps.map recP).length := by unfold packSt; rw [if_pos h0, List.length_map]
  have hn4 : n1 ≤ 4 := by rw [← hln]; exact hp4
  have hpk : ∀ k, k < n1 → (s.ps[k]?.getD pin0).f = 0 := fun k hk => hpf _ (by rw [List.getElem?_eq_getElem (by rw [hln]; exact hk)]; exact List.getElem_mem _)
  generalize s.ps.map recP = rs2 at *
  have bg := fun (w' : World) => beginning_any rs2 rs2.length 0 rs2.length w'
  have dk := fun (w' : World) => disk_any rs2 rs2.length rs2.length w' (Nat.le_refl _) h12 hlong hrw
  simp only [← jall_def, List.take_length] at bg dk
  have BG := Lib.hid bg
  have DK := Lib.hid dk
  have od := fun (a : Option Addr) (n c : Nat) (w' : World) (h : Grid w' w'.heap.size a n c rs2) => implOpenDisk_any a n c w'.heap.size rs2 rs2.length w' h (Nat.le_refl _) hrw
  rw [e1, e2] at od
  have OD := Lib.hid od
  unfold StoreRes at OD
  have hz := (zero_of_info jour_info).1
  have hbu := jour_built
  rw [← jall_nil] at hz hbu
  have HW := Lib.hid hrw
  have HRL := Lib.hid hrl
  have HRK := Lib.hid hrk
  have HPK := Lib.hid hpk
  have HLG := Lib.hid hlong
  have HP := Lib.hid (fun (w' : World) (h : Below w.heap.size w w') => (HR.out w' h).ps)
  have HE := Lib.hid (And.intro (jall_fit [] 0) (jall_one [] 0))
  have HEQ := Lib.hid (show jall [] 0 = jall (rs2.take 0) 0 by rw [List.take_zero])
  clear bg dk od h12 hlong e1 e2 hrw h0 hp4 hpf hpr hrl hrk hpk hRw hsy
  generalize packSt s = S at *
  generalize hE : jall [] 0 = E at *
  have d0 := HA0.out.cell 0 _ rfl
  have d1 := HA0.out.cell 1 _ rfl
  have d2 := HA0.out.cell 2 _ rfl
  go_enter Tryz.func35, Tryz.ntmps35
  go_wp2_with fail
  generalize (w.alloc (.cells #[.slice a1 n1 c1, .slice a2 n2 c2, .int .i64 s.d.s] 29)).alloc (.cells #[.int .i64 0, .slice none 0 0, .slice none 0 0, .int .i64 0] 35) = W0 at *
  refine F0.mono ?_
  rintro r u1 ⟨rfl, b1⟩
  have B1 := Lib.hid (btr HB0.out b1)
  have R1 := Lib.hid (HR0.out.on b1)
  have A1 := Lib.hid (HA0.out.on b1)
  clear d0 d1 d2 b1 F0 HB0 HR0 HA0
  have d0 := A1.out.cell 0 _ rfl
  have d1 := A1.out.cell 1 _ rfl
  have d2 := A1.out.cell 2 _ rfl
  have lt1 := A1.out.lt (by simp [S3L])
  have lt2 := R1.out.lt (by simp [zero9])
  have sz1 := B1.out.size
  go_upto_region 5 with (first | (refine wpList_build rfl 94 #[] rfl (by rw [show ((#[] : Array (Nat × Operand)).map fun (i, x) => (i, Act.eval _ x)).toList = [] from rfl, hbu]; rfl) ?_) | (refine store_jour E E rfl (.tmp 4) (.tmp 13) rfl _ rfl rfl (JB.new u1 E) HE.out.1 rfl HE.out.2 ?_))
  have S1 := (Hold3.mk (W := w) (btr B1.out (bal (Below.refl _ u1) (.cells E.toArray 94))) (A1.out.alloc (.cells E.toArray 94)) (R1.out.on (bal (Below.refl _ u1) (.cells E.toArray 94))) (JB.new u1 E)).row E (by omega) (by omega) (by omega)
  generalize (u1.alloc (.cells E.toArray 94)).setRow u1.heap.size E.toArray = W1 at *
  have hj1 : w.heap.size ≠ u1.heap.size := by omega
  have hj2 : w.heap.size + 1 ≠ u1.heap.size := by omega
  have hj3 : w.heap.size ≤ u1.heap.size := by omega
  generalize u1.heap.size = j at *
  have HS1 := Lib.hid S1
  clear d0 d1 d2 S1 A1 R1 B1 hz hbu lt1 lt2 sz1
  have d0 := HS1.out.D.cell 0 _ rfl
  go_wp2_with fail
  go_loopw [17] (fun i wr => ∃ k : Nat, k ≤ n1 ∧ i = .int .i64 k ∧ Hold3 w w.heap.size (S3L a1 n1 c1 a2 n2 c2 s.d.s) (w.heap.size + 1) zero9 j (jall (rs2.take k) 0) wr) (fun i _ => n1 - (intOf i).toNat)
  case atStart => exact ⟨0, Nat.zero_le _, rfl, by rw [← HEQ.out]; exact HS1.out⟩
  case round =>
    obtain ⟨k, hk, rfl, hT⟩ := hrel
    clear HS1 d0
    by_cases hlt : k < n1
    · obtain ⟨b, off, ha, hbB, c0, c1', c2', c3, c4⟩ := (HP.out wr hT.bel).at' hlt
      subst ha
      have hlt2 : k < rs2.length := by rw [HRL.out]; exact hlt
      have htk := M.take_snoc rs2 [] k hlt2
      rw [HRK.out k hlt] at htk
      have hp0 := HPK.out k hlt
      have PR := Lib.hid (fun w' => pinRecord_any (s.ps[k]?.getD pin0) w' hp0)
      have HPW := Lib.hid (fun z hz => byte_wf (recP_byte hp0 z hz))
      have hp40 : (recP (s.ps[k]?.getD pin0)).length ≤ 40 := by have := recP_short hp0; simpa [longR] using this
      have hk12 : (rs2.take k).length < 12 := by rw [List.length_take]; omega
      have WA := Lib.hid (fun (a : Option Addr) (n c : Nat) (w' : World) (h : Row .u8 w' w'.heap.size a n c (recP (s.ps[k]?.getD pin0))) => withAll_any (rs2.take k) 0 (recP (s.ps[k]?.getD pin0)) a n c w'.heap.size w' h (Nat.le_refl _) hk12 (by rw [← h.length]; exact hp40))
      rw [← htk] at WA
      generalize s.ps[k]?.getD pin0 = p at *
      have HFJ := Lib.hid (jall_fit (rs2.take k) 0)
      have HFJ2 := Lib.hid (jall_fit (rs2.take (k + 1)) 0)
      have HOJ2 := Lib.hid (jall_old (rs2.take k) (rs2.take (k + 1)) 0 0)
      have H1J2 := Lib.hid (jall_one (rs2.take (k + 1)) 0)
      clear htk hp0 hp40 hk12 hlt2
      have hjq := hT.J.lt
      generalize jall (rs2.take k) 0 = J at *
      generalize hJ2 : jall (rs2.take (k + 1)) 0 = J2 at WA HFJ2 HOJ2 H1J2
      have HJ2 := Lib.hid hJ2
      clear hJ2
      have b1 := btr (bal (Below.refl _ wr) (.cells #[.string p.n, .int .i64 p.a, .int .i64 p.b, .int .i64 p.e, .int .i64 p.u] 31)) (bdrew _)
      have Q1 : At wr.heap.size p.vals (wr.alloc (.cells #[.string p.n, .int .i64 p.a, .int .i64 p.b, .int .i64 p.e, .int .i64 p.u] 31)) := At.new wr p.vals 31
      have H0 := Lib.hid (show Hold w wr.heap.size p.vals (wr.alloc (.cells #[.string p.n, .int .i64 p.a, .int .i64 p.b, .int .i64 p.e, .int .i64 p.u] 31)).drew from ⟨btr hT.bel b1, Q1.on (bdrew _)⟩)
      have HT1 := Lib.hid (hT.on b1)
      clear b1 Q1 hT
      go_wp2_with fail
      refine wp_region_fork (Hold w wr.heap.size p.vals) (by kernel_rfl) (H0.out) ?_
      have hst : (Hold w wr.heap.size p.vals) _ := (H0.out)
      have inst : Nonempty (Of (Hold w wr.heap.size p.vals)) := ⟨⟨_, hst⟩⟩
      have u0 := hold_cell (W := w) (g := wr.heap.size) (cs := p.vals) 0 _ rfl
      have u1 := hold_cell (W := w) (g := wr.heap.size) (cs := p.vals) 1 _ rfl
      have u2 := hold_cell (W := w) (g := wr.heap.size) (cs := p.vals) 2 _ rfl
      have u3 := hold_cell (W := w) (g := wr.heap.size) (cs := p.vals) 3 _ rfl
      have u4 := hold_cell (W := w) (g := wr.heap.size) (cs := p.vals) 4 _ rfl
      clear H0 c0 c1' c2' c3 c4
      generalize (wr.alloc (.cells #[.string p.n, .int .i64 p.a, .int .i64 p.b, .int .i64 p.e, .int .i64 p.u] 31)).drew = V1 at *
      generalize wr.heap.size = q at *
      refine any_seg 4 [(1, true)] (by kernel_rfl) (fun _ _ d _ _ h => by cases d <;> exact h) ?_
      iterate 1 (refine line_read rfl (by kernel_rfl) (fun K hK => ?_); go_big_quiet_op; refine hK _ ?_; clear hK K)
      refine line_nil ?_
      clear u0 u1 u2 u3 u4
      refine any_fork 0 2 (by kernel_rfl) rfl rfl (by kernel_rfl) (by kernel_rfl) (fun K hK => ?_) (fun K hK => ?_)
      · refine wp_load_row 94 (.tmp 4) rfl j rfl 94 J.toArray (0, 0) _ (HT1.out).J Tryz.underlying94 rfl HFJ.out ?_
        refine hK _ _ hst ?_
        clear hK K
        simp only [Act.put, List.setIfInBounds_toArray, List.set_cons_zero, List.set_cons_succ]
        refine any_rest [(2, false), (3, false), (4, false)] (by kernel_rfl) (fun _ _ d _ _ h => by cases d <;> exact h) ?_
        refine line_alone rfl (by kernel_rfl) (fun K hK => ?_)
        refine call_any (args := #[P5 p]) rfl (by kernel_rfl) (by kernel_rfl) (PR.out _) ?_
        rintro e x6 ⟨a6, n6, c6, rfl, O6, b6⟩
        have hst2 := hst.on b6
        have HT2 := Lib.hid (HT1.out.on b6)
        have R6 := Own.row O6 HPW.out
        refine ⟨_, rfl, hK _ _ hst2 ?_⟩
        clear hK K hst b6 O6
        have hst := hst2
        clear hst2
        simp only [Act.put, List.setIfInBounds_toArray, List.set_cons_zero, List.set_cons_succ]
        refine line_alone rfl (by kernel_rfl) (fun K hK => ?_)
        refine call_wp (args := #[.agg J.toArray, .slice a6 n6 c6]) rfl (by kernel_rfl) (by kernel_rfl) (WA.out _ _ _ _ R6) (fun x7 b7 => ?_)
        have hst2 := hst.on b7
        have HT3 := Lib.hid (HT2.out.on b7)
        refine hK _ _ hst2 ?_
        clear hK K hst b7 R6 HT2
        have hst := hst2
        clear hst2
        simp only [Act.put, List.setIfInBounds_toArray, List.set_cons_zero, List.set_cons_succ]
        refine line_alone rfl (by kernel_rfl) (fun K hK => ?_)
        refine wp_store_row 94 (.tmp 4) (.tmp 24) rfl j J2.toArray rfl rfl 94 J.toArray HT3.out.J HFJ2.out HOJ2.out H1J2.out ?_
        have hst2 := hst.row (j := j) J2 (Ne.symm (Nat.ne_of_lt hjq)) hj3
        refine hK _ _ hst2 ?_
        have HT4 := Lib.hid (HT3.out.row J2 hj1 hj2 hj3)
        clear hK K hst hst2
        simp only [Act.put]
        refine line_nil ?_
        clear HT3 HT1 inst WA PR
        go_wp2_with fail
        go_roundw
        case rel => exact ⟨k + 1, by omega, by go_num, by rw [HJ2.out]; exact HT4.out⟩
        case measure => simp [intOf]; omega
      · refine call_any (args := #[P5 p]) rfl (by kernel_rfl) (by kernel_rfl) (PR.out _) ?_
        rintro e x6 ⟨a6, n6, c6, rfl, O6, b6⟩
        have hst2 := hst.on b6
        have HT2 := Lib.hid (HT1.out.on b6)
        have R6 := Own.row O6 HPW.out
        refine ⟨_, rfl, hK _ _ hst2 ?_⟩
        clear hK K hst b6 O6
        have hst := hst2
        clear hst2
        simp only [Act.put, List.setIfInBounds_toArray, List.set_cons_zero, List.set_cons_succ]
        refine any_rest [(0, false), (3, false), (4, false)] (by kernel_rfl) (fun _ _ d _ _ h => by cases d <;> exact h) ?_
        refine line_alone rfl (by kernel_rfl) (fun K hK => ?_)
        refine wp_load_row 94 (.tmp 4) rfl j rfl 94 J.toArray (0, 0) _ (HT2.out).J Tryz.underlying94 rfl HFJ.out ?_
        refine hK _ _ hst ?_
        clear hK K
        simp only [Act.put, List.setIfInBounds_toArray, List.set_cons_zero, List.set_cons_succ]
        refine line_alone rfl (by kernel_rfl) (fun K hK => ?_)
        refine call_wp (args := #[.agg J.toArray, .slice a6 n6 c6]) rfl (by kernel_rfl) (by kernel_rfl) (WA.out _ _ _ _ R6) (fun x7 b7 => ?_)
        have hst2 := hst.on b7
        have HT3 := Lib.hid (HT2.out.on b7)
        refine hK _ _ hst2 ?_
        clear hK K hst b7 R6 HT2
        have hst := hst2
        clear hst2
        simp only [Act.put, List.setIfInBounds_toArray, List.set_cons_zero, List.set_cons_succ]
        refine line_alone rfl (by kernel_rfl) (fun K hK => ?_)
        refine wp_store_row 94 (.tmp 4) (.tmp 24) rfl j J2.toArray rfl rfl 94 J.toArray HT3.out.J HFJ2.out HOJ2.out H1J2.out ?_
        have hst2 := hst.row (j := j) J2 (Ne.symm (Nat.ne_of_lt hjq)) hj3
        refine hK _ _ hst2 ?_
        have HT4 := Lib.hid (HT3.out.row J2 hj1 hj2 hj3)
        clear hK K hst hst2
        simp only [Act.put]
        refine line_nil ?_
        clear HT3 HT1 inst WA PR
        go_wp2_with fail
        go_roundw
        case rel => exact ⟨k + 1, by omega, by go_num, by rw [HJ2.out]; exact HT4.out⟩
        case measure => simp [intOf]; omega
    · obtain rfl : k = n1 := by omega
      rw [List.take_of_length_le (by rw [HRL.out]; omega)] at hT
      have hct := jall_count rs2 0
      have HFJ := Lib.hid (jall_fit rs2 0)
      generalize jall rs2 0 = J at *
      generalize jall rs2 rs2.length = K at *
      have d0 := hT.J.at hct
      have R3 := Lib.hid hT.R
      have B3 := Lib.hid hT.bel
      have HQ2 := Lib.hid hT.J
      clear hT
      go_wp2_with (refine load_jour J rfl (.tmp 4) rfl j rfl HQ2.out HFJ.out ?_)
      refine (BG.out _).mono ?_
      rintro r u4 ⟨rfl, b4⟩
      have R4 := Lib.hid (R3.out.on b4)
      have B4 := Lib.hid (btr B3.out b4)
      clear d0 HQ2 b4 R3 B3
      go_wp2_with fail
      refine (DK.out _).mono ?_
      rintro r u5 ⟨a5, n5, c5, xs, rfl, G5, b5⟩
      have R5 := Lib.hid (R4.out.on b5)
      have B5 := Lib.hid (btr B4.out b5)
      have Q5 := G5.grid HW.out
      clear b5 R4 B4 G5
      go_wp2_with fail
      refine (OD.out _ _ _ _ Q5).mono ?_
      rintro r u9 ⟨a3, n3, c3, a4, n4, c4, rfl, SO9, b9⟩
      have R9 := (R5.out).on b9
      have B9 := btr (B5.out) b9
      have HS9 := Lib.hid (SO9.res (w := w) (r := w.heap.size + 1) (by have := (R5.out).lt (by decide); exact this) (B5.out).size (.int .i64 0) (.slice a3 n3 c3) (.slice a4 n4 c4) (.int .i64 S.d.s))
      unfold zero9 at R9
      have q0 := R9.cell 0 _ rfl
      have q1 := R9.cell 1 _ rfl
      have q2 := R9.cell 2 _ rfl
      have q3 := R9.cell 3 _ rfl
      have f0 := R9.free 0 _ rfl
      have f1 := R9.free 1 _ rfl
      have f2 := R9.free 2 _ rfl
      have f3 := R9.free 3 _ rfl
      clear R9 b9 SO9
      go_wp2_with fail
      refine bodyPost_ret (v := V4 0 a3 n3 c3 a4 n4 c4 S.d.s) (by simp [results, Tryz.results35, go_sem, V4, q0, q1, q2, q3]) rfl ⟨a3, n3, c3, a4, n4, c4, rfl, HS9.out, ?_⟩
      exact (by (iterate 4 (refine bset ?_ (by dsimp only; omega) _)); exact B9)
end Go.Proofs.YtefgimpodhjdpaaGreatDoor
namespace Go.Proofs.YtefgimpodhjdpaaGreatDoor
open Go.RowKit
set_option maxRecDepth 100000
set_option linter.unusedVariables false

theorem l7Pack_at (b0 o : Nat) (p : PinD) (w : World) (d0 : w.cell? ⟨b0, o, none⟩ = some (.string p.n)) (d1 : w.cell? ⟨b0, o + 1, none⟩ = some (.int .i64 p.a)) (d2 : w.cell? ⟨b0, o + 2, none⟩ = some (.int .i64 p.b)) (d3 : w.cell? ⟨b0, o + 3, none⟩ = some (.int .i64 p.e)) (d4 : w.cell? ⟨b0, o + 4, none⟩ = some (.int .i64 p.u)) (h : p.f = 0) :
    Calls Tryz.prog 137 #[.pointer (some ⟨b0, o, none⟩)] w (Made (packP p) w) := by
  obtain ⟨hn, ha, hb, ⟨he0, he1⟩, hu⟩ := pin_bounds h
  have he2 : 0 ≤ p.e := by omega
  have hnm : p.n.size ≤ maxLen := size_max hn
  obtain ⟨i0, hi0, hz0, hz1, hz2⟩ := info_parts u8_info
  have hcv := fun (W : World) => run_bytes_of_string (P := Tryz.prog) W 9 22 5 p.n Tryz.underlying9 Tryz.underlying22 Tryz.underlying5
  clear h
  go_enter Tryz.func137, Tryz.ntmps137
  go_wp2_with fail
  refine wp_region_line (Bel w) [(0, true), (1, true), (2, true), (3, true), (5, true), (6, true), (7, true), (8, true), (4, false), (9, false), (10, false), (11, true)] (by kernel_rfl) (by kernel_rfl) (fun _ _ d _ _ h => by cases d <;> exact h) (Bel.drew w) ?_
  have hst := Bel.drew w
  have inst : Nonempty (Of (Bel w)) := ⟨⟨_, hst⟩⟩
  have u1 := bel_cell d1
  have u2 := bel_cell d2
  have eV := Lib.hid (show w.drew.heap.size = w.heap.size from rfl)
  generalize w.drew = V1 at *
  iterate 8 (refine line_read rfl (by kernel_rfl) (fun K hK => ?_); go_big_quiet_op; refine hK _ ?_; clear hK K)
  refine line_alone rfl (by kernel_rfl) (fun K hK => ?_)
  refine call_any (args := #[.int .i64 p.a]) rfl (by kernel_rfl) (by kernel_rfl) (l1Two_any p.a _ ha) ?_
  rintro e w3 ⟨rfl, rfl⟩
  have st3 := hst.on (bal (Below.refl _ V1) (.cells #[.int .u8 (p.a / 256), .int .u8 (p.a % 256)] 5))
  have O3 : OwnK .u8 (V1.alloc (.cells #[.int .u8 (p.a / 256), .int .u8 (p.a % 256)] 5)) w.heap.size (.slice (some ⟨V1.heap.size, 0, none⟩) 2 2) (M.two p.a) := own_lit (k := .u8) V1 (M.two p.a) 2 5 (B := w.heap.size) (by have := eV.out; omega) rfl (by simp only [maxLen]; omega)
  refine ⟨_, rfl, hK _ _ st3 ?_⟩
  clear hK K hst
  simp only [Act.put, List.setIfInBounds_toArray, List.set_cons_zero, List.set_cons_succ]
  generalize V1.alloc (.cells #[.int .u8 (p.a / 256), .int .u8 (p.a % 256)] 5) = V2 at *
  refine line_alone rfl (by kernel_rfl) (fun K hK => ?_)
  refine call_any (args := #[.int .i64 p.b]) rfl (by kernel_rfl) (by kernel_rfl) (l1Two_any p.b _ hb) ?_
  rintro e w4 ⟨rfl, rfl⟩
  have st4 := st3.on (bal (Below.refl _ V2) (.cells #[.int .u8 (p.b / 256), .int .u8 (p.b % 256)] 5))
  refine ⟨_, rfl, hK _ _ st4 ?_⟩
  clear hK K
  simp only [Act.put, List.setIfInBounds_toArray, List.set_cons_zero, List.set_cons_succ]
  refine line_alone rfl (by kernel_rfl) (fun K hK => ?_)
  refine wp_append_src _ (.tmp 8) (.tmp 13) 22 22 rfl w.heap.size 5 i0 (.int .u8 0) 1 1 Tryz.underlying22 hi0 hz0 hz1 hz2 rfl _ 2 ((M.two p.a).map (Value.int .u8)) rfl (Own.alloc O3 _) _ 2 [.int .u8 (p.b / 256), .int .u8 (p.b % 256)] rfl (src_new V2 _ 2 2 _ _ _ Tryz.underlying22 rfl (ints_oneCell .u8 [p.b / 256, p.b % 256])) (by simp only [maxLen]; omega) (by omega) (by have := st3.out.size; simp; omega) (fun v5 w5 hown hgrow hat => ?_)
  have b5 : Below w.heap.size w w5 := (Own.alloc O3 (.cells #[.int .u8 (p.b / 256), .int .u8 (p.b % 256)] 5)).grown st4.out (by have := st3.out.size; simp; omega) hgrow
  have O5 : OwnK .u8 w5 w.heap.size v5 (M.two p.a ++ M.two p.b) := by unfold OwnK; simpa [M.two] using hown
  refine hK _ _ ⟨b5⟩ ?_
  clear hK K st3 st4 O3 hown hgrow hat inst u1 u2 eV
  simp only [Act.put, List.setIfInBounds_toArray, List.set_cons_zero, List.set_cons_succ]
  have inst : Nonempty (Of (Bel w)) := ⟨⟨_, ⟨b5⟩⟩⟩
  iterate 1 (refine line_read rfl (by kernel_rfl) (fun K hK => ?_); go_big_quiet_op; refine hK _ ?_; clear hK K)
  refine line_nil ?_
  have S0 : Bel w w5.drew := ⟨b5.drew⟩
  have O5d : OwnK .u8 w5.drew w.heap.size v5 (M.two p.a ++ M.two p.b) := O5
  have hz5 : w.heap.size ≤ w5.drew.heap.size := b5.size
  clear inst b5 O5
  go_wp2_with fail
  refine wp_region_line (Bel w) [(0, true), (1, true), (2, true), (3, true), (4, true), (5, true), (8, true), (9, true), (10, true), (11, true), (6, false), (7, false), (12, false), (13, false), (14, true)] (by kernel_rfl) (by kernel_rfl) (fun _ _ d _ _ h => by cases d <;> exact h) S0 ?_
  have hst := S0
  have inst : Nonempty (Of (Bel w)) := ⟨⟨_, hst⟩⟩
  have u3 := bel_cell d3
  have u4 := bel_cell d4
  generalize w5.drew = V5 at *
  clear S0
  iterate 10 (refine line_read rfl (by kernel_rfl) (fun K hK => ?_); go_big_quiet_op; refine hK _ ?_; clear hK K)
  refine line_alone rfl (by kernel_rfl) (fun K hK => ?_)
  go_big_op
  refine hK _ _ (hst.on (bal (Below.refl _ V5) _)) ?_
  clear hK K
  have O6 := O5d.alloc (.cells #[.int .u8 p.e] 5)
  have st6 := hst.on (bal (Below.refl _ V5) (.cells #[.int .u8 p.e] 5))
  refine line_alone rfl (by kernel_rfl) (fun K hK => ?_)
  refine wp_append_src _ (.tmp 15) (.tmp 21) 22 22 rfl w.heap.size 5 i0 (.int .u8 0) 1 1 Tryz.underlying22 hi0 hz0 hz1 hz2 rfl _ 4 ((M.two p.a ++ M.two p.b).map (Value.int .u8)) rfl O6 _ 1 [.int .u8 p.e] rfl (src_new V5 _ 1 1 _ _ _ Tryz.underlying22 rfl (ints_oneCell .u8 [p.e])) (by simp only [maxLen]; omega) (by omega) (by simp; omega) (fun v7 w7 hown hgrow hat => ?_)
  have b7 : Below w.heap.size w w7 := Own.grown O6 st6.out st6.out.size hgrow
  have O7 : OwnK .u8 w7 w.heap.size v7 (M.two p.a ++ M.two p.b ++ [p.e]) := by unfold OwnK; simpa [M.two] using hown
  refine hK _ _ ⟨b7⟩ ?_
  clear hK K st6 O6 O5d hown hgrow hat hst
  simp only [Act.put, List.setIfInBounds_toArray, List.set_cons_zero, List.set_cons_succ]
  refine line_alone rfl (by kernel_rfl) (fun K hK => ?_)
  refine call_any (args := #[.int .i64 p.u]) rfl (by kernel_rfl) (by kernel_rfl) (l1Two_any p.u _ hu) ?_
  rintro e w8 ⟨rfl, rfl⟩
  have st8 : Bel w (w7.alloc (.cells #[.int .u8 (p.u / 256), .int .u8 (p.u % 256)] 5)) := ⟨bal b7 _⟩
  refine ⟨_, rfl, hK _ _ st8 ?_⟩
  clear hK K
  simp only [Act.put, List.setIfInBounds_toArray, List.set_cons_zero, List.set_cons_succ]
  refine line_alone rfl (by kernel_rfl) (fun K hK => ?_)
  refine wp_append_src _ (.tmp 22) (.tmp 27) 22 22 rfl w.heap.size 5 i0 (.int .u8 0) 1 1 Tryz.underlying22 hi0 hz0 hz1 hz2 rfl _ 5 ((M.two p.a ++ M.two p.b ++ [p.e]).map (Value.int .u8)) rfl (Own.alloc O7 _) _ 2 [.int .u8 (p.u / 256), .int .u8 (p.u % 256)] rfl (src_new w7 _ 2 2 _ _ _ Tryz.underlying22 rfl (ints_oneCell .u8 [p.u / 256, p.u % 256])) (by simp only [maxLen]; omega) (by omega) (by have := b7.size; simp; omega) (fun v9 w9 hown hgrow hat => ?_)
  have b9 : Below w.heap.size w w9 := (Own.alloc O7 (.cells #[.int .u8 (p.u / 256), .int .u8 (p.u % 256)] 5)).grown st8.out (by have := b7.size; simp; omega) hgrow
  have O9 : OwnK .u8 w9 w.heap.size v9 (headP p.a p.b p.e p.u) := by unfold OwnK headP; simpa [M.two] using hown
  refine hK _ _ ⟨b9⟩ ?_
  clear hK K st8 O7 b7 hown hgrow hat u3 u4 inst
  simp only [Act.put, List.setIfInBounds_toArray, List.set_cons_zero, List.set_cons_succ]
  have inst : Nonempty (Of (Bel w)) := ⟨⟨_, ⟨b9⟩⟩⟩
  iterate 1 (refine line_read rfl (by kernel_rfl) (fun K hK => ?_); go_big_quiet_op; refine hK _ ?_; clear hK K)
  refine line_nil ?_
  have hz4 := b9.size
  have x0 := cell_keep b9 d0
  have hsrc := text_src w9 p.n hnm
  have O10 := (O9.alloc (textObj w9 p.n 5)).drew
  have b10 := (bal b9 (textObj w9 p.n 5)).drew
  clear d0 d1 d2 d3 d4 inst
  go_wp2_with (at_builtin; refine wpList_append_src _ rfl (.tmp 29) (.tmp 34) 22 22 rfl w.heap.size 5 i0 (.int .u8 0) 1 1 Tryz.underlying22 hi0 hz0 hz1 hz2 rfl _ _ _ rfl O10 _ p.n.size _ rfl hsrc (by rw [headP_length]; simp only [maxLen]; omega) (by rw [headP_length]; omega) (by simp; omega) ?_; intro v5 w5 hown hgrow hat)
  have O11 : OwnK .u8 w5 w.heap.size v5 (packP p) := by
    unfold OwnK packP
    rw [List.length_append, M.textL_length]
    simpa using hown
  have b11 : Below w.heap.size w w5 := O10.grown b10 (by simp; omega) hgrow
  obtain ⟨a6, c6, hv6, -⟩ := O11.form
  have HT := Lib.hid (And.intro O11 b11)
  clear hown hgrow hat O10 O11 b10 b11 hsrc O9 b9 hcv
  subst hv6
  go_wp2_with fail
  go_ret
  exact ⟨_, _, _, rfl, HT.out.1, HT.out.2⟩
/-- A store that is read, a result and a store that is made, each in a block of its own. -/
structure KSt (W : World) (j r d : Nat) (J rv : List Value) (pv v : Value) (x : Int) (ps : List PinD) (zss : List (List Int)) (xs : List Value) (lo : Nat) (wr : World) : Prop where
  P : At j J wr
  R : At r rv wr
  D : At d [pv, v, .int .i64 x] wr
  O : OwnP wr (r + 1) pv ps
  ob : ∀ k, pv.ownBlock = some k → k < lo ∧ k ≠ d
  G : OwnG wr lo wr.heap.size v zss xs
  B : Below W.heap.size W wr
  off : ∀ k, v.ownBlock = some k → k ≠ j ∧ k ≠ r ∧ k ≠ d
  offx : ∀ (i : Nat) (u : Value) (k : Nat), xs[i]? = some u → u.ownBlock = some k → k ≠ r ∧ k ≠ d
  lo1 : W.heap.size ≤ lo
  rl : r + 1 ≤ lo
  lo2 : lo ≤ wr.heap.size
  le : W.heap.size ≤ d
section
variable {W wr w1 w2 : World} {j r d lo : Nat} {J rv : List Value} {pv v : Value} {x : Int} {ps : List PinD} {zss : List (List Int)} {xs : List Value}
theorem KSt.on (h : KSt W j r d J rv pv v x ps zss xs lo wr) (hb : Below wr.heap.size wr w1) : KSt W j r d J rv pv v x ps zss xs lo w1 :=
  ⟨h.P.on hb, h.R.on hb, h.D.on hb, h.O.below hb, h.ob, (h.G.below hb).more hb.size (Nat.le_refl _), btr h.B hb, h.off, h.offx, h.lo1, h.rl, Nat.le_trans h.lo2 hb.size, h.le⟩
/-- One more record was appended, and the slice stored. -/
theorem KSt.app (h : KSt W j r d J rv pv v x ps zss xs lo wr) {v' u : Value} {zs : List Int} (hb : Below wr.heap.size wr w1) (hu : OwnK .u8 w1 wr.heap.size u zs)
    (ho : Own w2 lo 1 v' (zss.length + 1) (xs ++ [u])) (hg : w1.grownBy w2 v.ownBlock) (hat : v'.ownBlock = v.ownBlock ∨ v'.ownBlock = some w1.heap.size)
    (hd : d ≠ j) (hr : d ≠ r) (hJl : 0 < J.length) (hrl : 0 < rv.length) : KSt W j r d J rv pv v' x ps (zss ++ [zs]) (xs ++ [u]) lo (w2.setCell ⟨d, 1, none⟩ v') := by
  have T := h.on hb
  have hB := h.B.size
  have hsz := hb.size
  have hl2 := h.lo2
  have hJ : At j J w2 := T.P.kept hg (fun e => (h.off j e.symm).1 rfl)
  have hR := T.R.kept hg (fun e => (h.off r e.symm).2.1 rfl)
  have hD := T.D.kept hg (fun e => (h.off d e.symm).2.2 rfl)
  have lts : j < w1.heap.size ∧ r < w1.heap.size ∧ d < w1.heap.size := ⟨T.P.lt hJl, T.R.lt hrl, T.D.lt (by simp)⟩
  have G2 := OwnG.app h.G hl2 hb hu ho hg hat
  have off2 : ∀ k, v'.ownBlock = some k → k ≠ j ∧ k ≠ r ∧ k ≠ d := fun k e => by
    rcases hat with ha | ha
    · rw [ha] at e; exact h.off k e
    · rw [ha] at e; injection e with e; omega
  have ltd := h.D.lt (by simp)
  have ltr := h.R.lt hrl
  have off3 : ∀ (i : Nat) (x : Value) (k : Nat), (xs ++ [u])[i]? = some x → x.ownBlock = some k → k ≠ r ∧ k ≠ d := fun i x k hx e => by
    rcases Nat.lt_or_ge i xs.length with hi | hi
    · rw [List.getElem?_append_left hi] at hx
      exact h.offx i x k hx e
    · rw [List.getElem?_append_right hi] at hx
      have h0 := (List.getElem?_eq_some_iff.1 hx).1
      simp at h0
      rw [h0] at hx
      simp at hx
      subst hx
      have := (Own.lt hu k e).1
      omega
  have hlov : ∀ k, v.ownBlock = some k → lo ≤ k := fun k e => (h.G.own.lt k e).1
  have hO : OwnP w2 (r + 1) pv ps := Own.keep T.O hg.size fun k e => hg.block k (Own.lt T.O k e).2 (fun e2 => by have := hlov k e2.symm; have := (h.ob k e).1; omega)
  have hB2 : Below W.heap.size W w2 := T.B.grown hg (Nat.le_trans hB hsz) fun k e => Nat.le_trans h.lo1 (hlov k e)
  refine ⟨hJ.setB (Ne.symm hd) _, hR.setB (Ne.symm hr) _, by simpa using hD.set 1 v', Own.setCell hO (fun k e => (h.ob k e).2) _, h.ob, ?_, bset hB2 h.le _, off2, off3, h.lo1, h.rl, ?_, h.le⟩
  · have hk : ∀ k, k ≠ d → (w2.setCell ⟨d, 1, none⟩ v').heap[k]? = w2.heap[k]? := fun k hk => Below.heap_setCell w2 ⟨d, 1, none⟩ v' k hk
    have G3 := G2.keepP (w' := w2.setCell ⟨d, 1, none⟩ v') (by simp [World.setCell]) (fun k e => hk k (off2 k e).2.2) (fun i x k hx e => hk k (off3 i x k hx e).2)
    rw [show (w2.setCell ⟨d, 1, none⟩ v').heap.size = w2.heap.size by simp [World.setCell]]
    exact G3
  · rw [show (w2.setCell ⟨d, 1, none⟩ v').heap.size = w2.heap.size by simp [World.setCell]]
    exact Nat.le_trans hl2 (Nat.le_trans hsz hg.size)
/-- How many are safe was stored: the store as a whole. -/
theorem KSt.done (h : KSt W j r d J rv pv v x ps zss xs lo wr) (y : Int) (hn : ∀ p ∈ ps, p.n.size ≤ maxLen) (hw : ∀ zs ∈ zss, ∀ z ∈ zs, (Lit.int .u8 z).wf = true) :
    SOwn (wr.setCell ⟨d, 2, none⟩ (.int .i64 y)) (r + 1) (wr.setCell ⟨d, 2, none⟩ (.int .i64 y)).heap.size pv v ⟨ps, ⟨zss, y⟩⟩ := by
  have hk : ∀ k, k ≠ d → (wr.setCell ⟨d, 2, none⟩ (.int .i64 y)).heap[k]? = wr.heap[k]? := fun k hk => Below.heap_setCell wr ⟨d, 2, none⟩ (.int .i64 y) k hk
  have G3 := h.G.keepP (w' := wr.setCell ⟨d, 2, none⟩ (.int .i64 y)) (by simp [World.setCell]) (fun k e => hk k (h.off k e).2.2) (fun i x k hx e => hk k (h.offx i x k hx e).2)
  have O3 := Own.setCell h.O (p := ⟨d, 2, none⟩) (fun k e => (h.ob k e).2) (.int .i64 y)
  have hs : (wr.setCell ⟨d, 2, none⟩ (.int .i64 y)).heap.size = wr.heap.size := by simp [World.setCell]
  rw [hs]
  exact SOwn.mk' (W := W) (mid := lo) O3 h.rl (fun k e => (h.ob k e).1) G3 h.lo2 hn hw
end
end Go.Proofs.YtefgimpodhjdpaaGreatDoor
namespace Go.Proofs.YtefgimpodhjdpaaGreatDoor
open Go.RowKit
set_option maxRecDepth 100000
set_option linter.unusedVariables false

set_option maxHeartbeats 2000000 in
theorem specPackStore_any (a1 : Option Addr) (n1 c1 : Nat) (a2 : Option Addr) (n2 c2 B : Nat) (s : StoreD) (w : World) (hR : SRow w B a1 n1 c1 a2 n2 c2 s) (hB : B ≤ w.heap.size) :
    Calls Tryz.prog 39 #[S3 a1 n1 c1 a2 n2 c2 s.d.s] w (StoreRes (storeF s) (packSt s) w) := by
  have hln := hR.ps.length
  have hfit := hR.ps.fits
  have hmost := hR.ps.most
  unfold maxLen at hmost
  have hnm := hR.ps.names
  obtain ⟨b0, A0, R0⟩ := begin9 a1 n1 c1 a2 n2 c2 B s w hR hB
  have HR0 := Lib.hid R0
  have HA0 := Lib.hid A0
  have HB0 := Lib.hid b0
  have hRw := hR.wf
  have HR := Lib.hid (fun (w' : World) (h : Below w.heap.size w w') => hR.below (h.mono hB))
  have F0 := l9Fault_any w.heap.size a1 n1 c1 a2 n2 c2 B s _ ⟨A0, hR.below (b0.mono hB)⟩ (Nat.le_trans hB b0.size)
  clear A0 R0 b0
  clear hR
  by_cases h0 : storeF s = 0
  case neg =>
    rw [packS_no h0]
    generalize storeF s = cd at *
    have q9 : (cd != 0) = true := by simpa using h0
    have q8 : decide (cd = 0) = false := by simpa using h0
    clear HR
    go_enter Tryz.func39, Tryz.ntmps39
    go_wp2_with fail
    generalize (w.alloc (.cells #[.slice a1 n1 c1, .slice a2 n2 c2, .int .i64 s.d.s] 29)).alloc (.cells #[.int .i64 0, .slice none 0 0, .slice none 0 0, .int .i64 0] 35) = W0 at *
    refine F0.mono ?_
    rintro r u1 ⟨rfl, b1⟩
    have B1 := Lib.hid (btr HB0.out b1)
    have R1 := Lib.hid (HR0.out.on b1)
    have A1 := Lib.hid (HA0.out.on b1)
    clear b1 F0 HB0 HR0 HA0
    go_wp2_with fail
    refine (l9Bad_any cd _).mono ?_
    rintro r u9 ⟨rfl, b9⟩
    have R9 := (R1.out).on b9
    have B9 := btr B1.out b9
    unfold zero9 at R9
    have q0 := R9.cell 0 _ rfl
    have q1 := R9.cell 1 _ rfl
    have q2 := R9.cell 2 _ rfl
    have q3 := R9.cell 3 _ rfl
    have f0 := R9.free 0 _ rfl
    have f1 := R9.free 1 _ rfl
    have f2 := R9.free 2 _ rfl
    have f3 := R9.free 3 _ rfl
    clear b9 R9
    go_wp2_with fail
    refine bodyPost_ret (v := V4 cd none 0 0 none 0 0 0) (by simp [results, Tryz.results39, go_sem, V4, q0, q1, q2, q3]) rfl ⟨none, 0, 0, none, 0, 0, rfl, SOwn.nil _ _ ?_, ?_⟩
    · exact Nat.le_trans B9.size (by simp [World.setCell])
    · exact (by (iterate 4 (refine bset ?_ (by dsimp only; omega) _)); exact B9)
  obtain ⟨i0, hi0, hz0, hz1, hz2⟩ := info_parts pin_info
  obtain ⟨hp4, hpf, hpr⟩ := pinsF_zero (storeF_pins h0)
  rw [h0] at F0
  have e : packSt s = ⟨s.ps, ⟨s.ps.map recP, s.ps.length⟩⟩ := by unfold packSt; rw [if_pos h0]
  rw [e, h0]
  have hrl : (s.ps.map recP).length = n1 := by rw [List.length_map]; exact hln
  have hrk : ∀ k, k < n1 → (s.ps.map recP)[k]?.getD [] = recP (s.ps[k]?.getD pin0) := fun k hk => by
    rw [List.getElem?_map, List.getElem?_eq_getElem (by rw [hln]; exact hk)]; rfl
  have hrw : ∀ zs ∈ s.ps.map recP, ∀ z ∈ zs, (Lit.int .u8 z).wf = true := fun zs hz z hzz => by
    obtain ⟨p, hm, rfl⟩ := List.mem_map.1 hz
    exact byte_wf (recP_byte (hpf p hm) z hzz)
  have hn4 : n1 ≤ 4 := by rw [← hln]; exact hp4
  have hpk : ∀ k, k < n1 → (s.ps[k]?.getD pin0).f = 0 := fun k hk => hpf _ (by rw [List.getElem?_eq_getElem (by rw [hln]; exact hk)]; exact List.getElem_mem _)
  generalize s.ps.map recP = rs2 at *
  have HW := Lib.hid hrw
  have HRL := Lib.hid hrl
  have HRK := Lib.hid hrk
  have HPK := Lib.hid hpk
  have HNM := Lib.hid hnm
  have HLN := Lib.hid hln
  have HP := Lib.hid (fun (w' : World) (h : Below w.heap.size w w') => (HR.out w' h).ps)
  clear hrw h0 hp4 hpf hpr hrl hrk hpk hRw hnm e HR hln
  go_enter Tryz.func39, Tryz.ntmps39
  go_wp2_with fail
  generalize (w.alloc (.cells #[.slice a1 n1 c1, .slice a2 n2 c2, .int .i64 s.d.s] 29)).alloc (.cells #[.int .i64 0, .slice none 0 0, .slice none 0 0, .int .i64 0] 35) = W0 at *
  refine F0.mono ?_
  rintro r u1 ⟨rfl, b1⟩
  have B1 := Lib.hid (btr HB0.out b1)
  have R1 := Lib.hid (HR0.out.on b1)
  have A1 := Lib.hid (HA0.out.on b1)
  clear b1 F0 HB0 HR0 HA0
  have b2 := btr B1.out (bal (Below.refl _ u1) (.cells #[] 31))
  have O2 := Lib.hid (show Own (u1.alloc (.cells #[] 31)) u1.heap.size 5 (.slice (some ⟨u1.heap.size, 0, none⟩) 0 0) 0 [] from Own.made u1 #[] 31 0 (Nat.le_refl _) (Nat.zero_le _) rfl)
  have S2 := Lib.hid ((HP.out _ b2).src Tryz.underlying24)
  have R2 := Lib.hid (R1.out.alloc (.cells #[] 31))
  have A2 := Lib.hid (A1.out.alloc (.cells #[] 31))
  have hlo : w.heap.size + 1 < u1.heap.size := R1.out.lt (by simp [zero9])
  have HB2 := Lib.hid b2
  have hsz2 : u1.heap.size ≤ (u1.alloc (.cells #[] 31)).heap.size := by simp
  clear b2 R1 A1
  have d0 := A2.out.cell 0 _ rfl
  have d1 := A2.out.cell 1 _ rfl
  have d2 := A2.out.cell 2 _ rfl
  go_wp2_with (at_builtin; refine wpList_append_src _ rfl (.tmp 11) (.tmp 13) 24 24 rfl u1.heap.size 31 i0 (P5 pin0) 5 48 Tryz.underlying24 hi0 hz0 hz1 hz2 rfl _ 0 [] rfl O2.out _ n1 (flat s.ps) rfl S2.out (by simp only [maxLen]; omega) (by omega) hsz2 ?_; intro v3 w3 hown hgrow hat; obtain ⟨a3, c3, hv3, -⟩ := (show OwnP w3 u1.heap.size v3 s.ps by unfold OwnP; rw [HLN.out]; simpa using hown).form; subst hv3)
  clear i0 hi0 hz0 hz1 hz2 d0 d1 d2
  have B3 : Below w.heap.size w w3 := HB2.out.grown hgrow HB2.out.size (fun g e => by have := (Own.lt O2.out g e).1; omega)
  have A3 := A2.out.kept hgrow (fun e => by have := (Own.lt O2.out _ e.symm).1; omega)
  have R3 := R2.out.kept hgrow (fun e => by have := (Own.lt O2.out _ e.symm).1; omega)
  have O3 : OwnP w3 u1.heap.size (.slice a3 s.ps.length c3) s.ps := by
    unfold OwnP
    have h := hown
    rw [← HLN.out] at h
    simpa using h
  have hw3 : u1.heap.size ≤ w3.heap.size := Nat.le_trans hsz2 hgrow.size
  have S4 : KSt w w.heap.size (w.heap.size + 1) w3.heap.size (S3L a1 n1 c1 a2 n2 c2 s.d.s) zero9 (.slice a3 s.ps.length c3) (.slice none 0 0) 0 s.ps [] [] (w3.heap.size + 1) (w3.alloc (.cells #[.slice a3 s.ps.length c3, .slice none 0 0, .int .i64 0] 29)) :=
    ⟨A3.alloc _, R3.alloc _, At.new w3 [.slice a3 s.ps.length c3, .slice none 0 0, .int .i64 0] 29, (O3.less (by omega)).alloc _, fun g e => by have := (Own.lt O3 g e).2; omega, OwnG.nil _ _ _ (Nat.le_refl _), bal B3 _, fun g e => by simp [Value.ownBlock] at e, fun i u g hu => by simp at hu, by omega, by omega, by simp, by omega⟩
  have HS := Lib.hid S4
  have hd1 : w3.heap.size ≠ w.heap.size := by omega
  have hd2 : w3.heap.size ≠ w.heap.size + 1 := by omega
  have hd0 : w.heap.size ≤ w3.heap.size := by omega
  have hlt1 : w.heap.size + 1 < w3.heap.size := by omega
  clear hown hgrow hat B3 A3 R3 O3 S4 R2 A2 O2 S2 hw3 hlo hsz2
  go_upto_region 5 with fail
  generalize w3.alloc (.cells #[.slice a3 s.ps.length c3, .slice none 0 0, .int .i64 0] 29) = W4 at *
  generalize w3.heap.size + 1 = lo at *
  generalize w3.heap.size = d at *
  obtain ⟨i0, hi0, hz0, hz1, hz2⟩ := info_parts slices_info
  go_loopw [5] (fun i wr => ∃ (k : Nat) (v : Value) (xs : List Value), k ≤ n1 ∧ i = .int .i64 k ∧ KSt w w.heap.size (w.heap.size + 1) d (S3L a1 n1 c1 a2 n2 c2 s.d.s) zero9 (.slice a3 s.ps.length c3) v 0 s.ps (rs2.take k) xs lo wr) (fun i _ => n1 - (intOf i).toNat)
  case atStart => exact ⟨0, _, _, Nat.zero_le _, rfl, by rw [List.take_zero]; exact HS.out⟩
  case round =>
    obtain ⟨k, v, xs, hk, rfl, hT⟩ := hrel
    clear HS
    have d0 := hT.P.cell 0 _ rfl
    by_cases hlt : k < n1
    · obtain ⟨b, off, ha, hbB, p0, p1, p2, p3, p4⟩ := (HP.out wr hT.B).at' hlt
      subst ha
      have hlt2 : k < rs2.length := by rw [HRL.out]; exact hlt
      have HTK := Lib.hid (M.take_snoc rs2 [] k hlt2)
      rw [HRK.out k hlt] at HTK
      have hp0 := HPK.out k hlt
      have PR := Lib.hid (fun (w' : World) (hb : Below w.heap.size w w') => l9Record_any b (off + k * 5) (s.ps[k]?.getD pin0) w' (fun w2 hb2 => by
        obtain ⟨b', off', hab, -, x0, x1, x2, x3, x4⟩ := (HP.out w2 (btr hb hb2)).at' hlt
        injection hab with hab
        injection hab with ea eb
        subst ea
        subst eb
        exact l7Pack_at b (off + k * 5) _ w2 x0 x1 x2 x3 x4 hp0) hp0)
      have HLK := Lib.hid (show (rs2.take k).length = k by simp; omega)
      generalize recP (s.ps[k]?.getD pin0) = zs at *
      have H0 := Lib.hid (show Hold w w.heap.size (S3L (some ⟨b, off, none⟩) n1 c1 a2 n2 c2 s.d.s) wr.drew from ⟨hT.B.drew, hT.P.on (bdrew wr)⟩)
      have HT1 := Lib.hid (hT.on (bdrew wr))
      clear hT hlt2 hp0 p0 p1 p2 p3 p4
      go_wp2_with fail
      refine wp_region_fork (Hold w w.heap.size (S3L (some ⟨b, off, none⟩) n1 c1 a2 n2 c2 s.d.s)) (by kernel_rfl) (H0.out) ?_
      have hst : (Hold w w.heap.size (S3L (some ⟨b, off, none⟩) n1 c1 a2 n2 c2 s.d.s)) _ := (H0.out)
      have inst : Nonempty (Of (Hold w w.heap.size (S3L (some ⟨b, off, none⟩) n1 c1 a2 n2 c2 s.d.s))) := ⟨⟨_, hst⟩⟩
      have u0 := hold_cell (W := w) (g := w.heap.size) (cs := S3L (some ⟨b, off, none⟩) n1 c1 a2 n2 c2 s.d.s) 0 _ rfl
      clear H0
      generalize wr.drew = V1 at *
      refine any_seg 7 [(0, true), (1, true), (3, true), (4, true), (5, true), (6, true)] (by kernel_rfl) (fun _ _ d _ _ h => by cases d <;> exact h) ?_
      iterate 6 (refine line_read rfl (by kernel_rfl) (fun K hK => ?_); go_big_quiet_op; refine hK _ ?_; clear hK K)
      refine line_nil ?_
      clear u0 d0
      refine any_fork 2 7 (by kernel_rfl) rfl rfl (by kernel_rfl) (by kernel_rfl) (fun K hK => ?_) (fun K hK => ?_)
      · have e1 := (HT1.out).D.cell 1 _ rfl
        go_big_op
        refine hK _ _ hst ?_
        clear hK K e1
        refine any_rest [(7, false), (8, false), (9, false), (10, true), (11, true), (12, false)] (by kernel_rfl) (fun _ _ d _ _ h => by cases d <;> exact h) ?_
        refine line_alone rfl (by kernel_rfl) (fun K hK => ?_)
        refine call_any (args := #[.pointer (some ⟨b, off + k * 5, none⟩)]) rfl (by kernel_rfl) (by kernel_rfl) (PR.out _ hst.bel) ?_
        rintro e x6 ⟨a6, n6, c6, rfl, O6, b6⟩
        have hst2 := hst.on b6
        refine ⟨_, rfl, hK _ _ hst2 ?_⟩
        clear hK K hst
        have hst := hst2
        clear hst2
        simp only [Act.put, List.setIfInBounds_toArray, List.set_cons_zero, List.set_cons_succ]
        refine line_alone rfl (by kernel_rfl) (fun K hK => ?_)
        go_big_op
        have SR := Lib.hid (src_new (P := Tryz.prog) x6 [.slice a6 n6 c6] 1 1 22 25 22 Tryz.underlying25 rfl (by intro u hu; simp at hu; subst hu; rfl))
        have b7 := btr b6 (bal (Below.refl _ x6) (.cells #[.slice a6 n6 c6] 22))
        have O7 := Lib.hid (O6.alloc (.cells #[.slice a6 n6 c6] 22))
        have hst2 := hst.on (bal (Below.refl _ x6) (.cells #[.slice a6 n6 c6] 22))
        refine hK _ _ hst2 ?_
        clear hK K hst O6 b6
        have hst := hst2
        clear hst2
        have hc7 : (x6.alloc (.cells [Value.slice a6 n6 c6].toArray 22)) = x6.alloc (.cells #[.slice a6 n6 c6] 22) := rfl
        rw [hc7] at SR
        clear hc7
        generalize x6.alloc (.cells #[.slice a6 n6 c6] 22) = x7 at *
        generalize x6.heap.size = lit at *
        refine line_alone rfl (by kernel_rfl) (fun K hK => ?_)
        have HT7 := Lib.hid (HT1.out.on b7)
        refine wp_append_src _ (.tmp 25) (.tmp 31) 25 25 rfl lo 22 i0 (.slice none 0 0) 1 24 Tryz.underlying25 hi0 hz0 hz1 hz2 rfl v k xs rfl (by have := HT7.out.G.own; rwa [HLK.out] at this) _ 1 [.slice a6 n6 c6] rfl SR.out (by simp only [maxLen]; omega) (by omega) HT7.out.lo2 (fun v8 w8 hown hgrow hat => ?_)
        obtain ⟨a8, c8, hv8, -⟩ := Own.form hown
        subst hv8
        have T8 := Lib.hid (HT1.out.app b7 O7.out (by rw [HLK.out]; exact hown) hgrow hat hd1 hd2 (by simp [S3L]) (by simp [zero9]))
        have D8 := HT7.out.D.kept hgrow (fun e => (HT7.out.off d e.symm).2.2 rfl)
        have P8 := HT7.out.P.kept hgrow (fun e => (HT7.out.off w.heap.size e.symm).1 rfl)
        have B8 : Below w.heap.size w w8 := HT7.out.B.grown hgrow HT7.out.B.size fun g e => Nat.le_trans HT7.out.lo1 (HT7.out.G.own.lt g e).1
        have hst2 : Hold w w.heap.size (S3L (some ⟨b, off, none⟩) n1 c1 a2 n2 c2 s.d.s) w8 := ⟨B8, P8⟩
        refine hK _ _ hst2 ?_
        clear hK K hst hown hgrow hat O7 SR HT7 b7 B8 P8
        have hst := hst2
        clear hst2
        simp only [Act.put, List.setIfInBounds_toArray, List.set_cons_zero, List.set_cons_succ]
        have p0 := D8.cell 0 _ rfl
        have p1 := D8.cell 1 _ rfl
        have p2 := D8.cell 2 _ rfl
        have f0 := D8.free 0 _ rfl
        have f1 := D8.free 1 _ rfl
        have f2 := D8.free 2 _ rfl
        iterate 2 (refine line_read rfl (by kernel_rfl) (fun K hK => ?_); go_big_quiet_op; refine hK _ ?_; clear hK K)
        refine line_alone rfl (by kernel_rfl) (fun K hK => ?_)
        go_big_op
        refine hK _ _ (hst.setB (p := ⟨d, 1, none⟩) hd0 (Ne.symm hd1) _) ?_
        clear hK K
        refine line_nil ?_
        clear p0 p1 p2 f0 f1 f2 D8 HT1 PR
        go_wp2_with fail
        go_roundw
        case rel => exact ⟨k + 1, _, _, by omega, by go_num, by rw [HTK.out]; exact T8.out⟩
        case measure => simp [intOf]; omega
      · refine call_any (args := #[.pointer (some ⟨b, off + k * 5, none⟩)]) rfl (by kernel_rfl) (by kernel_rfl) (PR.out _ hst.bel) ?_
        rintro e x6 ⟨a6, n6, c6, rfl, O6, b6⟩
        have hst2 := hst.on b6
        refine ⟨_, rfl, hK _ _ hst2 ?_⟩
        clear hK K hst
        have hst := hst2
        clear hst2
        simp only [Act.put, List.setIfInBounds_toArray, List.set_cons_zero, List.set_cons_succ]
        refine any_fork 2 8 (by kernel_rfl) rfl rfl (by kernel_rfl) (by kernel_rfl) (fun K hK => ?_) (fun K hK => ?_)
        · have e1 := (HT1.out.on b6).D.cell 1 _ rfl
          go_big_op
          refine hK _ _ hst ?_
          clear hK K e1
          refine any_rest [(8, false), (9, false), (10, true), (11, true), (12, false)] (by kernel_rfl) (fun _ _ d _ _ h => by cases d <;> exact h) ?_
          refine line_alone rfl (by kernel_rfl) (fun K hK => ?_)
          go_big_op
          have SR := Lib.hid (src_new (P := Tryz.prog) x6 [.slice a6 n6 c6] 1 1 22 25 22 Tryz.underlying25 rfl (by intro u hu; simp at hu; subst hu; rfl))
          have b7 := btr b6 (bal (Below.refl _ x6) (.cells #[.slice a6 n6 c6] 22))
          have O7 := Lib.hid (O6.alloc (.cells #[.slice a6 n6 c6] 22))
          have hst2 := hst.on (bal (Below.refl _ x6) (.cells #[.slice a6 n6 c6] 22))
          refine hK _ _ hst2 ?_
          clear hK K hst O6 b6
          have hst := hst2
          clear hst2
          have hc7 : (x6.alloc (.cells [Value.slice a6 n6 c6].toArray 22)) = x6.alloc (.cells #[.slice a6 n6 c6] 22) := rfl
          rw [hc7] at SR
          clear hc7
          generalize x6.alloc (.cells #[.slice a6 n6 c6] 22) = x7 at *
          generalize x6.heap.size = lit at *
          refine line_alone rfl (by kernel_rfl) (fun K hK => ?_)
          have HT7 := Lib.hid (HT1.out.on b7)
          refine wp_append_src _ (.tmp 25) (.tmp 31) 25 25 rfl lo 22 i0 (.slice none 0 0) 1 24 Tryz.underlying25 hi0 hz0 hz1 hz2 rfl v k xs rfl (by have := HT7.out.G.own; rwa [HLK.out] at this) _ 1 [.slice a6 n6 c6] rfl SR.out (by simp only [maxLen]; omega) (by omega) HT7.out.lo2 (fun v8 w8 hown hgrow hat => ?_)
          obtain ⟨a8, c8, hv8, -⟩ := Own.form hown
          subst hv8
          have T8 := Lib.hid (HT1.out.app b7 O7.out (by rw [HLK.out]; exact hown) hgrow hat hd1 hd2 (by simp [S3L]) (by simp [zero9]))
          have D8 := HT7.out.D.kept hgrow (fun e => (HT7.out.off d e.symm).2.2 rfl)
          have P8 := HT7.out.P.kept hgrow (fun e => (HT7.out.off w.heap.size e.symm).1 rfl)
          have B8 : Below w.heap.size w w8 := HT7.out.B.grown hgrow HT7.out.B.size fun g e => Nat.le_trans HT7.out.lo1 (HT7.out.G.own.lt g e).1
          have hst2 : Hold w w.heap.size (S3L (some ⟨b, off, none⟩) n1 c1 a2 n2 c2 s.d.s) w8 := ⟨B8, P8⟩
          refine hK _ _ hst2 ?_
          clear hK K hst hown hgrow hat O7 SR HT7 b7 B8 P8
          have hst := hst2
          clear hst2
          simp only [Act.put, List.setIfInBounds_toArray, List.set_cons_zero, List.set_cons_succ]
          have p0 := D8.cell 0 _ rfl
          have p1 := D8.cell 1 _ rfl
          have p2 := D8.cell 2 _ rfl
          have f0 := D8.free 0 _ rfl
          have f1 := D8.free 1 _ rfl
          have f2 := D8.free 2 _ rfl
          iterate 2 (refine line_read rfl (by kernel_rfl) (fun K hK => ?_); go_big_quiet_op; refine hK _ ?_; clear hK K)
          refine line_alone rfl (by kernel_rfl) (fun K hK => ?_)
          go_big_op
          refine hK _ _ (hst.setB (p := ⟨d, 1, none⟩) hd0 (Ne.symm hd1) _) ?_
          clear hK K
          refine line_nil ?_
          clear p0 p1 p2 f0 f1 f2 D8 HT1 PR
          go_wp2_with fail
          go_roundw
          case rel => exact ⟨k + 1, _, _, by omega, by go_num, by rw [HTK.out]; exact T8.out⟩
          case measure => simp [intOf]; omega
        · go_big_op
          have SR := Lib.hid (src_new (P := Tryz.prog) x6 [.slice a6 n6 c6] 1 1 22 25 22 Tryz.underlying25 rfl (by intro u hu; simp at hu; subst hu; rfl))
          have b7 := btr b6 (bal (Below.refl _ x6) (.cells #[.slice a6 n6 c6] 22))
          have O7 := Lib.hid (O6.alloc (.cells #[.slice a6 n6 c6] 22))
          have hst2 := hst.on (bal (Below.refl _ x6) (.cells #[.slice a6 n6 c6] 22))
          refine hK _ _ hst2 ?_
          clear hK K hst O6 b6
          have hst := hst2
          clear hst2
          have hc7 : (x6.alloc (.cells [Value.slice a6 n6 c6].toArray 22)) = x6.alloc (.cells #[.slice a6 n6 c6] 22) := rfl
          rw [hc7] at SR
          clear hc7
          generalize x6.alloc (.cells #[.slice a6 n6 c6] 22) = x7 at *
          generalize x6.heap.size = lit at *
          refine any_rest [(2, false), (9, false), (10, true), (11, true), (12, false)] (by kernel_rfl) (fun _ _ d _ _ h => by cases d <;> exact h) ?_
          refine line_alone rfl (by kernel_rfl) (fun K hK => ?_)
          have e1 := (HT1.out.on b7).D.cell 1 _ rfl
          go_big_op
          refine hK _ _ hst ?_
          clear hK K e1
          refine line_alone rfl (by kernel_rfl) (fun K hK => ?_)
          have HT7 := Lib.hid (HT1.out.on b7)
          refine wp_append_src _ (.tmp 25) (.tmp 31) 25 25 rfl lo 22 i0 (.slice none 0 0) 1 24 Tryz.underlying25 hi0 hz0 hz1 hz2 rfl v k xs rfl (by have := HT7.out.G.own; rwa [HLK.out] at this) _ 1 [.slice a6 n6 c6] rfl SR.out (by simp only [maxLen]; omega) (by omega) HT7.out.lo2 (fun v8 w8 hown hgrow hat => ?_)
          obtain ⟨a8, c8, hv8, -⟩ := Own.form hown
          subst hv8
          have T8 := Lib.hid (HT1.out.app b7 O7.out (by rw [HLK.out]; exact hown) hgrow hat hd1 hd2 (by simp [S3L]) (by simp [zero9]))
          have D8 := HT7.out.D.kept hgrow (fun e => (HT7.out.off d e.symm).2.2 rfl)
          have P8 := HT7.out.P.kept hgrow (fun e => (HT7.out.off w.heap.size e.symm).1 rfl)
          have B8 : Below w.heap.size w w8 := HT7.out.B.grown hgrow HT7.out.B.size fun g e => Nat.le_trans HT7.out.lo1 (HT7.out.G.own.lt g e).1
          have hst2 : Hold w w.heap.size (S3L (some ⟨b, off, none⟩) n1 c1 a2 n2 c2 s.d.s) w8 := ⟨B8, P8⟩
          refine hK _ _ hst2 ?_
          clear hK K hst hown hgrow hat O7 SR HT7 b7 B8 P8
          have hst := hst2
          clear hst2
          simp only [Act.put, List.setIfInBounds_toArray, List.set_cons_zero, List.set_cons_succ]
          have p0 := D8.cell 0 _ rfl
          have p1 := D8.cell 1 _ rfl
          have p2 := D8.cell 2 _ rfl
          have f0 := D8.free 0 _ rfl
          have f1 := D8.free 1 _ rfl
          have f2 := D8.free 2 _ rfl
          iterate 2 (refine line_read rfl (by kernel_rfl) (fun K hK => ?_); go_big_quiet_op; refine hK _ ?_; clear hK K)
          refine line_alone rfl (by kernel_rfl) (fun K hK => ?_)
          go_big_op
          refine hK _ _ (hst.setB (p := ⟨d, 1, none⟩) hd0 (Ne.symm hd1) _) ?_
          clear hK K
          refine line_nil ?_
          clear p0 p1 p2 f0 f1 f2 D8 HT1 PR
          go_wp2_with fail
          go_roundw
          case rel => exact ⟨k + 1, _, _, by omega, by go_num, by rw [HTK.out]; exact T8.out⟩
          case measure => simp [intOf]; omega
    · obtain rfl : k = n1 := by omega
      rw [List.take_of_length_le (by rw [HRL.out]; omega)] at hT
      obtain ⟨a5, c5, hv, -⟩ := hT.G.form
      subst hv
      have HT := Lib.hid hT
      have D1 := hT.D
      clear hT
      have p0 := D1.cell 0 _ rfl
      have p1 := D1.cell 1 _ rfl
      have p2 := D1.cell 2 _ rfl
      have g0 := D1.free 0 _ rfl
      have g1 := D1.free 1 _ rfl
      have g2 := D1.free 2 _ rfl
      clear D1
      go_upto_region 10 with fail
      have P9 : At d [.slice a3 s.ps.length c3, .slice a5 rs2.length c5, .int .i64 k] (wr.setCell ⟨d, 2, none⟩ (.int .i64 k)) := by simpa using HT.out.D.set 2 (.int .i64 k)
      have R9 := HT.out.R.setB (p := ⟨d, 2, none⟩) (Ne.symm hd2) (.int .i64 k)
      have B9 : Below w.heap.size w (wr.setCell ⟨d, 2, none⟩ (.int .i64 k)) := bset HT.out.B hd0 _
      have SO9 := HT.out.done k HNM.out HW.out
      generalize wr.setCell ⟨d, 2, none⟩ (.int .i64 k) = W9 at *
      have HS9 := Lib.hid (SO9.res (w := w) (r := w.heap.size + 1) (by omega) (by omega) (.int .i64 0) (.slice a3 s.ps.length c3) (.slice a5 rs2.length c5) (.int .i64 k))
      have HB9 := Lib.hid B9
      clear p0 p1 p2 g0 g1 g2 SO9 B9 HT d0
      have p0 := P9.cell 0 _ rfl
      have p1 := P9.cell 1 _ rfl
      have p2 := P9.cell 2 _ rfl
      unfold zero9 at R9
      have q0 := R9.cell 0 _ rfl
      have q1 := R9.cell 1 _ rfl
      have q2 := R9.cell 2 _ rfl
      have q3 := R9.cell 3 _ rfl
      have f0 := R9.free 0 _ rfl
      have f1 := R9.free 1 _ rfl
      have f2 := R9.free 2 _ rfl
      have f3 := R9.free 3 _ rfl
      clear P9 R9
      go_wp2_with fail
      refine bodyPost_ret (v := V4 0 a3 s.ps.length c3 a5 rs2.length c5 k) (by simp [results, Tryz.results39, go_sem, V4, q0, q1, q2, q3]) rfl ⟨a3, s.ps.length, c3, a5, rs2.length, c5, by show _ = Ending.returned (V4 0 a3 s.ps.length c3 a5 rs2.length c5 (s.ps.length : Nat)); rw [HLN.out], HS9.out, ?_⟩
      exact (by (iterate 4 (refine bset ?_ (by dsimp only; omega) _)); exact HB9.out)
end Go.Proofs.YtefgimpodhjdpaaGreatDoor
namespace Go.Proofs.YtefgimpodhjdpaaGreatDoor
open Go.RowKit
set_option maxRecDepth 100000
set_option linter.unusedVariables false

/-- A pointer to a result that is a store, all of it made behind u. -/
def StoreAt (u : World) (C : Int) (S : StoreD) (v : Value) (wx : World) : Prop :=
  ∃ (g lo hi : Nat) (y1 : Option Addr) (e1 : Nat) (y2 : Option Addr) (e2 : Nat), v = .pointer (some ⟨g, 0, none⟩) ∧ At g (V4L C y1 S.ps.length e1 y2 S.d.rs.length e2 S.d.s) wx ∧ SOwn wx lo hi (.slice y1 S.ps.length e1) (.slice y2 S.d.rs.length e2) S ∧
    Below u.heap.size u wx ∧ u.heap.size ≤ lo ∧ (g < lo ∨ hi ≤ g) ∧ u.heap.size ≤ g ∧ g < wx.heap.size
theorem SOwn.stored {w : World} {lo hi g : Nat} {v1 v2 : Value} {s : StoreD} (h : SOwn w lo hi v1 v2 s) (hg : g < lo ∨ hi ≤ g) (u0 u1 u2 u3 : Value) :
    SOwn ((((w.setCell ⟨g, 0, none⟩ u0).setCell ⟨g, 1, none⟩ u1).setCell ⟨g, 2, none⟩ u2).setCell ⟨g, 3, none⟩ u3) lo hi v1 v2 s :=
  (((h.setCell (p := ⟨g, 0, none⟩) hg u0).setCell (p := ⟨g, 1, none⟩) hg u1).setCell (p := ⟨g, 2, none⟩) hg u2).setCell (p := ⟨g, 3, none⟩) hg u3
/-- As TriS; the answer's block lies ahead of the answer's memory or behind it. -/
structure TriT (w : World) (c : Int) (s g : StoreD) (p0 p2 l0 h0 l1 h1 l2 h2 : Nat) (b1 : Option Addr) (e1 : Nat) (b2 : Option Addr) (e2 : Nat) (a1 : Option Addr) (d1 : Nat) (a2 : Option Addr) (d2 : Nat) (cur : World) : Prop where
  bel : Below w.heap.size w cur
  P0 : At p0 (V4L c b1 s.ps.length e1 b2 s.d.rs.length e2 s.d.s) cur
  P2 : At p2 (V4L c a1 s.ps.length d1 a2 s.d.rs.length d2 s.d.s) cur
  R : SOwn cur l0 h0 (.slice b1 s.ps.length e1) (.slice b2 s.d.rs.length e2) s
  G : SOwn cur l2 h2 (.slice a1 s.ps.length d1) (.slice a2 s.d.rs.length d2) g
  o0 : w.heap.size ≤ l0
  o1 : h0 ≤ l1
  o2 : p0 < l1
  o3 : l1 ≤ h1
  o4 : h1 ≤ l2
  o5 : h1 ≤ p2
  o6 : p2 < l2 ∨ h2 ≤ p2
section
variable {w cur cur' : World} {c : Int} {s g g' : StoreD} {p0 p2 l0 h0 l1 h1 l2 h2 : Nat} {b1 b2 a1 a2 : Option Addr} {e1 e2 d1 d2 : Nat}
theorem TriT.on (h : TriT w c s g p0 p2 l0 h0 l1 h1 l2 h2 b1 e1 b2 e2 a1 d1 a2 d2 cur) (hb : Below cur.heap.size cur cur') : TriT w c s g p0 p2 l0 h0 l1 h1 l2 h2 b1 e1 b2 e2 a1 d1 a2 d2 cur' :=
  ⟨btr h.bel hb, h.P0.on hb, h.P2.on hb, h.R.below hb, h.G.below hb, h.o0, h.o1, h.o2, h.o3, h.o4, h.o5, h.o6⟩
theorem TriT.arg (h : TriT w c s g p0 p2 l0 h0 l1 h1 l2 h2 b1 e1 b2 e2 a1 d1 a2 d2 cur) (hi : Inn l1 h1 cur cur') : TriT w c s g p0 p2 l0 h0 l1 h1 l2 h2 b1 e1 b2 e2 a1 d1 a2 d2 cur' := by
  have q0 := h.o0; have q1 := h.o1; have q2 := h.o2; have q3 := h.o3; have q4 := h.o4; have q5 := h.o5; have q6 := h.o6
  have t1 := h.R.top.1
  have t2 := h.G.top.1
  exact ⟨Inn.below h.bel hi (by omega), h.P0.inn hi (.inl (by omega)), h.P2.inn hi (.inr (by omega)), h.R.inn hi (.inl (by omega)), h.G.inn hi (.inr (by omega)), q0, q1, q2, q3, q4, q5, q6⟩
theorem TriT.ans (h : TriT w c s g p0 p2 l0 h0 l1 h1 l2 h2 b1 e1 b2 e2 a1 d1 a2 d2 cur) (hi : Inn l2 h2 cur cur') (hg : SOwn cur' l2 h2 (.slice a1 s.ps.length d1) (.slice a2 s.d.rs.length d2) g') : TriT w c s g' p0 p2 l0 h0 l1 h1 l2 h2 b1 e1 b2 e2 a1 d1 a2 d2 cur' := by
  have q0 := h.o0; have q1 := h.o1; have q2 := h.o2; have q3 := h.o3; have q4 := h.o4; have q5 := h.o5; have q6 := h.o6
  have t1 := h.R.top.1
  have t2 := h.G.top.1
  exact ⟨Inn.below h.bel hi (by omega), h.P0.inn hi (.inl (by omega)), h.P2.inn hi q6, h.R.inn hi (.inl (by omega)), hg, q0, q1, q2, q3, q4, q5, q6⟩
end
end Go.Proofs.YtefgimpodhjdpaaGreatDoor
namespace Go.Proofs.YtefgimpodhjdpaaGreatDoor
open Go.RowKit
set_option maxRecDepth 100000
set_option linter.unusedVariables false

section
variable {P : Program} {S : World → Prop} {Q : Exit → Act → World → Prop} {a : Act} {w : World} {i : Nat} {o : Oper} {r : List (Nat × Bool)} {l : List Oper} {C : Act → World → Prop}
theorem line_jour (cs : List Value) (x : Operand) (g : Nat) (ho : l[i]? = some o) (hw : Region.wanted o (yielded l.toArray a.tmps) = true) (hop : o.op = .load 94 x) (hx : a.eval x = .pointer (some ⟨g, 0, none⟩)) (hS : ∀ w', S w' → JB g cs w')
    (hi : (Tryz.prog.info? 94).map (·.size) = some cs.toArray.size) (h : LineP Tryz.prog l.toArray S Q C r (a.put o.dst (.agg cs.toArray)) w) : LineP Tryz.prog l.toArray S Q C ((i, true) :: r) a w := by
  refine line_read ho hw fun K hK => ⟨.agg cs.toArray, fun w' hx' => ?_, hK _ h⟩
  obtain ⟨z, rfl⟩ := hx'
  have hr : (execOp a.eval o).run Tryz.prog z.val = .ok (.value (.agg cs.toArray)) z.val := by
    unfold execOp
    simp only [hop, hx, Instr.loadAt, Instr.sureAddr, Sem.run_bind, Sem.run_pure, Result.andThen_ok, run_loadVar_row z.val g 94 94 cs.toArray (0, 0) _ (hS _ z.prop) Tryz.underlying94 rfl hi]
  unfold Oper.quietAt
  rw [hr]
  exact ⟨rfl, rfl⟩
end
/-- A pin and a journal. -/
structure PJ (g : Nat) (pv : List Value) (j : Nat) (J : List Value) (cur : World) : Prop where
  A : At g pv cur
  J : JB j J cur
section
variable {g j : Nat} {pv J : List Value} {cur cur' : World}
theorem PJ.on (h : PJ g pv j J cur) (hb : Below cur.heap.size cur cur') : PJ g pv j J cur' := ⟨h.A.on hb, h.J.on hb⟩
theorem PJ.setB (h : PJ g pv j J cur) {p : Addr} (h1 : g ≠ p.block) (h2 : j ≠ p.block) (u : Value) : PJ g pv j J (cur.setCell p u) := ⟨h.A.setB h1 u, h.J.setB h2 u⟩
theorem PJ.q (i : Nat) (v : Value) (h : pv[i]? = some v) : ∀ z : Of (PJ g pv j J), z.val.cell? ⟨g, i, none⟩ = some v := fun z => z.prop.A.cell i v h
end
theorem note_idle (g j b : Nat) (c : Int) (v1 v2 : Value) (x : Int) (w : World) (A : At g [.int .i64 c, v1, v2, .int .i64 x] w) (h : c ≠ 0) :
    CallsD Tryz.prog 60 #[.pointer (some ⟨g, 0, none⟩), .pointer (some ⟨j, 0, none⟩), .pointer (some ⟨b, 0, none⟩)] .returning w fun e u' w' => u' = .returning ∧ (e = .returned (.tuple #[]) ∧ w' = w) := by
  have c0 := A.cell 0 _ rfl
  have q9 : (c == 0) = false := by simpa using h
  have q8 : decide (c = 0) = false := by simpa using h
  go_enter_d Tryz.func60, Tryz.ntmps60
  go_wp2_with fail
  exact ⟨rfl, .tuple #[], by simp [results, Tryz.results60], rfl, rfl⟩
/-- The records of a disk of new memory were stored into a result. -/
def Wrote (g : Nat) (rs : List (List Int)) (x : Int) (w : World) (w' : World) : Prop :=
  ∃ (w1 : World) (a : Option Addr) (n c : Nat) (xs : List Value), w' = (w1.setCell ⟨g, 2, none⟩ (.slice a n c)).setCell ⟨g, 3, none⟩ (.int .i64 x) ∧ OwnG w1 w.heap.size w1.heap.size (.slice a n c) rs xs ∧ Below w.heap.size w w1
set_option maxHeartbeats 1000000 in
theorem note_write (g j b : Nat) (v1 : Value) (x y : Int) (p : PinD) (rs : List (List Int)) (w : World) (A : At g [.int .i64 0, v1, .slice none 0 0, .int .i64 y] w) (hA : At b p.vals w) (hJ : JB j (jall rs x) w) (h : p.f = 0) (hn : rs.length < 12) (hl : rs.any longR = false) (hw : ∀ zs ∈ rs, ∀ z ∈ zs, (Lit.int .u8 z).wf = true)
    (h1 : b ≠ g) (h2 : j ≠ g) :
    CallsD Tryz.prog 60 #[.pointer (some ⟨g, 0, none⟩), .pointer (some ⟨j, 0, none⟩), .pointer (some ⟨b, 0, none⟩)] .returning w fun e u' w' => u' = .returning ∧ (e = .returned (.tuple #[]) ∧ Wrote g (rs ++ [recP p]) x w w') := by
  have HFJ := Lib.hid (jall_fit rs x)
  have PR := Lib.hid (fun w' => pinRecord_any p w' h)
  have HPW := Lib.hid (fun z hz => byte_wf (recP_byte h z hz))
  have hsh := recP_short h
  have hp40 : (recP p).length ≤ 40 := by simpa [longR] using hsh
  have WA := Lib.hid (fun (a : Option Addr) (n c : Nat) (w' : World) (h : Row .u8 w' w'.heap.size a n c (recP p)) => withAll_any rs x (recP p) a n c w'.heap.size w' h (Nat.le_refl _) hn (by rw [← h.length]; exact hp40))
  have dk := fun (w' : World) => disk_any (rs ++ [recP p]) (rs ++ [recP p]).length x w' (Nat.le_refl _) (by rw [List.length_append]; simp; omega) (by rw [List.any_append, hl]; simp [hsh]) (fun zs hz z hzz => by
    rcases List.mem_append.1 hz with hz | hz
    · exact hw zs hz z hzz
    · rw [List.mem_singleton] at hz
      subst hz
      exact byte_wf (recP_byte h z hzz))
  simp only [← jall_def, List.take_length] at dk
  have DK := Lib.hid dk
  have H0 := Lib.hid (show PJ b p.vals j (jall rs x) w.drew from ⟨hA.on (bdrew _), hJ.on (bdrew _)⟩)
  have HA := Lib.hid (A.on (bdrew w))
  have hB0 := Lib.hid (bdrew w)
  have c0 := A.cell 0 _ rfl
  clear dk hp40 hsh hl hw hn hA hJ h A
  generalize jall rs x = J at *
  generalize jall (rs ++ [recP p]) x = J2 at *
  generalize rs ++ [recP p] = rs2 at *
  generalize recP p = zs at *
  go_enter_d Tryz.func60, Tryz.ntmps60
  go_wp2_with fail
  refine wp_region_line (PJ b p.vals j J) [(0, true), (1, true), (2, false), (3, false), (4, false), (5, true), (6, true), (7, false)] (by kernel_rfl) (by kernel_rfl) (fun _ _ d _ _ h => by cases d <;> exact h) H0.out ?_
  have hst := H0.out
  have inst : Nonempty (Of (PJ b p.vals j J)) := ⟨⟨_, hst⟩⟩
  have u0 := PJ.q (g := b) (pv := p.vals) (j := j) (J := J) 0 _ rfl
  have u1 := PJ.q (g := b) (pv := p.vals) (j := j) (J := J) 1 _ rfl
  have u2 := PJ.q (g := b) (pv := p.vals) (j := j) (J := J) 2 _ rfl
  have u3 := PJ.q (g := b) (pv := p.vals) (j := j) (J := J) 3 _ rfl
  have u4 := PJ.q (g := b) (pv := p.vals) (j := j) (J := J) 4 _ rfl
  clear H0 c0
  generalize w.drew = V1 at *
  refine line_jour J (.tmp 1) j rfl (by kernel_rfl) rfl rfl (fun w' h => h.J) HFJ.out ?_
  simp only [Act.put, List.setIfInBounds_toArray, List.set_cons_zero, List.set_cons_succ]
  iterate 1 (refine line_read rfl (by kernel_rfl) (fun K hK => ?_); go_big_quiet_op; refine hK _ ?_; clear hK K)
  clear u0 u1 u2 u3 u4
  refine line_alone rfl (by kernel_rfl) (fun K hK => ?_)
  refine call_any (args := #[P5 p]) rfl (by kernel_rfl) (by kernel_rfl) (PR.out _) ?_
  rintro e x6 ⟨a6, n6, c6, rfl, O6, b6⟩
  have hst2 := hst.on b6
  have R6 := Own.row O6 HPW.out
  refine ⟨_, rfl, hK _ _ hst2 ?_⟩
  clear hK K hst O6
  have hst := hst2
  clear hst2
  simp only [Act.put, List.setIfInBounds_toArray, List.set_cons_zero, List.set_cons_succ]
  refine line_alone rfl (by kernel_rfl) (fun K hK => ?_)
  refine call_wp (args := #[.agg J.toArray, .slice a6 n6 c6]) rfl (by kernel_rfl) (by kernel_rfl) (WA.out _ _ _ _ R6) (fun x7 b7 => ?_)
  have hst2 := hst.on b7
  refine hK _ _ hst2 ?_
  clear hK K hst R6
  have hst := hst2
  clear hst2
  simp only [Act.put, List.setIfInBounds_toArray, List.set_cons_zero, List.set_cons_succ]
  refine line_alone rfl (by kernel_rfl) (fun K hK => ?_)
  refine call_any (args := #[.agg J2.toArray]) rfl (by kernel_rfl) (by kernel_rfl) (DK.out _) ?_
  rintro e x8 ⟨a8, n8, c8, xs, rfl, G8, b8⟩
  have hst2 := hst.on b8
  have b18 := btr b6 (btr b7 b8)
  have A8 := HA.out.on b18
  have B8 := btr hB0.out b18
  have G9 := Lib.hid (G8.less (btr hB0.out (btr b6 b7)).size)
  have HB8 := Lib.hid B8
  refine ⟨_, rfl, hK _ _ hst2 ?_⟩
  clear hK K hst G8
  have hst := hst2
  clear hst2
  simp only [Act.put, List.setIfInBounds_toArray, List.set_cons_zero, List.set_cons_succ]
  iterate 2 (refine line_read rfl (by kernel_rfl) (fun K hK => ?_); go_big_quiet_op; refine hK _ ?_; clear hK K)
  have q0 := A8.cell 0 _ rfl
  have q1 := A8.cell 1 _ rfl
  have q2 := A8.cell 2 _ rfl
  have q3 := A8.cell 3 _ rfl
  have f0 := A8.free 0 _ rfl
  have f1 := A8.free 1 _ rfl
  have f2 := A8.free 2 _ rfl
  have f3 := A8.free 3 _ rfl
  refine line_alone rfl (by kernel_rfl) (fun K hK => ?_)
  go_big_op
  refine hK _ _ ((hst.setB (p := ⟨g, 2, none⟩) h1 h2 _).setB (p := ⟨g, 3, none⟩) h1 h2 _) ?_
  clear hK K
  refine line_nil ?_
  clear hst inst q0 q1 q2 q3 f0 f1 f2 f3 A8 B8 b6 b7 b8 b18
  first | exact ⟨rfl, .tuple #[], by simp [results, Tryz.results60], rfl, x8, a8, n8, c8, xs, rfl, G9.out, HB8.out⟩ | (go_wp2_with fail; exact ⟨rfl, .tuple #[], by simp [results, Tryz.results60], rfl, x8, a8, n8, c8, xs, rfl, G9.out, HB8.out⟩)
end Go.Proofs.YtefgimpodhjdpaaGreatDoor
namespace Go.Proofs.YtefgimpodhjdpaaGreatDoor
open Go.RowKit
set_option maxRecDepth 100000
set_option linter.unusedVariables false

theorem beginN (a1 : Option Addr) (n1 c1 : Nat) (a2 : Option Addr) (n2 c2 : Nat) (x : Int) (p : PinD) (w : World) :
    Below w.heap.size w (((w.alloc (.cells #[.slice a1 n1 c1, .slice a2 n2 c2, .int .i64 x] 29)).alloc (.cells #[.string p.n, .int .i64 p.a, .int .i64 p.b, .int .i64 p.e, .int .i64 p.u] 31)).alloc (.cells #[.int .i64 0, .slice none 0 0, .slice none 0 0, .int .i64 0] 35)) ∧
    At w.heap.size (S3L a1 n1 c1 a2 n2 c2 x) (((w.alloc (.cells #[.slice a1 n1 c1, .slice a2 n2 c2, .int .i64 x] 29)).alloc (.cells #[.string p.n, .int .i64 p.a, .int .i64 p.b, .int .i64 p.e, .int .i64 p.u] 31)).alloc (.cells #[.int .i64 0, .slice none 0 0, .slice none 0 0, .int .i64 0] 35)) ∧
    At (w.heap.size + 1) p.vals (((w.alloc (.cells #[.slice a1 n1 c1, .slice a2 n2 c2, .int .i64 x] 29)).alloc (.cells #[.string p.n, .int .i64 p.a, .int .i64 p.b, .int .i64 p.e, .int .i64 p.u] 31)).alloc (.cells #[.int .i64 0, .slice none 0 0, .slice none 0 0, .int .i64 0] 35)) ∧
    At (w.heap.size + 1 + 1) zero9 (((w.alloc (.cells #[.slice a1 n1 c1, .slice a2 n2 c2, .int .i64 x] 29)).alloc (.cells #[.string p.n, .int .i64 p.a, .int .i64 p.b, .int .i64 p.e, .int .i64 p.u] 31)).alloc (.cells #[.int .i64 0, .slice none 0 0, .slice none 0 0, .int .i64 0] 35)) := by
  have b0 := bal (bal (bal (Below.refl _ w) (.cells #[.slice a1 n1 c1, .slice a2 n2 c2, .int .i64 x] 29)) (.cells #[.string p.n, .int .i64 p.a, .int .i64 p.b, .int .i64 p.e, .int .i64 p.u] 31)) (.cells #[.int .i64 0, .slice none 0 0, .slice none 0 0, .int .i64 0] 35)
  have A0 := ((At.new w (S3L a1 n1 c1 a2 n2 c2 x) 29).alloc (.cells #[.string p.n, .int .i64 p.a, .int .i64 p.b, .int .i64 p.e, .int .i64 p.u] 31)).alloc (.cells #[.int .i64 0, .slice none 0 0, .slice none 0 0, .int .i64 0] 35)
  have P0 := (At.new (w.alloc (.cells #[.slice a1 n1 c1, .slice a2 n2 c2, .int .i64 x] 29)) p.vals 31).alloc (.cells #[.int .i64 0, .slice none 0 0, .slice none 0 0, .int .i64 0] 35)
  have R0 := At.new ((w.alloc (.cells #[.slice a1 n1 c1, .slice a2 n2 c2, .int .i64 x] 29)).alloc (.cells #[.string p.n, .int .i64 p.a, .int .i64 p.b, .int .i64 p.e, .int .i64 p.u] 31)) zero9 35
  rw [World.size_alloc] at P0
  rw [World.size_alloc, World.size_alloc] at R0
  exact ⟨b0, A0, P0, R0⟩
theorem noteS_no {s : StoreD} {p : PinD} (h : noteC s p ≠ 0) : noteS s p = store0 := by unfold noteS; rw [if_neg h]
set_option maxHeartbeats 4000000 in
theorem implNotePin_any (a1 : Option Addr) (n1 c1 : Nat) (a2 : Option Addr) (n2 c2 B : Nat) (s : StoreD) (p : PinD) (w : World) (hR : SRow w B a1 n1 c1 a2 n2 c2 s) (hB : B ≤ w.heap.size) (hpn : p.n.size ≤ maxLen) :
    Calls Tryz.prog 16 #[S3 a1 n1 c1 a2 n2 c2 s.d.s, P5 p] w (StoreRes (noteC s p) (noteS s p) w) := by
  obtain ⟨b0, A0, P0, R0⟩ := beginN a1 n1 c1 a2 n2 c2 s.d.s p w
  have HR0 := Lib.hid R0
  have HA0 := Lib.hid A0
  have HP0 := Lib.hid P0
  have HB0 := Lib.hid b0
  have hmf : ∀ (fn : Fn) (first cap : Array Value) (w : World), (Instr.makeFunc fn first cap).run Tryz.prog w = .ok (.func fn first cap) w := fun _ _ _ _ => rfl
  have hRw := hR.wf
  have HR := Lib.hid (fun (w' : World) (h : Below w.heap.size w w') => hR.below (h.mono hB))
  have F0 := implStoreFault_any a1 n1 c1 a2 n2 c2 B s _ (hR.below (b0.mono hB)) (Nat.le_trans hB b0.size)
  clear A0 P0 R0 b0 hR
  by_cases h0 : storeF s = 0
  case neg =>
    have ec := noteC_bad (p := p) h0
    rw [noteS_no (by rw [ec]; exact h0), ec]
    generalize storeF s = cd at *
    have q9 : (cd != 0) = true := by simpa using h0
    have q8 : decide (cd = 0) = false := by simpa using h0
    clear HR ec
    have d0 := HA0.out.cell 0 _ rfl
    have d1 := HA0.out.cell 1 _ rfl
    have d2 := HA0.out.cell 2 _ rfl
    go_enter_defers Tryz.func16, Tryz.ntmps16
    go_wp2_with fail
    generalize ((w.alloc (.cells #[.slice a1 n1 c1, .slice a2 n2 c2, .int .i64 s.d.s] 29)).alloc (.cells #[.string p.n, .int .i64 p.a, .int .i64 p.b, .int .i64 p.e, .int .i64 p.u] 31)).alloc (.cells #[.int .i64 0, .slice none 0 0, .slice none 0 0, .int .i64 0] 35) = W0 at *
    refine F0.mono ?_
    rintro r u1 ⟨rfl, b1⟩
    have B1 := Lib.hid (btr HB0.out b1)
    have R1 := Lib.hid (HR0.out.on b1)
    have A1 := Lib.hid (HA0.out.on b1)
    have P1 := Lib.hid (HP0.out.on b1)
    clear d0 d1 d2 b1 F0 HB0 HR0 HA0 HP0
    have R9 := R1.out
    have HB9 := Lib.hid (show Below w.heap.size w ((((u1.setCell ⟨w.heap.size + 1 + 1, 0, none⟩ (.int .i64 cd)).setCell ⟨w.heap.size + 1 + 1, 1, none⟩ (.slice none 0 0)).setCell ⟨w.heap.size + 1 + 1, 2, none⟩ (.slice none 0 0)).setCell ⟨w.heap.size + 1 + 1, 3, none⟩ (.int .i64 0)) from (by (iterate 4 (refine bset ?_ (by dsimp only; omega) _)); exact B1.out))
    unfold zero9 at R9
    have q0 := R9.cell 0 _ rfl
    have q1 := R9.cell 1 _ rfl
    have q2 := R9.cell 2 _ rfl
    have q3 := R9.cell 3 _ rfl
    have f0 := R9.free 0 _ rfl
    have f1 := R9.free 1 _ rfl
    have f2 := R9.free 2 _ rfl
    have f3 := R9.free 3 _ rfl
    clear R9
    go_wp2_with fail
    exact ⟨V4 cd none 0 0 none 0 0 0, by simp [results, Tryz.results16, go_sem, V4, q0, q1, q2, q3], none, 0, 0, none, 0, 0, rfl, SOwn.nil _ _ HB9.out.size, HB9.out⟩
  obtain ⟨ho, hp⟩ := storeF_zero h0
  obtain ⟨h12, hlong, _, _⟩ := diskF_zero (openC_zero ho).1
  rw [h0] at F0
  have JO := Lib.hid (fun (w' : World) (h : Below w.heap.size w w') => journalOf_any a2 n2 c2 B s.d.rs s.d.s w' (HR.out w' h).rs (Nat.le_trans hB h.size) h12 hlong)
  have pp := fun (w' : World) (h : Below w.heap.size w w') => implPutPin_any a1 n1 c1 B s.ps p w' (HR.out w' h).ps (Nat.le_trans hB h.size) hpn
  have hct := jall_count s.d.rs s.d.s
  have HFJ := Lib.hid (jall_fit s.d.rs s.d.s)
  have HOJ := Lib.hid (jall_one s.d.rs s.d.s)
  have HLJ := Lib.hid (jall_old [] s.d.rs 0 s.d.s)
  have hz := (zero_of_info jour_info).1
  rw [← jall_nil] at hz
  generalize jall [] 0 = E at *
  unfold PinsRes at pp
  by_cases hput : putC s.ps p = 0
  case neg =>
    have ec := noteC_put h0 hput
    rw [noteS_no (by rw [ec]; exact hput), ec]
    have PP := Lib.hid pp
    clear pp ec h0 ho hp h12 hlong hRw HR
    generalize putR s.ps p = qs at *
    generalize putC s.ps p = cp at *
    generalize jall s.d.rs s.d.s = J at *
    have q9 : (cp != 0) = true := by simpa using hput
    have q8 : decide (cp = 0) = false := by simpa using hput
    have d0 := HA0.out.cell 0 _ rfl
    have d1 := HA0.out.cell 1 _ rfl
    have d2 := HA0.out.cell 2 _ rfl
    go_enter_defers Tryz.func16, Tryz.ntmps16
    go_wp2_with fail
    generalize ((w.alloc (.cells #[.slice a1 n1 c1, .slice a2 n2 c2, .int .i64 s.d.s] 29)).alloc (.cells #[.string p.n, .int .i64 p.a, .int .i64 p.b, .int .i64 p.e, .int .i64 p.u] 31)).alloc (.cells #[.int .i64 0, .slice none 0 0, .slice none 0 0, .int .i64 0] 35) = W0 at *
    refine F0.mono ?_
    rintro r u1 ⟨rfl, b1⟩
    have B1 := Lib.hid (btr HB0.out b1)
    have R1 := Lib.hid (HR0.out.on b1)
    have A1 := Lib.hid (HA0.out.on b1)
    have P1 := Lib.hid (HP0.out.on b1)
    clear d0 d1 d2 b1 F0 HB0 HR0 HA0 HP0
    have d0 := A1.out.cell 0 _ rfl
    have d1 := A1.out.cell 1 _ rfl
    have d2 := A1.out.cell 2 _ rfl
    have hlt1 : w.heap.size + 1 + 1 < u1.heap.size := R1.out.lt (by simp [zero9])
    go_wp2_with fail
    refine (JO.out _ B1.out).mono ?_
    rintro r u2 ⟨rfl, b2⟩
    have Q2 := (JB.new u2 E).row J
    have hlt2 : u1.heap.size ≤ u2.heap.size := b2.size
    have b3 := btr b2 (brow (bal (Below.refl _ u2) (.cells E.toArray 94)) (Nat.le_refl _) J.toArray)
    have R3 := Lib.hid (R1.out.on b3)
    have A3 := Lib.hid (A1.out.on b3)
    have P3 := Lib.hid (P1.out.on b3)
    have B3 := Lib.hid (btr B1.out b3)
    clear d0 d1 d2 b2 b3 A1 R1 P1 B1
    go_upto_region 5 with (refine store_jour J E rfl (.tmp 6) (.tmp 16) rfl u2.heap.size rfl rfl (JB.new u2 E) HFJ.out HLJ.out HOJ.out ?_)
    generalize (u2.alloc (.cells E.toArray 94)).setRow u2.heap.size J.toArray = W3 at *
    have HQ2 := Lib.hid Q2
    clear Q2
    generalize u2.heap.size = j at *
    have d0 := A3.out.cell 0 _ rfl
    have d1 := A3.out.cell 1 _ rfl
    have d2 := A3.out.cell 2 _ rfl
    have p0 := P3.out.cell 0 _ rfl
    have p1 := P3.out.cell 1 _ rfl
    have p2 := P3.out.cell 2 _ rfl
    have p3 := P3.out.cell 3 _ rfl
    have p4 := P3.out.cell 4 _ rfl
    go_wp2_with fail
    refine (PP.out _ B3.out).mono ?_
    rintro r u4 ⟨a4, n4, c4, rfl, O4, b4⟩
    have b45 := btr b4 (bal (Below.refl _ u4) (.cells #[.int .i64 cp, .slice a4 n4 c4] 100))
    have T5 := Lib.hid (show At u4.heap.size [.int .i64 cp, .slice a4 n4 c4] (u4.alloc (.cells #[.int .i64 cp, .slice a4 n4 c4] 100)) from At.new u4 [.int .i64 cp, .slice a4 n4 c4] 100)
    have HO5 := Lib.hid (O4.below (bal (Below.refl _ u4) (.cells #[.int .i64 cp, .slice a4 n4 c4] 100)))
    have hlt3 : j < W3.heap.size := HQ2.out.lt
    have R5 := Lib.hid (R3.out.on b45)
    have P5' := Lib.hid (P3.out.on b45)
    have Q5 := Lib.hid (HQ2.out.on b45)
    have B5 := Lib.hid (btr B3.out b45)
    have hlt4 : W3.heap.size ≤ u4.heap.size := b4.size
    clear d0 d1 d2 p0 p1 p2 p3 p4 b4 b45 O4 R3 A3 P3 B3 HQ2
    go_upto_region 7 with fail
    generalize u4.alloc (.cells #[.int .i64 cp, .slice a4 n4 c4] 100) = W5 at *
    have t0 := T5.out.cell 0 _ rfl
    have t1 := T5.out.cell 1 _ rfl
    have R9 := R5.out
    have Q9 := Q5.out
    unfold zero9 at R9
    have q0 := R9.cell 0 _ rfl
    have q1 := R9.cell 1 _ rfl
    have q2 := R9.cell 2 _ rfl
    have q3 := R9.cell 3 _ rfl
    have f0 := R9.free 0 _ rfl
    have f1 := R9.free 1 _ rfl
    have f2 := R9.free 2 _ rfl
    have f3 := R9.free 3 _ rfl
    have R10 : At (w.heap.size + 1 + 1) [.int .i64 cp, .slice none 0 0, .slice none 0 0, .int .i64 0] ((((W5.setCell ⟨w.heap.size + 1 + 1, 0, none⟩ (.int .i64 cp)).setCell ⟨w.heap.size + 1 + 1, 1, none⟩ (.slice none 0 0)).setCell ⟨w.heap.size + 1 + 1, 2, none⟩ (.slice none 0 0)).setCell ⟨w.heap.size + 1 + 1, 3, none⟩ (.int .i64 0)) := by simpa using (((R9.set 0 (.int .i64 cp)).set 1 (.slice none 0 0)).set 2 (.slice none 0 0)).set 3 (.int .i64 0)
    have HR10 := Lib.hid R10
    have HB10 := Lib.hid (show Below w.heap.size w ((((W5.setCell ⟨w.heap.size + 1 + 1, 0, none⟩ (.int .i64 cp)).setCell ⟨w.heap.size + 1 + 1, 1, none⟩ (.slice none 0 0)).setCell ⟨w.heap.size + 1 + 1, 2, none⟩ (.slice none 0 0)).setCell ⟨w.heap.size + 1 + 1, 3, none⟩ (.int .i64 0)) from (by (iterate 4 (refine bset ?_ (by dsimp only; omega) _)); exact B5.out))
    clear R9 Q9 R10
    go_wp2_with fail
    refine leaves_cons (f := 60) (args := #[.pointer (some ⟨w.heap.size + 1 + 1, 0, none⟩), .pointer (some ⟨j, 0, none⟩), .pointer (some ⟨w.heap.size + 1, 0, none⟩)]) (by simp) (by simp [go_sem]) ?_
    refine (note_idle _ _ _ cp _ _ _ _ HR10.out hput).mono ?_
    rintro e u' w2 ⟨rfl, rfl, rfl⟩
    clear q0 q1 q2 q3 f0 f1 f2 f3
    have q0 := HR10.out.cell 0 _ rfl
    have q1 := HR10.out.cell 1 _ rfl
    have q2 := HR10.out.cell 2 _ rfl
    have q3 := HR10.out.cell 3 _ rfl
    exact ⟨V4 cp none 0 0 none 0 0 0, by simp [results, Tryz.results16, go_sem, V4, q0, q1, q2, q3], none, 0, 0, none, 0, 0, rfl, SOwn.nil _ _ HB10.out.size, HB10.out⟩
  rw [hput] at pp
  by_cases hfull : 12 ≤ s.d.rs.length
  · have ec := noteC_full h0 hput hfull
    rw [noteS_no (by rw [ec]; decide), ec]
    have PP := Lib.hid pp
    have hr12 : (s.d.rs.length : Int) = 12 := by have : s.d.rs.length ≤ 12 := h12; omega
    rw [hr12] at hct
    clear pp ec h0 ho hp h12 hlong hRw HR hput hr12 hfull
    generalize putR s.ps p = qs at *
    generalize jall s.d.rs s.d.s = J at *
    have d0 := HA0.out.cell 0 _ rfl
    have d1 := HA0.out.cell 1 _ rfl
    have d2 := HA0.out.cell 2 _ rfl
    go_enter_defers Tryz.func16, Tryz.ntmps16
    go_wp2_with fail
    generalize ((w.alloc (.cells #[.slice a1 n1 c1, .slice a2 n2 c2, .int .i64 s.d.s] 29)).alloc (.cells #[.string p.n, .int .i64 p.a, .int .i64 p.b, .int .i64 p.e, .int .i64 p.u] 31)).alloc (.cells #[.int .i64 0, .slice none 0 0, .slice none 0 0, .int .i64 0] 35) = W0 at *
    refine F0.mono ?_
    rintro r u1 ⟨rfl, b1⟩
    have B1 := Lib.hid (btr HB0.out b1)
    have R1 := Lib.hid (HR0.out.on b1)
    have A1 := Lib.hid (HA0.out.on b1)
    have P1 := Lib.hid (HP0.out.on b1)
    clear d0 d1 d2 b1 F0 HB0 HR0 HA0 HP0
    have d0 := A1.out.cell 0 _ rfl
    have d1 := A1.out.cell 1 _ rfl
    have d2 := A1.out.cell 2 _ rfl
    have hlt1 : w.heap.size + 1 + 1 < u1.heap.size := R1.out.lt (by simp [zero9])
    go_wp2_with fail
    refine (JO.out _ B1.out).mono ?_
    rintro r u2 ⟨rfl, b2⟩
    have Q2 := (JB.new u2 E).row J
    have hlt2 : u1.heap.size ≤ u2.heap.size := b2.size
    have b3 := btr b2 (brow (bal (Below.refl _ u2) (.cells E.toArray 94)) (Nat.le_refl _) J.toArray)
    have R3 := Lib.hid (R1.out.on b3)
    have A3 := Lib.hid (A1.out.on b3)
    have P3 := Lib.hid (P1.out.on b3)
    have B3 := Lib.hid (btr B1.out b3)
    clear d0 d1 d2 b2 b3 A1 R1 P1 B1
    go_upto_region 5 with (refine store_jour J E rfl (.tmp 6) (.tmp 16) rfl u2.heap.size rfl rfl (JB.new u2 E) HFJ.out HLJ.out HOJ.out ?_)
    generalize (u2.alloc (.cells E.toArray 94)).setRow u2.heap.size J.toArray = W3 at *
    have HQ2 := Lib.hid Q2
    clear Q2
    generalize u2.heap.size = j at *
    have d0 := A3.out.cell 0 _ rfl
    have d1 := A3.out.cell 1 _ rfl
    have d2 := A3.out.cell 2 _ rfl
    have p0 := P3.out.cell 0 _ rfl
    have p1 := P3.out.cell 1 _ rfl
    have p2 := P3.out.cell 2 _ rfl
    have p3 := P3.out.cell 3 _ rfl
    have p4 := P3.out.cell 4 _ rfl
    go_wp2_with fail
    refine (PP.out _ B3.out).mono ?_
    rintro r u4 ⟨a4, n4, c4, rfl, O4, b4⟩
    have b45 := btr b4 (bal (Below.refl _ u4) (.cells #[.int .i64 0, .slice a4 n4 c4] 100))
    have T5 := Lib.hid (show At u4.heap.size [.int .i64 0, .slice a4 n4 c4] (u4.alloc (.cells #[.int .i64 0, .slice a4 n4 c4] 100)) from At.new u4 [.int .i64 0, .slice a4 n4 c4] 100)
    have HO5 := Lib.hid (O4.below (bal (Below.refl _ u4) (.cells #[.int .i64 0, .slice a4 n4 c4] 100)))
    have hlt3 : j < W3.heap.size := HQ2.out.lt
    have R5 := Lib.hid (R3.out.on b45)
    have P5' := Lib.hid (P3.out.on b45)
    have Q5 := Lib.hid (HQ2.out.on b45)
    have B5 := Lib.hid (btr B3.out b45)
    have hlt4 : W3.heap.size ≤ u4.heap.size := b4.size
    clear d0 d1 d2 p0 p1 p2 p3 p4 b4 b45 O4 R3 A3 P3 B3 HQ2
    go_upto_region 7 with fail
    generalize u4.alloc (.cells #[.int .i64 0, .slice a4 n4 c4] 100) = W5 at *
    have t0 := T5.out.cell 0 _ rfl
    have t1 := T5.out.cell 1 _ rfl
    have cc := Q5.out.at hct
    have R9 := R5.out
    have Q9 := Q5.out
    unfold zero9 at R9
    have q0 := R9.cell 0 _ rfl
    have q1 := R9.cell 1 _ rfl
    have q2 := R9.cell 2 _ rfl
    have q3 := R9.cell 3 _ rfl
    have f0 := R9.free 0 _ rfl
    have f1 := R9.free 1 _ rfl
    have f2 := R9.free 2 _ rfl
    have f3 := R9.free 3 _ rfl
    have R10 : At (w.heap.size + 1 + 1) [.int .i64 7, .slice none 0 0, .slice none 0 0, .int .i64 0] ((((W5.setCell ⟨w.heap.size + 1 + 1, 0, none⟩ (.int .i64 7)).setCell ⟨w.heap.size + 1 + 1, 1, none⟩ (.slice none 0 0)).setCell ⟨w.heap.size + 1 + 1, 2, none⟩ (.slice none 0 0)).setCell ⟨w.heap.size + 1 + 1, 3, none⟩ (.int .i64 0)) := by simpa using (((R9.set 0 (.int .i64 7)).set 1 (.slice none 0 0)).set 2 (.slice none 0 0)).set 3 (.int .i64 0)
    have HR10 := Lib.hid R10
    have HB10 := Lib.hid (show Below w.heap.size w ((((W5.setCell ⟨w.heap.size + 1 + 1, 0, none⟩ (.int .i64 7)).setCell ⟨w.heap.size + 1 + 1, 1, none⟩ (.slice none 0 0)).setCell ⟨w.heap.size + 1 + 1, 2, none⟩ (.slice none 0 0)).setCell ⟨w.heap.size + 1 + 1, 3, none⟩ (.int .i64 0)) from (by (iterate 4 (refine bset ?_ (by dsimp only; omega) _)); exact B5.out))
    clear R9 Q9 R10
    go_wp2_with fail
    refine leaves_cons (f := 60) (args := #[.pointer (some ⟨w.heap.size + 1 + 1, 0, none⟩), .pointer (some ⟨j, 0, none⟩), .pointer (some ⟨w.heap.size + 1, 0, none⟩)]) (by simp) (by simp [go_sem]) ?_
    refine (note_idle _ _ _ 7 _ _ _ _ HR10.out (by decide)).mono ?_
    rintro e u' w2 ⟨rfl, rfl, rfl⟩
    clear q0 q1 q2 q3 f0 f1 f2 f3
    have q0 := HR10.out.cell 0 _ rfl
    have q1 := HR10.out.cell 1 _ rfl
    have q2 := HR10.out.cell 2 _ rfl
    have q3 := HR10.out.cell 3 _ rfl
    exact ⟨V4 7 none 0 0 none 0 0 0, by simp [results, Tryz.results16, go_sem, V4, q0, q1, q2, q3], none, 0, 0, none, 0, 0, rfl, SOwn.nil _ _ HB10.out.size, HB10.out⟩
  have ec := noteC_yes h0 hput hfull
  have hpf := (put_ok hput).fp
  have hlt12 : s.d.rs.length < 12 := by omega
  have es : noteS s p = noted s p := by unfold noteS; rw [if_pos ec]
  have er : putR s.ps p = putL s.ps p := by unfold putR; rw [if_pos hput]
  have HNM := Lib.hid (right_names (storeF_pins (noted_f h0 hput hlt12)))
  have HW : Hid (∀ zs ∈ s.d.rs ++ [recP p], ∀ z ∈ zs, (Lit.int .u8 z).wf = true) := Lib.hid (fun zs hz z hzz => by
    rcases List.mem_append.1 hz with hz | hz
    · exact hRw zs hz z hzz
    · rw [List.mem_singleton] at hz
      subst hz
      exact byte_wf (recP_byte hpf z hzz))
  rw [es, ec]
  rw [er] at pp
  have PP := Lib.hid pp
  have NW := Lib.hid (fun (g j b : Nat) (v1 : Value) (y : Int) (w' : World) (A : At g [.int .i64 0, v1, .slice none 0 0, .int .i64 y] w') (hA : At b p.vals w') (hJ : JB j (jall s.d.rs s.d.s) w') (h1 : b ≠ g) (h2 : j ≠ g) => note_write g j b v1 s.d.s y p s.d.rs w' A hA hJ hpf hlt12 hlong hRw h1 h2)
  have q7 : ¬ ((s.d.rs.length : Int) = 12) := by omega
  have q6 : decide ((s.d.rs.length : Int) = 12) = false := decide_eq_false q7
  have q5 : ((s.d.rs.length : Int) == 12) = false := by simpa using q7
  clear pp ec h0 ho hp h12 hlong hRw HR hput hfull hpf hlt12 es er
  show Calls Tryz.prog 16 #[S3 a1 n1 c1 a2 n2 c2 s.d.s, P5 p] w (StoreRes 0 ⟨putL s.ps p, ⟨s.d.rs ++ [recP p], s.d.s⟩⟩ w)
  have HNM : Hid (∀ q ∈ putL s.ps p, q.n.size ≤ maxLen) := HNM
  unfold Wrote at NW
  generalize putL s.ps p = qs at *
  generalize s.d.rs ++ [recP p] = rs2 at *
  generalize jall s.d.rs s.d.s = J at *
  have d0 := HA0.out.cell 0 _ rfl
  have d1 := HA0.out.cell 1 _ rfl
  have d2 := HA0.out.cell 2 _ rfl
  go_enter_defers Tryz.func16, Tryz.ntmps16
  go_wp2_with fail
  generalize ((w.alloc (.cells #[.slice a1 n1 c1, .slice a2 n2 c2, .int .i64 s.d.s] 29)).alloc (.cells #[.string p.n, .int .i64 p.a, .int .i64 p.b, .int .i64 p.e, .int .i64 p.u] 31)).alloc (.cells #[.int .i64 0, .slice none 0 0, .slice none 0 0, .int .i64 0] 35) = W0 at *
  refine F0.mono ?_
  rintro r u1 ⟨rfl, b1⟩
  have B1 := Lib.hid (btr HB0.out b1)
  have R1 := Lib.hid (HR0.out.on b1)
  have A1 := Lib.hid (HA0.out.on b1)
  have P1 := Lib.hid (HP0.out.on b1)
  clear d0 d1 d2 b1 F0 HB0 HR0 HA0 HP0
  have d0 := A1.out.cell 0 _ rfl
  have d1 := A1.out.cell 1 _ rfl
  have d2 := A1.out.cell 2 _ rfl
  have hlt1 : w.heap.size + 1 + 1 < u1.heap.size := R1.out.lt (by simp [zero9])
  go_wp2_with fail
  refine (JO.out _ B1.out).mono ?_
  rintro r u2 ⟨rfl, b2⟩
  have Q2 := (JB.new u2 E).row J
  have hlt2 : u1.heap.size ≤ u2.heap.size := b2.size
  have b3 := btr b2 (brow (bal (Below.refl _ u2) (.cells E.toArray 94)) (Nat.le_refl _) J.toArray)
  have R3 := Lib.hid (R1.out.on b3)
  have A3 := Lib.hid (A1.out.on b3)
  have P3 := Lib.hid (P1.out.on b3)
  have B3 := Lib.hid (btr B1.out b3)
  clear d0 d1 d2 b2 b3 A1 R1 P1 B1
  go_upto_region 5 with (refine store_jour J E rfl (.tmp 6) (.tmp 16) rfl u2.heap.size rfl rfl (JB.new u2 E) HFJ.out HLJ.out HOJ.out ?_)
  generalize (u2.alloc (.cells E.toArray 94)).setRow u2.heap.size J.toArray = W3 at *
  have HQ2 := Lib.hid Q2
  clear Q2
  generalize u2.heap.size = j at *
  have d0 := A3.out.cell 0 _ rfl
  have d1 := A3.out.cell 1 _ rfl
  have d2 := A3.out.cell 2 _ rfl
  have p0 := P3.out.cell 0 _ rfl
  have p1 := P3.out.cell 1 _ rfl
  have p2 := P3.out.cell 2 _ rfl
  have p3 := P3.out.cell 3 _ rfl
  have p4 := P3.out.cell 4 _ rfl
  go_wp2_with fail
  refine (PP.out _ B3.out).mono ?_
  rintro r u4 ⟨a4, n4, c4, rfl, O4, b4⟩
  have b45 := btr b4 (bal (Below.refl _ u4) (.cells #[.int .i64 0, .slice a4 n4 c4] 100))
  have T5 := Lib.hid (show At u4.heap.size [.int .i64 0, .slice a4 n4 c4] (u4.alloc (.cells #[.int .i64 0, .slice a4 n4 c4] 100)) from At.new u4 [.int .i64 0, .slice a4 n4 c4] 100)
  have HO5 := Lib.hid (O4.below (bal (Below.refl _ u4) (.cells #[.int .i64 0, .slice a4 n4 c4] 100)))
  have hlt3 : j < W3.heap.size := HQ2.out.lt
  have R5 := Lib.hid (R3.out.on b45)
  have P5' := Lib.hid (P3.out.on b45)
  have Q5 := Lib.hid (HQ2.out.on b45)
  have B5 := Lib.hid (btr B3.out b45)
  have hlt4 : W3.heap.size ≤ u4.heap.size := b4.size
  clear d0 d1 d2 p0 p1 p2 p3 p4 b4 b45 O4 R3 A3 P3 B3 HQ2
  go_upto_region 7 with fail
  generalize u4.alloc (.cells #[.int .i64 0, .slice a4 n4 c4] 100) = W5 at *
  have t0 := T5.out.cell 0 _ rfl
  have t1 := T5.out.cell 1 _ rfl
  have cc := Q5.out.at hct
  have R9 := R5.out
  unfold zero9 at R9
  have q0 := R9.cell 0 _ rfl
  have q1 := R9.cell 1 _ rfl
  have q2 := R9.cell 2 _ rfl
  have q3 := R9.cell 3 _ rfl
  have f0 := R9.free 0 _ rfl
  have f1 := R9.free 1 _ rfl
  have f2 := R9.free 2 _ rfl
  have f3 := R9.free 3 _ rfl
  have hr1 : w.heap.size + 1 ≠ w.heap.size + 1 + 1 := by omega
  have hr2 : j ≠ w.heap.size + 1 + 1 := by omega
  have R10 : At (w.heap.size + 1 + 1) [.int .i64 0, .slice a4 n4 c4, .slice none 0 0, .int .i64 0] ((((W5.setCell ⟨w.heap.size + 1 + 1, 0, none⟩ (.int .i64 0)).setCell ⟨w.heap.size + 1 + 1, 1, none⟩ (.slice a4 n4 c4)).setCell ⟨w.heap.size + 1 + 1, 2, none⟩ (.slice none 0 0)).setCell ⟨w.heap.size + 1 + 1, 3, none⟩ (.int .i64 0)) := by simpa using (((R9.set 0 (.int .i64 0)).set 1 (.slice a4 n4 c4)).set 2 (.slice none 0 0)).set 3 (.int .i64 0)
  have P10 := (((P5'.out.setB (p := ⟨w.heap.size + 1 + 1, 0, none⟩) hr1 (.int .i64 0)).setB (p := ⟨w.heap.size + 1 + 1, 1, none⟩) hr1 (.slice a4 n4 c4)).setB (p := ⟨w.heap.size + 1 + 1, 2, none⟩) hr1 (.slice none 0 0)).setB (p := ⟨w.heap.size + 1 + 1, 3, none⟩) hr1 (.int .i64 0)
  have Q10 := (((Q5.out.setB (p := ⟨w.heap.size + 1 + 1, 0, none⟩) hr2 (.int .i64 0)).setB (p := ⟨w.heap.size + 1 + 1, 1, none⟩) hr2 (.slice a4 n4 c4)).setB (p := ⟨w.heap.size + 1 + 1, 2, none⟩) hr2 (.slice none 0 0)).setB (p := ⟨w.heap.size + 1 + 1, 3, none⟩) hr2 (.int .i64 0)
  have hlt5 : w.heap.size + 1 + 1 < W3.heap.size := by omega
  have O10 : OwnP ((((W5.setCell ⟨w.heap.size + 1 + 1, 0, none⟩ (.int .i64 0)).setCell ⟨w.heap.size + 1 + 1, 1, none⟩ (.slice a4 n4 c4)).setCell ⟨w.heap.size + 1 + 1, 2, none⟩ (.slice none 0 0)).setCell ⟨w.heap.size + 1 + 1, 3, none⟩ (.int .i64 0)) W3.heap.size (.slice a4 n4 c4) qs := by
    have hne : ∀ g, Value.ownBlock (.slice a4 n4 c4) = some g → g ≠ w.heap.size + 1 + 1 := fun g e => by have := (Own.lt HO5.out g e).1; omega
    exact Own.setCell (Own.setCell (Own.setCell (Own.setCell HO5.out (p := ⟨w.heap.size + 1 + 1, 0, none⟩) hne _) (p := ⟨w.heap.size + 1 + 1, 1, none⟩) hne _) (p := ⟨w.heap.size + 1 + 1, 2, none⟩) hne _) (p := ⟨w.heap.size + 1 + 1, 3, none⟩) hne _
  have HR10 := Lib.hid R10
  have HP10 := Lib.hid P10
  have HQ10 := Lib.hid Q10
  have HO10 := Lib.hid O10
  have HB10 := Lib.hid (show Below w.heap.size w ((((W5.setCell ⟨w.heap.size + 1 + 1, 0, none⟩ (.int .i64 0)).setCell ⟨w.heap.size + 1 + 1, 1, none⟩ (.slice a4 n4 c4)).setCell ⟨w.heap.size + 1 + 1, 2, none⟩ (.slice none 0 0)).setCell ⟨w.heap.size + 1 + 1, 3, none⟩ (.int .i64 0)) from (by (iterate 4 (refine bset ?_ (by dsimp only; omega) _)); exact B5.out))
  have hsz10 : W3.heap.size ≤ ((((W5.setCell ⟨w.heap.size + 1 + 1, 0, none⟩ (.int .i64 0)).setCell ⟨w.heap.size + 1 + 1, 1, none⟩ (.slice a4 n4 c4)).setCell ⟨w.heap.size + 1 + 1, 2, none⟩ (.slice none 0 0)).setCell ⟨w.heap.size + 1 + 1, 3, none⟩ (.int .i64 0)).heap.size := by
    have := HO5.out
    have h5 : u4.heap.size < W5.heap.size := T5.out.lt (by simp)
    simp [World.setCell]
    omega
  clear R9 R10 P10 Q10 O10 R5 P5' Q5 HO5 B5
  go_wp2_with fail
  refine leaves_cons (f := 60) (args := #[.pointer (some ⟨w.heap.size + 1 + 1, 0, none⟩), .pointer (some ⟨j, 0, none⟩), .pointer (some ⟨w.heap.size + 1, 0, none⟩)]) (by simp) (by simp [go_sem]) ?_
  refine (NW.out _ _ _ _ _ _ HR10.out HP10.out HQ10.out hr1 hr2).mono ?_
  rintro e u' w2 ⟨rfl, rfl, w1, a6, n6, c6, xs, rfl, G6, b6⟩
  have SO := SOwn.mk' (W := w) (x := s.d.s) (HO10.out.below b6) hsz10 (fun g e => (Own.lt HO10.out g e).2) G6 b6.size HNM.out HW.out
  have SO2 := (SO.setCell (p := ⟨w.heap.size + 1 + 1, 2, none⟩) (.inl hlt5) (.slice a6 n6 c6)).setCell (p := ⟨w.heap.size + 1 + 1, 3, none⟩) (.inl hlt5) (.int .i64 s.d.s)
  have HSO := Lib.hid ((SO2.less (show w.heap.size ≤ W3.heap.size by omega)).more SO2.top.2 (Nat.le_refl _))
  have R11 : At (w.heap.size + 1 + 1) [.int .i64 0, .slice a4 n4 c4, .slice a6 n6 c6, .int .i64 s.d.s] ((w1.setCell ⟨w.heap.size + 1 + 1, 2, none⟩ (.slice a6 n6 c6)).setCell ⟨w.heap.size + 1 + 1, 3, none⟩ (.int .i64 s.d.s)) := by simpa using ((HR10.out.on b6).set 2 (.slice a6 n6 c6)).set 3 (.int .i64 s.d.s)
  have HB11 := Lib.hid (show Below w.heap.size w ((w1.setCell ⟨w.heap.size + 1 + 1, 2, none⟩ (.slice a6 n6 c6)).setCell ⟨w.heap.size + 1 + 1, 3, none⟩ (.int .i64 s.d.s)) from (by (iterate 2 (refine bset ?_ (by dsimp only; omega) _)); exact (btr HB10.out b6)))
  clear q0 q1 q2 q3 f0 f1 f2 f3
  have q0 := R11.cell 0 _ rfl
  have q1 := R11.cell 1 _ rfl
  have q2 := R11.cell 2 _ rfl
  have q3 := R11.cell 3 _ rfl
  exact ⟨V4 0 a4 n4 c4 a6 n6 c6 s.d.s, by simp [results, Tryz.results16, go_sem, V4, q0, q1, q2, q3], a4, n4, c4, a6, n6, c6, rfl, HSO.out, HB11.out⟩
end Go.Proofs.YtefgimpodhjdpaaGreatDoor
