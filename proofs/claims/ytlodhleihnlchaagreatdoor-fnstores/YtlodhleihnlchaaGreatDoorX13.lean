/- Texts of this seat that several laws rest on, laid into one. Conditions: as each theorem states. -/
import Derived.Test.YtlodhleihnlchaaGreatDoorX6
import Derived.Test.YtlodhleihnlchaaGreatDoorX12
import Derived.DataShut
import Derived.Defers
namespace Go.Proofs.YtlodhleihnlchaaGreatDoor
open Go.RowKit
set_option maxRecDepth 100000
set_option linter.unusedVariables false

theorem Grid.upto {w : World} {B : Nat} {a : Option Addr} {len cap : Nat} {zss : List (List Int)} (h : Grid w B a len cap zss) (n : Nat) (hn : n ≤ len) : Grid w B a n cap (zss.take n) :=
  ⟨by rw [List.length_take, h.length]; omega, Nat.le_trans hn h.fits, h.most, fun hp => by
    obtain ⟨b, off, e, hb, hc⟩ := h.cells (by omega)
    refine ⟨b, off, e, hb, fun j hj => ?_⟩
    obtain ⟨a', n', c', h1, h2⟩ := hc j (by omega)
    refine ⟨a', n', c', h1, ?_⟩
    rw [List.getElem?_take_of_lt hj]
    exact h2⟩
theorem l1Min_any (a b : Int) (w : World) : Calls Tryz.prog 298 #[.int .i64 a, .int .i64 b] w fun e w' => e = .returned (.int .i64 (if a < b then a else b)) ∧ w = w' := by
  by_cases h : a < b
  · rw [if_pos h]
    go_enter Tryz.func298, Tryz.ntmps298
    go_wp2_with fail
    go_ret
    exact ⟨rfl, rfl⟩
  · rw [if_neg h]
    go_enter Tryz.func298, Tryz.ntmps298
    go_wp2_with fail
    go_ret
    exact ⟨rfl, rfl⟩
set_option maxHeartbeats 1000000 in
theorem specSyncStore_any (a1 : Option Addr) (n1 c1 : Nat) (a2 : Option Addr) (n2 c2 B : Nat) (s : StoreD) (w : World) (hR : SRow w B a1 n1 c1 a2 n2 c2 s) (hB : B ≤ w.heap.size) :
    Calls Tryz.prog 40 #[S3 a1 n1 c1 a2 n2 c2 s.d.s] w (StoreRes (storeF s) (syncS s) w) := by
  obtain ⟨b0, A0, R0⟩ := begin9 a1 n1 c1 a2 n2 c2 B s w hR hB
  have HR0 := Lib.hid R0
  have HA0 := Lib.hid A0
  have HB0 := Lib.hid b0
  have hRw := hR.wf
  have HR := Lib.hid (fun (w' : World) (h : Below w.heap.size w w') => hR.below (h.mono hB))
  have F0 := l9Fault_any w.heap.size a1 n1 c1 a2 n2 c2 B s _ ⟨A0, hR.below (b0.mono hB)⟩ (Nat.le_trans hB b0.size)
  clear A0 R0 b0
  by_cases h0 : storeF s = 0
  case neg =>
    rw [syncS_no h0]
    generalize storeF s = cd at *
    have q9 : (cd != 0) = true := by simpa using h0
    have q8 : decide (cd = 0) = false := by simpa using h0
    clear HR hR
    go_enter Tryz.func40, Tryz.ntmps40
    go_wp2_with fail
    generalize (w.alloc (.cells #[.slice a1 n1 c1, .slice a2 n2 c2, .int .i64 s.d.s] 57)).alloc (.cells #[.int .i64 0, .slice none 0 0, .slice none 0 0, .int .i64 0] 63) = W0 at *
    refine F0.mono ?_
    rintro r u1 ⟨rfl, b1⟩
    have B1 := Lib.hid (btr HB0.out b1)
    have R1 := Lib.hid (HR0.out.on b1)
    have A1 := Lib.hid (HA0.out.on b1)
    clear b1 F0 HB0 HR0 HA0
    go_wp2_with fail
    refine (l9Bad_any cd _).mono ?_
    rintro r u9 ⟨rfl, b9⟩
    have R9 := (R1.out).on b9
    have B9 := btr B1.out b9
    unfold zero9 at R9
    have q0 := R9.cell 0 _ rfl
    have q1 := R9.cell 1 _ rfl
    have q2 := R9.cell 2 _ rfl
    have q3 := R9.cell 3 _ rfl
    have f0 := R9.free 0 _ rfl
    have f1 := R9.free 1 _ rfl
    have f2 := R9.free 2 _ rfl
    have f3 := R9.free 3 _ rfl
    clear b9 R9
    go_wp2_with fail
    refine bodyPost_ret (v := V4 cd none 0 0 none 0 0 0) (by simp [results, Tryz.results40, go_sem, V4, q0, q1, q2, q3]) rfl ⟨none, 0, 0, none, 0, 0, rfl, SOwn.nil _ _ ?_, ?_⟩
    · exact Nat.le_trans B9.size (by simp [World.setCell])
    · exact (by (iterate 4 (refine bset ?_ (by dsimp only; omega) _)); exact B9)
  obtain ⟨hp4, -, -⟩ := pinsF_zero (storeF_pins h0)
  obtain ⟨h12, hlong, -, -⟩ := diskF_zero (openC_zero (storeF_zero h0).1).1
  have CP := Lib.hid (fun (w' : World) (h : Below w.heap.size w w') => l9Copy_any a1 n1 c1 a2 n2 c2 B s w' (HR.out w' h) (Nat.le_trans hB h.size) hp4 h12 hlong)
  have hn2 := hR.rs.length
  subst hn2
  have e : syncS s = ⟨s.ps, ⟨s.d.rs, s.d.rs.length⟩⟩ := by unfold syncS; rw [if_pos h0]
  rw [e, h0]
  rw [h0] at F0
  have hlen : s.d.rs.length ≤ 12 := h12
  clear h0 hp4 h12 hlong e HR hR hRw
  go_enter Tryz.func40, Tryz.ntmps40
  go_wp2_with fail
  generalize (w.alloc (.cells #[.slice a1 n1 c1, .slice a2 s.d.rs.length c2, .int .i64 s.d.s] 57)).alloc (.cells #[.int .i64 0, .slice none 0 0, .slice none 0 0, .int .i64 0] 63) = W0 at *
  refine F0.mono ?_
  rintro r u1 ⟨rfl, b1⟩
  have B1 := Lib.hid (btr HB0.out b1)
  have R1 := Lib.hid (HR0.out.on b1)
  have A1 := Lib.hid (HA0.out.on b1)
  clear b1 F0 HB0 HR0 HA0
  have d0 := A1.out.cell 0 _ rfl
  have d1 := A1.out.cell 1 _ rfl
  have d2 := A1.out.cell 2 _ rfl
  go_wp2_with fail
  refine (CP.out _ B1.out).mono ?_
  rintro r u2 ⟨a3, c3, a4, c4, rfl, SO, b2⟩
  have b3 := btr b2 (bal (Below.refl _ u2) (.cells #[.slice a3 s.ps.length c3, .slice a4 s.d.rs.length c4, .int .i64 s.d.s] 57))
  have P3 : At u2.heap.size [.slice a3 s.ps.length c3, .slice a4 s.d.rs.length c4, .int .i64 s.d.s] (u2.alloc (.cells #[.slice a3 s.ps.length c3, .slice a4 s.d.rs.length c4, .int .i64 s.d.s] 57)) := At.new u2 [.slice a3 s.ps.length c3, .slice a4 s.d.rs.length c4, .int .i64 s.d.s] 57
  have HSO := Lib.hid (SO.below (bal (Below.refl _ u2) (.cells #[.slice a3 s.ps.length c3, .slice a4 s.d.rs.length c4, .int .i64 s.d.s] 57)))
  have R3 := Lib.hid (R1.out.on b3)
  have A3 := Lib.hid (A1.out.on b3)
  have B3 := Lib.hid (btr B1.out b3)
  have hst2 : w.heap.size ≤ u2.heap.size := (btr B1.out b2).size
  have hlt1 : w.heap.size + 1 < u1.heap.size := R1.out.lt (by simp [zero9])
  have hlt2 : u1.heap.size ≤ u2.heap.size := b2.size
  have HP3 := Lib.hid P3
  clear d0 d1 d2 b2 b3 P3 SO R1 A1
  go_upto_region 5 with fail
  generalize u2.alloc (.cells #[.slice a3 s.ps.length c3, .slice a4 s.d.rs.length c4, .int .i64 s.d.s] 57) = W3 at *
  have d0 := A3.out.cell 0 _ rfl
  have d1 := A3.out.cell 1 _ rfl
  have d2 := A3.out.cell 2 _ rfl
  have p0 := HP3.out.cell 0 _ rfl
  have p1 := HP3.out.cell 1 _ rfl
  have p2 := HP3.out.cell 2 _ rfl
  have g0 := HP3.out.free 0 _ rfl
  have g1 := HP3.out.free 1 _ rfl
  have g2 := HP3.out.free 2 _ rfl
  go_upto_region 6 with fail
  have P4 : At u2.heap.size [.slice a3 s.ps.length c3, .slice a4 s.d.rs.length c4, .int .i64 s.d.rs.length] (W3.setCell ⟨u2.heap.size, 2, none⟩ (.int .i64 s.d.rs.length)) := by simpa using HP3.out.set 2 (.int .i64 s.d.rs.length)
  have R4 := R3.out.setB (p := ⟨u2.heap.size, 2, none⟩) (by show w.heap.size + 1 ≠ u2.heap.size; omega) (.int .i64 s.d.rs.length)
  have B4 : Below w.heap.size w (W3.setCell ⟨u2.heap.size, 2, none⟩ (.int .i64 s.d.rs.length)) := bset B3.out (by show w.heap.size ≤ u2.heap.size; omega) _
  have SO9 : SOwn (W3.setCell ⟨u2.heap.size, 2, none⟩ (.int .i64 s.d.rs.length)) u1.heap.size (W3.setCell ⟨u2.heap.size, 2, none⟩ (.int .i64 s.d.rs.length)).heap.size (.slice a3 s.ps.length c3) (.slice a4 s.d.rs.length c4) ⟨s.ps, ⟨s.d.rs, s.d.rs.length⟩⟩ := by
    have h := HSO.out.setCell (p := ⟨u2.heap.size, 2, none⟩) (.inr (Nat.le_refl _)) (.int .i64 s.d.rs.length)
    exact h.more h.top.2 (Nat.le_refl _)
  generalize W3.setCell ⟨u2.heap.size, 2, none⟩ (.int .i64 s.d.rs.length) = W4 at *
  have HS9 := Lib.hid (SO9.res (w := w) (r := w.heap.size + 1) hlt1 (by omega) (.int .i64 0) (.slice a3 s.ps.length c3) (.slice a4 s.d.rs.length c4) (.int .i64 s.d.rs.length))
  have HB4 := Lib.hid B4
  clear d0 d1 d2 p0 p1 p2 g0 g1 g2 SO9 HP3 R3 A3 B3 HSO
  have p0 := P4.cell 0 _ rfl
  have p1 := P4.cell 1 _ rfl
  have p2 := P4.cell 2 _ rfl
  unfold zero9 at R4
  have q0 := R4.cell 0 _ rfl
  have q1 := R4.cell 1 _ rfl
  have q2 := R4.cell 2 _ rfl
  have q3 := R4.cell 3 _ rfl
  have f0 := R4.free 0 _ rfl
  have f1 := R4.free 1 _ rfl
  have f2 := R4.free 2 _ rfl
  have f3 := R4.free 3 _ rfl
  clear P4 R4
  go_wp2_with fail
  refine bodyPost_ret (v := V4 0 a3 s.ps.length c3 a4 s.d.rs.length c4 s.d.rs.length) (by simp [results, Tryz.results40, go_sem, V4, q0, q1, q2, q3]) rfl ⟨a3, s.ps.length, c3, a4, s.d.rs.length, c4, rfl, HS9.out, ?_⟩
  exact (by (iterate 4 (refine bset ?_ (by dsimp only; omega) _)); exact HB4.out)
set_option maxHeartbeats 2000000 in
theorem specCrashStore_any (a1 : Option Addr) (n1 c1 : Nat) (a2 : Option Addr) (n2 c2 B : Nat) (s : StoreD) (k : Int) (w : World) (hR : SRow w B a1 n1 c1 a2 n2 c2 s) (hB : B ≤ w.heap.size) (hkm : k ≤ 9223372036854775807) :
    Calls Tryz.prog 264 #[S3 a1 n1 c1 a2 n2 c2 s.d.s, .int .i64 k] w (StoreRes (crashC s k) (crashS s k) w) := by
  obtain ⟨b0, A0, R0⟩ := begin9 a1 n1 c1 a2 n2 c2 B s w hR hB
  have HR0 := Lib.hid R0
  have HA0 := Lib.hid A0
  have HB0 := Lib.hid b0
  have hRw := hR.wf
  have HR := Lib.hid (fun (w' : World) (h : Below w.heap.size w w') => hR.below (h.mono hB))
  have F0 := l9Fault_any w.heap.size a1 n1 c1 a2 n2 c2 B s _ ⟨A0, hR.below (b0.mono hB)⟩ (Nat.le_trans hB b0.size)
  clear A0 R0 b0
  by_cases h0 : storeF s = 0
  case neg =>
    have ec := crashC_bad (k := k) h0
    rw [crashS_no (by rw [ec]; exact h0), ec]
    generalize storeF s = cd at *
    have q9 : (cd != 0) = true := by simpa using h0
    have q8 : decide (cd = 0) = false := by simpa using h0
    clear HR ec hR
    go_enter Tryz.func264, Tryz.ntmps264
    go_wp2_with fail
    generalize (w.alloc (.cells #[.slice a1 n1 c1, .slice a2 n2 c2, .int .i64 s.d.s] 57)).alloc (.cells #[.int .i64 0, .slice none 0 0, .slice none 0 0, .int .i64 0] 63) = W0 at *
    refine F0.mono ?_
    rintro r u1 ⟨rfl, b1⟩
    have B1 := Lib.hid (btr HB0.out b1)
    have R1 := Lib.hid (HR0.out.on b1)
    have A1 := Lib.hid (HA0.out.on b1)
    clear b1 F0 HB0 HR0 HA0
    go_wp2_with fail
    refine (l9Bad_any cd _).mono ?_
    rintro r u9 ⟨rfl, b9⟩
    have R9 := (R1.out).on b9
    have B9 := btr B1.out b9
    unfold zero9 at R9
    have q0 := R9.cell 0 _ rfl
    have q1 := R9.cell 1 _ rfl
    have q2 := R9.cell 2 _ rfl
    have q3 := R9.cell 3 _ rfl
    have f0 := R9.free 0 _ rfl
    have f1 := R9.free 1 _ rfl
    have f2 := R9.free 2 _ rfl
    have f3 := R9.free 3 _ rfl
    clear b9 R9
    go_wp2_with fail
    refine bodyPost_ret (v := V4 cd none 0 0 none 0 0 0) (by simp [results, Tryz.results264, go_sem, V4, q0, q1, q2, q3]) rfl ⟨none, 0, 0, none, 0, 0, rfl, SOwn.nil _ _ ?_, ?_⟩
    · exact Nat.le_trans B9.size (by simp [World.setCell])
    · exact (by (iterate 4 (refine bset ?_ (by dsimp only; omega) _)); exact B9)
  by_cases hk : k < 0
  · have ec := crashC_neg h0 hk
    rw [crashS_no (by rw [ec]; decide), ec]
    rw [h0] at F0
    clear HR ec hR
    go_enter Tryz.func264, Tryz.ntmps264
    go_wp2_with fail
    generalize (w.alloc (.cells #[.slice a1 n1 c1, .slice a2 n2 c2, .int .i64 s.d.s] 57)).alloc (.cells #[.int .i64 0, .slice none 0 0, .slice none 0 0, .int .i64 0] 63) = W0 at *
    refine F0.mono ?_
    rintro r u1 ⟨rfl, b1⟩
    have B1 := Lib.hid (btr HB0.out b1)
    have R1 := Lib.hid (HR0.out.on b1)
    have A1 := Lib.hid (HA0.out.on b1)
    clear b1 F0 HB0 HR0 HA0
    go_wp2_with fail
    refine (l9Bad_any 3 _).mono ?_
    rintro r u9 ⟨rfl, b9⟩
    have R9 := (R1.out).on b9
    have B9 := btr B1.out b9
    unfold zero9 at R9
    have q0 := R9.cell 0 _ rfl
    have q1 := R9.cell 1 _ rfl
    have q2 := R9.cell 2 _ rfl
    have q3 := R9.cell 3 _ rfl
    have f0 := R9.free 0 _ rfl
    have f1 := R9.free 1 _ rfl
    have f2 := R9.free 2 _ rfl
    have f3 := R9.free 3 _ rfl
    clear b9 R9
    go_wp2_with fail
    refine bodyPost_ret (v := V4 3 none 0 0 none 0 0 0) (by simp [results, Tryz.results264, go_sem, V4, q0, q1, q2, q3]) rfl ⟨none, 0, 0, none, 0, 0, rfl, SOwn.nil _ _ ?_, ?_⟩
    · exact Nat.le_trans B9.size (by simp [World.setCell])
    · exact (by (iterate 4 (refine bset ?_ (by dsimp only; omega) _)); exact B9)
  have hk0 : 0 ≤ k := by omega
  obtain ⟨h12, hlong, hd0, hd1⟩ := diskF_zero (openC_zero (storeF_zero h0).1).1
  obtain ⟨m, hm, hml, -, e1, e2⟩ := crash_open h0 hk0
  rw [crashC_yes h0 hk]
  rw [h0] at F0
  have hn2 := hR.rs.length
  subst hn2
  have hwt : ∀ zs ∈ s.d.rs.take m, ∀ z ∈ zs, (Lit.int .u8 z).wf = true := fun zs hz => hRw zs (List.mem_of_mem_take hz)
  have od := fun (w' : World) (hb : Below w.heap.size w w') (t : Int) (tn : Nat) (ht : t = m) (htn : tn = m) => (show Calls Tryz.prog 299 #[.agg #[.slice a2 tn c2, .int .i64 t]] w' (StoreRes (openC ⟨s.d.rs.take m, m⟩) (openS ⟨s.d.rs.take m, m⟩) w') from by rw [ht, htn]; exact specOpenDisk_any a2 m c2 B (s.d.rs.take m) m w' ((HR.out w' hb).rs.upto m hml) (Nat.le_trans hB hb.size) hwt)
  rw [e1, e2] at od
  have OD := Lib.hid od
  have hsy : (crashS s k).d.s = m := by
    have := (crash_ok (crashC_yes h0 hk)).d
    rw [this, hm]; rfl
  have hfit := hR.rs.fits
  have hmost := hR.rs.most
  unfold maxLen at hmost
  have hlen : s.d.rs.length ≤ 12 := h12
  have hs0 : 0 ≤ s.d.s := hd0
  have hs1 : s.d.s ≤ s.d.rs.length := hd1
  have ME : (if k < (s.d.rs.length : Int) - s.d.s then k else (s.d.rs.length : Int) - s.d.s) = m - s.d.s := by
    unfold leftN at hm
    split at hm <;> split <;> omega
  have MI := Lib.hid (fun w' => ME ▸ l1Min_any k ((s.d.rs.length : Int) - s.d.s) w')
  unfold StoreRes at OD
  clear od h12 hlong e1 e2 hRw h0 hwt hd0 hd1 hsy hm ME HR hR
  generalize crashS s k = S at *
  go_enter Tryz.func264, Tryz.ntmps264
  go_wp2_with fail
  generalize (w.alloc (.cells #[.slice a1 n1 c1, .slice a2 s.d.rs.length c2, .int .i64 s.d.s] 57)).alloc (.cells #[.int .i64 0, .slice none 0 0, .slice none 0 0, .int .i64 0] 63) = W0 at *
  refine F0.mono ?_
  rintro r u1 ⟨rfl, b1⟩
  have B1 := Lib.hid (btr HB0.out b1)
  have R1 := Lib.hid (HR0.out.on b1)
  have A1 := Lib.hid (HA0.out.on b1)
  clear b1 F0 HB0 HR0 HA0
  have d0 := A1.out.cell 0 _ rfl
  have d1 := A1.out.cell 1 _ rfl
  have d2 := A1.out.cell 2 _ rfl
  go_wp2_with fail
  refine wp_region_line (Bel u1) [(0, true), (1, true), (2, true), (3, true), (4, true), (5, true), (6, true), (7, true), (8, true), (9, true), (10, true), (11, true), (12, false), (13, true), (14, true)] (by kernel_rfl) (by kernel_rfl) (fun _ _ d _ _ h => by cases d <;> exact h) (Bel.drew u1) ?_
  have hst := Bel.drew u1
  have inst : Nonempty (Of (Bel u1)) := ⟨⟨_, hst⟩⟩
  have v0 := bel_cell d0
  have v1 := bel_cell d1
  have v2 := bel_cell d2
  generalize u1.drew = V1 at *
  iterate 12 (refine line_read rfl (by kernel_rfl) (fun K hK => ?_); go_big_quiet_op; refine hK _ ?_; clear hK K)
  refine line_alone rfl (by kernel_rfl) (fun K hK => ?_)
  refine call_wp (args := #[.int .i64 k, .int .i64 ((s.d.rs.length : Int) - s.d.s)]) rfl (by kernel_rfl) (by kernel_rfl) (MI.out _) (fun wn hbn => ?_)
  subst hbn
  refine hK _ _ hst ?_
  clear hK K
  simp only [Act.put, List.setIfInBounds_toArray, List.set_cons_zero, List.set_cons_succ]
  iterate 2 (refine line_read rfl (by kernel_rfl) (fun K hK => ?_); go_big_quiet_op; refine hK _ ?_; clear hK K)
  refine line_nil ?_
  have A2 := Lib.hid (A1.out.on hst.out)
  have R2 := Lib.hid (R1.out.on hst.out)
  have B2 := Lib.hid (btr B1.out hst.out)
  clear hst inst v0 v1 v2 d0 d1 d2 A1 R1 B1
  have d0 := A2.out.cell 0 _ rfl
  have d1 := A2.out.cell 1 _ rfl
  have d2 := A2.out.cell 2 _ rfl
  go_wp2_with fail
  refine (OD.out _ B2.out _ _ (by omega) (by omega)).mono ?_
  rintro r u9 ⟨a3, n3, c3, a4, n4, c4, rfl, SO9, b9⟩
  have R9 := (R2.out).on b9
  have B9 := btr (B2.out) b9
  have HS9 := Lib.hid (SO9.res (w := w) (r := w.heap.size + 1) (by have := (R2.out).lt (by decide); exact this) (B2.out).size (.int .i64 0) (.slice a3 n3 c3) (.slice a4 n4 c4) (.int .i64 S.d.s))
  unfold zero9 at R9
  have q0 := R9.cell 0 _ rfl
  have q1 := R9.cell 1 _ rfl
  have q2 := R9.cell 2 _ rfl
  have q3 := R9.cell 3 _ rfl
  have f0 := R9.free 0 _ rfl
  have f1 := R9.free 1 _ rfl
  have f2 := R9.free 2 _ rfl
  have f3 := R9.free 3 _ rfl
  clear R9 b9 SO9
  go_wp2_with fail
  refine bodyPost_ret (v := V4 0 a3 n3 c3 a4 n4 c4 S.d.s) (by simp [results, Tryz.results264, go_sem, V4, q0, q1, q2, q3]) rfl ⟨a3, n3, c3, a4, n4, c4, rfl, HS9.out, ?_⟩
  exact (by (iterate 4 (refine bset ?_ (by dsimp only; omega) _)); exact B9)
end Go.Proofs.YtlodhleihnlchaaGreatDoor
namespace Go.Proofs.YtlodhleihnlchaaGreatDoor
open Go.RowKit
set_option maxRecDepth 100000
set_option linter.unusedVariables false

structure KSt (W : World) (j r d : Nat) (J rv : List Value) (pv v : Value) (x : Int) (ps : List PinD) (zss : List (List Int)) (xs : List Value) (lo : Nat) (wr : World) : Prop where
  P : At j J wr
  R : At r rv wr
  D : At d [pv, v, .int .i64 x] wr
  O : OwnP wr (r + 1) pv ps
  ob : ∀ k, pv.ownBlock = some k → k < lo ∧ k ≠ d
  G : OwnG wr lo wr.heap.size v zss xs
  B : Below W.heap.size W wr
  off : ∀ k, v.ownBlock = some k → k ≠ j ∧ k ≠ r ∧ k ≠ d
  offx : ∀ (i : Nat) (u : Value) (k : Nat), xs[i]? = some u → u.ownBlock = some k → k ≠ r ∧ k ≠ d
  lo1 : W.heap.size ≤ lo
  rl : r + 1 ≤ lo
  lo2 : lo ≤ wr.heap.size
  le : W.heap.size ≤ d
section
variable {W wr w1 w2 : World} {j r d lo : Nat} {J rv : List Value} {pv v : Value} {x : Int} {ps : List PinD} {zss : List (List Int)} {xs : List Value}
theorem KSt.on (h : KSt W j r d J rv pv v x ps zss xs lo wr) (hb : Below wr.heap.size wr w1) : KSt W j r d J rv pv v x ps zss xs lo w1 :=
  ⟨h.P.on hb, h.R.on hb, h.D.on hb, h.O.below hb, h.ob, (h.G.below hb).more hb.size (Nat.le_refl _), btr h.B hb, h.off, h.offx, h.lo1, h.rl, Nat.le_trans h.lo2 hb.size, h.le⟩
theorem KSt.app (h : KSt W j r d J rv pv v x ps zss xs lo wr) {v' u : Value} {zs : List Int} (hb : Below wr.heap.size wr w1) (hu : OwnK .u8 w1 wr.heap.size u zs)
    (ho : Own w2 lo 1 v' (zss.length + 1) (xs ++ [u])) (hg : w1.grownBy w2 v.ownBlock) (hat : v'.ownBlock = v.ownBlock ∨ v'.ownBlock = some w1.heap.size)
    (hd : d ≠ j) (hr : d ≠ r) (hJl : 0 < J.length) (hrl : 0 < rv.length) : KSt W j r d J rv pv v' x ps (zss ++ [zs]) (xs ++ [u]) lo (w2.setCell ⟨d, 1, none⟩ v') := by
  have T := h.on hb
  have hB := h.B.size
  have hsz := hb.size
  have hl2 := h.lo2
  have hJ : At j J w2 := T.P.kept hg (fun e => (h.off j e.symm).1 rfl)
  have hR := T.R.kept hg (fun e => (h.off r e.symm).2.1 rfl)
  have hD := T.D.kept hg (fun e => (h.off d e.symm).2.2 rfl)
  have lts : j < w1.heap.size ∧ r < w1.heap.size ∧ d < w1.heap.size := ⟨T.P.lt hJl, T.R.lt hrl, T.D.lt (by simp)⟩
  have G2 := OwnG.app h.G hl2 hb hu ho hg hat
  have off2 : ∀ k, v'.ownBlock = some k → k ≠ j ∧ k ≠ r ∧ k ≠ d := fun k e => by
    rcases hat with ha | ha
    · rw [ha] at e; exact h.off k e
    · rw [ha] at e; injection e with e; omega
  have ltd := h.D.lt (by simp)
  have ltr := h.R.lt hrl
  have off3 : ∀ (i : Nat) (x : Value) (k : Nat), (xs ++ [u])[i]? = some x → x.ownBlock = some k → k ≠ r ∧ k ≠ d := fun i x k hx e => by
    rcases Nat.lt_or_ge i xs.length with hi | hi
    · rw [List.getElem?_append_left hi] at hx
      exact h.offx i x k hx e
    · rw [List.getElem?_append_right hi] at hx
      have h0 := (List.getElem?_eq_some_iff.1 hx).1
      simp at h0
      rw [h0] at hx
      simp at hx
      subst hx
      have := (Own.lt hu k e).1
      omega
  have hlov : ∀ k, v.ownBlock = some k → lo ≤ k := fun k e => (h.G.own.lt k e).1
  have hO : OwnP w2 (r + 1) pv ps := Own.keep T.O hg.size fun k e => hg.block k (Own.lt T.O k e).2 (fun e2 => by have := hlov k e2.symm; have := (h.ob k e).1; omega)
  have hB2 : Below W.heap.size W w2 := T.B.grown hg (Nat.le_trans hB hsz) fun k e => Nat.le_trans h.lo1 (hlov k e)
  refine ⟨hJ.setB (Ne.symm hd) _, hR.setB (Ne.symm hr) _, by simpa using hD.set 1 v', Own.setCell hO (fun k e => (h.ob k e).2) _, h.ob, ?_, bset hB2 h.le _, off2, off3, h.lo1, h.rl, ?_, h.le⟩
  · have hk : ∀ k, k ≠ d → (w2.setCell ⟨d, 1, none⟩ v').heap[k]? = w2.heap[k]? := fun k hk => Below.heap_setCell w2 ⟨d, 1, none⟩ v' k hk
    have G3 := G2.keepP (w' := w2.setCell ⟨d, 1, none⟩ v') (by simp [World.setCell]) (fun k e => hk k (off2 k e).2.2) (fun i x k hx e => hk k (off3 i x k hx e).2)
    rw [show (w2.setCell ⟨d, 1, none⟩ v').heap.size = w2.heap.size by simp [World.setCell]]
    exact G3
  · rw [show (w2.setCell ⟨d, 1, none⟩ v').heap.size = w2.heap.size by simp [World.setCell]]
    exact Nat.le_trans hl2 (Nat.le_trans hsz hg.size)
theorem KSt.done (h : KSt W j r d J rv pv v x ps zss xs lo wr) (y : Int) (hn : ∀ p ∈ ps, p.n.size ≤ maxLen) (hw : ∀ zs ∈ zss, ∀ z ∈ zs, (Lit.int .u8 z).wf = true) :
    SOwn (wr.setCell ⟨d, 2, none⟩ (.int .i64 y)) (r + 1) (wr.setCell ⟨d, 2, none⟩ (.int .i64 y)).heap.size pv v ⟨ps, ⟨zss, y⟩⟩ := by
  have hk : ∀ k, k ≠ d → (wr.setCell ⟨d, 2, none⟩ (.int .i64 y)).heap[k]? = wr.heap[k]? := fun k hk => Below.heap_setCell wr ⟨d, 2, none⟩ (.int .i64 y) k hk
  have G3 := h.G.keepP (w' := wr.setCell ⟨d, 2, none⟩ (.int .i64 y)) (by simp [World.setCell]) (fun k e => hk k (h.off k e).2.2) (fun i x k hx e => hk k (h.offx i x k hx e).2)
  have O3 := Own.setCell h.O (p := ⟨d, 2, none⟩) (fun k e => (h.ob k e).2) (.int .i64 y)
  have hs : (wr.setCell ⟨d, 2, none⟩ (.int .i64 y)).heap.size = wr.heap.size := by simp [World.setCell]
  rw [hs]
  exact SOwn.mk' (W := W) (mid := lo) O3 h.rl (fun k e => (h.ob k e).1) G3 h.lo2 hn hw
end
end Go.Proofs.YtlodhleihnlchaaGreatDoor
namespace Go.Proofs.YtlodhleihnlchaaGreatDoor
open Go.RowKit
set_option maxRecDepth 100000
set_option linter.unusedVariables false

end Go.Proofs.YtlodhleihnlchaaGreatDoor
namespace Go.Proofs.YtlodhleihnlchaaGreatDoor
open Go.RowKit
set_option maxRecDepth 100000
set_option linter.unusedVariables false

section
variable {P : Program} {S : World → Prop} {Q : Exit → Act → World → Prop} {a : Act} {w : World} {i : Nat} {o : Oper} {r : List (Nat × Bool)} {l : List Oper} {C : Act → World → Prop}
theorem line_jour (cs : List Value) (x : Operand) (g : Nat) (ho : l[i]? = some o) (hw : Region.wanted o (yielded l.toArray a.tmps) = true) (hop : o.op = .load 186 x) (hx : a.eval x = .pointer (some ⟨g, 0, none⟩)) (hS : ∀ w', S w' → JB g cs w')
    (hi : (Tryz.prog.info? 186).map (·.size) = some cs.toArray.size) (h : LineP Tryz.prog l.toArray S Q C r (a.put o.dst (.agg cs.toArray)) w) : LineP Tryz.prog l.toArray S Q C ((i, true) :: r) a w := by
  refine line_read ho hw fun K hK => ⟨.agg cs.toArray, fun w' hx' => ?_, hK _ h⟩
  obtain ⟨z, rfl⟩ := hx'
  have hr : (execOp a.eval o).run Tryz.prog z.val = .ok (.value (.agg cs.toArray)) z.val := by
    unfold execOp
    simp only [hop, hx, Instr.loadAt, Instr.sureAddr, Sem.run_bind, Sem.run_pure, Result.andThen_ok, run_loadVar_row z.val g 186 186 cs.toArray (0, 0) _ (hS _ z.prop) Tryz.underlying186 rfl hi]
  unfold Oper.quietAt
  rw [hr]
  exact ⟨rfl, rfl⟩
end
structure PJ (g : Nat) (pv : List Value) (j : Nat) (J : List Value) (cur : World) : Prop where
  A : At g pv cur
  J : JB j J cur
section
variable {g j : Nat} {pv J : List Value} {cur cur' : World}
theorem PJ.on (h : PJ g pv j J cur) (hb : Below cur.heap.size cur cur') : PJ g pv j J cur' := ⟨h.A.on hb, h.J.on hb⟩
theorem PJ.setB (h : PJ g pv j J cur) {p : Addr} (h1 : g ≠ p.block) (h2 : j ≠ p.block) (u : Value) : PJ g pv j J (cur.setCell p u) := ⟨h.A.setB h1 u, h.J.setB h2 u⟩
theorem PJ.q (i : Nat) (v : Value) (h : pv[i]? = some v) : ∀ z : Of (PJ g pv j J), z.val.cell? ⟨g, i, none⟩ = some v := fun z => z.prop.A.cell i v h
end
theorem note_idle (g j b : Nat) (c : Int) (v1 v2 : Value) (x : Int) (w : World) (A : At g [.int .i64 c, v1, v2, .int .i64 x] w) (h : c ≠ 0) :
    CallsD Tryz.prog 117 #[.pointer (some ⟨g, 0, none⟩), .pointer (some ⟨j, 0, none⟩), .pointer (some ⟨b, 0, none⟩)] .returning w fun e u' w' => u' = .returning ∧ (e = .returned (.tuple #[]) ∧ w' = w) := by
  have c0 := A.cell 0 _ rfl
  have q9 : (c == 0) = false := by simpa using h
  have q8 : decide (c = 0) = false := by simpa using h
  go_enter_d Tryz.func117, Tryz.ntmps117
  go_wp2_with fail
  exact ⟨rfl, .tuple #[], by simp [results, Tryz.results117], rfl, rfl⟩
def Wrote (g : Nat) (rs : List (List Int)) (x : Int) (w : World) (w' : World) : Prop :=
  ∃ (w1 : World) (a : Option Addr) (n c : Nat) (xs : List Value), w' = (w1.setCell ⟨g, 2, none⟩ (.slice a n c)).setCell ⟨g, 3, none⟩ (.int .i64 x) ∧ OwnG w1 w.heap.size w1.heap.size (.slice a n c) rs xs ∧ Below w.heap.size w w1
set_option maxHeartbeats 1000000 in
theorem note_write (g j b : Nat) (v1 : Value) (x y : Int) (p : PinD) (rs : List (List Int)) (w : World) (A : At g [.int .i64 0, v1, .slice none 0 0, .int .i64 y] w) (hA : At b p.vals w) (hJ : JB j (jall rs x) w) (h : p.f = 0) (hn : rs.length < 12) (hl : rs.any longR = false) (hw : ∀ zs ∈ rs, ∀ z ∈ zs, (Lit.int .u8 z).wf = true)
    (h1 : b ≠ g) (h2 : j ≠ g) :
    CallsD Tryz.prog 117 #[.pointer (some ⟨g, 0, none⟩), .pointer (some ⟨j, 0, none⟩), .pointer (some ⟨b, 0, none⟩)] .returning w fun e u' w' => u' = .returning ∧ (e = .returned (.tuple #[]) ∧ Wrote g (rs ++ [recP p]) x w w') := by
  have HFJ := Lib.hid (jall_fit rs x)
  have PR := Lib.hid (fun w' => pinRecord_any p w' h)
  have HPW := Lib.hid (fun z hz => byte_wf (recP_byte h z hz))
  have hsh := recP_short h
  have hp40 : (recP p).length ≤ 40 := by simpa [longR] using hsh
  have WA := Lib.hid (fun (a : Option Addr) (n c : Nat) (w' : World) (h : Row .u8 w' w'.heap.size a n c (recP p)) => withAll_any rs x (recP p) a n c w'.heap.size w' h (Nat.le_refl _) hn (by rw [← h.length]; exact hp40))
  have dk := fun (w' : World) => disk_any (rs ++ [recP p]) (rs ++ [recP p]).length x w' (Nat.le_refl _) (by rw [List.length_append]; simp; omega) (by rw [List.any_append, hl]; simp [hsh]) (fun zs hz z hzz => by
    rcases List.mem_append.1 hz with hz | hz
    · exact hw zs hz z hzz
    · rw [List.mem_singleton] at hz
      subst hz
      exact byte_wf (recP_byte h z hzz))
  simp only [← jall_def, List.take_length] at dk
  have DK := Lib.hid dk
  have H0 := Lib.hid (show PJ b p.vals j (jall rs x) w.drew from ⟨hA.on (bdrew _), hJ.on (bdrew _)⟩)
  have HA := Lib.hid (A.on (bdrew w))
  have hB0 := Lib.hid (bdrew w)
  have c0 := A.cell 0 _ rfl
  clear dk hp40 hsh hl hw hn hA hJ h A
  generalize jall rs x = J at *
  generalize jall (rs ++ [recP p]) x = J2 at *
  generalize rs ++ [recP p] = rs2 at *
  generalize recP p = zs at *
  go_enter_d Tryz.func117, Tryz.ntmps117
  go_wp2_with fail
  refine wp_region_line (PJ b p.vals j J) [(0, true), (1, true), (2, false), (3, false), (4, false), (5, true), (6, true), (7, false)] (by kernel_rfl) (by kernel_rfl) (fun _ _ d _ _ h => by cases d <;> exact h) H0.out ?_
  have hst := H0.out
  have inst : Nonempty (Of (PJ b p.vals j J)) := ⟨⟨_, hst⟩⟩
  have u0 := PJ.q (g := b) (pv := p.vals) (j := j) (J := J) 0 _ rfl
  have u1 := PJ.q (g := b) (pv := p.vals) (j := j) (J := J) 1 _ rfl
  have u2 := PJ.q (g := b) (pv := p.vals) (j := j) (J := J) 2 _ rfl
  have u3 := PJ.q (g := b) (pv := p.vals) (j := j) (J := J) 3 _ rfl
  have u4 := PJ.q (g := b) (pv := p.vals) (j := j) (J := J) 4 _ rfl
  clear H0 c0
  generalize w.drew = V1 at *
  refine line_jour J (.tmp 1) j rfl (by kernel_rfl) rfl rfl (fun w' h => h.J) HFJ.out ?_
  simp only [Act.put, List.setIfInBounds_toArray, List.set_cons_zero, List.set_cons_succ]
  iterate 1 (refine line_read rfl (by kernel_rfl) (fun K hK => ?_); go_big_quiet_op; refine hK _ ?_; clear hK K)
  clear u0 u1 u2 u3 u4
  refine line_alone rfl (by kernel_rfl) (fun K hK => ?_)
  refine call_any (args := #[P5 p]) rfl (by kernel_rfl) (by kernel_rfl) (PR.out _) ?_
  rintro e x6 ⟨a6, n6, c6, rfl, O6, b6⟩
  have hst2 := hst.on b6
  have R6 := Own.row O6 HPW.out
  refine ⟨_, rfl, hK _ _ hst2 ?_⟩
  clear hK K hst O6
  have hst := hst2
  clear hst2
  simp only [Act.put, List.setIfInBounds_toArray, List.set_cons_zero, List.set_cons_succ]
  refine line_alone rfl (by kernel_rfl) (fun K hK => ?_)
  refine call_wp (args := #[.agg J.toArray, .slice a6 n6 c6]) rfl (by kernel_rfl) (by kernel_rfl) (WA.out _ _ _ _ R6) (fun x7 b7 => ?_)
  have hst2 := hst.on b7
  refine hK _ _ hst2 ?_
  clear hK K hst R6
  have hst := hst2
  clear hst2
  simp only [Act.put, List.setIfInBounds_toArray, List.set_cons_zero, List.set_cons_succ]
  refine line_alone rfl (by kernel_rfl) (fun K hK => ?_)
  refine call_any (args := #[.agg J2.toArray]) rfl (by kernel_rfl) (by kernel_rfl) (DK.out _) ?_
  rintro e x8 ⟨a8, n8, c8, xs, rfl, G8, b8⟩
  have hst2 := hst.on b8
  have b18 := btr b6 (btr b7 b8)
  have A8 := HA.out.on b18
  have B8 := btr hB0.out b18
  have G9 := Lib.hid (G8.less (btr hB0.out (btr b6 b7)).size)
  have HB8 := Lib.hid B8
  refine ⟨_, rfl, hK _ _ hst2 ?_⟩
  clear hK K hst G8
  have hst := hst2
  clear hst2
  simp only [Act.put, List.setIfInBounds_toArray, List.set_cons_zero, List.set_cons_succ]
  iterate 2 (refine line_read rfl (by kernel_rfl) (fun K hK => ?_); go_big_quiet_op; refine hK _ ?_; clear hK K)
  have q0 := A8.cell 0 _ rfl
  have q1 := A8.cell 1 _ rfl
  have q2 := A8.cell 2 _ rfl
  have q3 := A8.cell 3 _ rfl
  have f0 := A8.free 0 _ rfl
  have f1 := A8.free 1 _ rfl
  have f2 := A8.free 2 _ rfl
  have f3 := A8.free 3 _ rfl
  refine line_alone rfl (by kernel_rfl) (fun K hK => ?_)
  go_big_op
  refine hK _ _ ((hst.setB (p := ⟨g, 2, none⟩) h1 h2 _).setB (p := ⟨g, 3, none⟩) h1 h2 _) ?_
  clear hK K
  refine line_nil ?_
  clear hst inst q0 q1 q2 q3 f0 f1 f2 f3 A8 B8 b6 b7 b8 b18
  first | exact ⟨rfl, .tuple #[], by simp [results, Tryz.results117], rfl, x8, a8, n8, c8, xs, rfl, G9.out, HB8.out⟩ | (go_wp2_with fail; exact ⟨rfl, .tuple #[], by simp [results, Tryz.results117], rfl, x8, a8, n8, c8, xs, rfl, G9.out, HB8.out⟩)
end Go.Proofs.YtlodhleihnlchaaGreatDoor
namespace Go.Proofs.YtlodhleihnlchaaGreatDoor
open Go.RowKit
set_option maxRecDepth 100000
set_option linter.unusedVariables false

theorem beginN (a1 : Option Addr) (n1 c1 : Nat) (a2 : Option Addr) (n2 c2 : Nat) (x : Int) (p : PinD) (w : World) :
    Below w.heap.size w (((w.alloc (.cells #[.slice a1 n1 c1, .slice a2 n2 c2, .int .i64 x] 57)).alloc (.cells #[.string p.n, .int .i64 p.a, .int .i64 p.b, .int .i64 p.e, .int .i64 p.u] 59)).alloc (.cells #[.int .i64 0, .slice none 0 0, .slice none 0 0, .int .i64 0] 63)) ∧
    At w.heap.size (S3L a1 n1 c1 a2 n2 c2 x) (((w.alloc (.cells #[.slice a1 n1 c1, .slice a2 n2 c2, .int .i64 x] 57)).alloc (.cells #[.string p.n, .int .i64 p.a, .int .i64 p.b, .int .i64 p.e, .int .i64 p.u] 59)).alloc (.cells #[.int .i64 0, .slice none 0 0, .slice none 0 0, .int .i64 0] 63)) ∧
    At (w.heap.size + 1) p.vals (((w.alloc (.cells #[.slice a1 n1 c1, .slice a2 n2 c2, .int .i64 x] 57)).alloc (.cells #[.string p.n, .int .i64 p.a, .int .i64 p.b, .int .i64 p.e, .int .i64 p.u] 59)).alloc (.cells #[.int .i64 0, .slice none 0 0, .slice none 0 0, .int .i64 0] 63)) ∧
    At (w.heap.size + 1 + 1) zero9 (((w.alloc (.cells #[.slice a1 n1 c1, .slice a2 n2 c2, .int .i64 x] 57)).alloc (.cells #[.string p.n, .int .i64 p.a, .int .i64 p.b, .int .i64 p.e, .int .i64 p.u] 59)).alloc (.cells #[.int .i64 0, .slice none 0 0, .slice none 0 0, .int .i64 0] 63)) := by
  have b0 := bal (bal (bal (Below.refl _ w) (.cells #[.slice a1 n1 c1, .slice a2 n2 c2, .int .i64 x] 57)) (.cells #[.string p.n, .int .i64 p.a, .int .i64 p.b, .int .i64 p.e, .int .i64 p.u] 59)) (.cells #[.int .i64 0, .slice none 0 0, .slice none 0 0, .int .i64 0] 63)
  have A0 := ((At.new w (S3L a1 n1 c1 a2 n2 c2 x) 57).alloc (.cells #[.string p.n, .int .i64 p.a, .int .i64 p.b, .int .i64 p.e, .int .i64 p.u] 59)).alloc (.cells #[.int .i64 0, .slice none 0 0, .slice none 0 0, .int .i64 0] 63)
  have P0 := (At.new (w.alloc (.cells #[.slice a1 n1 c1, .slice a2 n2 c2, .int .i64 x] 57)) p.vals 59).alloc (.cells #[.int .i64 0, .slice none 0 0, .slice none 0 0, .int .i64 0] 63)
  have R0 := At.new ((w.alloc (.cells #[.slice a1 n1 c1, .slice a2 n2 c2, .int .i64 x] 57)).alloc (.cells #[.string p.n, .int .i64 p.a, .int .i64 p.b, .int .i64 p.e, .int .i64 p.u] 59)) zero9 63
  rw [World.size_alloc] at P0
  rw [World.size_alloc, World.size_alloc] at R0
  exact ⟨b0, A0, P0, R0⟩
theorem noteS_no {s : StoreD} {p : PinD} (h : noteC s p ≠ 0) : noteS s p = store0 := by unfold noteS; rw [if_neg h]
set_option maxHeartbeats 4000000 in
theorem implNotePin_any (a1 : Option Addr) (n1 c1 : Nat) (a2 : Option Addr) (n2 c2 B : Nat) (s : StoreD) (p : PinD) (w : World) (hR : SRow w B a1 n1 c1 a2 n2 c2 s) (hB : B ≤ w.heap.size) (hpn : p.n.size ≤ maxLen) :
    Calls Tryz.prog 32 #[S3 a1 n1 c1 a2 n2 c2 s.d.s, P5 p] w (StoreRes (noteC s p) (noteS s p) w) := by
  obtain ⟨b0, A0, P0, R0⟩ := beginN a1 n1 c1 a2 n2 c2 s.d.s p w
  have HR0 := Lib.hid R0
  have HA0 := Lib.hid A0
  have HP0 := Lib.hid P0
  have HB0 := Lib.hid b0
  have hmf : ∀ (fn : Fn) (first cap : Array Value) (w : World), (Instr.makeFunc fn first cap).run Tryz.prog w = .ok (.func fn first cap) w := fun _ _ _ _ => rfl
  have hRw := hR.wf
  have HR := Lib.hid (fun (w' : World) (h : Below w.heap.size w w') => hR.below (h.mono hB))
  have F0 := implStoreFault_any a1 n1 c1 a2 n2 c2 B s _ (hR.below (b0.mono hB)) (Nat.le_trans hB b0.size)
  clear A0 P0 R0 b0 hR
  by_cases h0 : storeF s = 0
  case neg =>
    have ec := noteC_bad (p := p) h0
    rw [noteS_no (by rw [ec]; exact h0), ec]
    generalize storeF s = cd at *
    have q9 : (cd != 0) = true := by simpa using h0
    have q8 : decide (cd = 0) = false := by simpa using h0
    clear HR ec
    have d0 := HA0.out.cell 0 _ rfl
    have d1 := HA0.out.cell 1 _ rfl
    have d2 := HA0.out.cell 2 _ rfl
    go_enter_defers Tryz.func32, Tryz.ntmps32
    go_wp2_with fail
    generalize ((w.alloc (.cells #[.slice a1 n1 c1, .slice a2 n2 c2, .int .i64 s.d.s] 57)).alloc (.cells #[.string p.n, .int .i64 p.a, .int .i64 p.b, .int .i64 p.e, .int .i64 p.u] 59)).alloc (.cells #[.int .i64 0, .slice none 0 0, .slice none 0 0, .int .i64 0] 63) = W0 at *
    refine F0.mono ?_
    rintro r u1 ⟨rfl, b1⟩
    have B1 := Lib.hid (btr HB0.out b1)
    have R1 := Lib.hid (HR0.out.on b1)
    have A1 := Lib.hid (HA0.out.on b1)
    have P1 := Lib.hid (HP0.out.on b1)
    clear d0 d1 d2 b1 F0 HB0 HR0 HA0 HP0
    have R9 := R1.out
    have HB9 := Lib.hid (show Below w.heap.size w ((((u1.setCell ⟨w.heap.size + 1 + 1, 0, none⟩ (.int .i64 cd)).setCell ⟨w.heap.size + 1 + 1, 1, none⟩ (.slice none 0 0)).setCell ⟨w.heap.size + 1 + 1, 2, none⟩ (.slice none 0 0)).setCell ⟨w.heap.size + 1 + 1, 3, none⟩ (.int .i64 0)) from (by (iterate 4 (refine bset ?_ (by dsimp only; omega) _)); exact B1.out))
    unfold zero9 at R9
    have q0 := R9.cell 0 _ rfl
    have q1 := R9.cell 1 _ rfl
    have q2 := R9.cell 2 _ rfl
    have q3 := R9.cell 3 _ rfl
    have f0 := R9.free 0 _ rfl
    have f1 := R9.free 1 _ rfl
    have f2 := R9.free 2 _ rfl
    have f3 := R9.free 3 _ rfl
    clear R9
    go_wp2_with fail
    exact ⟨V4 cd none 0 0 none 0 0 0, by simp [results, Tryz.results32, go_sem, V4, q0, q1, q2, q3], none, 0, 0, none, 0, 0, rfl, SOwn.nil _ _ HB9.out.size, HB9.out⟩
  obtain ⟨ho, hp⟩ := storeF_zero h0
  obtain ⟨h12, hlong, _, _⟩ := diskF_zero (openC_zero ho).1
  rw [h0] at F0
  have JO := Lib.hid (fun (w' : World) (h : Below w.heap.size w w') => journalOf_any a2 n2 c2 B s.d.rs s.d.s w' (HR.out w' h).rs (Nat.le_trans hB h.size) h12 hlong)
  have pp := fun (w' : World) (h : Below w.heap.size w w') => implPutPin_any a1 n1 c1 B s.ps p w' (HR.out w' h).ps (Nat.le_trans hB h.size) hpn
  have hct := jall_count s.d.rs s.d.s
  have HFJ := Lib.hid (jall_fit s.d.rs s.d.s)
  have HOJ := Lib.hid (jall_one s.d.rs s.d.s)
  have HLJ := Lib.hid (jall_old [] s.d.rs 0 s.d.s)
  have hz := (zero_of_info jour_info).1
  rw [← jall_nil] at hz
  generalize jall [] 0 = E at *
  unfold PinsRes at pp
  by_cases hput : putC s.ps p = 0
  case neg =>
    have ec := noteC_put h0 hput
    rw [noteS_no (by rw [ec]; exact hput), ec]
    have PP := Lib.hid pp
    clear pp ec h0 ho hp h12 hlong hRw HR
    generalize putR s.ps p = qs at *
    generalize putC s.ps p = cp at *
    generalize jall s.d.rs s.d.s = J at *
    have q9 : (cp != 0) = true := by simpa using hput
    have q8 : decide (cp = 0) = false := by simpa using hput
    have d0 := HA0.out.cell 0 _ rfl
    have d1 := HA0.out.cell 1 _ rfl
    have d2 := HA0.out.cell 2 _ rfl
    go_enter_defers Tryz.func32, Tryz.ntmps32
    go_wp2_with fail
    generalize ((w.alloc (.cells #[.slice a1 n1 c1, .slice a2 n2 c2, .int .i64 s.d.s] 57)).alloc (.cells #[.string p.n, .int .i64 p.a, .int .i64 p.b, .int .i64 p.e, .int .i64 p.u] 59)).alloc (.cells #[.int .i64 0, .slice none 0 0, .slice none 0 0, .int .i64 0] 63) = W0 at *
    refine F0.mono ?_
    rintro r u1 ⟨rfl, b1⟩
    have B1 := Lib.hid (btr HB0.out b1)
    have R1 := Lib.hid (HR0.out.on b1)
    have A1 := Lib.hid (HA0.out.on b1)
    have P1 := Lib.hid (HP0.out.on b1)
    clear d0 d1 d2 b1 F0 HB0 HR0 HA0 HP0
    have d0 := A1.out.cell 0 _ rfl
    have d1 := A1.out.cell 1 _ rfl
    have d2 := A1.out.cell 2 _ rfl
    have hlt1 : w.heap.size + 1 + 1 < u1.heap.size := R1.out.lt (by simp [zero9])
    go_wp2_with fail
    refine (JO.out _ B1.out).mono ?_
    rintro r u2 ⟨rfl, b2⟩
    have Q2 := (JB.new u2 E).row J
    have hlt2 : u1.heap.size ≤ u2.heap.size := b2.size
    have b3 := btr b2 (brow (bal (Below.refl _ u2) (.cells E.toArray 186)) (Nat.le_refl _) J.toArray)
    have R3 := Lib.hid (R1.out.on b3)
    have A3 := Lib.hid (A1.out.on b3)
    have P3 := Lib.hid (P1.out.on b3)
    have B3 := Lib.hid (btr B1.out b3)
    clear d0 d1 d2 b2 b3 A1 R1 P1 B1
    go_upto_region 5 with (refine store_jour J E rfl (.tmp 6) (.tmp 16) rfl u2.heap.size rfl rfl (JB.new u2 E) HFJ.out HLJ.out HOJ.out ?_)
    generalize (u2.alloc (.cells E.toArray 186)).setRow u2.heap.size J.toArray = W3 at *
    have HQ2 := Lib.hid Q2
    clear Q2
    generalize u2.heap.size = j at *
    have d0 := A3.out.cell 0 _ rfl
    have d1 := A3.out.cell 1 _ rfl
    have d2 := A3.out.cell 2 _ rfl
    have p0 := P3.out.cell 0 _ rfl
    have p1 := P3.out.cell 1 _ rfl
    have p2 := P3.out.cell 2 _ rfl
    have p3 := P3.out.cell 3 _ rfl
    have p4 := P3.out.cell 4 _ rfl
    go_wp2_with fail
    refine (PP.out _ B3.out).mono ?_
    rintro r u4 ⟨a4, n4, c4, rfl, O4, b4⟩
    have b45 := btr b4 (bal (Below.refl _ u4) (.cells #[.int .i64 cp, .slice a4 n4 c4] 192))
    have T5 := Lib.hid (show At u4.heap.size [.int .i64 cp, .slice a4 n4 c4] (u4.alloc (.cells #[.int .i64 cp, .slice a4 n4 c4] 192)) from At.new u4 [.int .i64 cp, .slice a4 n4 c4] 192)
    have HO5 := Lib.hid (O4.below (bal (Below.refl _ u4) (.cells #[.int .i64 cp, .slice a4 n4 c4] 192)))
    have hlt3 : j < W3.heap.size := HQ2.out.lt
    have R5 := Lib.hid (R3.out.on b45)
    have P5' := Lib.hid (P3.out.on b45)
    have Q5 := Lib.hid (HQ2.out.on b45)
    have B5 := Lib.hid (btr B3.out b45)
    have hlt4 : W3.heap.size ≤ u4.heap.size := b4.size
    clear d0 d1 d2 p0 p1 p2 p3 p4 b4 b45 O4 R3 A3 P3 B3 HQ2
    go_upto_region 7 with fail
    generalize u4.alloc (.cells #[.int .i64 cp, .slice a4 n4 c4] 192) = W5 at *
    have t0 := T5.out.cell 0 _ rfl
    have t1 := T5.out.cell 1 _ rfl
    have R9 := R5.out
    have Q9 := Q5.out
    unfold zero9 at R9
    have q0 := R9.cell 0 _ rfl
    have q1 := R9.cell 1 _ rfl
    have q2 := R9.cell 2 _ rfl
    have q3 := R9.cell 3 _ rfl
    have f0 := R9.free 0 _ rfl
    have f1 := R9.free 1 _ rfl
    have f2 := R9.free 2 _ rfl
    have f3 := R9.free 3 _ rfl
    have R10 : At (w.heap.size + 1 + 1) [.int .i64 cp, .slice none 0 0, .slice none 0 0, .int .i64 0] ((((W5.setCell ⟨w.heap.size + 1 + 1, 0, none⟩ (.int .i64 cp)).setCell ⟨w.heap.size + 1 + 1, 1, none⟩ (.slice none 0 0)).setCell ⟨w.heap.size + 1 + 1, 2, none⟩ (.slice none 0 0)).setCell ⟨w.heap.size + 1 + 1, 3, none⟩ (.int .i64 0)) := by simpa using (((R9.set 0 (.int .i64 cp)).set 1 (.slice none 0 0)).set 2 (.slice none 0 0)).set 3 (.int .i64 0)
    have HR10 := Lib.hid R10
    have HB10 := Lib.hid (show Below w.heap.size w ((((W5.setCell ⟨w.heap.size + 1 + 1, 0, none⟩ (.int .i64 cp)).setCell ⟨w.heap.size + 1 + 1, 1, none⟩ (.slice none 0 0)).setCell ⟨w.heap.size + 1 + 1, 2, none⟩ (.slice none 0 0)).setCell ⟨w.heap.size + 1 + 1, 3, none⟩ (.int .i64 0)) from (by (iterate 4 (refine bset ?_ (by dsimp only; omega) _)); exact B5.out))
    clear R9 Q9 R10
    go_wp2_with fail
    refine leaves_cons (f := 117) (args := #[.pointer (some ⟨w.heap.size + 1 + 1, 0, none⟩), .pointer (some ⟨j, 0, none⟩), .pointer (some ⟨w.heap.size + 1, 0, none⟩)]) (by simp) (by simp [go_sem]) ?_
    refine (note_idle _ _ _ cp _ _ _ _ HR10.out hput).mono ?_
    rintro e u' w2 ⟨rfl, rfl, rfl⟩
    clear q0 q1 q2 q3 f0 f1 f2 f3
    have q0 := HR10.out.cell 0 _ rfl
    have q1 := HR10.out.cell 1 _ rfl
    have q2 := HR10.out.cell 2 _ rfl
    have q3 := HR10.out.cell 3 _ rfl
    exact ⟨V4 cp none 0 0 none 0 0 0, by simp [results, Tryz.results32, go_sem, V4, q0, q1, q2, q3], none, 0, 0, none, 0, 0, rfl, SOwn.nil _ _ HB10.out.size, HB10.out⟩
  rw [hput] at pp
  by_cases hfull : 12 ≤ s.d.rs.length
  · have ec := noteC_full h0 hput hfull
    rw [noteS_no (by rw [ec]; decide), ec]
    have PP := Lib.hid pp
    have hr12 : (s.d.rs.length : Int) = 12 := by have : s.d.rs.length ≤ 12 := h12; omega
    rw [hr12] at hct
    clear pp ec h0 ho hp h12 hlong hRw HR hput hr12 hfull
    generalize putR s.ps p = qs at *
    generalize jall s.d.rs s.d.s = J at *
    have d0 := HA0.out.cell 0 _ rfl
    have d1 := HA0.out.cell 1 _ rfl
    have d2 := HA0.out.cell 2 _ rfl
    go_enter_defers Tryz.func32, Tryz.ntmps32
    go_wp2_with fail
    generalize ((w.alloc (.cells #[.slice a1 n1 c1, .slice a2 n2 c2, .int .i64 s.d.s] 57)).alloc (.cells #[.string p.n, .int .i64 p.a, .int .i64 p.b, .int .i64 p.e, .int .i64 p.u] 59)).alloc (.cells #[.int .i64 0, .slice none 0 0, .slice none 0 0, .int .i64 0] 63) = W0 at *
    refine F0.mono ?_
    rintro r u1 ⟨rfl, b1⟩
    have B1 := Lib.hid (btr HB0.out b1)
    have R1 := Lib.hid (HR0.out.on b1)
    have A1 := Lib.hid (HA0.out.on b1)
    have P1 := Lib.hid (HP0.out.on b1)
    clear d0 d1 d2 b1 F0 HB0 HR0 HA0 HP0
    have d0 := A1.out.cell 0 _ rfl
    have d1 := A1.out.cell 1 _ rfl
    have d2 := A1.out.cell 2 _ rfl
    have hlt1 : w.heap.size + 1 + 1 < u1.heap.size := R1.out.lt (by simp [zero9])
    go_wp2_with fail
    refine (JO.out _ B1.out).mono ?_
    rintro r u2 ⟨rfl, b2⟩
    have Q2 := (JB.new u2 E).row J
    have hlt2 : u1.heap.size ≤ u2.heap.size := b2.size
    have b3 := btr b2 (brow (bal (Below.refl _ u2) (.cells E.toArray 186)) (Nat.le_refl _) J.toArray)
    have R3 := Lib.hid (R1.out.on b3)
    have A3 := Lib.hid (A1.out.on b3)
    have P3 := Lib.hid (P1.out.on b3)
    have B3 := Lib.hid (btr B1.out b3)
    clear d0 d1 d2 b2 b3 A1 R1 P1 B1
    go_upto_region 5 with (refine store_jour J E rfl (.tmp 6) (.tmp 16) rfl u2.heap.size rfl rfl (JB.new u2 E) HFJ.out HLJ.out HOJ.out ?_)
    generalize (u2.alloc (.cells E.toArray 186)).setRow u2.heap.size J.toArray = W3 at *
    have HQ2 := Lib.hid Q2
    clear Q2
    generalize u2.heap.size = j at *
    have d0 := A3.out.cell 0 _ rfl
    have d1 := A3.out.cell 1 _ rfl
    have d2 := A3.out.cell 2 _ rfl
    have p0 := P3.out.cell 0 _ rfl
    have p1 := P3.out.cell 1 _ rfl
    have p2 := P3.out.cell 2 _ rfl
    have p3 := P3.out.cell 3 _ rfl
    have p4 := P3.out.cell 4 _ rfl
    go_wp2_with fail
    refine (PP.out _ B3.out).mono ?_
    rintro r u4 ⟨a4, n4, c4, rfl, O4, b4⟩
    have b45 := btr b4 (bal (Below.refl _ u4) (.cells #[.int .i64 0, .slice a4 n4 c4] 192))
    have T5 := Lib.hid (show At u4.heap.size [.int .i64 0, .slice a4 n4 c4] (u4.alloc (.cells #[.int .i64 0, .slice a4 n4 c4] 192)) from At.new u4 [.int .i64 0, .slice a4 n4 c4] 192)
    have HO5 := Lib.hid (O4.below (bal (Below.refl _ u4) (.cells #[.int .i64 0, .slice a4 n4 c4] 192)))
    have hlt3 : j < W3.heap.size := HQ2.out.lt
    have R5 := Lib.hid (R3.out.on b45)
    have P5' := Lib.hid (P3.out.on b45)
    have Q5 := Lib.hid (HQ2.out.on b45)
    have B5 := Lib.hid (btr B3.out b45)
    have hlt4 : W3.heap.size ≤ u4.heap.size := b4.size
    clear d0 d1 d2 p0 p1 p2 p3 p4 b4 b45 O4 R3 A3 P3 B3 HQ2
    go_upto_region 7 with fail
    generalize u4.alloc (.cells #[.int .i64 0, .slice a4 n4 c4] 192) = W5 at *
    have t0 := T5.out.cell 0 _ rfl
    have t1 := T5.out.cell 1 _ rfl
    have cc := Q5.out.at hct
    have R9 := R5.out
    have Q9 := Q5.out
    unfold zero9 at R9
    have q0 := R9.cell 0 _ rfl
    have q1 := R9.cell 1 _ rfl
    have q2 := R9.cell 2 _ rfl
    have q3 := R9.cell 3 _ rfl
    have f0 := R9.free 0 _ rfl
    have f1 := R9.free 1 _ rfl
    have f2 := R9.free 2 _ rfl
    have f3 := R9.free 3 _ rfl
    have R10 : At (w.heap.size + 1 + 1) [.int .i64 7, .slice none 0 0, .slice none 0 0, .int .i64 0] ((((W5.setCell ⟨w.heap.size + 1 + 1, 0, none⟩ (.int .i64 7)).setCell ⟨w.heap.size + 1 + 1, 1, none⟩ (.slice none 0 0)).setCell ⟨w.heap.size + 1 + 1, 2, none⟩ (.slice none 0 0)).setCell ⟨w.heap.size + 1 + 1, 3, none⟩ (.int .i64 0)) := by simpa using (((R9.set 0 (.int .i64 7)).set 1 (.slice none 0 0)).set 2 (.slice none 0 0)).set 3 (.int .i64 0)
    have HR10 := Lib.hid R10
    have HB10 := Lib.hid (show Below w.heap.size w ((((W5.setCell ⟨w.heap.size + 1 + 1, 0, none⟩ (.int .i64 7)).setCell ⟨w.heap.size + 1 + 1, 1, none⟩ (.slice none 0 0)).setCell ⟨w.heap.size + 1 + 1, 2, none⟩ (.slice none 0 0)).setCell ⟨w.heap.size + 1 + 1, 3, none⟩ (.int .i64 0)) from (by (iterate 4 (refine bset ?_ (by dsimp only; omega) _)); exact B5.out))
    clear R9 Q9 R10
    go_wp2_with fail
    refine leaves_cons (f := 117) (args := #[.pointer (some ⟨w.heap.size + 1 + 1, 0, none⟩), .pointer (some ⟨j, 0, none⟩), .pointer (some ⟨w.heap.size + 1, 0, none⟩)]) (by simp) (by simp [go_sem]) ?_
    refine (note_idle _ _ _ 7 _ _ _ _ HR10.out (by decide)).mono ?_
    rintro e u' w2 ⟨rfl, rfl, rfl⟩
    clear q0 q1 q2 q3 f0 f1 f2 f3
    have q0 := HR10.out.cell 0 _ rfl
    have q1 := HR10.out.cell 1 _ rfl
    have q2 := HR10.out.cell 2 _ rfl
    have q3 := HR10.out.cell 3 _ rfl
    exact ⟨V4 7 none 0 0 none 0 0 0, by simp [results, Tryz.results32, go_sem, V4, q0, q1, q2, q3], none, 0, 0, none, 0, 0, rfl, SOwn.nil _ _ HB10.out.size, HB10.out⟩
  have ec := noteC_yes h0 hput hfull
  have hpf := (put_ok hput).fp
  have hlt12 : s.d.rs.length < 12 := by omega
  have es : noteS s p = noted s p := by unfold noteS; rw [if_pos ec]
  have er : putR s.ps p = putL s.ps p := by unfold putR; rw [if_pos hput]
  have HNM := Lib.hid (right_names (storeF_pins (noted_f h0 hput hlt12)))
  have HW : Hid (∀ zs ∈ s.d.rs ++ [recP p], ∀ z ∈ zs, (Lit.int .u8 z).wf = true) := Lib.hid (fun zs hz z hzz => by
    rcases List.mem_append.1 hz with hz | hz
    · exact hRw zs hz z hzz
    · rw [List.mem_singleton] at hz
      subst hz
      exact byte_wf (recP_byte hpf z hzz))
  rw [es, ec]
  rw [er] at pp
  have PP := Lib.hid pp
  have NW := Lib.hid (fun (g j b : Nat) (v1 : Value) (y : Int) (w' : World) (A : At g [.int .i64 0, v1, .slice none 0 0, .int .i64 y] w') (hA : At b p.vals w') (hJ : JB j (jall s.d.rs s.d.s) w') (h1 : b ≠ g) (h2 : j ≠ g) => note_write g j b v1 s.d.s y p s.d.rs w' A hA hJ hpf hlt12 hlong hRw h1 h2)
  have q7 : ¬ ((s.d.rs.length : Int) = 12) := by omega
  have q6 : decide ((s.d.rs.length : Int) = 12) = false := decide_eq_false q7
  have q5 : ((s.d.rs.length : Int) == 12) = false := by simpa using q7
  clear pp ec h0 ho hp h12 hlong hRw HR hput hfull hpf hlt12 es er
  show Calls Tryz.prog 32 #[S3 a1 n1 c1 a2 n2 c2 s.d.s, P5 p] w (StoreRes 0 ⟨putL s.ps p, ⟨s.d.rs ++ [recP p], s.d.s⟩⟩ w)
  have HNM : Hid (∀ q ∈ putL s.ps p, q.n.size ≤ maxLen) := HNM
  unfold Wrote at NW
  generalize putL s.ps p = qs at *
  generalize s.d.rs ++ [recP p] = rs2 at *
  generalize jall s.d.rs s.d.s = J at *
  have d0 := HA0.out.cell 0 _ rfl
  have d1 := HA0.out.cell 1 _ rfl
  have d2 := HA0.out.cell 2 _ rfl
  go_enter_defers Tryz.func32, Tryz.ntmps32
  go_wp2_with fail
  generalize ((w.alloc (.cells #[.slice a1 n1 c1, .slice a2 n2 c2, .int .i64 s.d.s] 57)).alloc (.cells #[.string p.n, .int .i64 p.a, .int .i64 p.b, .int .i64 p.e, .int .i64 p.u] 59)).alloc (.cells #[.int .i64 0, .slice none 0 0, .slice none 0 0, .int .i64 0] 63) = W0 at *
  refine F0.mono ?_
  rintro r u1 ⟨rfl, b1⟩
  have B1 := Lib.hid (btr HB0.out b1)
  have R1 := Lib.hid (HR0.out.on b1)
  have A1 := Lib.hid (HA0.out.on b1)
  have P1 := Lib.hid (HP0.out.on b1)
  clear d0 d1 d2 b1 F0 HB0 HR0 HA0 HP0
  have d0 := A1.out.cell 0 _ rfl
  have d1 := A1.out.cell 1 _ rfl
  have d2 := A1.out.cell 2 _ rfl
  have hlt1 : w.heap.size + 1 + 1 < u1.heap.size := R1.out.lt (by simp [zero9])
  go_wp2_with fail
  refine (JO.out _ B1.out).mono ?_
  rintro r u2 ⟨rfl, b2⟩
  have Q2 := (JB.new u2 E).row J
  have hlt2 : u1.heap.size ≤ u2.heap.size := b2.size
  have b3 := btr b2 (brow (bal (Below.refl _ u2) (.cells E.toArray 186)) (Nat.le_refl _) J.toArray)
  have R3 := Lib.hid (R1.out.on b3)
  have A3 := Lib.hid (A1.out.on b3)
  have P3 := Lib.hid (P1.out.on b3)
  have B3 := Lib.hid (btr B1.out b3)
  clear d0 d1 d2 b2 b3 A1 R1 P1 B1
  go_upto_region 5 with (refine store_jour J E rfl (.tmp 6) (.tmp 16) rfl u2.heap.size rfl rfl (JB.new u2 E) HFJ.out HLJ.out HOJ.out ?_)
  generalize (u2.alloc (.cells E.toArray 186)).setRow u2.heap.size J.toArray = W3 at *
  have HQ2 := Lib.hid Q2
  clear Q2
  generalize u2.heap.size = j at *
  have d0 := A3.out.cell 0 _ rfl
  have d1 := A3.out.cell 1 _ rfl
  have d2 := A3.out.cell 2 _ rfl
  have p0 := P3.out.cell 0 _ rfl
  have p1 := P3.out.cell 1 _ rfl
  have p2 := P3.out.cell 2 _ rfl
  have p3 := P3.out.cell 3 _ rfl
  have p4 := P3.out.cell 4 _ rfl
  go_wp2_with fail
  refine (PP.out _ B3.out).mono ?_
  rintro r u4 ⟨a4, n4, c4, rfl, O4, b4⟩
  have b45 := btr b4 (bal (Below.refl _ u4) (.cells #[.int .i64 0, .slice a4 n4 c4] 192))
  have T5 := Lib.hid (show At u4.heap.size [.int .i64 0, .slice a4 n4 c4] (u4.alloc (.cells #[.int .i64 0, .slice a4 n4 c4] 192)) from At.new u4 [.int .i64 0, .slice a4 n4 c4] 192)
  have HO5 := Lib.hid (O4.below (bal (Below.refl _ u4) (.cells #[.int .i64 0, .slice a4 n4 c4] 192)))
  have hlt3 : j < W3.heap.size := HQ2.out.lt
  have R5 := Lib.hid (R3.out.on b45)
  have P5' := Lib.hid (P3.out.on b45)
  have Q5 := Lib.hid (HQ2.out.on b45)
  have B5 := Lib.hid (btr B3.out b45)
  have hlt4 : W3.heap.size ≤ u4.heap.size := b4.size
  clear d0 d1 d2 p0 p1 p2 p3 p4 b4 b45 O4 R3 A3 P3 B3 HQ2
  go_upto_region 7 with fail
  generalize u4.alloc (.cells #[.int .i64 0, .slice a4 n4 c4] 192) = W5 at *
  have t0 := T5.out.cell 0 _ rfl
  have t1 := T5.out.cell 1 _ rfl
  have cc := Q5.out.at hct
  have R9 := R5.out
  unfold zero9 at R9
  have q0 := R9.cell 0 _ rfl
  have q1 := R9.cell 1 _ rfl
  have q2 := R9.cell 2 _ rfl
  have q3 := R9.cell 3 _ rfl
  have f0 := R9.free 0 _ rfl
  have f1 := R9.free 1 _ rfl
  have f2 := R9.free 2 _ rfl
  have f3 := R9.free 3 _ rfl
  have hr1 : w.heap.size + 1 ≠ w.heap.size + 1 + 1 := by omega
  have hr2 : j ≠ w.heap.size + 1 + 1 := by omega
  have R10 : At (w.heap.size + 1 + 1) [.int .i64 0, .slice a4 n4 c4, .slice none 0 0, .int .i64 0] ((((W5.setCell ⟨w.heap.size + 1 + 1, 0, none⟩ (.int .i64 0)).setCell ⟨w.heap.size + 1 + 1, 1, none⟩ (.slice a4 n4 c4)).setCell ⟨w.heap.size + 1 + 1, 2, none⟩ (.slice none 0 0)).setCell ⟨w.heap.size + 1 + 1, 3, none⟩ (.int .i64 0)) := by simpa using (((R9.set 0 (.int .i64 0)).set 1 (.slice a4 n4 c4)).set 2 (.slice none 0 0)).set 3 (.int .i64 0)
  have P10 := (((P5'.out.setB (p := ⟨w.heap.size + 1 + 1, 0, none⟩) hr1 (.int .i64 0)).setB (p := ⟨w.heap.size + 1 + 1, 1, none⟩) hr1 (.slice a4 n4 c4)).setB (p := ⟨w.heap.size + 1 + 1, 2, none⟩) hr1 (.slice none 0 0)).setB (p := ⟨w.heap.size + 1 + 1, 3, none⟩) hr1 (.int .i64 0)
  have Q10 := (((Q5.out.setB (p := ⟨w.heap.size + 1 + 1, 0, none⟩) hr2 (.int .i64 0)).setB (p := ⟨w.heap.size + 1 + 1, 1, none⟩) hr2 (.slice a4 n4 c4)).setB (p := ⟨w.heap.size + 1 + 1, 2, none⟩) hr2 (.slice none 0 0)).setB (p := ⟨w.heap.size + 1 + 1, 3, none⟩) hr2 (.int .i64 0)
  have hlt5 : w.heap.size + 1 + 1 < W3.heap.size := by omega
  have O10 : OwnP ((((W5.setCell ⟨w.heap.size + 1 + 1, 0, none⟩ (.int .i64 0)).setCell ⟨w.heap.size + 1 + 1, 1, none⟩ (.slice a4 n4 c4)).setCell ⟨w.heap.size + 1 + 1, 2, none⟩ (.slice none 0 0)).setCell ⟨w.heap.size + 1 + 1, 3, none⟩ (.int .i64 0)) W3.heap.size (.slice a4 n4 c4) qs := by
    have hne : ∀ g, Value.ownBlock (.slice a4 n4 c4) = some g → g ≠ w.heap.size + 1 + 1 := fun g e => by have := (Own.lt HO5.out g e).1; omega
    exact Own.setCell (Own.setCell (Own.setCell (Own.setCell HO5.out (p := ⟨w.heap.size + 1 + 1, 0, none⟩) hne _) (p := ⟨w.heap.size + 1 + 1, 1, none⟩) hne _) (p := ⟨w.heap.size + 1 + 1, 2, none⟩) hne _) (p := ⟨w.heap.size + 1 + 1, 3, none⟩) hne _
  have HR10 := Lib.hid R10
  have HP10 := Lib.hid P10
  have HQ10 := Lib.hid Q10
  have HO10 := Lib.hid O10
  have HB10 := Lib.hid (show Below w.heap.size w ((((W5.setCell ⟨w.heap.size + 1 + 1, 0, none⟩ (.int .i64 0)).setCell ⟨w.heap.size + 1 + 1, 1, none⟩ (.slice a4 n4 c4)).setCell ⟨w.heap.size + 1 + 1, 2, none⟩ (.slice none 0 0)).setCell ⟨w.heap.size + 1 + 1, 3, none⟩ (.int .i64 0)) from (by (iterate 4 (refine bset ?_ (by dsimp only; omega) _)); exact B5.out))
  have hsz10 : W3.heap.size ≤ ((((W5.setCell ⟨w.heap.size + 1 + 1, 0, none⟩ (.int .i64 0)).setCell ⟨w.heap.size + 1 + 1, 1, none⟩ (.slice a4 n4 c4)).setCell ⟨w.heap.size + 1 + 1, 2, none⟩ (.slice none 0 0)).setCell ⟨w.heap.size + 1 + 1, 3, none⟩ (.int .i64 0)).heap.size := by
    have := HO5.out
    have h5 : u4.heap.size < W5.heap.size := T5.out.lt (by simp)
    simp [World.setCell]
    omega
  clear R9 R10 P10 Q10 O10 R5 P5' Q5 HO5 B5
  go_wp2_with fail
  refine leaves_cons (f := 117) (args := #[.pointer (some ⟨w.heap.size + 1 + 1, 0, none⟩), .pointer (some ⟨j, 0, none⟩), .pointer (some ⟨w.heap.size + 1, 0, none⟩)]) (by simp) (by simp [go_sem]) ?_
  refine (NW.out _ _ _ _ _ _ HR10.out HP10.out HQ10.out hr1 hr2).mono ?_
  rintro e u' w2 ⟨rfl, rfl, w1, a6, n6, c6, xs, rfl, G6, b6⟩
  have SO := SOwn.mk' (W := w) (x := s.d.s) (HO10.out.below b6) hsz10 (fun g e => (Own.lt HO10.out g e).2) G6 b6.size HNM.out HW.out
  have SO2 := (SO.setCell (p := ⟨w.heap.size + 1 + 1, 2, none⟩) (.inl hlt5) (.slice a6 n6 c6)).setCell (p := ⟨w.heap.size + 1 + 1, 3, none⟩) (.inl hlt5) (.int .i64 s.d.s)
  have HSO := Lib.hid ((SO2.less (show w.heap.size ≤ W3.heap.size by omega)).more SO2.top.2 (Nat.le_refl _))
  have R11 : At (w.heap.size + 1 + 1) [.int .i64 0, .slice a4 n4 c4, .slice a6 n6 c6, .int .i64 s.d.s] ((w1.setCell ⟨w.heap.size + 1 + 1, 2, none⟩ (.slice a6 n6 c6)).setCell ⟨w.heap.size + 1 + 1, 3, none⟩ (.int .i64 s.d.s)) := by simpa using ((HR10.out.on b6).set 2 (.slice a6 n6 c6)).set 3 (.int .i64 s.d.s)
  have HB11 := Lib.hid (show Below w.heap.size w ((w1.setCell ⟨w.heap.size + 1 + 1, 2, none⟩ (.slice a6 n6 c6)).setCell ⟨w.heap.size + 1 + 1, 3, none⟩ (.int .i64 s.d.s)) from (by (iterate 2 (refine bset ?_ (by dsimp only; omega) _)); exact (btr HB10.out b6)))
  clear q0 q1 q2 q3 f0 f1 f2 f3
  have q0 := R11.cell 0 _ rfl
  have q1 := R11.cell 1 _ rfl
  have q2 := R11.cell 2 _ rfl
  have q3 := R11.cell 3 _ rfl
  exact ⟨V4 0 a4 n4 c4 a6 n6 c6 s.d.s, by simp [results, Tryz.results32, go_sem, V4, q0, q1, q2, q3], a4, n4, c4, a6, n6, c6, rfl, HSO.out, HB11.out⟩
end Go.Proofs.YtlodhleihnlchaaGreatDoor
namespace Go.Proofs.YtlodhleihnlchaaGreatDoor
open Go.RowKit
set_option maxRecDepth 100000
set_option linter.unusedVariables false

section
variable {W wr : World} {j r d lo : Nat} {J rv : List Value} {pv v : Value} {x : Int} {ps : List PinD} {zss : List (List Int)} {xs : List Value}
theorem KSt.got (h : KSt W j r d J rv pv v x ps zss xs lo wr) (hn : ∀ p ∈ ps, p.n.size ≤ maxLen) (hw : ∀ zs ∈ zss, ∀ z ∈ zs, (Lit.int .u8 z).wf = true) : SOwn wr (r + 1) wr.heap.size pv v ⟨ps, ⟨zss, x⟩⟩ :=
  SOwn.mk' (W := W) (mid := lo) h.O h.rl (fun k e => (h.ob k e).1) h.G h.lo2 hn hw
end
set_option maxHeartbeats 2000000 in
theorem l9Note_any (g0 : Nat) (a1 : Option Addr) (n1 c1 : Nat) (a2 : Option Addr) (n2 c2 B : Nat) (s : StoreD) (p : PinD) (w : World) (hS : SAt w g0 B a1 n1 c1 a2 n2 c2 s) (hB : B ≤ w.heap.size) (h0 : storeF s = 0) (hpf : p.f = 0) :
    Calls Tryz.prog 129 #[.pointer (some ⟨g0, 0, none⟩), P5 p] w (StoreRes (noteC s p) (noteS s p) w) := by
  have b0 := bal (bal (Below.refl _ w) (.cells #[.string p.n, .int .i64 p.a, .int .i64 p.b, .int .i64 p.e, .int .i64 p.u] 59)) (.cells #[.int .i64 0, .slice none 0 0, .slice none 0 0, .int .i64 0] 63)
  have P0 := (At.new w p.vals 59).alloc (.cells #[.int .i64 0, .slice none 0 0, .slice none 0 0, .int .i64 0] 63)
  have R0 := At.new (w.alloc (.cells #[.string p.n, .int .i64 p.a, .int .i64 p.b, .int .i64 p.e, .int .i64 p.u] 59)) zero9 63
  rw [World.size_alloc] at R0
  have HR0 := Lib.hid (show At (w.heap.size + 1) zero9 ((w.alloc (.cells #[.string p.n, .int .i64 p.a, .int .i64 p.b, .int .i64 p.e, .int .i64 p.u] 59)).alloc (.cells #[.int .i64 0, .slice none 0 0, .slice none 0 0, .int .i64 0] 63)) from R0)
  have HH0 := Lib.hid (show Hold2 w g0 (S3L a1 n1 c1 a2 n2 c2 s.d.s) w.heap.size p.vals ((w.alloc (.cells #[.string p.n, .int .i64 p.a, .int .i64 p.b, .int .i64 p.e, .int .i64 p.u] 59)).alloc (.cells #[.int .i64 0, .slice none 0 0, .slice none 0 0, .int .i64 0] 63)) from ⟨b0, hS.A.on b0, P0⟩)
  have HR := Lib.hid (fun (w' : World) (h : Below w.heap.size w w') => hS.R.below (h.mono hB))
  have hRw := hS.R.wf
  have hln := hS.R.ps.length
  have hrn := hS.R.rs.length
  have hg0 : g0 < w.heap.size := hS.A.lt (by simp [S3L])
  clear hS b0 P0 R0
  obtain ⟨ho, hp⟩ := storeF_zero h0
  obtain ⟨h12, hlong, _, _⟩ := diskF_zero (openC_zero ho).1
  have hps := storeF_pins h0
  obtain ⟨hp4, -, -⟩ := pinsF_zero hps
  obtain ⟨hc0, hr0⟩ := put0_code hps hpf
  have pp := fun (w' : World) (h : Below w.heap.size w w') => l7Put_any a1 n1 c1 B s.ps p w' (HR.out w' h).ps (Nat.le_trans hB h.size) (by rw [← hln]; omega)
  unfold Put0 at pp
  rw [← hc0, ← hr0] at pp
  by_cases hput : putC s.ps p = 0
  case neg =>
    have ec := noteC_put h0 hput
    rw [noteS_no (by rw [ec]; exact hput), ec]
    have PP := Lib.hid pp
    clear pp ec h0 ho hp h12 hlong hRw HR hln hrn hps hp4 hc0 hr0
    generalize putR s.ps p = qs at *
    generalize putC s.ps p = cp at *
    have q9 : (cp != 0) = true := by simpa using hput
    have q8 : decide (cp = 0) = false := by simpa using hput
    go_enter Tryz.func129, Tryz.ntmps129
    go_wp2_with fail
    generalize (w.alloc (.cells #[.string p.n, .int .i64 p.a, .int .i64 p.b, .int .i64 p.e, .int .i64 p.u] 59)).alloc (.cells #[.int .i64 0, .slice none 0 0, .slice none 0 0, .int .i64 0] 63) = W0 at *
    refine wp_region_line (Hold2 w g0 (S3L a1 n1 c1 a2 n2 c2 s.d.s) w.heap.size p.vals) [(0, true), (1, true), (2, true), (3, true), (4, true), (5, false), (6, true), (7, true), (8, true), (9, true), (10, true)] (by kernel_rfl) (by kernel_rfl) (fun _ _ d _ _ h => by cases d <;> exact h) (HH0.out.on (bdrew _)) ?_
    have hst := HH0.out.on (bdrew _)
    have HR1 := Lib.hid (HR0.out.on (bdrew W0))
    have inst : Nonempty (Of (Hold2 w g0 (S3L a1 n1 c1 a2 n2 c2 s.d.s) w.heap.size p.vals)) := ⟨⟨_, hst⟩⟩
    have x0 := Hold2.q1 (W := w) (g1 := g0) (c1 := S3L a1 n1 c1 a2 n2 c2 s.d.s) (g2 := w.heap.size) (c2 := p.vals) 0 _ rfl
    have y0 := Hold2.q2 (W := w) (g1 := g0) (c1 := S3L a1 n1 c1 a2 n2 c2 s.d.s) (g2 := w.heap.size) (c2 := p.vals) 0 _ rfl
    have y1 := Hold2.q2 (W := w) (g1 := g0) (c1 := S3L a1 n1 c1 a2 n2 c2 s.d.s) (g2 := w.heap.size) (c2 := p.vals) 1 _ rfl
    have y2 := Hold2.q2 (W := w) (g1 := g0) (c1 := S3L a1 n1 c1 a2 n2 c2 s.d.s) (g2 := w.heap.size) (c2 := p.vals) 2 _ rfl
    have y3 := Hold2.q2 (W := w) (g1 := g0) (c1 := S3L a1 n1 c1 a2 n2 c2 s.d.s) (g2 := w.heap.size) (c2 := p.vals) 3 _ rfl
    have y4 := Hold2.q2 (W := w) (g1 := g0) (c1 := S3L a1 n1 c1 a2 n2 c2 s.d.s) (g2 := w.heap.size) (c2 := p.vals) 4 _ rfl
    clear HH0 HR0
    generalize W0.drew = V1 at *
    iterate 5 (refine line_read rfl (by kernel_rfl) (fun K hK => ?_); go_big_quiet_op; refine hK _ ?_; clear hK K)
    refine line_alone rfl (by kernel_rfl) (fun K hK => ?_)
    refine call_any (args := #[.slice a1 n1 c1, P5 p]) rfl (by kernel_rfl) (by kernel_rfl) (PP.out _ hst.bel) ?_
    rintro e x2 ⟨a3, n3, c3, rfl, O3, b3⟩
    have hst2 := hst.on b3
    have HO3 := Lib.hid O3
    have HR3 := Lib.hid (HR1.out.on b3)
    have hltV : w.heap.size + 1 < V1.heap.size := HR1.out.lt (by simp [zero9])
    have hltX : V1.heap.size ≤ x2.heap.size := b3.size
    refine ⟨_, rfl, hK _ _ hst2 ?_⟩
    clear hK K hst b3 O3 HR1 x0 y0 y1 y2 y3 y4
    have hst := hst2
    clear hst2
    simp only [Act.put, List.setIfInBounds_toArray, List.set_cons_zero, List.set_cons_succ]
    iterate 5 (refine line_read rfl (by kernel_rfl) (fun K hK => ?_); go_big_quiet_op; refine hK _ ?_; clear hK K)
    refine line_nil ?_
    have HST := Lib.hid hst
    clear hst inst
    go_wp2_with fail
    refine (l9Bad_any cp _).mono ?_
    rintro r u9 ⟨rfl, b9⟩
    have R9 := (HR3.out).on b9
    have B9 := btr HST.out.bel b9
    unfold zero9 at R9
    have q0 := R9.cell 0 _ rfl
    have q1 := R9.cell 1 _ rfl
    have q2 := R9.cell 2 _ rfl
    have q3 := R9.cell 3 _ rfl
    have f0 := R9.free 0 _ rfl
    have f1 := R9.free 1 _ rfl
    have f2 := R9.free 2 _ rfl
    have f3 := R9.free 3 _ rfl
    clear b9 R9
    go_wp2_with fail
    refine bodyPost_ret (v := V4 cp none 0 0 none 0 0 0) (by simp [results, Tryz.results129, go_sem, V4, q0, q1, q2, q3]) rfl ⟨none, 0, 0, none, 0, 0, rfl, SOwn.nil _ _ ?_, ?_⟩
    · exact Nat.le_trans B9.size (by simp [World.setCell])
    · exact (by (iterate 4 (refine bset ?_ (by dsimp only; omega) _)); exact B9)
  rw [hput] at pp
  by_cases hfull : 12 ≤ s.d.rs.length
  · have ec := noteC_full h0 hput hfull
    rw [noteS_no (by rw [ec]; decide), ec]
    have PP := Lib.hid pp
    have hf2 : (12 : Int) ≤ n2 := by rw [← hrn]; omega
    clear pp ec h0 ho hp h12 hlong hRw HR hput hfull hln hrn hps hp4 hc0 hr0
    generalize putR s.ps p = qs at *
    go_enter Tryz.func129, Tryz.ntmps129
    go_wp2_with fail
    generalize (w.alloc (.cells #[.string p.n, .int .i64 p.a, .int .i64 p.b, .int .i64 p.e, .int .i64 p.u] 59)).alloc (.cells #[.int .i64 0, .slice none 0 0, .slice none 0 0, .int .i64 0] 63) = W0 at *
    refine wp_region_line (Hold2 w g0 (S3L a1 n1 c1 a2 n2 c2 s.d.s) w.heap.size p.vals) [(0, true), (1, true), (2, true), (3, true), (4, true), (5, false), (6, true), (7, true), (8, true), (9, true), (10, true)] (by kernel_rfl) (by kernel_rfl) (fun _ _ d _ _ h => by cases d <;> exact h) (HH0.out.on (bdrew _)) ?_
    have hst := HH0.out.on (bdrew _)
    have HR1 := Lib.hid (HR0.out.on (bdrew W0))
    have inst : Nonempty (Of (Hold2 w g0 (S3L a1 n1 c1 a2 n2 c2 s.d.s) w.heap.size p.vals)) := ⟨⟨_, hst⟩⟩
    have x0 := Hold2.q1 (W := w) (g1 := g0) (c1 := S3L a1 n1 c1 a2 n2 c2 s.d.s) (g2 := w.heap.size) (c2 := p.vals) 0 _ rfl
    have y0 := Hold2.q2 (W := w) (g1 := g0) (c1 := S3L a1 n1 c1 a2 n2 c2 s.d.s) (g2 := w.heap.size) (c2 := p.vals) 0 _ rfl
    have y1 := Hold2.q2 (W := w) (g1 := g0) (c1 := S3L a1 n1 c1 a2 n2 c2 s.d.s) (g2 := w.heap.size) (c2 := p.vals) 1 _ rfl
    have y2 := Hold2.q2 (W := w) (g1 := g0) (c1 := S3L a1 n1 c1 a2 n2 c2 s.d.s) (g2 := w.heap.size) (c2 := p.vals) 2 _ rfl
    have y3 := Hold2.q2 (W := w) (g1 := g0) (c1 := S3L a1 n1 c1 a2 n2 c2 s.d.s) (g2 := w.heap.size) (c2 := p.vals) 3 _ rfl
    have y4 := Hold2.q2 (W := w) (g1 := g0) (c1 := S3L a1 n1 c1 a2 n2 c2 s.d.s) (g2 := w.heap.size) (c2 := p.vals) 4 _ rfl
    clear HH0 HR0
    generalize W0.drew = V1 at *
    iterate 5 (refine line_read rfl (by kernel_rfl) (fun K hK => ?_); go_big_quiet_op; refine hK _ ?_; clear hK K)
    refine line_alone rfl (by kernel_rfl) (fun K hK => ?_)
    refine call_any (args := #[.slice a1 n1 c1, P5 p]) rfl (by kernel_rfl) (by kernel_rfl) (PP.out _ hst.bel) ?_
    rintro e x2 ⟨a3, n3, c3, rfl, O3, b3⟩
    have hst2 := hst.on b3
    have HO3 := Lib.hid O3
    have HR3 := Lib.hid (HR1.out.on b3)
    have hltV : w.heap.size + 1 < V1.heap.size := HR1.out.lt (by simp [zero9])
    have hltX : V1.heap.size ≤ x2.heap.size := b3.size
    refine ⟨_, rfl, hK _ _ hst2 ?_⟩
    clear hK K hst b3 O3 HR1 x0 y0 y1 y2 y3 y4
    have hst := hst2
    clear hst2
    simp only [Act.put, List.setIfInBounds_toArray, List.set_cons_zero, List.set_cons_succ]
    iterate 5 (refine line_read rfl (by kernel_rfl) (fun K hK => ?_); go_big_quiet_op; refine hK _ ?_; clear hK K)
    refine line_nil ?_
    have HST := Lib.hid hst
    clear hst inst
    have e1 := HST.out.a1.cell 1 _ rfl
    go_wp2_with fail
    refine (l9Bad_any 7 _).mono ?_
    rintro r u9 ⟨rfl, b9⟩
    have R9 := (HR3.out).on b9
    have B9 := btr HST.out.bel b9
    unfold zero9 at R9
    have q0 := R9.cell 0 _ rfl
    have q1 := R9.cell 1 _ rfl
    have q2 := R9.cell 2 _ rfl
    have q3 := R9.cell 3 _ rfl
    have f0 := R9.free 0 _ rfl
    have f1 := R9.free 1 _ rfl
    have f2 := R9.free 2 _ rfl
    have f3 := R9.free 3 _ rfl
    clear b9 R9
    go_wp2_with fail
    refine bodyPost_ret (v := V4 7 none 0 0 none 0 0 0) (by simp [results, Tryz.results129, go_sem, V4, q0, q1, q2, q3]) rfl ⟨none, 0, 0, none, 0, 0, rfl, SOwn.nil _ _ ?_, ?_⟩
    · exact Nat.le_trans B9.size (by simp [World.setCell])
    · exact (by (iterate 4 (refine bset ?_ (by dsimp only; omega) _)); exact B9)
  have ec := noteC_yes h0 hput hfull
  have hlt12 : s.d.rs.length < 12 := by omega
  have es : noteS s p = noted s p := by unfold noteS; rw [if_pos ec]
  have er : putR s.ps p = putL s.ps p := by unfold putR; rw [if_pos hput]
  have HNM := Lib.hid (right_names (storeF_pins (noted_f h0 hput hlt12)))
  have HW : Hid (∀ zs ∈ s.d.rs ++ [recP p], ∀ z ∈ zs, (Lit.int .u8 z).wf = true) := Lib.hid (fun zs hz z hzz => by
    rcases List.mem_append.1 hz with hz | hz
    · exact hRw zs hz z hzz
    · rw [List.mem_singleton] at hz
      subst hz
      exact byte_wf (recP_byte hpf z hzz))
  rw [es, ec]
  rw [er] at pp
  have PP := Lib.hid pp
  have hf2 : ¬ (12 : Int) ≤ n2 := by rw [← hrn]; omega
  have CP := Lib.hid (fun (w' : World) (h : Below w.heap.size w w') => l9Copy_any a1 n1 c1 a2 n2 c2 B s w' (HR.out w' h) (Nat.le_trans hB h.size) hp4 h12 hlong)
  have RC := Lib.hid (fun (w' : World) (A : At w.heap.size p.vals w') => l9Record_any w.heap.size 0 p w' (fun w2 hb => l7Pack_any w.heap.size p w2 (A.on hb) hpf) hpf)
  clear pp ec h0 ho hp h12 hlong hRw HR hput hfull hpf es er hln hrn hps hp4 hc0 hr0
  show Calls Tryz.prog 129 #[.pointer (some ⟨g0, 0, none⟩), P5 p] w (StoreRes 0 ⟨putL s.ps p, ⟨s.d.rs ++ [recP p], s.d.s⟩⟩ w)
  have HNM : Hid (∀ q ∈ putL s.ps p, q.n.size ≤ maxLen) := HNM
  generalize putL s.ps p = qs at *
  generalize recP p = zs at *
  go_enter Tryz.func129, Tryz.ntmps129
  go_wp2_with fail
  generalize (w.alloc (.cells #[.string p.n, .int .i64 p.a, .int .i64 p.b, .int .i64 p.e, .int .i64 p.u] 59)).alloc (.cells #[.int .i64 0, .slice none 0 0, .slice none 0 0, .int .i64 0] 63) = W0 at *
  refine wp_region_line (Hold2 w g0 (S3L a1 n1 c1 a2 n2 c2 s.d.s) w.heap.size p.vals) [(0, true), (1, true), (2, true), (3, true), (4, true), (5, false), (6, true), (7, true), (8, true), (9, true), (10, true)] (by kernel_rfl) (by kernel_rfl) (fun _ _ d _ _ h => by cases d <;> exact h) (HH0.out.on (bdrew _)) ?_
  have hst := HH0.out.on (bdrew _)
  have HR1 := Lib.hid (HR0.out.on (bdrew W0))
  have inst : Nonempty (Of (Hold2 w g0 (S3L a1 n1 c1 a2 n2 c2 s.d.s) w.heap.size p.vals)) := ⟨⟨_, hst⟩⟩
  have x0 := Hold2.q1 (W := w) (g1 := g0) (c1 := S3L a1 n1 c1 a2 n2 c2 s.d.s) (g2 := w.heap.size) (c2 := p.vals) 0 _ rfl
  have y0 := Hold2.q2 (W := w) (g1 := g0) (c1 := S3L a1 n1 c1 a2 n2 c2 s.d.s) (g2 := w.heap.size) (c2 := p.vals) 0 _ rfl
  have y1 := Hold2.q2 (W := w) (g1 := g0) (c1 := S3L a1 n1 c1 a2 n2 c2 s.d.s) (g2 := w.heap.size) (c2 := p.vals) 1 _ rfl
  have y2 := Hold2.q2 (W := w) (g1 := g0) (c1 := S3L a1 n1 c1 a2 n2 c2 s.d.s) (g2 := w.heap.size) (c2 := p.vals) 2 _ rfl
  have y3 := Hold2.q2 (W := w) (g1 := g0) (c1 := S3L a1 n1 c1 a2 n2 c2 s.d.s) (g2 := w.heap.size) (c2 := p.vals) 3 _ rfl
  have y4 := Hold2.q2 (W := w) (g1 := g0) (c1 := S3L a1 n1 c1 a2 n2 c2 s.d.s) (g2 := w.heap.size) (c2 := p.vals) 4 _ rfl
  clear HH0 HR0
  generalize W0.drew = V1 at *
  iterate 5 (refine line_read rfl (by kernel_rfl) (fun K hK => ?_); go_big_quiet_op; refine hK _ ?_; clear hK K)
  refine line_alone rfl (by kernel_rfl) (fun K hK => ?_)
  refine call_any (args := #[.slice a1 n1 c1, P5 p]) rfl (by kernel_rfl) (by kernel_rfl) (PP.out _ hst.bel) ?_
  rintro e x2 ⟨a3, n3, c3, rfl, O3, b3⟩
  have hst2 := hst.on b3
  have HO3 := Lib.hid O3
  have HR3 := Lib.hid (HR1.out.on b3)
  have hltV : w.heap.size + 1 < V1.heap.size := HR1.out.lt (by simp [zero9])
  have hltX : V1.heap.size ≤ x2.heap.size := b3.size
  refine ⟨_, rfl, hK _ _ hst2 ?_⟩
  clear hK K hst b3 O3 HR1 x0 y0 y1 y2 y3 y4
  have hst := hst2
  clear hst2
  simp only [Act.put, List.setIfInBounds_toArray, List.set_cons_zero, List.set_cons_succ]
  iterate 5 (refine line_read rfl (by kernel_rfl) (fun K hK => ?_); go_big_quiet_op; refine hK _ ?_; clear hK K)
  refine line_nil ?_
  have HST := Lib.hid hst
  clear hst inst
  have d0 := HST.out.a1.cell 0 _ rfl
  have d1 := HST.out.a1.cell 1 _ rfl
  have d2 := HST.out.a1.cell 2 _ rfl
  go_wp2_with fail
  refine (CP.out _ HST.out.bel).mono ?_
  rintro r u2 ⟨a4, c4, a5, c5, rfl, SO, b2⟩
  obtain ⟨mid, xs, hm1, hm2, -, -, hG, -, -⟩ := SO
  have b23 := bal (Below.refl _ u2) (.cells #[.slice a4 s.ps.length c4, .slice a5 s.d.rs.length c5, .int .i64 s.d.s] 57)
  have D3 := Lib.hid (show At u2.heap.size [.slice a4 s.ps.length c4, .slice a5 s.d.rs.length c5, .int .i64 s.d.s] (u2.alloc (.cells #[.slice a4 s.ps.length c4, .slice a5 s.d.rs.length c5, .int .i64 s.d.s] 57)) from At.new u2 [.slice a4 s.ps.length c4, .slice a5 s.d.rs.length c5, .int .i64 s.d.s] 57)
  have b3 := btr b2 b23
  have HST3 := Lib.hid (HST.out.on b3)
  have R3 := Lib.hid (HR3.out.on b3)
  have O3 := Lib.hid (HO3.out.below b3)
  have G3 := Lib.hid (hG.below b23)
  have hO3 := Lib.hid (fun k e => (Own.lt HO3.out k e))
  have hg2 : u2.heap.size < (u2.alloc (.cells #[.slice a4 s.ps.length c4, .slice a5 s.d.rs.length c5, .int .i64 s.d.s] 57)).heap.size := by simp
  clear d0 d1 d2 b2 b23 b3 hG HST HR3 HO3 CP PP
  go_upto_region 7 with fail
  generalize u2.alloc (.cells #[.slice a4 s.ps.length c4, .slice a5 s.d.rs.length c5, .int .i64 s.d.s] 57) = W3 at *
  generalize u2.heap.size = g at *
  have d0 := D3.out.cell 0 _ rfl
  have d1 := D3.out.cell 1 _ rfl
  have d2 := D3.out.cell 2 _ rfl
  have f0 := D3.out.free 0 _ rfl
  have f1 := D3.out.free 1 _ rfl
  have f2 := D3.out.free 2 _ rfl
  go_upto_region 8 with fail
  have hd1 : g ≠ w.heap.size := by omega
  have hd2 : g ≠ w.heap.size + 1 := by omega
  have hd0 : w.heap.size ≤ g := by omega
  have hs4 : (W3.setCell ⟨g, 0, none⟩ (.slice a3 n3 c3)).heap.size = W3.heap.size := by simp [World.setCell]
  have S4 : KSt w w.heap.size (w.heap.size + 1) g p.vals zero9 (.slice a3 n3 c3) (.slice a5 s.d.rs.length c5) s.d.s qs s.d.rs xs mid (W3.setCell ⟨g, 0, none⟩ (.slice a3 n3 c3)) :=
    ⟨HST3.out.a2.setB (p := ⟨g, 0, none⟩) (Ne.symm hd1) _, R3.out.setB (p := ⟨g, 0, none⟩) (Ne.symm hd2) _, by simpa using D3.out.set 0 (.slice a3 n3 c3),
     Own.setCell (O3.out.less (by omega)) (p := ⟨g, 0, none⟩) (fun k e => by have := (hO3.out k e).2; show k ≠ g; omega) _,
     fun k e => by have := (hO3.out k e).2; omega,
     (G3.out.setCell (p := ⟨g, 0, none⟩) (.inr (Nat.le_refl _)) _).more (by rw [hs4]; omega) (Nat.le_refl _),
     bset HST3.out.bel hd0 _,
     fun k e => by have h1 := (G3.out.own.lt k e).1; have h2 := G3.out.lt k e; omega,
     fun i u k hu e => by
       obtain ⟨q1, q2, -⟩ := G3.out.row i u hu
       have h1 := (Own.lt q1 k e).1
       have h2 := q2 k e
       omega,
     by omega, by omega, by rw [hs4]; omega, hd0⟩
  have hmid : w.heap.size + 1 + 1 ≤ mid := by omega
  clear d0 d1 d2 f0 f1 f2 hs4 HST3 R3 O3 G3 D3 hO3
  generalize W3.setCell ⟨g, 0, none⟩ (.slice a3 n3 c3) = W4 at *
  have HS := Lib.hid S4
  obtain ⟨i0, hi0, hz0, hz1, hz2⟩ := info_parts slices_info
  have H0 := Lib.hid (show Hold w w.heap.size p.vals W4.drew from ⟨S4.B.drew, S4.P.on (bdrew W4)⟩)
  have HT1 := Lib.hid (S4.on (bdrew W4))
  clear S4 HS
  go_wp2_with fail
  refine wp_region_fork (Hold w w.heap.size p.vals) (by kernel_rfl) (H0.out) ?_
  have hst : (Hold w w.heap.size p.vals) _ := (H0.out)
  have inst : Nonempty (Of (Hold w w.heap.size p.vals)) := ⟨⟨_, hst⟩⟩
  clear H0
  generalize W4.drew = V4' at *
  refine any_seg 7 [(0, true), (1, true)] (by kernel_rfl) (fun _ _ d _ _ h => by cases d <;> exact h) ?_
  iterate 2 (refine line_read rfl (by kernel_rfl) (fun K hK => ?_); go_big_quiet_op; refine hK _ ?_; clear hK K)
  refine line_nil ?_
  refine any_fork 2 3 (by kernel_rfl) rfl rfl (by kernel_rfl) (by kernel_rfl) (fun K hK => ?_) (fun K hK => ?_)
  · have e1 := (HT1.out).D.cell 1 _ rfl
    go_big_op
    refine hK _ _ hst ?_
    clear hK K e1
    refine any_rest [(3, false), (4, false), (5, false), (6, true), (7, true), (8, false)] (by kernel_rfl) (fun _ _ d _ _ h => by cases d <;> exact h) ?_
    refine line_alone rfl (by kernel_rfl) (fun K hK => ?_)
    refine call_any (args := #[.pointer (some ⟨w.heap.size, 0, none⟩)]) rfl (by kernel_rfl) (by kernel_rfl) (RC.out _ hst.at') ?_
    rintro e x6 ⟨a6, n6, c6, rfl, O6, b6⟩
    have hst2 := hst.on b6
    refine ⟨_, rfl, hK _ _ hst2 ?_⟩
    clear hK K hst
    have hst := hst2
    clear hst2
    simp only [Act.put, List.setIfInBounds_toArray, List.set_cons_zero, List.set_cons_succ]
    refine line_alone rfl (by kernel_rfl) (fun K hK => ?_)
    go_big_op
    have SR := Lib.hid (src_new (P := Tryz.prog) x6 [.slice a6 n6 c6] 1 1 22 52 22 Tryz.underlying52 rfl (by intro u hu; simp at hu; subst hu; rfl))
    have b7 := btr b6 (bal (Below.refl _ x6) (.cells #[.slice a6 n6 c6] 22))
    have O7 := Lib.hid (O6.alloc (.cells #[.slice a6 n6 c6] 22))
    have hst2 := hst.on (bal (Below.refl _ x6) (.cells #[.slice a6 n6 c6] 22))
    refine hK _ _ hst2 ?_
    clear hK K hst O6 b6
    have hst := hst2
    clear hst2
    have hc7 : (x6.alloc (.cells [Value.slice a6 n6 c6].toArray 22)) = x6.alloc (.cells #[.slice a6 n6 c6] 22) := rfl
    rw [hc7] at SR
    clear hc7
    generalize x6.alloc (.cells #[.slice a6 n6 c6] 22) = x7 at *
    generalize x6.heap.size = lit at *
    refine line_alone rfl (by kernel_rfl) (fun K hK => ?_)
    have HT7 := Lib.hid (HT1.out.on b7)
    refine wp_append_src _ (.tmp 37) (.tmp 39) 52 52 rfl mid 22 i0 (.slice none 0 0) 1 24 Tryz.underlying52 hi0 hz0 hz1 hz2 rfl (.slice a5 s.d.rs.length c5) s.d.rs.length xs rfl HT7.out.G.own _ 1 [.slice a6 n6 c6] rfl SR.out (by simp only [maxLen]; omega) (by omega) HT7.out.lo2 (fun v8 w8 hown hgrow hat => ?_)
    obtain ⟨a8, c8, hv8, -⟩ := Own.form hown
    subst hv8
    have T8 := Lib.hid (HT1.out.app b7 O7.out hown hgrow hat hd1 hd2 (by simp [PinD.vals]) (by simp [zero9]))
    have D8 := HT7.out.D.kept hgrow (fun e => (HT7.out.off g e.symm).2.2 rfl)
    have P8 := HT7.out.P.kept hgrow (fun e => (HT7.out.off w.heap.size e.symm).1 rfl)
    have B8 : Below w.heap.size w w8 := HT7.out.B.grown hgrow HT7.out.B.size fun k e => Nat.le_trans HT7.out.lo1 (HT7.out.G.own.lt k e).1
    have hst2 : Hold w w.heap.size p.vals w8 := ⟨B8, P8⟩
    refine hK _ _ hst2 ?_
    clear hK K hst hown hgrow hat O7 SR HT7 b7 B8 P8
    have hst := hst2
    clear hst2
    simp only [Act.put, List.setIfInBounds_toArray, List.set_cons_zero, List.set_cons_succ]
    have z0 := D8.cell 0 _ rfl
    have z1 := D8.cell 1 _ rfl
    have z2 := D8.cell 2 _ rfl
    have f0 := D8.free 0 _ rfl
    have f1 := D8.free 1 _ rfl
    have f2 := D8.free 2 _ rfl
    iterate 2 (refine line_read rfl (by kernel_rfl) (fun K hK => ?_); go_big_quiet_op; refine hK _ ?_; clear hK K)
    refine line_alone rfl (by kernel_rfl) (fun K hK => ?_)
    go_big_op
    refine hK _ _ (hst.setB (p := ⟨g, 1, none⟩) hd0 (Ne.symm hd1) _) ?_
    clear hK K
    refine line_nil ?_
    clear z0 z1 z2 f0 f1 f2 D8 HT1 RC hst inst
    have SO9 := T8.out.got HNM.out HW.out
    have R9 := T8.out.R
    have D9 := T8.out.D
    have B9 := T8.out.B
    generalize w8.setCell ⟨g, 1, none⟩ (.slice a8 (s.d.rs.length + 1) c8) = W9 at *
    have HS9 := Lib.hid (SO9.res (w := w) (r := w.heap.size + 1) (by omega) (by omega) (.int .i64 0) (.slice a3 n3 c3) (.slice a8 (s.d.rs.length + 1) c8) (.int .i64 s.d.s))
    have HB9 := Lib.hid B9
    clear SO9 B9 T8
    have z0 := D9.cell 0 _ rfl
    have z1 := D9.cell 1 _ rfl
    have z2 := D9.cell 2 _ rfl
    unfold zero9 at R9
    have q0 := R9.cell 0 _ rfl
    have q1 := R9.cell 1 _ rfl
    have q2 := R9.cell 2 _ rfl
    have q3 := R9.cell 3 _ rfl
    have f0 := R9.free 0 _ rfl
    have f1 := R9.free 1 _ rfl
    have f2 := R9.free 2 _ rfl
    have f3 := R9.free 3 _ rfl
    clear D9 R9
    go_wp2_with fail
    refine bodyPost_ret (v := V4 0 a3 n3 c3 a8 (s.d.rs.length + 1) c8 s.d.s) (by simp [results, Tryz.results129, go_sem, V4, q0, q1, q2, q3]) rfl ⟨a3, n3, c3, a8, s.d.rs.length + 1, c8, rfl, HS9.out, ?_⟩
    exact (by (iterate 4 (refine bset ?_ (by dsimp only; omega) _)); exact HB9.out)
  · refine call_any (args := #[.pointer (some ⟨w.heap.size, 0, none⟩)]) rfl (by kernel_rfl) (by kernel_rfl) (RC.out _ hst.at') ?_
    rintro e x6 ⟨a6, n6, c6, rfl, O6, b6⟩
    have hst2 := hst.on b6
    refine ⟨_, rfl, hK _ _ hst2 ?_⟩
    clear hK K hst
    have hst := hst2
    clear hst2
    simp only [Act.put, List.setIfInBounds_toArray, List.set_cons_zero, List.set_cons_succ]
    refine any_fork 2 4 (by kernel_rfl) rfl rfl (by kernel_rfl) (by kernel_rfl) (fun K hK => ?_) (fun K hK => ?_)
    · have e1 := (HT1.out.on b6).D.cell 1 _ rfl
      go_big_op
      refine hK _ _ hst ?_
      clear hK K e1
      refine any_rest [(4, false), (5, false), (6, true), (7, true), (8, false)] (by kernel_rfl) (fun _ _ d _ _ h => by cases d <;> exact h) ?_
      refine line_alone rfl (by kernel_rfl) (fun K hK => ?_)
      go_big_op
      have SR := Lib.hid (src_new (P := Tryz.prog) x6 [.slice a6 n6 c6] 1 1 22 52 22 Tryz.underlying52 rfl (by intro u hu; simp at hu; subst hu; rfl))
      have b7 := btr b6 (bal (Below.refl _ x6) (.cells #[.slice a6 n6 c6] 22))
      have O7 := Lib.hid (O6.alloc (.cells #[.slice a6 n6 c6] 22))
      have hst2 := hst.on (bal (Below.refl _ x6) (.cells #[.slice a6 n6 c6] 22))
      refine hK _ _ hst2 ?_
      clear hK K hst O6 b6
      have hst := hst2
      clear hst2
      have hc7 : (x6.alloc (.cells [Value.slice a6 n6 c6].toArray 22)) = x6.alloc (.cells #[.slice a6 n6 c6] 22) := rfl
      rw [hc7] at SR
      clear hc7
      generalize x6.alloc (.cells #[.slice a6 n6 c6] 22) = x7 at *
      generalize x6.heap.size = lit at *
      refine line_alone rfl (by kernel_rfl) (fun K hK => ?_)
      have HT7 := Lib.hid (HT1.out.on b7)
      refine wp_append_src _ (.tmp 37) (.tmp 39) 52 52 rfl mid 22 i0 (.slice none 0 0) 1 24 Tryz.underlying52 hi0 hz0 hz1 hz2 rfl (.slice a5 s.d.rs.length c5) s.d.rs.length xs rfl HT7.out.G.own _ 1 [.slice a6 n6 c6] rfl SR.out (by simp only [maxLen]; omega) (by omega) HT7.out.lo2 (fun v8 w8 hown hgrow hat => ?_)
      obtain ⟨a8, c8, hv8, -⟩ := Own.form hown
      subst hv8
      have T8 := Lib.hid (HT1.out.app b7 O7.out hown hgrow hat hd1 hd2 (by simp [PinD.vals]) (by simp [zero9]))
      have D8 := HT7.out.D.kept hgrow (fun e => (HT7.out.off g e.symm).2.2 rfl)
      have P8 := HT7.out.P.kept hgrow (fun e => (HT7.out.off w.heap.size e.symm).1 rfl)
      have B8 : Below w.heap.size w w8 := HT7.out.B.grown hgrow HT7.out.B.size fun k e => Nat.le_trans HT7.out.lo1 (HT7.out.G.own.lt k e).1
      have hst2 : Hold w w.heap.size p.vals w8 := ⟨B8, P8⟩
      refine hK _ _ hst2 ?_
      clear hK K hst hown hgrow hat O7 SR HT7 b7 B8 P8
      have hst := hst2
      clear hst2
      simp only [Act.put, List.setIfInBounds_toArray, List.set_cons_zero, List.set_cons_succ]
      have z0 := D8.cell 0 _ rfl
      have z1 := D8.cell 1 _ rfl
      have z2 := D8.cell 2 _ rfl
      have f0 := D8.free 0 _ rfl
      have f1 := D8.free 1 _ rfl
      have f2 := D8.free 2 _ rfl
      iterate 2 (refine line_read rfl (by kernel_rfl) (fun K hK => ?_); go_big_quiet_op; refine hK _ ?_; clear hK K)
      refine line_alone rfl (by kernel_rfl) (fun K hK => ?_)
      go_big_op
      refine hK _ _ (hst.setB (p := ⟨g, 1, none⟩) hd0 (Ne.symm hd1) _) ?_
      clear hK K
      refine line_nil ?_
      clear z0 z1 z2 f0 f1 f2 D8 HT1 RC hst inst
      have SO9 := T8.out.got HNM.out HW.out
      have R9 := T8.out.R
      have D9 := T8.out.D
      have B9 := T8.out.B
      generalize w8.setCell ⟨g, 1, none⟩ (.slice a8 (s.d.rs.length + 1) c8) = W9 at *
      have HS9 := Lib.hid (SO9.res (w := w) (r := w.heap.size + 1) (by omega) (by omega) (.int .i64 0) (.slice a3 n3 c3) (.slice a8 (s.d.rs.length + 1) c8) (.int .i64 s.d.s))
      have HB9 := Lib.hid B9
      clear SO9 B9 T8
      have z0 := D9.cell 0 _ rfl
      have z1 := D9.cell 1 _ rfl
      have z2 := D9.cell 2 _ rfl
      unfold zero9 at R9
      have q0 := R9.cell 0 _ rfl
      have q1 := R9.cell 1 _ rfl
      have q2 := R9.cell 2 _ rfl
      have q3 := R9.cell 3 _ rfl
      have f0 := R9.free 0 _ rfl
      have f1 := R9.free 1 _ rfl
      have f2 := R9.free 2 _ rfl
      have f3 := R9.free 3 _ rfl
      clear D9 R9
      go_wp2_with fail
      refine bodyPost_ret (v := V4 0 a3 n3 c3 a8 (s.d.rs.length + 1) c8 s.d.s) (by simp [results, Tryz.results129, go_sem, V4, q0, q1, q2, q3]) rfl ⟨a3, n3, c3, a8, s.d.rs.length + 1, c8, rfl, HS9.out, ?_⟩
      exact (by (iterate 4 (refine bset ?_ (by dsimp only; omega) _)); exact HB9.out)
    · go_big_op
      have SR := Lib.hid (src_new (P := Tryz.prog) x6 [.slice a6 n6 c6] 1 1 22 52 22 Tryz.underlying52 rfl (by intro u hu; simp at hu; subst hu; rfl))
      have b7 := btr b6 (bal (Below.refl _ x6) (.cells #[.slice a6 n6 c6] 22))
      have O7 := Lib.hid (O6.alloc (.cells #[.slice a6 n6 c6] 22))
      have hst2 := hst.on (bal (Below.refl _ x6) (.cells #[.slice a6 n6 c6] 22))
      refine hK _ _ hst2 ?_
      clear hK K hst O6 b6
      have hst := hst2
      clear hst2
      have hc7 : (x6.alloc (.cells [Value.slice a6 n6 c6].toArray 22)) = x6.alloc (.cells #[.slice a6 n6 c6] 22) := rfl
      rw [hc7] at SR
      clear hc7
      generalize x6.alloc (.cells #[.slice a6 n6 c6] 22) = x7 at *
      generalize x6.heap.size = lit at *
      refine any_rest [(2, false), (5, false), (6, true), (7, true), (8, false)] (by kernel_rfl) (fun _ _ d _ _ h => by cases d <;> exact h) ?_
      refine line_alone rfl (by kernel_rfl) (fun K hK => ?_)
      have e1 := (HT1.out.on b7).D.cell 1 _ rfl
      go_big_op
      refine hK _ _ hst ?_
      clear hK K e1
      refine line_alone rfl (by kernel_rfl) (fun K hK => ?_)
      have HT7 := Lib.hid (HT1.out.on b7)
      refine wp_append_src _ (.tmp 37) (.tmp 39) 52 52 rfl mid 22 i0 (.slice none 0 0) 1 24 Tryz.underlying52 hi0 hz0 hz1 hz2 rfl (.slice a5 s.d.rs.length c5) s.d.rs.length xs rfl HT7.out.G.own _ 1 [.slice a6 n6 c6] rfl SR.out (by simp only [maxLen]; omega) (by omega) HT7.out.lo2 (fun v8 w8 hown hgrow hat => ?_)
      obtain ⟨a8, c8, hv8, -⟩ := Own.form hown
      subst hv8
      have T8 := Lib.hid (HT1.out.app b7 O7.out hown hgrow hat hd1 hd2 (by simp [PinD.vals]) (by simp [zero9]))
      have D8 := HT7.out.D.kept hgrow (fun e => (HT7.out.off g e.symm).2.2 rfl)
      have P8 := HT7.out.P.kept hgrow (fun e => (HT7.out.off w.heap.size e.symm).1 rfl)
      have B8 : Below w.heap.size w w8 := HT7.out.B.grown hgrow HT7.out.B.size fun k e => Nat.le_trans HT7.out.lo1 (HT7.out.G.own.lt k e).1
      have hst2 : Hold w w.heap.size p.vals w8 := ⟨B8, P8⟩
      refine hK _ _ hst2 ?_
      clear hK K hst hown hgrow hat O7 SR HT7 b7 B8 P8
      have hst := hst2
      clear hst2
      simp only [Act.put, List.setIfInBounds_toArray, List.set_cons_zero, List.set_cons_succ]
      have z0 := D8.cell 0 _ rfl
      have z1 := D8.cell 1 _ rfl
      have z2 := D8.cell 2 _ rfl
      have f0 := D8.free 0 _ rfl
      have f1 := D8.free 1 _ rfl
      have f2 := D8.free 2 _ rfl
      iterate 2 (refine line_read rfl (by kernel_rfl) (fun K hK => ?_); go_big_quiet_op; refine hK _ ?_; clear hK K)
      refine line_alone rfl (by kernel_rfl) (fun K hK => ?_)
      go_big_op
      refine hK _ _ (hst.setB (p := ⟨g, 1, none⟩) hd0 (Ne.symm hd1) _) ?_
      clear hK K
      refine line_nil ?_
      clear z0 z1 z2 f0 f1 f2 D8 HT1 RC hst inst
      have SO9 := T8.out.got HNM.out HW.out
      have R9 := T8.out.R
      have D9 := T8.out.D
      have B9 := T8.out.B
      generalize w8.setCell ⟨g, 1, none⟩ (.slice a8 (s.d.rs.length + 1) c8) = W9 at *
      have HS9 := Lib.hid (SO9.res (w := w) (r := w.heap.size + 1) (by omega) (by omega) (.int .i64 0) (.slice a3 n3 c3) (.slice a8 (s.d.rs.length + 1) c8) (.int .i64 s.d.s))
      have HB9 := Lib.hid B9
      clear SO9 B9 T8
      have z0 := D9.cell 0 _ rfl
      have z1 := D9.cell 1 _ rfl
      have z2 := D9.cell 2 _ rfl
      unfold zero9 at R9
      have q0 := R9.cell 0 _ rfl
      have q1 := R9.cell 1 _ rfl
      have q2 := R9.cell 2 _ rfl
      have q3 := R9.cell 3 _ rfl
      have f0 := R9.free 0 _ rfl
      have f1 := R9.free 1 _ rfl
      have f2 := R9.free 2 _ rfl
      have f3 := R9.free 3 _ rfl
      clear D9 R9
      go_wp2_with fail
      refine bodyPost_ret (v := V4 0 a3 n3 c3 a8 (s.d.rs.length + 1) c8 s.d.s) (by simp [results, Tryz.results129, go_sem, V4, q0, q1, q2, q3]) rfl ⟨a3, n3, c3, a8, s.d.rs.length + 1, c8, rfl, HS9.out, ?_⟩
      exact (by (iterate 4 (refine bset ?_ (by dsimp only; omega) _)); exact HB9.out)
end Go.Proofs.YtlodhleihnlchaaGreatDoor
namespace Go.Proofs.YtlodhleihnlchaaGreatDoor
open Go.RowKit
set_option maxRecDepth 100000
set_option linter.unusedVariables false

set_option maxHeartbeats 1000000 in
theorem specNotePin_any (a1 : Option Addr) (n1 c1 : Nat) (a2 : Option Addr) (n2 c2 B : Nat) (s : StoreD) (p : PinD) (w : World) (hR : SRow w B a1 n1 c1 a2 n2 c2 s) (hB : B ≤ w.heap.size) (hpn : p.n.size ≤ maxLen) :
    Calls Tryz.prog 41 #[S3 a1 n1 c1 a2 n2 c2 s.d.s, P5 p] w (StoreRes (noteC s p) (noteS s p) w) := by
  obtain ⟨b0, A0, P0, R0⟩ := beginN a1 n1 c1 a2 n2 c2 s.d.s p w
  have HR0 := Lib.hid R0
  have HA0 := Lib.hid A0
  have HP0 := Lib.hid P0
  have HB0 := Lib.hid b0
  have HR := Lib.hid (fun (w' : World) (h : Below w.heap.size w w') => hR.below (h.mono hB))
  have F0 := l9Fault_any w.heap.size a1 n1 c1 a2 n2 c2 B s _ ⟨A0, hR.below (b0.mono hB)⟩ (Nat.le_trans hB b0.size)
  clear A0 P0 R0 b0 hR
  by_cases h0 : storeF s = 0
  case neg =>
    have ec := noteC_bad (p := p) h0
    rw [noteS_no (by rw [ec]; exact h0), ec]
    generalize storeF s = cd at *
    have q9 : (cd != 0) = true := by simpa using h0
    have q8 : decide (cd = 0) = false := by simpa using h0
    clear HR ec
    go_enter Tryz.func41, Tryz.ntmps41
    go_wp2_with fail
    generalize ((w.alloc (.cells #[.slice a1 n1 c1, .slice a2 n2 c2, .int .i64 s.d.s] 57)).alloc (.cells #[.string p.n, .int .i64 p.a, .int .i64 p.b, .int .i64 p.e, .int .i64 p.u] 59)).alloc (.cells #[.int .i64 0, .slice none 0 0, .slice none 0 0, .int .i64 0] 63) = W0 at *
    refine F0.mono ?_
    rintro r u1 ⟨rfl, b1⟩
    have B1 := Lib.hid (btr HB0.out b1)
    have R1 := Lib.hid (HR0.out.on b1)
    have A1 := Lib.hid (HA0.out.on b1)
    have P1 := Lib.hid (HP0.out.on b1)
    clear b1 F0 HB0 HR0 HA0 HP0
    go_wp2_with fail
    refine (l9Bad_any cd _).mono ?_
    rintro r u9 ⟨rfl, b9⟩
    have R9 := (R1.out).on b9
    have B9 := btr B1.out b9
    unfold zero9 at R9
    have q0 := R9.cell 0 _ rfl
    have q1 := R9.cell 1 _ rfl
    have q2 := R9.cell 2 _ rfl
    have q3 := R9.cell 3 _ rfl
    have f0 := R9.free 0 _ rfl
    have f1 := R9.free 1 _ rfl
    have f2 := R9.free 2 _ rfl
    have f3 := R9.free 3 _ rfl
    clear b9 R9
    go_wp2_with fail
    refine bodyPost_ret (v := V4 cd none 0 0 none 0 0 0) (by simp [results, Tryz.results41, go_sem, V4, q0, q1, q2, q3]) rfl ⟨none, 0, 0, none, 0, 0, rfl, SOwn.nil _ _ ?_, ?_⟩
    · exact Nat.le_trans B9.size (by simp [World.setCell])
    · exact (by (iterate 4 (refine bset ?_ (by dsimp only; omega) _)); exact B9)
  rw [h0] at F0
  by_cases hpf : p.f = 0
  case neg =>
    have ep : putC s.ps p = p.f := by
      have := storeF_pins h0
      unfold putC
      rw [if_neg (by omega), if_pos hpf]
    have ec := noteC_put (p := p) h0 (by rw [ep]; exact hpf)
    rw [noteS_no (by rw [ec, ep]; exact hpf), ec, ep]
    have q9 : (p.f != 0) = true := by simpa using hpf
    have q8 : decide (p.f = 0) = false := by simpa using hpf
    clear HR ec ep h0
    go_enter Tryz.func41, Tryz.ntmps41
    go_wp2_with fail
    generalize ((w.alloc (.cells #[.slice a1 n1 c1, .slice a2 n2 c2, .int .i64 s.d.s] 57)).alloc (.cells #[.string p.n, .int .i64 p.a, .int .i64 p.b, .int .i64 p.e, .int .i64 p.u] 59)).alloc (.cells #[.int .i64 0, .slice none 0 0, .slice none 0 0, .int .i64 0] 63) = W0 at *
    refine F0.mono ?_
    rintro r u1 ⟨rfl, b1⟩
    have B1 := Lib.hid (btr HB0.out b1)
    have R1 := Lib.hid (HR0.out.on b1)
    have A1 := Lib.hid (HA0.out.on b1)
    have P1 := Lib.hid (HP0.out.on b1)
    clear b1 F0 HB0 HR0 HA0 HP0
    go_wp2_with fail
    refine (l7Fault_any _ p _ P1.out hpn).mono ?_
    rintro r u2 ⟨rfl, b2⟩
    have B2 := Lib.hid (btr B1.out b2)
    have R2 := Lib.hid (R1.out.on b2)
    have A2 := Lib.hid (A1.out.on b2)
    have P2 := Lib.hid (P1.out.on b2)
    clear b2 B1 R1 A1 P1
    go_wp2_with fail
    refine (l9Bad_any p.f _).mono ?_
    rintro r u9 ⟨rfl, b9⟩
    have R9 := (R2.out).on b9
    have B9 := btr B2.out b9
    unfold zero9 at R9
    have q0 := R9.cell 0 _ rfl
    have q1 := R9.cell 1 _ rfl
    have q2 := R9.cell 2 _ rfl
    have q3 := R9.cell 3 _ rfl
    have f0 := R9.free 0 _ rfl
    have f1 := R9.free 1 _ rfl
    have f2 := R9.free 2 _ rfl
    have f3 := R9.free 3 _ rfl
    clear b9 R9
    go_wp2_with fail
    refine bodyPost_ret (v := V4 p.f none 0 0 none 0 0 0) (by simp [results, Tryz.results41, go_sem, V4, q0, q1, q2, q3]) rfl ⟨none, 0, 0, none, 0, 0, rfl, SOwn.nil _ _ ?_, ?_⟩
    · exact Nat.le_trans B9.size (by simp [World.setCell])
    · exact (by (iterate 4 (refine bset ?_ (by dsimp only; omega) _)); exact B9)
  have LN := Lib.hid (fun (w' : World) (hb : Below w.heap.size w w') (A : At w.heap.size (S3L a1 n1 c1 a2 n2 c2 s.d.s) w') => l9Note_any w.heap.size a1 n1 c1 a2 n2 c2 B s p w' ⟨A, HR.out w' hb⟩ (Nat.le_trans hB hb.size) h0 hpf)
  unfold StoreRes at LN
  have hnc : hpf = hpf := rfl
  clear HR h0
  generalize noteC s p = C at *
  generalize noteS s p = S at *
  go_enter Tryz.func41, Tryz.ntmps41
  go_wp2_with fail
  generalize ((w.alloc (.cells #[.slice a1 n1 c1, .slice a2 n2 c2, .int .i64 s.d.s] 57)).alloc (.cells #[.string p.n, .int .i64 p.a, .int .i64 p.b, .int .i64 p.e, .int .i64 p.u] 59)).alloc (.cells #[.int .i64 0, .slice none 0 0, .slice none 0 0, .int .i64 0] 63) = W0 at *
  refine F0.mono ?_
  rintro r u1 ⟨rfl, b1⟩
  have B1 := Lib.hid (btr HB0.out b1)
  have R1 := Lib.hid (HR0.out.on b1)
  have A1 := Lib.hid (HA0.out.on b1)
  have P1 := Lib.hid (HP0.out.on b1)
  clear b1 F0 HB0 HR0 HA0 HP0
  go_wp2_with fail
  refine (l7Fault_any _ p _ P1.out hpn).mono ?_
  rintro r u2 ⟨rfl, b2⟩
  have B2 := Lib.hid (btr B1.out b2)
  have R2 := Lib.hid (R1.out.on b2)
  have A2 := Lib.hid (A1.out.on b2)
  have P2 := Lib.hid (P1.out.on b2)
  clear b2 B1 R1 A1 P1
  rw [hpf]
  have p0 := P2.out.cell 0 _ rfl
  have p1 := P2.out.cell 1 _ rfl
  have p2 := P2.out.cell 2 _ rfl
  have p3 := P2.out.cell 3 _ rfl
  have p4 := P2.out.cell 4 _ rfl
  go_wp2_with fail
  refine (LN.out _ B2.out A2.out).mono ?_
  rintro r u9 ⟨a3, n3, c3, a4, n4, c4, rfl, SO9, b9⟩
  have R9 := R2.out.on b9
  have B9 := btr B2.out b9
  have HS9 := Lib.hid (SO9.res (w := w) (r := w.heap.size + 1 + 1) (R2.out.lt (by decide)) B2.out.size (.int .i64 C) (.slice a3 n3 c3) (.slice a4 n4 c4) (.int .i64 S.d.s))
  unfold zero9 at R9
  have q0 := R9.cell 0 _ rfl
  have q1 := R9.cell 1 _ rfl
  have q2 := R9.cell 2 _ rfl
  have q3 := R9.cell 3 _ rfl
  have f0 := R9.free 0 _ rfl
  have f1 := R9.free 1 _ rfl
  have f2 := R9.free 2 _ rfl
  have f3 := R9.free 3 _ rfl
  clear R9 b9 SO9 p0 p1 p2 p3 p4
  go_wp2_with fail
  refine bodyPost_ret (v := V4 C a3 n3 c3 a4 n4 c4 S.d.s) (by simp [results, Tryz.results41, go_sem, V4, q0, q1, q2, q3]) rfl ⟨a3, n3, c3, a4, n4, c4, rfl, HS9.out, ?_⟩
  exact (by (iterate 4 (refine bset ?_ (by dsimp only; omega) _)); exact B9)
end Go.Proofs.YtlodhleihnlchaaGreatDoor
