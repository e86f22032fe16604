/- Contracts of what the laws do with pins that were answered: write marks into them, read the marks. Conditions: as each theorem states. -/
import Derived.Test.YtcnpocppgghejaaDoorL7
import Derived.Test.YtcnpocppgghejaaDoorC7i
import Derived.Deep.DeepCutAuto
namespace Go.Proofs.YtcnpocppgghejaaDoor
open Go.RowKit
set_option maxRecDepth 100000
set_option linter.unusedVariables false

/-- The digits of k, ahead of out. -/
def digs : Nat → Nat → ByteArray → ByteArray
  | 0, _, out => out
  | f + 1, k, out => if k = 0 then out else digs f (k / 10) ((⟨#[UInt8.ofNat (48 + k % 10)]⟩ : ByteArray) ++ out)
theorem digs_zero (f : Nat) (out : ByteArray) : digs f 0 out = out := by cases f <;> rfl
theorem digs_fuel : ∀ (f g k : Nat) (out : ByteArray), k ≤ f → k ≤ g → digs f k out = digs g k out
  | 0, g, k, out, h1, _ => by
    obtain rfl : k = 0 := by omega
    rw [digs_zero, digs_zero]
  | f + 1, 0, k, out, _, h2 => by
    obtain rfl : k = 0 := by omega
    rw [digs_zero, digs_zero]
  | f + 1, g + 1, k, out, h1, h2 => by
    unfold digs
    by_cases h : k = 0
    · rw [if_pos h, if_pos h]
    · rw [if_neg h, if_neg h]
      exact digs_fuel f g (k / 10) _ (by omega) (by omega)
def markT (k : Nat) : ByteArray := (⟨#[109]⟩ : ByteArray) ++ digs k k ⟨#[]⟩
theorem digs_step {k : Nat} (h : k ≠ 0) (out : ByteArray) : digs k k out = digs (k / 10) (k / 10) ((⟨#[UInt8.ofNat (48 + k % 10)]⟩ : ByteArray) ++ out) := by
  obtain ⟨f, rfl⟩ : ∃ f, k = f + 1 := ⟨k - 1, by omega⟩
  rw [digs, if_neg h]
  exact digs_fuel _ _ _ _ (by omega) (by omega)
theorem markText_any (k : Nat) (w : World) (h0 : 0 < k) (h1 : k ≤ 1000000000) :
    Calls Tryd.prog 55 #[.int .i64 k] w fun e w' => e = .returned (.string (markT k)) ∧ Below w.heap.size w w' := by
  have hk : ¬ (k : Int) ≤ 0 := by omega
  go_enter Tryd.func55, Tryd.ntmps55
  go_wp2_with fail
  go_loopw [0, 3] (fun kv ov wr => ∃ (j : Nat) (o : ByteArray), kv = .int .i64 j ∧ ov = .string o ∧ digs j j o = digs k k ⟨#[]⟩ ∧ o.size + j ≤ k ∧ Below w.heap.size w wr) (fun kv _ _ => (intOf kv).toNat)
  case atStart => exact ⟨k, ⟨#[]⟩, rfl, rfl, rfl, by show 0 + k ≤ k; omega, Below.refl _ _⟩
  case round =>
    obtain ⟨j, o, rfl, rfl, hd, hs, hb⟩ := hrel
    by_cases hj : 0 < j
    · have hj0 : (0 : Int) < j := by omega
      have hlt : j % 10 < 10 := Nat.mod_lt _ (by omega)
      have hst := digs_step (k := j) (by omega) o
      rw [hd] at hst
      have hO := own_lit (k := .u8) wr [48 + (j : Int) % 10] 1 5 (B := wr.heap.size) (Nat.le_refl _) rfl (by simp only [maxLen]; omega)
      have hrow := Own.row hO (by intro z hz; simp at hz; subst hz; exact byte_wf (show M.byteB _ by unfold M.byteB; omega))
      have es : strOf [48 + (j : Int) % 10] = (⟨#[UInt8.ofNat (48 + j % 10)]⟩ : ByteArray) := by
        show (⟨#[UInt8.ofNat (48 + (j : Int) % 10).toNat]⟩ : ByteArray) = _
        rw [show (48 + (j : Int) % 10).toNat = 48 + j % 10 by omega]
      have cv : (convert 50 9 (.slice (some ⟨wr.heap.size, 0, none⟩) 1 1)).run Tryd.prog (wr.alloc (.cells #[.int .u8 (48 + (j : Int) % 10)] 5)) = .ok (.string (⟨#[UInt8.ofNat (48 + j % 10)]⟩ : ByteArray)) (wr.alloc (.cells #[.int .u8 (48 + (j : Int) % 10)] 5)) := by rw [← es]; exact conv_row hrow
      have HS := Lib.hid hst
      have b2 := bal hb (.cells #[.int .u8 (48 + (j : Int) % 10)] 5)
      have hs2 : ((⟨#[UInt8.ofNat (48 + j % 10)]⟩ : ByteArray) ++ o).size + j / 10 ≤ k := by
        have : ((⟨#[UInt8.ofNat (48 + j % 10)]⟩ : ByteArray) ++ o).size = 1 + o.size := by simp [ByteArray.size_append]; rfl
        omega
      have hsz : (⟨#[UInt8.ofNat (48 + j % 10)]⟩ : ByteArray).size = 1 := rfl
      have HS2 := Lib.hid hs2
      have HB2 := Lib.hid b2
      clear hst hO hrow es hd hs2 b2
      generalize (⟨#[UInt8.ofNat (48 + j % 10)]⟩ : ByteArray) = ch at *
      have hsum : ch.size + o.size ≤ 9223372036854775807 := by omega
      have hadd := fun (W : World) => run_string_add_sum (P := Tryd.prog) W ch o hsum
      go_wp2_with fail
      go_roundw
      case rel => exact ⟨j / 10, ch ++ o, by go_num, rfl, HS.out.symm, HS2.out, HB2.out⟩
      case measure => simp [intOf]; omega
    · obtain rfl : j = 0 := by omega
      rw [digs_zero] at hd
      have em : markT k = (⟨#[109]⟩ : ByteArray) ++ o := by unfold markT; rw [← hd]
      have hsum : (⟨#[109]⟩ : ByteArray).size + o.size ≤ 9223372036854775807 := by show 1 + o.size ≤ _; omega
      have hadd := fun (W : World) => run_string_add_sum (P := Tryd.prog) W ⟨#[109]⟩ o hsum
      have HM := Lib.hid em
      clear em hd
      go_wp2_with fail
      go_ret
      exact ⟨by rw [HM.out]; rfl, hb⟩

/-- The pin that is written at place i, the marks beginning at k. -/
def markP (k i : Nat) : PinD := ⟨markT (k + 5 * i), (k : Int) + 5 * i + 1, (k : Int) + 5 * i + 1 + 1, (k : Int) + 5 * i + 1 + 1 + 1, (k : Int) + 5 * i + 1 + 1 + 1 + 1⟩
def marksP (k n : Nat) : List PinD := (List.range n).map (markP k)
theorem marksP_length (k n : Nat) : (marksP k n).length = n := by simp [marksP]
theorem marksP_at (k n j : Nat) (h : j < n) : (marksP k n)[j]?.getD pin0 = markP k j := by simp [marksP, h]
theorem marks_next (k : Nat) (ps : List PinD) (j : Nat) (h : j < ps.length) : (marksP k j ++ ps.drop j).set j (markP k j) = marksP k (j + 1) ++ ps.drop (j + 1) := by
  have e : ps.drop j = ps[j] :: ps.drop (j + 1) := List.drop_eq_getElem_cons h
  rw [e, List.set_append_right _ _ (by rw [marksP_length]; omega), marksP_length, Nat.sub_self, List.set_cons_zero]
  simp [marksP, List.range_succ]
structure MarkR (w : World) (B g n c : Nat) (ps : List PinD) (k j : Nat) (wr : World) : Prop where
  own : OwnP wr B (.slice (some ⟨g, 0, none⟩) n c) (marksP k j ++ ps.drop j)
  grew : w.grownBy wr (some g)
def MarkedP (B k : Nat) (v : Value) (n : Nat) (w : World) (r : Ending) (w' : World) : Prop := r = .returned (.int .i64 ((k + 5 * n : Nat) : Int)) ∧ OwnP w' B v (marksP k n) ∧ w.grownBy w' v.ownBlock
theorem gset1 {w w1 : World} {g : Nat} (h : w.grownBy w1 (some g)) (i : Nat) (v : Value) : w.grownBy (w1.setCell ⟨g, i, none⟩ v) (some g) :=
  ⟨h.os, h.tape, h.output, by simpa [World.setCell] using h.size, fun k hk hne => (Below.heap_setCell w1 ⟨g, i, none⟩ v k (fun e => hne (by rw [e]))).trans (h.block k hk hne)⟩
theorem gbe1 {w w1 w2 : World} {g : Nat} (h : w.grownBy w1 (some g)) (k : Below w1.heap.size w1 w2) : w.grownBy w2 (some g) :=
  ⟨k.os.trans h.os, k.tape.trans h.tape, k.output.trans h.output, Nat.le_trans h.size k.size, fun i hi hne => (k.block i (Nat.lt_of_lt_of_le hi h.size)).trans (h.block i hi hne)⟩
set_option maxHeartbeats 1000000 in
theorem markPinS_any (a : Option Addr) (n cap B k : Nat) (ps : List PinD) (w : World) (ho : OwnP w B (.slice a n cap) ps) (k0 : 0 < k) (k1 : k ≤ 1000000) (hn : n ≤ 1048576) :
    Calls Tryd.prog 25 #[.slice a n cap, .int .i64 k] w (MarkedP B k (.slice a n cap) n w) := by
  rcases ho.2 with ⟨e, h0⟩ | ⟨g, c, e, -, -, h1, h2, -, -⟩
  · injection e with e1 e2 e3
    subst e1; subst e2; subst e3
    have F : MarkedP B k (.slice none 0 0) 0 w (.returned (.int .i64 k)) w := ⟨by simp, OwnP.nil _ _, World.grownBy.refl _ _⟩
    clear ho h0
    go_enter Tryd.func25, Tryd.ntmps25
    go_wp2_with fail
    refine wp_loop_rounds 1 ?_
    rw [rounds_succ]; go_wp2_with fail
    go_ret
    exact F
  · injection e with e1 e2 e3
    subst e1; subst e3
    have hl : ps.length = n := e2.symm
    have T0 : MarkR w B g n cap ps k 0 w := ⟨by simpa [marksP] using ho, World.grownBy.refl _ _⟩
    have hm := h2
    unfold maxLen at hm
    have HL := Lib.hid hl
    clear ho e2 hl
    rw [HL.out] at h1
    go_enter Tryd.func25, Tryd.ntmps25
    go_wp2_with fail
    go_loopw [1, 5] (fun q i wr => ∃ j : Nat, j ≤ n ∧ i = .int .i64 j ∧ q = .int .i64 ((k + 5 * j : Nat) : Int) ∧ MarkR w B g n cap ps k j wr) (fun _ i _ => n - (intOf i).toNat)
    case atStart => exact ⟨0, Nat.zero_le _, rfl, by go_num, T0⟩
    case round =>
      obtain ⟨j, hj, rfl, rfl, hT⟩ := hrel
      clear T0
      by_cases hlt : j < n
      · have MT := markText_any (k + 5 * j) wr (by omega) (by omega)
        have hjl : j < (marksP k j ++ ps.drop j).length := by simp [marksP_length]; have := HL.out; omega
        have hnx := marks_next k ps j (by rw [HL.out]; exact hlt)
        have P2 := Lib.hid (fun (u1 : World) (b1 : Below wr.heap.size wr u1) => (OwnP.below hT.own b1).put (p := markP k j) hjl)
        have C2 := Lib.hid (fun (u1 : World) (b1 : Below wr.heap.size wr u1) (i : Nat) (u : Value) hu => (OwnP.below hT.own b1).cell (k := j) (i := i) hjl (u := u) hu)
        have G2 := Lib.hid hT.grew
        have HNX := Lib.hid hnx
        clear hT hnx hjl
        go_wp2_with fail
        refine MT.mono ?_
        rintro r u1 ⟨rfl, b1⟩
        generalize (marksP k j ++ ps.drop j)[j]?.getD pin0 = q0 at C2
        obtain ⟨c0, f0⟩ := C2.out u1 b1 0 _ rfl
        obtain ⟨c1, f1⟩ := C2.out u1 b1 1 _ rfl
        obtain ⟨c2, f2⟩ := C2.out u1 b1 2 _ rfl
        obtain ⟨c3, f3⟩ := C2.out u1 b1 3 _ rfl
        obtain ⟨c4, f4⟩ := C2.out u1 b1 4 _ rfl
        rw [Nat.add_zero] at c0 f0
        have O3 := P2.out u1 b1
        rw [HNX.out] at O3
        have G3 := gset1 (gset1 (gset1 (gset1 (gset1 (gbe1 G2.out b1) (j * 5) (.string (markP k j).n)) (j * 5 + 1) (.int .i64 (markP k j).a)) (j * 5 + 2) (.int .i64 (markP k j).b)) (j * 5 + 3) (.int .i64 (markP k j).e)) (j * 5 + 4) (.int .i64 (markP k j).u)
        have HT := Lib.hid (MarkR.mk (n := n) (c := cap) (B := B) O3 G3)
        clear MT P2 C2 G2 HNX b1 O3 G3
        go_wp2_with fail
        go_roundw
        case rel => exact ⟨j + 1, by omega, by go_num, by congr 1, HT.out⟩
        case measure => simp [intOf]; omega
      · obtain rfl : j = n := by omega
        have e : ps.drop j = [] := List.drop_of_length_le (by rw [HL.out]; omega)
        have T2 := hT.own
        rw [e, List.append_nil] at T2
        have T3 := hT.grew
        clear hT
        go_wp2_with fail
        go_ret
        exact ⟨rfl, T2, T3⟩
theorem digs_size : ∀ (f k : Nat) (out : ByteArray), (digs f k out).size ≤ out.size + f
  | 0, k, out => by unfold digs; omega
  | f + 1, k, out => by
    unfold digs
    split
    · omega
    · have h1 := digs_size f (k / 10) ((⟨#[UInt8.ofNat (48 + k % 10)]⟩ : ByteArray) ++ out)
      have h2 : ((⟨#[UInt8.ofNat (48 + k % 10)]⟩ : ByteArray) ++ out).size = 1 + out.size := by simp [ByteArray.size_append]; rfl
      omega
theorem markT_size (k : Nat) : (markT k).size ≤ k + 1 := by
  unfold markT
  have h1 := digs_size k k ⟨#[]⟩
  have h2 : (⟨#[]⟩ : ByteArray).size = 0 := rfl
  have h3 : ((⟨#[109]⟩ : ByteArray) ++ digs k k ⟨#[]⟩).size = 1 + (digs k k ⟨#[]⟩).size := by simp [ByteArray.size_append]; rfl
  omega
theorem marksP_names (k n : Nat) (hk : k ≤ 1000000) (hn : n ≤ 1048576) : ∀ p ∈ marksP k n, p.n.size ≤ maxLen := by
  intro p hp
  simp only [marksP, List.mem_map, List.mem_range] at hp
  obtain ⟨i, hi, rfl⟩ := hp
  have := markT_size (k + 5 * i)
  show (markT (k + 5 * i)).size ≤ maxLen
  unfold maxLen
  omega

set_option maxHeartbeats 1000000 in
theorem heldPinS_any (a : Option Addr) (n cap B k : Nat) (w : World) (hR : PRow w B a n cap (marksP k n)) (hB : B ≤ w.heap.size) (k0 : 0 < k) (k1 : k ≤ 1000000) (hn : n ≤ 1048576) :
    Calls Tryd.prog 56 #[.slice a n cap, .int .i64 k] w fun r w' => r = .returned (.int .i64 ((k + 5 * n : Nat) : Int)) ∧ Below w.heap.size w w' := by
  go_enter Tryd.func56, Tryd.ntmps56
  go_wp2_with fail
  go_loopw [1, 5] (fun q i wr => ∃ j : Nat, j ≤ n ∧ i = .int .i64 j ∧ q = .int .i64 ((k + 5 * j : Nat) : Int) ∧ Below w.heap.size w wr) (fun _ i _ => n - (intOf i).toNat)
  case atStart => exact ⟨0, Nat.zero_le _, rfl, by go_num, Below.refl _ _⟩
  case round =>
    obtain ⟨j, hj, rfl, rfl, hb⟩ := hrel
    by_cases hlt : j < n
    · obtain ⟨b, off, ha, hbB, c0, c1, c2, c3, c4⟩ := (hR.below (hb.mono hB)).at' hlt
      simp only [marksP_at k n j hlt, markP] at c0 c1 c2 c3 c4
      have MT := markText_any (k + 5 * j) wr (by omega) (by omega)
      subst ha
      clear hR
      go_wp2_with fail
      have MT2 := fun (u : World) => markText_any (k + 5 * j) u (by omega) (by omega)
      have HB := Lib.hid hb
      clear MT hb
      refine wp_region_line (Bel wr) [(0, true), (1, true), (2, true), (3, true), (4, true), (5, true), (6, false), (7, true)] (by kernel_rfl) (by kernel_rfl) (fun _ _ d _ _ h => by cases d <;> exact h) (Bel.drew wr) ?_
      have hst := Bel.drew wr
      have inst : Nonempty (Of (Bel wr)) := ⟨⟨_, hst⟩⟩
      have q0 := bel_cell c0
      iterate 6 (refine line_read rfl (by kernel_rfl) (fun K hK => ?_); go_big_quiet_op; refine hK _ ?_; clear hK K)
      refine line_alone rfl (by kernel_rfl) (fun K hK => ?_)
      refine call_wp (args := #[.int .i64 ((k + 5 * j : Nat) : Int)]) rfl (by kernel_rfl) (by kernel_rfl) (MT2 _) (fun wn hbn => ?_)
      have hst2 := hst.on hbn
      refine hK _ _ hst2 ?_
      clear hK K hst hbn
      have hst := hst2
      clear hst2
      simp only [Act.put, List.setIfInBounds_toArray, List.set_cons_zero, List.set_cons_succ]
      iterate 1 (refine line_read rfl (by kernel_rfl) (fun K hK => ?_); go_big_quiet_op; refine hK _ ?_; clear hK K)
      refine line_nil ?_
      have d1 := cell_keep hst.out c1
      have d2 := cell_keep hst.out c2
      have d3 := cell_keep hst.out c3
      have d4 := cell_keep hst.out c4
      have bb := Lib.hid (btr HB.out hst.out)
      clear hst inst q0 c0 c1 c2 c3 c4 MT2 HB
      go_wp2_with fail
      go_roundw
      case rel => exact ⟨j + 1, by omega, by go_num, by congr 1, bb.out⟩
      case measure => simp [intOf]; omega
    · obtain rfl : j = n := by omega
      clear hR
      go_wp2_with fail
      go_ret
      exact ⟨rfl, hb⟩

theorem eqPinsResult_any (c : Int) (a b : Option Addr) (len c1 c2 B : Nat) (ps : List PinD) (w : World) (hR : PRow w B a len c1 ps) (hQ : PRow w B b len c2 ps) (hB : B ≤ w.heap.size) :
    Calls Tryd.prog 24 #[.agg #[.int .i64 c, .slice a len c1], .agg #[.int .i64 c, .slice b len c2]] w fun e w' => e = .returned (.bool true) ∧ Below w.heap.size w w' := by
  have hb0 := bal (bal (Below.refl _ w) (.cells #[.int .i64 c, .slice a len c1] 42)) (.cells #[.int .i64 c, .slice b len c2] 42)
  have R2 := hR.below (hb0.mono hB)
  have Q2 := hQ.below (hb0.mono hB)
  go_enter Tryd.func24, Tryd.ntmps24
  go_wp2_with fail
  refine (eqPinS_any _ _ _ _ _ _ _ _ R2 Q2 (by simp; omega)).mono ?_
  rintro r w1 ⟨rfl, hb1⟩
  have hb2 := btr hb0 hb1
  clear hb1 R2 Q2 hR hQ hb0
  go_wp2_with fail
  go_ret
  exact ⟨rfl, hb2⟩
theorem markPinsResult_any (c : Int) (a : Option Addr) (n cap B k : Nat) (ps : List PinD) (w : World) (ho : OwnP w B (.slice a n cap) ps) (k0 : 0 < k) (k1 : k ≤ 1000000) (hn : n ≤ 1048576) :
    Calls Tryd.prog 26 #[.agg #[.int .i64 c, .slice a n cap], .int .i64 k] w (MarkedP B k (.slice a n cap) n w) := by
  have ho2 := ho.alloc (.cells #[.int .i64 c, .slice a n cap] 42)
  go_enter Tryd.func26, Tryd.ntmps26
  go_wp2_with fail
  refine (markPinS_any _ _ _ _ _ _ _ ho2 k0 k1 hn).mono ?_
  rintro r w1 ⟨rfl, ho3, hg⟩
  have hg2 := grown_alloc hg
  clear ho ho2 hg
  go_wp2_with fail
  go_ret
  exact ⟨rfl, ho3, hg2⟩
theorem heldPinsResult_any (c : Int) (a : Option Addr) (n cap B k : Nat) (w : World) (hR : PRow w B a n cap (marksP k n)) (hB : B ≤ w.heap.size) (k0 : 0 < k) (k1 : k ≤ 1000000) (hn : n ≤ 1048576) :
    Calls Tryd.prog 27 #[.agg #[.int .i64 c, .slice a n cap], .int .i64 k] w fun r w' => r = .returned (.int .i64 ((k + 5 * n : Nat) : Int)) ∧ Below w.heap.size w w' := by
  have R2 := hR.alloc hB (.cells #[.int .i64 c, .slice a n cap] 42)
  have hb := bal (Below.refl _ w) (.cells #[.int .i64 c, .slice a n cap] 42)
  clear hR
  go_enter Tryd.func27, Tryd.ntmps27
  go_wp2_with fail
  refine (heldPinS_any _ _ _ _ _ _ R2 (by simp; omega) k0 k1 hn).mono ?_
  rintro r w1 ⟨rfl, hb1⟩
  have hb2 := btr hb hb1
  have hk : ¬ (((k + 5 * n : Nat) : Int) < 0) := by omega
  clear R2 hb hb1
  go_wp2_with fail
  go_ret
  exact ⟨rfl, hb2⟩

/-- Pins that were answered lie in memory of their own, the answer in a block. -/
def PinsAt (V : World) (c : Int) (zs : List PinD) (v : Value) (wx : World) : Prop := ∃ g a cap, v = .pointer (some ⟨g, 0, none⟩) ∧ At g [.int .i64 c, .slice a zs.length cap] wx ∧ OwnP wx V.heap.size (.slice a zs.length cap) zs ∧ Below V.heap.size V wx ∧ V.heap.size ≤ g
/-- Two answers of pins, and the argument, lie in memory: the model's at block p1, below b; the argument's slice, and the program's, from b on, its answer at block p2; the argument's pins are xs by now, the program's ms. -/
structure TwoP (w : World) (c : Int) (ps : List PinD) (p1 b p2 : Nat) (a1 a2 a3 : Option Addr) (n c1 c2 m c3 : Nat) (xs ms : List PinD) (cur : World) : Prop where
  bel : Below w.heap.size w cur
  x0 : cur.cell? ⟨p1, 0, none⟩ = some (.int .i64 c)
  x1 : cur.cell? ⟨p1, 1, none⟩ = some (.slice a1 n c1)
  row : PRow cur b a1 n c1 ps
  y0 : cur.cell? ⟨p2, 0, none⟩ = some (.int .i64 c)
  y1 : cur.cell? ⟨p2, 1, none⟩ = some (.slice a2 n c2)
  own : OwnP cur b (.slice a2 n c2) ms
  arg : OwnP cur b (.slice a3 m c3) xs
  old : w.heap.size ≤ b
  hi : p1 < b
  sep : ∀ k, Value.ownBlock (.slice a2 n c2) = some k → k < p2
  sepA : ∀ k, Value.ownBlock (.slice a3 m c3) = some k → k < p2
  apart : ∀ k, Value.ownBlock (.slice a2 n c2) = some k → Value.ownBlock (.slice a3 m c3) ≠ some k
  ahead : b ≤ p2
section
variable {w : World} {c : Int} {ps : List PinD} {p1 b p2 : Nat} {a1 a2 a3 : Option Addr} {n c1 c2 m c3 : Nat} {xs ms : List PinD} {cur cur' : World}
theorem TwoP.lt1 (h : TwoP w c ps p1 b p2 a1 a2 a3 n c1 c2 m c3 xs ms cur) : b ≤ cur.heap.size := by
  have := cell_lt h.y0
  have := h.ahead
  simp at *
  omega
theorem TwoP.on (h : TwoP w c ps p1 b p2 a1 a2 a3 n c1 c2 m c3 xs ms cur) (hb : Below cur.heap.size cur cur') : TwoP w c ps p1 b p2 a1 a2 a3 n c1 c2 m c3 xs ms cur' :=
  ⟨btr h.bel hb, cell_keep hb h.x0, cell_keep hb h.x1, h.row.below (hb.mono h.lt1), cell_keep hb h.y0, cell_keep hb h.y1, h.own.below hb, h.arg.below hb, h.old, h.hi, h.sep, h.sepA, h.apart, h.ahead⟩
theorem OwnP.grown {B : Nat} {v : Value} {qs : List PinD} {g : Option Nat} (h : OwnP cur B v qs) (hg : cur.grownBy cur' g) (hne : ∀ k, v.ownBlock = some k → some k ≠ g) : OwnP cur' B v qs := Own.keep h hg.size fun k hk => hg.block k (Own.lt h k hk).2 (hne k hk)
theorem OwnP.lt {B : Nat} {v : Value} {qs : List PinD} (h : OwnP cur B v qs) : ∀ k, v.ownBlock = some k → B ≤ k ∧ k < cur.heap.size := Own.lt h
theorem TwoP.grew (h : TwoP w c ps p1 b p2 a1 a2 a3 n c1 c2 m c3 xs ms cur) {ms' : List PinD} (ho : OwnP cur' b (.slice a2 n c2) ms') (hg : cur.grownBy cur' (Value.ownBlock (.slice a2 n c2))) : TwoP w c ps p1 b p2 a1 a2 a3 n c1 c2 m c3 xs ms' cur' := by
  have hlo := fun k hk => (h.own.lt k hk).1
  have hhi := h.hi
  have hp1 : some p1 ≠ Value.ownBlock (.slice a2 n c2) := fun e => by have := hlo p1 e.symm; omega
  have hp2 : some p2 ≠ Value.ownBlock (.slice a2 n c2) := fun e => by have := h.sep p2 e.symm; omega
  have l1 := h.lt1
  have hold := h.old
  exact ⟨h.bel.grown hg h.bel.size (fun k hk => by have := hlo k hk; omega), hg.cell h.x0 hp1, hg.cell h.x1 hp1, h.row.keep (fun i hi => hg.block i (by omega) (fun e => by have := hlo i e.symm; omega)), hg.cell h.y0 hp2, hg.cell h.y1 hp2, ho, h.arg.grown hg (fun k hk e => h.apart k e.symm hk), h.old, h.hi, h.sep, h.sepA, h.apart, h.ahead⟩
theorem TwoP.grewA (h : TwoP w c ps p1 b p2 a1 a2 a3 n c1 c2 m c3 xs ms cur) {xs' : List PinD} (ho : OwnP cur' b (.slice a3 m c3) xs') (hg : cur.grownBy cur' (Value.ownBlock (.slice a3 m c3))) : TwoP w c ps p1 b p2 a1 a2 a3 n c1 c2 m c3 xs' ms cur' := by
  have hlo := fun k hk => (h.arg.lt k hk).1
  have hhi := h.hi
  have hp1 : some p1 ≠ Value.ownBlock (.slice a3 m c3) := fun e => by have := hlo p1 e.symm; omega
  have hp2 : some p2 ≠ Value.ownBlock (.slice a3 m c3) := fun e => by have := h.sepA p2 e.symm; omega
  have l1 := h.lt1
  have hold := h.old
  exact ⟨h.bel.grown hg h.bel.size (fun k hk => by have := hlo k hk; omega), hg.cell h.x0 hp1, hg.cell h.x1 hp1, h.row.keep (fun i hi => hg.block i (by omega) (fun e => by have := hlo i e.symm; omega)), hg.cell h.y0 hp2, hg.cell h.y1 hp2, h.own.grown hg (fun k hk e => h.apart k hk e.symm), ho, h.old, h.hi, h.sep, h.sepA, h.apart, h.ahead⟩
/-- The model's answer lies there; the argument, and then the program's answer are stored. -/
theorem TwoP.new {v1 u2 u3 : World} {t : TypeId} (b1 : Below w.heap.size w v1) (hX : At p1 [.int .i64 c, .slice a1 n c1] v1) (R1 : PRow v1 v1.heap.size a1 n c1 ps)
    (b2 : Below v1.heap.size v1 u2) (O2 : OwnP u2 v1.heap.size (.slice a3 m c3) xs) (b3 : Below u2.heap.size u2 u3) (O3 : OwnP u3 u2.heap.size (.slice a2 n c2) ps) :
    TwoP w c ps p1 v1.heap.size u3.heap.size a1 a2 a3 n c1 c2 m c3 xs ps (u3.alloc (.cells #[.int .i64 c, .slice a2 n c2] t)) := by
  have hs := b2.size
  have hs3 := b3.size
  have hlt : p1 < v1.heap.size := hX.lt (by simp)
  have b4 := btr b2 (bal b3 (.cells #[.int .i64 c, .slice a2 n c2] t))
  have X4 := hX.on b4
  have O4 := (O2.below b3).alloc (.cells #[.int .i64 c, .slice a2 n c2] t)
  have x0 := X4.cell 0 _ rfl
  have x1 := X4.cell 1 _ rfl
  exact ⟨btr b1 b4, x0, x1, R1.below b4, by simp, by simp, (O3.alloc _).less (by omega), O4, b1.size, hlt, fun k hk => (O3.lt k hk).2, fun k hk => Nat.lt_of_lt_of_le (O2.lt k hk).2 hs3, fun k hk e => by have := (O3.lt k hk).1; have := (O2.lt k e).2; omega, by omega⟩
end
theorem putR_len (ps : List PinD) (p : PinD) : (putR ps p).length ≤ 5 := by
  unfold putR
  split
  · rename_i h
    have h0 : pinsF ps = 0 := by
      by_cases e : pinsF ps = 0
      · exact e
      · unfold putC at h
        rw [if_pos e] at h
        exact absurd h e
    have h1 := (pinsF_zero h0).1
    have h2 := (putG_perm p ps).length_eq
    have h3 := List.length_filter_le (fun q => !decide (q.nm = p.nm)) ps
    unfold putL
    simp only [List.length_cons] at h2
    omega
  · simp
theorem putR_names {ps : List PinD} {p : PinD} (h : ∀ q ∈ ps, q.n.size ≤ maxLen) (hp : p.n.size ≤ maxLen) : ∀ q ∈ putR ps p, q.n.size ≤ maxLen := by
  intro q hq
  unfold putR at hq
  split at hq
  · rcases putL_mem hq with rfl | hq
    · exact hp
    · exact h q hq
  · cases hq
theorem OwnP.len {w : World} {B : Nat} {a : Option Addr} {len cap : Nat} {ps : List PinD} (h : OwnP w B (.slice a len cap) ps) : len = ps.length := by
  obtain ⟨a', c', e, -⟩ := h.form
  injection e
end Go.Proofs.YtcnpocppgghejaaDoor
