/- Contracts of what the laws do with slices of supplied keys that were answered: write marks into them, read the marks. Conditions: as each theorem states. -/
import Derived.Test.YtcolecidbalmhaaDoorL10
import Derived.Test.YtcolecidbalmhaaDoorL7m
namespace Go.Proofs.YtcolecidbalmhaaDoor
open Go.RowKit
set_option maxRecDepth 100000
set_option linter.unusedVariables false

/-- What is written at place i, the marks beginning at k. -/
def markTl (k i : Nat) : TlsaD := ⟨markT (k + 4 * i), (k : Int) + 4 * i + 1, (k : Int) + 4 * i + 1 + 1, (k : Int) + 4 * i + 1 + 1 + 1⟩
def marksTl (k n : Nat) : List TlsaD := (List.range n).map (markTl k)
theorem marksTl_length (k n : Nat) : (marksTl k n).length = n := by simp [marksTl]
theorem marksTl_at (k n j : Nat) (h : j < n) : (marksTl k n)[j]?.getD tls0 = markTl k j := by simp [marksTl, h]
theorem marksTl_next (k : Nat) (ps : List TlsaD) (j : Nat) (h : j < ps.length) : (marksTl k j ++ ps.drop j).set j (markTl k j) = marksTl k (j + 1) ++ ps.drop (j + 1) := by
  have e : ps.drop j = ps[j] :: ps.drop (j + 1) := List.drop_eq_getElem_cons h
  rw [e, List.set_append_right _ _ (by rw [marksTl_length]; omega), marksTl_length, Nat.sub_self, List.set_cons_zero]
  simp [marksTl, List.range_succ]
structure MarkTR (w : World) (B g n c : Nat) (ps : List TlsaD) (k j : Nat) (wr : World) : Prop where
  own : OwnT wr B (.slice (some ⟨g, 0, none⟩) n c) (marksTl k j ++ ps.drop j)
  grew : w.grownBy wr (some g)
def MarkedT (B k : Nat) (v : Value) (n : Nat) (w : World) (r : Ending) (w' : World) : Prop := r = .returned (.int .i64 ((k + 4 * n : Nat) : Int)) ∧ OwnT w' B v (marksTl k n) ∧ w.grownBy w' v.ownBlock
set_option maxHeartbeats 1000000 in
theorem markTlsaS_any (a : Option Addr) (n cap B k : Nat) (ps : List TlsaD) (w : World) (ho : OwnT w B (.slice a n cap) ps) (k0 : 0 < k) (k1 : k ≤ 1000000) (hn : n ≤ 1048576) :
    Calls Tryd.prog 17 #[.slice a n cap, .int .i64 k] w (MarkedT B k (.slice a n cap) n w) := by
  rcases ho.2 with ⟨e, h0⟩ | ⟨g, c, e, -, -, h1, h2, -, -⟩
  · injection e with e1 e2 e3
    subst e1; subst e2; subst e3
    have F : MarkedT B k (.slice none 0 0) 0 w (.returned (.int .i64 k)) w := ⟨by simp, OwnT.nil _ _, World.grownBy.refl _ _⟩
    clear ho h0
    go_enter Tryd.func17, Tryd.ntmps17
    go_wp2_with fail
    refine wp_loop_rounds 1 ?_
    rw [rounds_succ]; go_wp2_with fail
    go_ret
    exact F
  · injection e with e1 e2 e3
    subst e1; subst e3
    have hl : ps.length = n := e2.symm
    have T0 : MarkTR w B g n cap ps k 0 w := ⟨by simpa [marksTl] using ho, World.grownBy.refl _ _⟩
    have hm := h2
    unfold maxLen at hm
    have HL := Lib.hid hl
    clear ho e2 hl
    rw [HL.out] at h1
    go_enter Tryd.func17, Tryd.ntmps17
    go_wp2_with fail
    go_loopw [1, 5] (fun q i wr => ∃ j : Nat, j ≤ n ∧ i = .int .i64 j ∧ q = .int .i64 ((k + 4 * j : Nat) : Int) ∧ MarkTR w B g n cap ps k j wr) (fun _ i _ => n - (intOf i).toNat)
    case atStart => exact ⟨0, Nat.zero_le _, rfl, by go_num, T0⟩
    case round =>
      obtain ⟨j, hj, rfl, rfl, hT⟩ := hrel
      clear T0
      by_cases hlt : j < n
      · have MT := markText_any (k + 4 * j) wr (by omega) (by omega)
        have hjl : j < (marksTl k j ++ ps.drop j).length := by simp [marksTl_length]; have := HL.out; omega
        have hnx := marksTl_next k ps j (by rw [HL.out]; exact hlt)
        have P2 := Lib.hid (fun (u1 : World) (b1 : Below wr.heap.size wr u1) => (OwnT.below hT.own b1).put (p := markTl k j) hjl)
        have C2 := Lib.hid (fun (u1 : World) (b1 : Below wr.heap.size wr u1) (i : Nat) (u : Value) hu => (OwnT.below hT.own b1).cell (k := j) (i := i) hjl (u := u) hu)
        have G2 := Lib.hid hT.grew
        have HNX := Lib.hid hnx
        clear hT hnx hjl
        go_wp2_with fail
        refine MT.mono ?_
        rintro r u1 ⟨rfl, b1⟩
        generalize (marksTl k j ++ ps.drop j)[j]?.getD tls0 = q0 at C2
        obtain ⟨c0, f0⟩ := C2.out u1 b1 0 _ rfl
        obtain ⟨c1, f1⟩ := C2.out u1 b1 1 _ rfl
        obtain ⟨c2, f2⟩ := C2.out u1 b1 2 _ rfl
        obtain ⟨c3, f3⟩ := C2.out u1 b1 3 _ rfl
        rw [Nat.add_zero] at c0 f0
        have O3 := P2.out u1 b1
        rw [HNX.out] at O3
        have G3 := gset1 (gset1 (gset1 (gset1 (gbe1 G2.out b1) (j * 4) (.string (markTl k j).n)) (j * 4 + 1) (.int .i64 (markTl k j).u)) (j * 4 + 2) (.int .i64 (markTl k j).m)) (j * 4 + 3) (.int .i64 (markTl k j).v)
        have HT := Lib.hid (MarkTR.mk (n := n) (c := cap) (B := B) O3 G3)
        clear MT P2 C2 G2 HNX b1 O3 G3
        go_wp2_with fail
        go_roundw
        case rel => exact ⟨j + 1, by omega, by go_num, by congr 1, HT.out⟩
        case measure => simp [intOf]; omega
      · obtain rfl : j = n := by omega
        have e : ps.drop j = [] := List.drop_of_length_le (by rw [HL.out]; omega)
        have T2 := hT.own
        rw [e, List.append_nil] at T2
        have T3 := hT.grew
        clear hT
        go_wp2_with fail
        go_ret
        exact ⟨rfl, T2, T3⟩
theorem marksTl_names (k n : Nat) (hk : k ≤ 1000000) (hn : n ≤ 1048576) : ∀ p ∈ marksTl k n, p.n.size ≤ maxLen := by
  intro p hp
  simp only [marksTl, List.mem_map, List.mem_range] at hp
  obtain ⟨i, hi, rfl⟩ := hp
  have := markT_size (k + 4 * i)
  show (markT (k + 4 * i)).size ≤ maxLen
  unfold maxLen
  omega

set_option maxHeartbeats 1000000 in
theorem heldTlsaS_any (a : Option Addr) (n cap B k : Nat) (w : World) (hR : TRow w B a n cap (marksTl k n)) (hB : B ≤ w.heap.size) (k0 : 0 < k) (k1 : k ≤ 1000000) (hn : n ≤ 1048576) :
    Calls Tryd.prog 40 #[.slice a n cap, .int .i64 k] w fun r w' => r = .returned (.int .i64 ((k + 4 * n : Nat) : Int)) ∧ Below w.heap.size w w' := by
  go_enter Tryd.func40, Tryd.ntmps40
  go_wp2_with fail
  go_loopw [1, 5] (fun q i wr => ∃ j : Nat, j ≤ n ∧ i = .int .i64 j ∧ q = .int .i64 ((k + 4 * j : Nat) : Int) ∧ Below w.heap.size w wr) (fun _ i _ => n - (intOf i).toNat)
  case atStart => exact ⟨0, Nat.zero_le _, rfl, by go_num, Below.refl _ _⟩
  case round =>
    obtain ⟨j, hj, rfl, rfl, hb⟩ := hrel
    by_cases hlt : j < n
    · obtain ⟨b, off, ha, hbB, c0, c1, c2, c3⟩ := (hR.below (hb.mono hB)).at' hlt
      simp only [marksTl_at k n j hlt, markTl] at c0 c1 c2 c3
      subst ha
      clear hR
      go_wp2_with fail
      have MT2 := fun (u : World) => markText_any (k + 4 * j) u (by omega) (by omega)
      have HB := Lib.hid hb
      clear hb
      refine wp_region_line (Bel wr) [(0, true), (1, true), (2, true), (3, true), (4, true), (5, true), (6, false), (7, true)] (by kernel_rfl) (by kernel_rfl) (fun _ _ d _ _ h => by cases d <;> exact h) (Bel.drew wr) ?_
      have hst := Bel.drew wr
      have inst : Nonempty (Of (Bel wr)) := ⟨⟨_, hst⟩⟩
      have q0 := bel_cell c0
      iterate 6 (refine line_read rfl (by kernel_rfl) (fun K hK => ?_); go_big_quiet_op; refine hK _ ?_; clear hK K)
      refine line_alone rfl (by kernel_rfl) (fun K hK => ?_)
      refine call_wp (args := #[.int .i64 ((k + 4 * j : Nat) : Int)]) rfl (by kernel_rfl) (by kernel_rfl) (MT2 _) (fun wn hbn => ?_)
      have hst2 := hst.on hbn
      refine hK _ _ hst2 ?_
      clear hK K hst hbn
      have hst := hst2
      clear hst2
      simp only [Act.put, List.setIfInBounds_toArray, List.set_cons_zero, List.set_cons_succ]
      iterate 1 (refine line_read rfl (by kernel_rfl) (fun K hK => ?_); go_big_quiet_op; refine hK _ ?_; clear hK K)
      refine line_nil ?_
      have d1 := cell_keep hst.out c1
      have d2 := cell_keep hst.out c2
      have d3 := cell_keep hst.out c3
      have bb := Lib.hid (btr HB.out hst.out)
      clear hst inst q0 c0 c1 c2 c3 MT2 HB
      go_wp2_with fail
      go_roundw
      case rel => exact ⟨j + 1, by omega, by go_num, by congr 1, bb.out⟩
      case measure => simp [intOf]; omega
    · obtain rfl : j = n := by omega
      clear hR
      go_wp2_with fail
      go_ret
      exact ⟨rfl, hb⟩

theorem eqTlsasResult_any (c : Int) (a b : Option Addr) (len c1 c2 B : Nat) (ps : List TlsaD) (w : World) (hR : TRow w B a len c1 ps) (hQ : TRow w B b len c2 ps) (hB : B ≤ w.heap.size) :
    Calls Tryd.prog 15 #[.agg #[.int .i64 c, .slice a len c1], .agg #[.int .i64 c, .slice b len c2]] w fun e w' => e = .returned (.bool true) ∧ Below w.heap.size w w' := by
  have hb0 := bal (bal (Below.refl _ w) (.cells #[.int .i64 c, .slice a len c1] 37)) (.cells #[.int .i64 c, .slice b len c2] 37)
  have R2 := hR.below (hb0.mono hB)
  have Q2 := hQ.below (hb0.mono hB)
  go_enter Tryd.func15, Tryd.ntmps15
  go_wp2_with fail
  refine (eqTlsaS_any _ _ _ _ _ _ _ _ R2 Q2 (by simp; omega)).mono ?_
  rintro r w1 ⟨rfl, hb1⟩
  have hb2 := btr hb0 hb1
  clear hb1 R2 Q2 hR hQ hb0
  go_wp2_with fail
  go_ret
  exact ⟨rfl, hb2⟩
theorem markTlsasResult_any (c : Int) (a : Option Addr) (n cap B k : Nat) (ps : List TlsaD) (w : World) (ho : OwnT w B (.slice a n cap) ps) (k0 : 0 < k) (k1 : k ≤ 1000000) (hn : n ≤ 1048576) :
    Calls Tryd.prog 18 #[.agg #[.int .i64 c, .slice a n cap], .int .i64 k] w (MarkedT B k (.slice a n cap) n w) := by
  have ho2 := ho.alloc (.cells #[.int .i64 c, .slice a n cap] 37)
  go_enter Tryd.func18, Tryd.ntmps18
  go_wp2_with fail
  refine (markTlsaS_any _ _ _ _ _ _ _ ho2 k0 k1 hn).mono ?_
  rintro r w1 ⟨rfl, ho3, hg⟩
  have hg2 := grown_alloc hg
  clear ho ho2 hg
  go_wp2_with fail
  go_ret
  exact ⟨rfl, ho3, hg2⟩
theorem heldTlsasResult_any (c : Int) (a : Option Addr) (n cap B k : Nat) (w : World) (hR : TRow w B a n cap (marksTl k n)) (hB : B ≤ w.heap.size) (k0 : 0 < k) (k1 : k ≤ 1000000) (hn : n ≤ 1048576) :
    Calls Tryd.prog 19 #[.agg #[.int .i64 c, .slice a n cap], .int .i64 k] w fun r w' => r = .returned (.int .i64 ((k + 4 * n : Nat) : Int)) ∧ Below w.heap.size w w' := by
  have R2 := hR.alloc hB (.cells #[.int .i64 c, .slice a n cap] 37)
  have hb := bal (Below.refl _ w) (.cells #[.int .i64 c, .slice a n cap] 37)
  clear hR
  go_enter Tryd.func19, Tryd.ntmps19
  go_wp2_with fail
  refine (heldTlsaS_any _ _ _ _ _ _ R2 (by simp; omega) k0 k1 hn).mono ?_
  rintro r w1 ⟨rfl, hb1⟩
  have hb2 := btr hb hb1
  have hk : ¬ (((k + 4 * n : Nat) : Int) < 0) := by omega
  clear R2 hb hb1
  go_wp2_with fail
  go_ret
  exact ⟨rfl, hb2⟩
end Go.Proofs.YtcolecidbalmhaaDoor
