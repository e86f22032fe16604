/- Texts of this seat that several laws rest on, laid into one. Conditions: as each theorem states. -/
import Derived.Test.YtefgimpodhjdpaaGreatDoorS1
import Derived.Test.YtefgimpodhjdpaaGreatDoorS2
import Derived.Test.YtefgimpodhjdpaaGreatDoorS3
import Derived.Test.YtefgimpodhjdpaaGreatDoorS8
import Derived.Test.YtefgimpodhjdpaaGreatDoorS10
import Derived.ProofKit
import Derived.OpenShut
import Derived.Deep.Matrix
import Derived.Lib.SmallJoins
import Derived.Deep.Slices
namespace Go.Proofs.YtefgimpodhjdpaaGreatDoor
open Go.RowKit
set_option maxRecDepth 100000
set_option linter.unusedVariables false

/-- The marks that are written into slices of bytes, from k on. -/
def marksG (k : Int) : List (List Int) → List (List Int)
  | [] => []
  | z :: r => marks k z.length :: marksG (k + (z.length : Nat)) r
theorem marksG_length : ∀ (k : Int) (zss : List (List Int)), (marksG k zss).length = zss.length
  | k, [] => rfl
  | k, z :: r => by rw [marksG, List.length_cons, List.length_cons, marksG_length]
theorem marksG_at : ∀ (k : Int) (zss : List (List Int)) (j : Nat), j < zss.length → (marksG k zss)[j]?.getD [] = marks (k + (sumLens (zss.take j) : Nat)) (zss[j]?.getD []).length
  | k, [], j, h => by simp at h
  | k, z :: r, 0, h => by simp [marksG, sumLens]
  | k, z :: r, j + 1, h => by
    have := marksG_at (k + (z.length : Nat)) r j (by simpa using h)
    rw [marksG, List.getElem?_cons_succ, this, List.take_succ_cons, List.getElem?_cons_succ]
    congr 1
    simp only [sumLens, List.map_cons, List.sum_cons]
    omega
theorem marksG_append : ∀ (k : Int) (xs ys : List (List Int)), marksG k (xs ++ ys) = marksG k xs ++ marksG (k + (sumLens xs : Nat)) ys
  | k, [], ys => by simp [marksG, sumLens]
  | k, z :: r, ys => by
    rw [List.cons_append, marksG, marksG_append, marksG, List.cons_append]
    congr 3
    simp only [sumLens, List.map_cons, List.sum_cons]
    omega
theorem marksG_next (k : Int) (zss : List (List Int)) {j : Nat} (h : j < zss.length) :
    (marksG k (zss.take j) ++ zss.drop j).set j (marks (k + (sumLens (zss.take j) : Nat)) (zss[j]?.getD []).length) = marksG k (zss.take (j + 1)) ++ zss.drop (j + 1) := by
  have e : zss.drop j = zss[j] :: zss.drop (j + 1) := List.drop_eq_getElem_cons h
  have hl : (marksG k (zss.take j)).length = j := by rw [marksG_length, List.length_take]; omega
  rw [e, List.set_append_right _ _ (by omega), hl, Nat.sub_self, List.set_cons_zero, M.take_snoc zss [] j h, marksG_append]
  simp only [marksG, List.append_assoc, List.cons_append, List.nil_append, List.getElem?_eq_getElem h, Option.getD_some]
theorem marksG_wf (k : Int) (zss : List (List Int)) : ∀ zs ∈ marksG k zss, ∀ z ∈ zs, (Lit.int .u8 z).wf = true := by
  intro zs hzs z hz
  obtain ⟨j, hj, rfl⟩ := List.getElem_of_mem hzs
  rw [marksG_length] at hj
  have e := marksG_at k zss j hj
  rw [List.getElem?_eq_getElem (by rw [marksG_length]; exact hj)] at e
  simp only [Option.getD_some] at e
  rw [e] at hz
  exact marks_wf _ _ z hz
theorem mid_at (k : Int) (zss : List (List Int)) {j : Nat} (h : j < zss.length) : (marksG k (zss.take j) ++ zss.drop j)[j]?.getD [] = zss[j]?.getD [] := by
  have hl : (marksG k (zss.take j)).length = j := by rw [marksG_length, List.length_take]; omega
  rw [List.getElem?_append_right (by omega), hl, Nat.sub_self, List.getElem?_drop, Nat.add_zero]
/-- One slice is written into. -/
theorem OwnG.mark {w w' : World} {lo hi : Nat} {v u : Value} {zss : List (List Int)} {xs : List Value} {j : Nat} {ms : List Int} (h : OwnG w lo hi v zss xs) (hu : xs[j]? = some u) (ho : OwnK .u8 w' lo u ms) (hg : w.grownBy w' u.ownBlock) : OwnG w' lo hi v (zss.set j ms) xs := by
  obtain ⟨_, hb, ha⟩ := h.row j u hu
  have hjl : j < zss.length := by have := (List.getElem?_eq_some_iff.1 hu).1; rw [h.len] at this; exact this
  refine ⟨?_, Nat.le_trans h.top hg.size, h.lt, fun i x hx => ?_, h.sep⟩
  · rw [List.length_set]
    exact h.own.keep hg.size fun k e => hg.block k (h.own.lt k e).2 (fun e2 => ha k e2.symm e)
  · obtain ⟨r1, r2, r3⟩ := h.row i x hx
    refine ⟨?_, r2, r3⟩
    by_cases hij : i = j
    · subst hij
      rw [hu] at hx
      injection hx with hx
      subst hx
      rw [List.getElem?_set_self hjl]
      exact ho
    · rw [List.getElem?_set_ne (fun e => hij e.symm)]
      exact Own.keep r1 hg.size fun k e => hg.block k (Own.lt r1 k e).2 (fun e2 => h.sep i j x u hij hx hu k e e2.symm)
/-- Slices of bytes that are being marked. -/
structure MarkG (w : World) (lo hi : Nat) (v : Value) (k : Int) (zss : List (List Int)) (xs : List Value) (j : Nat) (wr : World) : Prop where
  own : OwnG wr lo hi v (marksG k (zss.take j) ++ zss.drop j) xs
  inn : Inn lo hi w wr
set_option maxHeartbeats 1000000 in
theorem markByteSS_any (a : Option Addr) (n c lo hi : Nat) (k : Int) (zss : List (List Int)) (xs : List Value) (w : World) (h : OwnG w lo hi (.slice a n c) zss xs) (k0 : 0 ≤ k) (k1 : k ≤ 10000000) (hn : n ≤ 1048576) (hs : sumLens zss ≤ 1048576) :
    Calls Tryz.prog 94 #[.slice a n c, .int .i64 k] w fun r w' => r = .returned (.int .i64 (k + (sumLens zss : Nat))) ∧ OwnG w' lo hi (.slice a n c) (marksG k zss) xs ∧ Inn lo hi w w' := by
  have hl : n = zss.length := h.len'
  have hxl := h.len
  have hfit : n ≤ c ∧ c ≤ maxLen := by obtain ⟨a', c', e, f1, f2, _⟩ := h.form; injection e with e1 e2 e3; subst e3; subst e2; exact ⟨f1, f2⟩
  obtain ⟨hf1, hf2⟩ := hfit
  unfold maxLen at hf2
  have T0 : MarkG w lo hi (.slice a n c) k zss xs 0 w := ⟨by simpa [marksG] using h, Inn.refl _ _ _⟩
  have HL := Lib.hid hl
  have HX := Lib.hid hxl
  have HT0 := Lib.hid T0
  have HS := Lib.hid hs
  clear h hl hxl T0 hs
  go_enter Tryz.func94, Tryz.ntmps94
  go_wp2_with fail
  go_loopw [1, 5] (fun q i wr => ∃ j : Nat, j ≤ n ∧ i = .int .i64 j ∧ q = .int .i64 (k + (sumLens (zss.take j) : Nat)) ∧ MarkG w lo hi (.slice a n c) k zss xs j wr) (fun _ i _ => n - (intOf i).toNat)
  case atStart => exact ⟨0, Nat.zero_le _, rfl, by simp [sumLens], HT0.out⟩
  case round =>
    obtain ⟨j, hj, rfl, rfl, hT⟩ := hrel
    clear HT0
    have hle := sumLens_le zss j
    have hS := HS.out
    by_cases hlt : j < n
    · have hjl : j < zss.length := by have := HL.out; omega
      have hjx : j < xs.length := by have := HX.out; omega
      have hu : xs[j]? = some xs[j] := List.getElem?_eq_getElem hjx
      obtain ⟨hrow, hub, hap⟩ := hT.own.row j _ hu
      rw [mid_at k zss hjl] at hrow
      have hcell : ∃ b, a = some ⟨b, 0, none⟩ ∧ wr.cell? ⟨b, j, none⟩ = some xs[j] := by
        rcases hT.own.own.2 with ⟨e, h0⟩ | ⟨g, c', e, _, _, _, _, hc, _⟩
        · injection e with _ e2 _
          omega
        · injection e with e1 e2 e3
          exact ⟨g, e1, hc j _ hu⟩
      obtain ⟨b, ha, hcell⟩ := hcell
      obtain ⟨a', c', ev, -⟩ := Own.form hrow
      have hst := sumLens_take zss j hjl
      have hmem : (zss[j]?.getD []).length ≤ 1048576 := by
        have := sumLens_mem zss (zss[j]?.getD []) (by rw [List.getElem?_eq_getElem hjl]; exact List.getElem_mem hjl)
        omega
      have hnext := marksG_next k zss hjl
      rw [ev] at hrow hub hcell
      have MB := markByteS_any a' _ c' lo (k + (sumLens (zss.take j) : Nat)) (zss[j]?.getD []) wr hrow (by omega) (by omega) hmem
      have hu2 := hu
      rw [ev] at hu2
      have HK := Lib.hid (fun (w' : World) (ho : OwnK .u8 w' lo (.slice a' (zss[j]?.getD []).length c') (marks (k + (sumLens (zss.take j) : Nat)) (zss[j]?.getD []).length)) (hg : wr.grownBy w' (Value.ownBlock (.slice a' (zss[j]?.getD []).length c'))) =>
        MarkG.mk (w := w) (k := k) (zss := zss) (j := j + 1) (by have := hT.own.mark hu2 ho hg; rwa [hnext] at this) (hT.inn.trans (Inn.of_grown hg (fun g e => ⟨(Own.lt hrow g e).1, hub g e⟩))))
      have HST := Lib.hid hst
      subst ha
      clear hT hrow hub hap hu hu2 hnext ev hst
      generalize (zss[j]?.getD []).length = m at *
      go_wp2_with fail
      refine MB.mono ?_
      rintro r w2 ⟨rfl, ho, hg⟩
      have T2 := Lib.hid (HK.out w2 ho hg)
      clear ho hg HK MB hcell
      go_wp2_with fail
      go_roundw
      case rel => exact ⟨j + 1, by omega, by go_num, by have := HST.out; congr 1; omega, T2.out⟩
      case measure => simp [intOf]; omega
    · obtain rfl : j = n := by omega
      have e1 : zss.take j = zss := List.take_of_length_le (by have := HL.out; omega)
      have e2 : zss.drop j = [] := List.drop_of_length_le (by have := HL.out; omega)
      have T2 := hT.own
      rw [e1, e2, List.append_nil] at T2
      have HT2 := Lib.hid (And.intro T2 hT.inn)
      rw [e1]
      clear hT T2 e1 e2
      go_wp2_with fail
      go_ret
      exact ⟨rfl, HT2.out.1, HT2.out.2⟩
set_option maxHeartbeats 1000000 in
theorem heldByteSS_any (a : Option Addr) (n c B : Nat) (k : Int) (zss : List (List Int)) (w : World) (hG : Grid w B a n c (marksG k zss)) (k0 : 0 ≤ k) (k1 : k ≤ 10000000) (hn : n ≤ 1048576) (hs : sumLens zss ≤ 1048576) :
    Calls Tryz.prog 183 #[.slice a n c, .int .i64 k] w fun r w' => r = .returned (.int .i64 (k + (sumLens zss : Nat))) ∧ w = w' := by
  have hl : zss.length = n := by rw [← marksG_length k zss]; exact hG.length
  have hf1 := hG.fits
  have hf2 := hG.most
  unfold maxLen at hf2
  have HL := Lib.hid hl
  have HS := Lib.hid hs
  clear hl hs
  go_enter Tryz.func183, Tryz.ntmps183
  go_wp2_with fail
  go_loop [1, 5] (fun q i => ∃ j : Nat, j ≤ n ∧ i = .int .i64 j ∧ q = .int .i64 (k + (sumLens (zss.take j) : Nat))) (fun _ i => n - (intOf i).toNat)
  case atStart => exact ⟨0, Nat.zero_le _, rfl, by simp [sumLens]⟩
  case round =>
    obtain ⟨j, hj, rfl, rfl⟩ := hrel
    have hle := sumLens_le zss j
    have hS := HS.out
    by_cases hlt : j < n
    · have hjl : j < zss.length := by have := HL.out; omega
      obtain ⟨b, off, ha, hb, hc⟩ := hG.cells (by omega)
      obtain ⟨a', n', c', hcell, hrow⟩ := hc j hlt
      rw [marksG_at k zss j hjl] at hrow
      have hst := sumLens_take zss j hjl
      have hmem : (zss[j]?.getD []).length ≤ 1048576 := by
        have := sumLens_mem zss (zss[j]?.getD []) (by rw [List.getElem?_eq_getElem hjl]; exact List.getElem_mem hjl)
        omega
      have hn' : (zss[j]?.getD []).length = n' := by have := hrow.length; rwa [marks_length] at this
      rw [hn'] at hrow hst hmem
      have MB := heldByteS_any a' n' c' B (k + (sumLens (zss.take j) : Nat)) w hrow (by omega) (by omega) hmem
      have HST := Lib.hid hst
      have hnn : ¬ (k + ((sumLens (zss.take j) : Nat) : Int) + (n' : Nat) < 0) := by omega
      subst ha
      clear hc hrow hst
      go_wp2_with fail
      refine MB.mono ?_
      rintro r w2 ⟨rfl, rfl⟩
      clear MB
      go_wp2_with fail
      go_round
      case rel => exact ⟨j + 1, by omega, by go_num, by have := HST.out; congr 1; omega⟩
      case measure => simp [intOf]; omega
    · obtain rfl : j = n := by omega
      have e1 : zss.take j = zss := List.take_of_length_le (by have := HL.out; omega)
      have HE := Lib.hid e1
      clear e1 hG
      go_wp2_with fail
      go_ret
      exact ⟨by rw [HE.out]; rfl, rfl⟩
end Go.Proofs.YtefgimpodhjdpaaGreatDoor
namespace Go.Proofs.YtefgimpodhjdpaaGreatDoor
open Go.RowKit
set_option maxRecDepth 100000
set_option linter.unusedVariables false

theorem markDisk_any (a : Option Addr) (n c lo hi : Nat) (k x : Int) (zss : List (List Int)) (xs : List Value) (w : World) (h : OwnG w lo hi (.slice a n c) zss xs) (k0 : 0 ≤ k) (k1 : k ≤ 10000000) (hn : n ≤ 1048576) (hs : sumLens zss ≤ 1048576) :
    Calls Tryz.prog 45 #[.agg #[.slice a n c, .int .i64 x], .int .i64 k] w fun r w' => r = .returned (.int .i64 (k + (sumLens zss : Nat))) ∧ OwnG w' lo hi (.slice a n c) (marksG k zss) xs ∧ Inn lo hi w w' := by
  have h0 := h.alloc (.cells #[.slice a n c, .int .i64 x] 27)
  have M := markByteSS_any a n c lo hi k zss xs _ h0 k0 k1 hn hs
  have hI := Lib.hid (show Inn lo hi w (w.alloc (.cells #[.slice a n c, .int .i64 x] 27)) from Inn.of_below (bal (Below.refl _ _) _))
  clear h h0
  generalize k + (sumLens zss : Nat) = t at *
  go_enter Tryz.func45, Tryz.ntmps45
  go_wp2_with fail
  refine M.mono ?_
  rintro r w2 ⟨rfl, ho, hi2⟩
  have F := Lib.hid (And.intro ho (hI.out.trans hi2))
  clear ho hi2 M
  go_wp2_with fail
  go_ret
  exact ⟨rfl, F.out.1, F.out.2⟩
theorem heldDisk_any (a : Option Addr) (n c B : Nat) (k x : Int) (zss : List (List Int)) (w : World) (hG : Grid w B a n c (marksG k zss)) (hB : B ≤ w.heap.size) (k0 : 0 ≤ k) (k1 : k ≤ 10000000) (hn : n ≤ 1048576) (hs : sumLens zss ≤ 1048576) :
    Calls Tryz.prog 145 #[.agg #[.slice a n c, .int .i64 x], .int .i64 k] w fun r w' => r = .returned (.int .i64 (k + (sumLens zss : Nat))) ∧ Below w.heap.size w w' := by
  have b0 := bal (Below.refl _ w) (.cells #[.slice a n c, .int .i64 x] 27)
  have H := heldByteSS_any a n c B k zss _ (hG.below (b0.mono hB)) k0 k1 hn hs
  have ht : 0 ≤ k + (sumLens zss : Nat) := by omega
  generalize k + (sumLens zss : Nat) = t at *
  have hnn : ¬ t < 0 := by omega
  clear hG
  go_enter Tryz.func145, Tryz.ntmps145
  go_wp2_with fail
  refine H.mono ?_
  rintro r w2 ⟨rfl, rfl⟩
  go_wp2_with fail
  go_ret
  exact ⟨rfl, b0⟩
/-- A store whose pins and records bear marks, from k on. -/
def markS (k : Nat) (s : StoreD) : StoreD := ⟨marksP k s.ps.length, ⟨marksG ((k + 5 * s.ps.length : Nat) : Int) s.d.rs, s.d.s⟩⟩
def markN (k : Nat) (s : StoreD) : Int := ((k + 5 * s.ps.length : Nat) : Int) + (sumLens s.d.rs : Nat)
/-- A store that is small enough. -/
structure SmallS (s : StoreD) : Prop where
  ps : s.ps.length ≤ 1048576
  rs : s.d.rs.length ≤ 1048576
  sum : sumLens s.d.rs ≤ 1048576
set_option maxHeartbeats 1000000 in
theorem markStore_any (a1 : Option Addr) (n1 c1 : Nat) (a2 : Option Addr) (n2 c2 lo hi : Nat) (x : Int) (s : StoreD) (w : World) (h : SOwn w lo hi (.slice a1 n1 c1) (.slice a2 n2 c2) s) (hs : SmallS s) :
    Calls Tryz.prog 53 #[S3 a1 n1 c1 a2 n2 c2 x, .int .i64 1] w fun r w' => r = .returned (.int .i64 (markN 1 s)) ∧ SOwn w' lo hi (.slice a1 n1 c1) (.slice a2 n2 c2) (markS 1 s) ∧ Inn lo hi w w' := by
  obtain ⟨l1, l2⟩ := h.len
  obtain ⟨mid, xs, h1, h2, h3, h4, h5, h6⟩ := h
  have b0 := bal (Below.refl _ w) (.cells #[.slice a1 n1 c1, .slice a2 n2 c2, .int .i64 x] 29)
  have A0 := At.new w [.slice a1 n1 c1, .slice a2 n2 c2, .int .i64 x] 29
  have g := hs.ps
  have g2 := hs.rs
  have g3 := hs.sum
  have M1 := markPinS_any a1 n1 c1 lo 1 s.ps (w.alloc (.cells #[.slice a1 n1 c1, .slice a2 n2 c2, .int .i64 x] 29)) (OwnP.below h3 b0) (by omega) (by omega) (by omega)
  have h5' := Lib.hid (h5.below b0)
  have M2 := Lib.hid (fun (w' : World) (h : OwnG w' mid hi (.slice a2 n2 c2) s.d.rs xs) => markDisk_any a2 n2 c2 mid hi ((1 + 5 * n1 : Nat) : Int) x s.d.rs xs w' h (by omega) (by omega) (by omega) g3)
  have HV := Lib.hid (fun (k : Nat) (e : Value.ownBlock (.slice a1 n1 c1) = some k) => And.intro (Own.lt h3 k e).1 (h4 k e))
  have hI := Lib.hid (show Inn lo hi w (w.alloc (.cells #[.slice a1 n1 c1, .slice a2 n2 c2, .int .i64 x] 29)) from Inn.of_below b0)
  have hgA : ∀ k, Value.ownBlock (.slice a1 n1 c1) = some k → w.heap.size ≠ k := fun k e => by have := (Own.lt h3 k e).2; omega
  have HNM := Lib.hid (marksP_names 1 n1 (by omega) (by omega))
  have HWF := Lib.hid (marksG_wf ((1 + 5 * n1 : Nat) : Int) s.d.rs)
  have e1 : markN 1 s = ((1 + 5 * n1 : Nat) : Int) + (sumLens s.d.rs : Nat) := by unfold markN; rw [l1]
  have e2 : markS 1 s = ⟨marksP 1 n1, ⟨marksG ((1 + 5 * n1 : Nat) : Int) s.d.rs, s.d.s⟩⟩ := by unfold markS; rw [l1]
  rw [e1, e2]
  have hle : lo ≤ mid ∧ mid ≤ hi := ⟨h1, h2⟩
  clear h5 h3 h4 h6 b0 e1 e2 g g2 l1 l2 hs h1 h2
  generalize hk1 : ((1 + 5 * n1 : Nat) : Int) = k1 at *
  have HK1 := Lib.hid hk1
  clear hk1
  generalize marksG k1 s.d.rs = ms at *
  generalize k1 + (sumLens s.d.rs : Nat) = t at *
  have d0 := A0.cell 0 _ rfl
  have d1 := A0.cell 1 _ rfl
  have d2 := A0.cell 2 _ rfl
  have HA0 := Lib.hid A0
  clear A0
  go_enter Tryz.func53, Tryz.ntmps53
  go_wp2_with fail
  generalize w.alloc (.cells #[.slice a1 n1 c1, .slice a2 n2 c2, .int .i64 x] 29) = W0 at *
  refine M1.mono ?_
  rintro r u1 ⟨hr, O1, g1⟩
  rw [HK1.out] at hr
  subst hr
  have A1 := HA0.out.kept g1 (fun e => hgA _ e.symm rfl)
  have I1 : Inn lo mid W0 u1 := Inn.of_grown g1 (fun k e => HV.out k e)
  have G1 := Lib.hid (h5'.out.inn I1 (.inr (Nat.le_refl _)))
  have HI1 := Lib.hid (hI.out.trans (I1.wide (Nat.le_refl _) hle.2))
  have HO1 := Lib.hid O1
  clear d0 d1 d2 M1 O1 g1 I1 HA0 hI hgA
  have d0 := A1.cell 0 _ rfl
  have d1 := A1.cell 1 _ rfl
  have d2 := A1.cell 2 _ rfl
  clear A1
  go_wp2_with fail
  refine (M2.out _ G1.out).mono ?_
  rintro r u2 ⟨rfl, G2, I2⟩
  have O2 := Own.inn (show Own u1 lo 5 _ _ _ from HO1.out) I2 (fun g e => .inl (HV.out g e).2)
  have HF := Lib.hid (And.intro (show SOwn u2 lo hi (.slice a1 n1 c1) (.slice a2 n2 c2) ⟨marksP 1 n1, ⟨ms, s.d.s⟩⟩ from ⟨mid, xs, hle.1, hle.2, O2, fun g e => (HV.out g e).2, G2, HNM.out, HWF.out⟩) (HI1.out.trans (I2.wide hle.1 (Nat.le_refl _))))
  clear G2 I2 O2 HO1 HI1 G1 M2 d0 d1 d2
  go_wp2_with fail
  go_ret
  exact ⟨rfl, HF.out.1, HF.out.2⟩
theorem markStoreRes_any (c : Int) (a1 : Option Addr) (n1 c1 : Nat) (a2 : Option Addr) (n2 c2 lo hi : Nat) (x : Int) (s : StoreD) (w : World) (h : SOwn w lo hi (.slice a1 n1 c1) (.slice a2 n2 c2) s) (hs : SmallS s) :
    Calls Tryz.prog 46 #[V4 c a1 n1 c1 a2 n2 c2 x, .int .i64 1] w fun r w' => r = .returned (.int .i64 (markN 1 s)) ∧ SOwn w' lo hi (.slice a1 n1 c1) (.slice a2 n2 c2) (markS 1 s) ∧ Inn lo hi w w' := by
  have b0 := bal (Below.refl _ w) (.cells #[.int .i64 c, .slice a1 n1 c1, .slice a2 n2 c2, .int .i64 x] 35)
  have M := markStore_any a1 n1 c1 a2 n2 c2 lo hi x s _ (h.below b0) hs
  have hI := Lib.hid (show Inn lo hi w (w.alloc (.cells #[.int .i64 c, .slice a1 n1 c1, .slice a2 n2 c2, .int .i64 x] 35)) from Inn.of_below b0)
  clear h b0
  generalize markN 1 s = t at *
  go_enter Tryz.func46, Tryz.ntmps46
  go_wp2_with fail
  refine M.mono ?_
  rintro r w2 ⟨rfl, ho, hi2⟩
  have F := Lib.hid (And.intro ho (hI.out.trans hi2))
  clear ho hi2 M
  go_wp2_with fail
  go_ret
  exact ⟨rfl, F.out.1, F.out.2⟩
set_option maxHeartbeats 1000000 in
theorem heldStore_any (a1 : Option Addr) (n1 c1 : Nat) (a2 : Option Addr) (n2 c2 B : Nat) (x : Int) (s : StoreD) (w : World) (h : SRow w B a1 n1 c1 a2 n2 c2 (markS 1 s)) (hB : B ≤ w.heap.size) (hs : SmallS s) :
    Calls Tryz.prog 95 #[S3 a1 n1 c1 a2 n2 c2 x, .int .i64 1] w fun r w' => r = .returned (.int .i64 (markN 1 s)) ∧ Below w.heap.size w w' := by
  have l1 : n1 = s.ps.length := by rw [← h.ps.length]; exact marksP_length _ _
  have l2 : n2 = s.d.rs.length := by rw [← h.rs.length]; exact marksG_length _ _
  have b0 := bal (Below.refl _ w) (.cells #[.slice a1 n1 c1, .slice a2 n2 c2, .int .i64 x] 29)
  have A0 := At.new w [.slice a1 n1 c1, .slice a2 n2 c2, .int .i64 x] 29
  have g := hs.ps
  have g2 := hs.rs
  have g3 := hs.sum
  have hR := h.below (b0.mono hB)
  have hP : PRow (w.alloc (.cells #[.slice a1 n1 c1, .slice a2 n2 c2, .int .i64 x] 29)) B a1 n1 c1 (marksP 1 n1) := by have := hR.ps; unfold markS at this; rw [← l1] at this; exact this
  have hG : Grid (w.alloc (.cells #[.slice a1 n1 c1, .slice a2 n2 c2, .int .i64 x] 29)) B a2 n2 c2 (marksG ((1 + 5 * n1 : Nat) : Int) s.d.rs) := by have := hR.rs; unfold markS at this; rw [← l1] at this; exact this
  have M1 := heldPinS_any a1 n1 c1 B 1 _ hP (Nat.le_trans hB b0.size) (by omega) (by omega) (by omega)
  have HG := Lib.hid (fun (w' : World) (hb : Below (w.alloc (.cells #[.slice a1 n1 c1, .slice a2 n2 c2, .int .i64 x] 29)).heap.size (w.alloc (.cells #[.slice a1 n1 c1, .slice a2 n2 c2, .int .i64 x] 29)) w') => heldDisk_any a2 n2 c2 B ((1 + 5 * n1 : Nat) : Int) x s.d.rs w' (hG.below (hb.mono (Nat.le_trans hB b0.size))) (Nat.le_trans hB (Nat.le_trans b0.size hb.size)) (by omega) (by omega) (by omega) g3)
  have e1 : markN 1 s = ((1 + 5 * n1 : Nat) : Int) + (sumLens s.d.rs : Nat) := by unfold markN; rw [l1]
  rw [e1]
  have hn1 : ¬ ((1 + 5 * n1 : Nat) : Int) < 0 := by omega
  have hn2 : ¬ ((1 + 5 * n1 : Nat) : Int) + (sumLens s.d.rs : Nat) < 0 := by omega
  clear h hR hP hG e1 g g2 g3 l1 l2 hs
  generalize ((1 + 5 * n1 : Nat) : Int) + (sumLens s.d.rs : Nat) = t at *
  generalize hk1 : ((1 + 5 * n1 : Nat) : Int) = k1 at *
  have HK1 := Lib.hid hk1
  clear hk1
  have HA0 := Lib.hid A0
  have HB0 := Lib.hid b0
  have d0 := A0.cell 0 _ rfl
  have d1 := A0.cell 1 _ rfl
  have d2 := A0.cell 2 _ rfl
  clear A0 b0
  go_enter Tryz.func95, Tryz.ntmps95
  go_wp2_with fail
  generalize w.alloc (.cells #[.slice a1 n1 c1, .slice a2 n2 c2, .int .i64 x] 29) = W0 at *
  refine M1.mono ?_
  rintro r u1 ⟨hr, b1⟩
  subst hr
  have A1 := HA0.out.on b1
  have H2 := HG.out u1 b1
  have B1 := btr HB0.out b1
  clear d0 d1 d2 M1 HG HA0 b1
  have d0 := A1.cell 0 _ rfl
  have d1 := A1.cell 1 _ rfl
  have d2 := A1.cell 2 _ rfl
  clear A1
  go_wp2_with fail
  refine H2.mono ?_
  rintro r u2 ⟨rfl, b2⟩
  have B2 := btr B1 b2
  clear b2 B1 H2 d0 d1 d2
  go_wp2_with fail
  go_ret
  exact ⟨rfl, B2⟩
theorem heldStoreRes_any (c : Int) (a1 : Option Addr) (n1 c1 : Nat) (a2 : Option Addr) (n2 c2 B : Nat) (x : Int) (s : StoreD) (w : World) (h : SRow w B a1 n1 c1 a2 n2 c2 (markS 1 s)) (hB : B ≤ w.heap.size) (hs : SmallS s) :
    Calls Tryz.prog 47 #[V4 c a1 n1 c1 a2 n2 c2 x, .int .i64 1] w fun r w' => r = .returned (.int .i64 (markN 1 s)) ∧ Below w.heap.size w w' := by
  have b0 := bal (Below.refl _ w) (.cells #[.int .i64 c, .slice a1 n1 c1, .slice a2 n2 c2, .int .i64 x] 35)
  have M := heldStore_any a1 n1 c1 a2 n2 c2 B x s _ (h.below (b0.mono hB)) (Nat.le_trans hB b0.size) hs
  have hn : ¬ markN 1 s < 0 := by unfold markN; omega
  clear h
  generalize markN 1 s = t at *
  go_enter Tryz.func47, Tryz.ntmps47
  go_wp2_with fail
  refine M.mono ?_
  rintro r w2 ⟨rfl, b2⟩
  have B2 := btr b0 b2
  clear b0 b2 M
  go_wp2_with fail
  go_ret
  exact ⟨rfl, B2⟩
end Go.Proofs.YtefgimpodhjdpaaGreatDoor
namespace Go.Proofs.YtefgimpodhjdpaaGreatDoor
open Go.RowKit
set_option maxRecDepth 100000
set_option linter.unusedVariables false

/-- What is left of L behind a store's sizes; or -1. -/
def szSt (s : StoreD) (L : Int) : Int := if szP s.ps L < 0 then -1 else szR s.d.rs (szP s.ps L)
theorem szSt_small {s : StoreD} {L : Int} (h : 0 ≤ szSt s L) (hL : L ≤ 1048576) : SmallS s ∧ szSt s L ≤ L ∧ ∀ zs ∈ s.d.rs, zs.length ≤ 1048576 := by
  unfold szSt at h ⊢
  split at h
  · omega
  · rename_i h1
    rw [if_neg h1]
    obtain ⟨p1, p2, p3⟩ := szP_ok (by omega : 0 ≤ szP s.ps L)
    unfold szR at h ⊢
    split at h
    · rename_i h2
      rw [if_pos h2]
      refine ⟨⟨by omega, by omega, by omega⟩, by omega, fun zs hz => ?_⟩
      have := sumLens_mem s.d.rs zs hz
      omega
    · omega
theorem szP_range (ps : List PinD) (L : Int) (h : 0 ≤ L) : szP ps L ≤ L ∧ -1 ≤ szP ps L := by
  unfold szP
  split
  · omega
  · have := szL_le ps (L - ps.length) (by omega)
    omega
set_option maxHeartbeats 1000000 in
theorem szStore_any (a1 : Option Addr) (n1 c1 : Nat) (a2 : Option Addr) (n2 c2 B : Nat) (x L : Int) (s : StoreD) (w : World) (h : SRow w B a1 n1 c1 a2 n2 c2 s) (hB : B ≤ w.heap.size) (h0 : 0 ≤ L) (h1 : L ≤ 1048576) :
    Calls Tryz.prog 48 #[S3 a1 n1 c1 a2 n2 c2 x, .int .i64 L] w fun r w' => r = .returned (.int .i64 (szSt s L)) ∧ Below w.heap.size w w' := by
  have b0 := bal (Below.refl _ w) (.cells #[.slice a1 n1 c1, .slice a2 n2 c2, .int .i64 x] 69)
  have A0 := At.new w [.slice a1 n1 c1, .slice a2 n2 c2, .int .i64 x] 69
  have hR := h.below (b0.mono hB)
  have P := szPinS_any a1 n1 c1 B s.ps L _ hR.ps (Nat.le_trans hB b0.size) h0 h1
  have hr := szP_range s.ps L h0
  have HA0 := Lib.hid A0
  have HB0 := Lib.hid b0
  have d0 := A0.cell 0 _ rfl
  have d1 := A0.cell 1 _ rfl
  have d2 := A0.cell 2 _ rfl
  clear A0 b0
  by_cases hp : szP s.ps L < 0
  · have e1 : szP s.ps L = -1 := by omega
    have e2 : szSt s L = -1 := by unfold szSt; rw [if_pos hp]
    rw [e2]
    rw [e1] at P
    clear h hR e1 e2 hp hr
    go_enter Tryz.func48, Tryz.ntmps48
    go_wp2_with fail
    generalize w.alloc (.cells #[.slice a1 n1 c1, .slice a2 n2 c2, .int .i64 x] 69) = W0 at *
    refine P.mono ?_
    rintro r u1 ⟨rfl, b1⟩
    have B1 := btr HB0.out b1
    clear P HA0 HB0 d0 d1 d2 b1
    go_wp2_with fail
    go_ret
    exact ⟨rfl, B1⟩
  have e2 : szSt s L = szR s.d.rs (szP s.ps L) := by unfold szSt; rw [if_neg hp]
  rw [e2]
  generalize szP s.ps L = t at *
  have D := Lib.hid (fun (w' : World) (hb : Below w.heap.size w w') => szDisk_any a2 n2 c2 B s.d.rs x t w' (h.rs.below (hb.mono hB)) (Nat.le_trans hB hb.size) (by omega) (by omega))
  have hc : szR s.d.rs t = -1 ∨ 0 ≤ szR s.d.rs t := by unfold szR; split <;> omega
  generalize szR s.d.rs t = q at *
  clear h hR e2
  rcases hc with rfl | hc
  · go_enter Tryz.func48, Tryz.ntmps48
    go_wp2_with fail
    generalize w.alloc (.cells #[.slice a1 n1 c1, .slice a2 n2 c2, .int .i64 x] 69) = W0 at *
    refine P.mono ?_
    rintro r u1 ⟨rfl, b1⟩
    have B1 := btr HB0.out b1
    have A1 := HA0.out.on b1
    have HB1 := Lib.hid B1
    clear P HA0 HB0 d0 d1 d2 b1 B1
    have d0 := A1.cell 0 _ rfl
    have d1 := A1.cell 1 _ rfl
    have d2 := A1.cell 2 _ rfl
    clear A1
    go_wp2_with fail
    refine (D.out _ HB1.out).mono ?_
    rintro r u2 ⟨rfl, b2⟩
    have B2 := btr HB1.out b2
    clear b2 HB1 D d0 d1 d2
    go_wp2_with fail
    go_ret
    exact ⟨rfl, B2⟩
  · have hn : ¬ q < 0 := by omega
    go_enter Tryz.func48, Tryz.ntmps48
    go_wp2_with fail
    generalize w.alloc (.cells #[.slice a1 n1 c1, .slice a2 n2 c2, .int .i64 x] 69) = W0 at *
    refine P.mono ?_
    rintro r u1 ⟨rfl, b1⟩
    have B1 := btr HB0.out b1
    have A1 := HA0.out.on b1
    have HB1 := Lib.hid B1
    clear P HA0 HB0 d0 d1 d2 b1 B1
    have d0 := A1.cell 0 _ rfl
    have d1 := A1.cell 1 _ rfl
    have d2 := A1.cell 2 _ rfl
    clear A1
    go_wp2_with fail
    refine (D.out _ HB1.out).mono ?_
    rintro r u2 ⟨rfl, b2⟩
    have B2 := btr HB1.out b2
    clear b2 HB1 D d0 d1 d2
    go_wp2_with fail
    go_ret
    exact ⟨rfl, B2⟩
/-- A store was copied. -/
def StoreCopied (s : StoreD) (w : World) (e : Ending) (w' : World) : Prop :=
  ∃ a1 a2, e = .returned (S3 a1 s.ps.length s.ps.length a2 s.d.rs.length s.d.rs.length s.d.s) ∧ SOwn w' w.heap.size w'.heap.size (.slice a1 s.ps.length s.ps.length) (.slice a2 s.d.rs.length s.d.rs.length) s ∧ Below w.heap.size w w'
set_option maxHeartbeats 1000000 in
theorem toStore_any (a1 : Option Addr) (n1 c1 : Nat) (a2 : Option Addr) (n2 c2 B : Nat) (s : StoreD) (w : World) (h : SRow w B a1 n1 c1 a2 n2 c2 s) (hB : B ≤ w.heap.size) (hs : SmallS s) (hr : ∀ zs ∈ s.d.rs, zs.length ≤ 1048576) :
    Calls Tryz.prog 49 #[S3 a1 n1 c1 a2 n2 c2 s.d.s] w (StoreCopied s w) := by
  have b0 := bal (bal (bal (Below.refl _ w) (.cells #[.slice a1 n1 c1, .slice a2 n2 c2, .int .i64 s.d.s] 69)) (.cells #[.slice none 0 0, .slice none 0 0, .int .i64 0] 29)) (.cells #[.slice none 0 0, .slice none 0 0, .int .i64 0] 29)
  have A0 : At w.heap.size [.slice a1 n1 c1, .slice a2 n2 c2, .int .i64 s.d.s] (((w.alloc (.cells #[.slice a1 n1 c1, .slice a2 n2 c2, .int .i64 s.d.s] 69)).alloc (.cells #[.slice none 0 0, .slice none 0 0, .int .i64 0] 29)).alloc (.cells #[.slice none 0 0, .slice none 0 0, .int .i64 0] 29)) := ((At.new w [.slice a1 n1 c1, .slice a2 n2 c2, .int .i64 s.d.s] 69).alloc _).alloc _
  have R0 := (At.new (w.alloc (.cells #[.slice a1 n1 c1, .slice a2 n2 c2, .int .i64 s.d.s] 69)) [.slice none 0 0, .slice none 0 0, .int .i64 0] 29).alloc (.cells #[.slice none 0 0, .slice none 0 0, .int .i64 0] 29)
  have D0 := At.new ((w.alloc (.cells #[.slice a1 n1 c1, .slice a2 n2 c2, .int .i64 s.d.s] 69)).alloc (.cells #[.slice none 0 0, .slice none 0 0, .int .i64 0] 29)) [.slice none 0 0, .slice none 0 0, .int .i64 0] 29
  rw [World.size_alloc] at R0
  rw [World.size_alloc, World.size_alloc] at D0
  have sz0 : (((w.alloc (.cells #[.slice a1 n1 c1, .slice a2 n2 c2, .int .i64 s.d.s] 69)).alloc (.cells #[.slice none 0 0, .slice none 0 0, .int .i64 0] 29)).alloc (.cells #[.slice none 0 0, .slice none 0 0, .int .i64 0] 29)).heap.size = w.heap.size + 1 + 1 + 1 := by simp
  have hR := h.below (b0.mono hB)
  have g1 := hs.ps
  have g2 := hs.rs
  have l1 := h.ps.length
  have l2 := h.rs.length
  have HNM := Lib.hid h.ps.names
  have HWF := Lib.hid h.wf
  have P := toPinS_any a1 n1 c1 B s.ps _ hR.ps (Nat.le_trans hB b0.size) (by omega)
  have D := Lib.hid (fun (w' : World) (hb : Below w.heap.size w w') => toDisk_any a2 n2 c2 B s.d.rs s.d.s w' (h.rs.below (hb.mono hB)) (Nat.le_trans hB hb.size) (by omega) hr)
  have HS := Lib.hid (show StoreCopied s w = fun e w' => ∃ a1 a2, e = .returned (S3 a1 n1 n1 a2 n2 n2 s.d.s) ∧ SOwn w' w.heap.size w'.heap.size (.slice a1 n1 n1) (.slice a2 n2 n2) ⟨s.ps, ⟨s.d.rs, s.d.s⟩⟩ ∧ Below w.heap.size w w' by unfold StoreCopied; rw [l1, l2])
  rw [HS.out]
  unfold CopiedP at P
  unfold DiskCopied at D
  have HA0 := Lib.hid A0
  have HR0 := Lib.hid (show At (w.heap.size + 1) [.slice none 0 0, .slice none 0 0, .int .i64 0] (((w.alloc (.cells #[.slice a1 n1 c1, .slice a2 n2 c2, .int .i64 s.d.s] 69)).alloc (.cells #[.slice none 0 0, .slice none 0 0, .int .i64 0] 29)).alloc (.cells #[.slice none 0 0, .slice none 0 0, .int .i64 0] 29)) from R0)
  have HD0 := Lib.hid (show At (w.heap.size + 1 + 1) [.slice none 0 0, .slice none 0 0, .int .i64 0] (((w.alloc (.cells #[.slice a1 n1 c1, .slice a2 n2 c2, .int .i64 s.d.s] 69)).alloc (.cells #[.slice none 0 0, .slice none 0 0, .int .i64 0] 29)).alloc (.cells #[.slice none 0 0, .slice none 0 0, .int .i64 0] 29)) from D0)
  have HB0 := Lib.hid b0
  have HZ0 := Lib.hid sz0
  clear HS h hR hs hr R0 D0 b0 sz0 g1 g2 l1 l2
  generalize s.ps = ps at *
  generalize s.d.rs = rs at *
  generalize s.d.s = x at *
  have d0 := A0.cell 0 _ rfl
  have d1 := A0.cell 1 _ rfl
  have d2 := A0.cell 2 _ rfl
  clear A0
  go_enter Tryz.func49, Tryz.ntmps49
  go_wp2_with fail
  generalize ((w.alloc (.cells #[.slice a1 n1 c1, .slice a2 n2 c2, .int .i64 x] 69)).alloc (.cells #[.slice none 0 0, .slice none 0 0, .int .i64 0] 29)).alloc (.cells #[.slice none 0 0, .slice none 0 0, .int .i64 0] 29) = W0 at *
  refine P.mono ?_
  rintro r u1 ⟨rfl, O1, b1⟩
  have hz0 : w.heap.size + 1 + 1 < W0.heap.size := by have := HZ0.out; omega
  have lt1 : W0.heap.size ≤ u1.heap.size := b1.size
  have A1 := HA0.out.on b1
  have D1 := HD0.out.on b1
  clear d0 d1 d2 P
  have d0 := A1.cell 0 _ rfl
  have d1 := A1.cell 1 _ rfl
  have d2 := A1.cell 2 _ rfl
  have p0 := D1.cell 0 _ rfl
  have p1 := D1.cell 1 _ rfl
  have p2 := D1.cell 2 _ rfl
  have z0 := D1.free 0 _ rfl
  have z1 := D1.free 1 _ rfl
  have z2 := D1.free 2 _ rfl
  have hne : w.heap.size ≠ w.heap.size + 1 + 1 := by omega
  have hne1 : w.heap.size + 1 ≠ w.heap.size + 1 + 1 := by omega
  have A2 := A1.setB (p := ⟨w.heap.size + 1 + 1, 0, none⟩) (by show w.heap.size ≠ w.heap.size + 1 + 1; omega) (.slice (some ⟨W0.heap.size, 0, none⟩) n1 n1)
  have R2 := (HR0.out.on b1).setB (p := ⟨w.heap.size + 1 + 1, 0, none⟩) (by show w.heap.size + 1 ≠ w.heap.size + 1 + 1; omega) (.slice (some ⟨W0.heap.size, 0, none⟩) n1 n1)
  have D2 := D1.set 0 (.slice (some ⟨W0.heap.size, 0, none⟩) n1 n1)
  have O2 : OwnP (u1.setCell ⟨w.heap.size + 1 + 1, 0, none⟩ (.slice (some ⟨W0.heap.size, 0, none⟩) n1 n1)) W0.heap.size (.slice (some ⟨W0.heap.size, 0, none⟩) n1 n1) ps := Own.setCell O1 (fun k e => by have := (Own.lt O1 k e).1; show k ≠ w.heap.size + 1 + 1; omega) _
  have B2 : Below w.heap.size w (u1.setCell ⟨w.heap.size + 1 + 1, 0, none⟩ (.slice (some ⟨W0.heap.size, 0, none⟩) n1 n1)) := bset (btr HB0.out b1) (by show w.heap.size ≤ w.heap.size + 1 + 1; omega) _
  have hs2 : (u1.setCell ⟨w.heap.size + 1 + 1, 0, none⟩ (.slice (some ⟨W0.heap.size, 0, none⟩) n1 n1)).heap.size = u1.heap.size := by simp [World.setCell]
  have HA2 := Lib.hid A2
  have HR2 := Lib.hid R2
  have HD2 := Lib.hid D2
  have HO2 := Lib.hid O2
  have HB2 := Lib.hid B2
  have HS2 := Lib.hid hs2
  clear A1 D1 A2 R2 D2 O2 B2 hs2 O1 b1 HA0 HR0 HD0 HB0
  go_upto_region 3 with fail
  generalize u1.setCell ⟨w.heap.size + 1 + 1, 0, none⟩ (.slice (some ⟨W0.heap.size, 0, none⟩) n1 n1) = W2 at *
  clear d0 d1 d2 p0 p1 p2 z0 z1 z2
  have d0 := HA2.out.cell 0 _ rfl
  have d1 := HA2.out.cell 1 _ rfl
  have d2 := HA2.out.cell 2 _ rfl
  go_wp2_with fail
  refine (D.out _ HB2.out).mono ?_
  rintro r u3 ⟨a3, xs, rfl, G3, b3⟩
  have D3 := HD2.out.on b3
  have R3 := HR2.out.on b3
  have B3 := btr HB2.out b3
  have SO : SOwn u3 W0.heap.size u3.heap.size (.slice (some ⟨W0.heap.size, 0, none⟩) n1 n1) (.slice a3 n2 n2) ⟨ps, ⟨rs, x⟩⟩ :=
    SOwn.mk' (W := w) (mid := W2.heap.size) (HO2.out.below b3) (by have := HS2.out; omega) (fun g hg => (Own.lt HO2.out g hg).2) G3 b3.size HNM.out HWF.out
  have S5 := ((((SO.setCell (p := ⟨w.heap.size + 1 + 1, 1, none⟩) (.inl (by show w.heap.size + 1 + 1 < W0.heap.size; omega)) (.slice a3 n2 n2)).setCell (p := ⟨w.heap.size + 1 + 1, 2, none⟩) (.inl (by show w.heap.size + 1 + 1 < W0.heap.size; omega)) (.int .i64 x)).setCell (p := ⟨w.heap.size + 1, 0, none⟩) (.inl (by show w.heap.size + 1 < W0.heap.size; omega)) (.slice (some ⟨W0.heap.size, 0, none⟩) n1 n1)).setCell (p := ⟨w.heap.size + 1, 1, none⟩) (.inl (by show w.heap.size + 1 < W0.heap.size; omega)) (.slice a3 n2 n2)).setCell (p := ⟨w.heap.size + 1, 2, none⟩) (.inl (by show w.heap.size + 1 < W0.heap.size; omega)) (.int .i64 x)
  have HSO := Lib.hid ((S5.less (show w.heap.size ≤ W0.heap.size by omega)).more S5.top.2 (Nat.le_refl _))
  have HB3 := Lib.hid B3
  clear S5 d0 d1 d2 G3 b3 SO B3 HA2 HR2 HD2 HO2 HB2 D
  have p0 := D3.cell 0 _ rfl
  have p1 := D3.cell 1 _ rfl
  have p2 := D3.cell 2 _ rfl
  have z0 := D3.free 0 _ rfl
  have z1 := D3.free 1 _ rfl
  have z2 := D3.free 2 _ rfl
  have q0 := R3.cell 0 _ rfl
  have q1 := R3.cell 1 _ rfl
  have q2 := R3.cell 2 _ rfl
  have f0 := R3.free 0 _ rfl
  have f1 := R3.free 1 _ rfl
  have f2 := R3.free 2 _ rfl
  clear D3 R3
  go_wp2_with fail
  refine bodyPost_ret (v := S3 (some ⟨W0.heap.size, 0, none⟩) n1 n1 a3 n2 n2 x) (by simp [results, Tryz.results49, go_sem, q0, q1, q2]) rfl ⟨_, _, rfl, HSO.out, ?_⟩
  exact (by (iterate 5 (refine bset ?_ (by dsimp only; omega) _)); exact HB3.out)
set_option maxHeartbeats 1000000 in
theorem eqStore_any (a1 b1 : Option Addr) (n1 c1 d1 : Nat) (a2 b2 : Option Addr) (n2 c2 d2 B : Nat) (s : StoreD) (w : World) (h : SRow w B a1 n1 c1 a2 n2 c2 s) (g : SRow w B b1 n1 d1 b2 n2 d2 s) (hB : B ≤ w.heap.size) :
    Calls Tryz.prog 50 #[S3 a1 n1 c1 a2 n2 c2 s.d.s, S3 b1 n1 d1 b2 n2 d2 s.d.s] w fun e w' => e = .returned (.bool true) ∧ Below w.heap.size w w' := by
  have b0 := bal (bal (Below.refl _ w) (.cells #[.slice a1 n1 c1, .slice a2 n2 c2, .int .i64 s.d.s] 29)) (.cells #[.slice b1 n1 d1, .slice b2 n2 d2, .int .i64 s.d.s] 29)
  have A0 : At w.heap.size [.slice a1 n1 c1, .slice a2 n2 c2, .int .i64 s.d.s] ((w.alloc (.cells #[.slice a1 n1 c1, .slice a2 n2 c2, .int .i64 s.d.s] 29)).alloc (.cells #[.slice b1 n1 d1, .slice b2 n2 d2, .int .i64 s.d.s] 29)) := (At.new w [.slice a1 n1 c1, .slice a2 n2 c2, .int .i64 s.d.s] 29).alloc _
  have A1 := At.new (w.alloc (.cells #[.slice a1 n1 c1, .slice a2 n2 c2, .int .i64 s.d.s] 29)) [.slice b1 n1 d1, .slice b2 n2 d2, .int .i64 s.d.s] 29
  rw [World.size_alloc] at A1
  have E := eqPinS_any a1 b1 n1 c1 d1 B s.ps _ (h.ps.below (b0.mono hB)) (g.ps.below (b0.mono hB)) (Nat.le_trans hB b0.size)
  have D := Lib.hid (fun (w' : World) (hb : Below w.heap.size w w') => eqDisk_any a2 b2 n2 c2 d2 B s.d.rs s.d.s w' (h.rs.below (hb.mono hB)) (g.rs.below (hb.mono hB)) (Nat.le_trans hB hb.size))
  have HA0 := Lib.hid A0
  have HA1 := Lib.hid (show At (w.heap.size + 1) [.slice b1 n1 d1, .slice b2 n2 d2, .int .i64 s.d.s] ((w.alloc (.cells #[.slice a1 n1 c1, .slice a2 n2 c2, .int .i64 s.d.s] 29)).alloc (.cells #[.slice b1 n1 d1, .slice b2 n2 d2, .int .i64 s.d.s] 29)) from A1)
  have HB0 := Lib.hid b0
  clear h g A0 A1 b0
  generalize s.d.s = x at *
  generalize s.ps = ps at *
  generalize s.d.rs = rs at *
  go_enter Tryz.func50, Tryz.ntmps50
  have p0 := HA0.out.cell 0 _ rfl
  have p1 := HA0.out.cell 1 _ rfl
  have p2 := HA0.out.cell 2 _ rfl
  have q0 := HA1.out.cell 0 _ rfl
  have q1 := HA1.out.cell 1 _ rfl
  have q2 := HA1.out.cell 2 _ rfl
  go_wp2_with fail
  generalize (w.alloc (.cells #[.slice a1 n1 c1, .slice a2 n2 c2, .int .i64 x] 29)).alloc (.cells #[.slice b1 n1 d1, .slice b2 n2 d2, .int .i64 x] 29) = W0 at *
  refine E.mono ?_
  rintro r u1 ⟨rfl, e1⟩
  have B1 := btr HB0.out e1
  have X0 := HA0.out.on e1
  have X1 := HA1.out.on e1
  have HB1 := Lib.hid B1
  clear p0 p1 p2 q0 q1 q2 E B1 e1
  have p0 := X0.cell 0 _ rfl
  have p1 := X0.cell 1 _ rfl
  have p2 := X0.cell 2 _ rfl
  have q0 := X1.cell 0 _ rfl
  have q1 := X1.cell 1 _ rfl
  have q2 := X1.cell 2 _ rfl
  clear X0 X1 HA0 HA1 HB0
  go_wp2_with fail
  refine (D.out _ HB1.out).mono ?_
  rintro r u2 ⟨rfl, e2⟩
  have B2 := btr HB1.out e2
  clear e2 HB1 D p0 p1 p2 q0 q1 q2
  go_wp2_with fail
  go_ret
  exact ⟨rfl, B2⟩
theorem eqStoreRes_any (c : Int) (a1 b1 : Option Addr) (n1 c1 d1 : Nat) (a2 b2 : Option Addr) (n2 c2 d2 B : Nat) (s : StoreD) (w : World) (h : SRow w B a1 n1 c1 a2 n2 c2 s) (g : SRow w B b1 n1 d1 b2 n2 d2 s) (hB : B ≤ w.heap.size) :
    Calls Tryz.prog 43 #[V4 c a1 n1 c1 a2 n2 c2 s.d.s, V4 c b1 n1 d1 b2 n2 d2 s.d.s] w fun e w' => e = .returned (.bool true) ∧ Below w.heap.size w w' := by
  have b0 := bal (bal (Below.refl _ w) (.cells #[.int .i64 c, .slice a1 n1 c1, .slice a2 n2 c2, .int .i64 s.d.s] 35)) (.cells #[.int .i64 c, .slice b1 n1 d1, .slice b2 n2 d2, .int .i64 s.d.s] 35)
  have E := eqStore_any a1 b1 n1 c1 d1 a2 b2 n2 c2 d2 B s _ (h.below (b0.mono hB)) (g.below (b0.mono hB)) (Nat.le_trans hB b0.size)
  clear h g
  generalize s.d.s = x at *
  go_enter Tryz.func43, Tryz.ntmps43
  go_wp2_with fail
  refine E.mono ?_
  rintro r u1 ⟨rfl, e1⟩
  have B1 := btr b0 e1
  clear b0 e1 E
  go_wp2_with fail
  go_ret
  exact ⟨rfl, B1⟩
end Go.Proofs.YtefgimpodhjdpaaGreatDoor
namespace Go.Proofs.YtefgimpodhjdpaaGreatDoor
open Go.RowKit

theorem sumLens_mem9 : ∀ (rs : List (List Int)) (zs : List Int), zs ∈ rs → zs.length ≤ sumLens rs
  | z :: r, zs, h => by
    simp only [sumLens, List.map_cons, List.sum_cons]
    rcases List.mem_cons.1 h with rfl | h
    · omega
    · have := sumLens_mem9 r zs h
      simp only [sumLens] at this
      omega
theorem szR_neg {rs : List (List Int)} {L : Int} (h : szR rs L < 0) : szR rs L = -1 := by
  unfold szR at h ⊢
  split at h <;> rename_i h' <;> simp only [h', if_true, if_false] <;> omega
theorem szR_small {rs : List (List Int)} {L : Int} (h : 0 ≤ szR rs L) (hL : L ≤ 1048576) : rs.length ≤ 1048576 ∧ ∀ zs ∈ rs, zs.length ≤ 1048576 := by
  unfold szR at h
  split at h
  · refine ⟨by omega, fun zs hz => ?_⟩
    have := sumLens_mem9 rs zs hz
    omega
  · omega
end Go.Proofs.YtefgimpodhjdpaaGreatDoor
namespace Go.Proofs.YtefgimpodhjdpaaGreatDoor
open Go.RowKit
set_option maxRecDepth 100000
set_option linter.unusedVariables false

theorem szSt_neg {s : StoreD} {L : Int} (h : szSt s L < 0) : szSt s L = -1 := by
  unfold szSt at h ⊢
  by_cases hp : szP s.ps L < 0
  · rw [if_pos hp]
  · rw [if_neg hp] at h ⊢
    exact szR_neg h
theorem sumLens_bound : ∀ (rs : List (List Int)), (∀ zs ∈ rs, zs.length ≤ 40) → sumLens rs ≤ 40 * rs.length
  | [], _ => by simp [sumLens]
  | z :: r, h => by
    have h1 := sumLens_bound r (fun zs hz => h zs (by simp [hz]))
    have h2 := h z (by simp)
    simp only [sumLens, List.map_cons, List.sum_cons, List.length_cons] at h1 ⊢
    omega
theorem small_of {s : StoreD} (h : storeF s = 0) : SmallS s := by
  obtain ⟨ho, _⟩ := storeF_zero h
  obtain ⟨d1, d2, _, _⟩ := diskF_zero (openC_zero ho).1
  have hp := (pinsF_zero (storeF_pins h)).1
  have hs := sumLens_bound s.d.rs (long_of d2)
  exact ⟨by omega, by omega, by omega⟩
theorem small0 : SmallS store0 := ⟨by decide, by decide, by decide⟩
theorem openS_small (d : DiskD) : SmallS (openS d) := by
  by_cases h : openC d = 0
  · exact small_of (openS_f h)
  · rw [openS_no h]; exact small0
def V4L (c : Int) (a1 : Option Addr) (n1 c1 : Nat) (a2 : Option Addr) (n2 c2 : Nat) (x : Int) : List Value := [.int .i64 c, .slice a1 n1 c1, .slice a2 n2 c2, .int .i64 x]
/-- The answers of the model (block p0) and of the program (block p2); between them lies what may be marked of the argument (from l1 on, ahead of h1). -/
structure TriS (w : World) (c : Int) (s g : StoreD) (p0 p2 l0 h0 l1 h1 l2 h2 : Nat) (b1 : Option Addr) (e1 : Nat) (b2 : Option Addr) (e2 : Nat) (a1 : Option Addr) (d1 : Nat) (a2 : Option Addr) (d2 : Nat) (cur : World) : Prop where
  bel : Below w.heap.size w cur
  P0 : At p0 (V4L c b1 s.ps.length e1 b2 s.d.rs.length e2 s.d.s) cur
  P2 : At p2 (V4L c a1 s.ps.length d1 a2 s.d.rs.length d2 s.d.s) cur
  R : SOwn cur l0 h0 (.slice b1 s.ps.length e1) (.slice b2 s.d.rs.length e2) s
  G : SOwn cur l2 h2 (.slice a1 s.ps.length d1) (.slice a2 s.d.rs.length d2) g
  o0 : w.heap.size ≤ l0
  o1 : h0 ≤ l1
  o2 : p0 < l1
  o3 : l1 ≤ h1
  o4 : h1 ≤ l2
  o5 : h2 ≤ p2
section
variable {w cur cur' : World} {c : Int} {s g g' : StoreD} {p0 p2 l0 h0 l1 h1 l2 h2 : Nat} {b1 b2 a1 a2 : Option Addr} {e1 e2 d1 d2 : Nat}
theorem TriS.on (h : TriS w c s g p0 p2 l0 h0 l1 h1 l2 h2 b1 e1 b2 e2 a1 d1 a2 d2 cur) (hb : Below cur.heap.size cur cur') : TriS w c s g p0 p2 l0 h0 l1 h1 l2 h2 b1 e1 b2 e2 a1 d1 a2 d2 cur' :=
  ⟨btr h.bel hb, h.P0.on hb, h.P2.on hb, h.R.below hb, h.G.below hb, h.o0, h.o1, h.o2, h.o3, h.o4, h.o5⟩
theorem TriS.arg (h : TriS w c s g p0 p2 l0 h0 l1 h1 l2 h2 b1 e1 b2 e2 a1 d1 a2 d2 cur) (hi : Inn l1 h1 cur cur') : TriS w c s g p0 p2 l0 h0 l1 h1 l2 h2 b1 e1 b2 e2 a1 d1 a2 d2 cur' := by
  have q0 := h.o0; have q1 := h.o1; have q2 := h.o2; have q3 := h.o3; have q4 := h.o4; have q5 := h.o5
  have t1 := h.R.top.1
  have t2 := h.G.top.1
  exact ⟨Inn.below h.bel hi (by omega), h.P0.inn hi (.inl (by omega)), h.P2.inn hi (.inr (by omega)), h.R.inn hi (.inl (by omega)), h.G.inn hi (.inr (by omega)), q0, q1, q2, q3, q4, q5⟩
theorem TriS.ans (h : TriS w c s g p0 p2 l0 h0 l1 h1 l2 h2 b1 e1 b2 e2 a1 d1 a2 d2 cur) (hi : Inn l2 h2 cur cur') (hg : SOwn cur' l2 h2 (.slice a1 s.ps.length d1) (.slice a2 s.d.rs.length d2) g') : TriS w c s g' p0 p2 l0 h0 l1 h1 l2 h2 b1 e1 b2 e2 a1 d1 a2 d2 cur' := by
  have q0 := h.o0; have q1 := h.o1; have q2 := h.o2; have q3 := h.o3; have q4 := h.o4; have q5 := h.o5
  have t1 := h.R.top.1
  have t2 := h.G.top.1
  exact ⟨Inn.below h.bel hi (by omega), h.P0.inn hi (.inl (by omega)), h.P2.inn hi (.inr (by omega)), h.R.inn hi (.inl (by omega)), hg, q0, q1, q2, q3, q4, q5⟩
end
end Go.Proofs.YtefgimpodhjdpaaGreatDoor
namespace Go.Proofs.YtefgimpodhjdpaaGreatDoor
open Go.ChangeShapes Go.WideShapes Go.ChangeAt Go.RowKit
set_option maxRecDepth 100000

theorem row_open {k : IntKind} {w : World} {A : Option Addr} {L C : Nat} {Z : List Int} (h1 : L ≤ C) (h2 : C ≤ maxLen) (h3 : Z.length = C) (h4 : ∀ n ∈ Z, (Lit.int k n).wf = true) (h5 : A = none → C = 0)
    (h6 : ∀ a', A = some a' → ∀ c, c < C → w.cell? (a'.add c) = some (.int k (Z.getD c 0))) : Row k w w.heap.size A L C (Z.take L) := by
  cases A with
  | none =>
    have := h5 rfl
    subst this
    obtain rfl : L = 0 := by omega
    exact ⟨by simp, fun z hz => by simp at hz, Nat.le_refl _, h2, fun h => absurd h (by omega)⟩
  | some a' => exact Row.of_open h1 h2 h3 (fun i hi => h6 a' rfl i (by omega)) h4

theorem open_grid {H : Type} {enc : TypeId × Value → H} {W : World} {a : Option Addr} {len cap : Nat} {d : DataW H} {p : List MemPlace} (h : DataW.Trod enc Tryz.prog W 0 (fun _ => true) true 25 (.slice a len cap) d p) :
    ∃ zss, Grid W W.heap.size a len cap zss ∧ ∀ zs ∈ zss, ∀ z ∈ zs, (Lit.int .u8 z).wf = true := by
  obtain ⟨fuel, hf⟩ := h
  rcases Deep.open_int_rows Tryz.underlying25 Tryz.underlying22 Tryz.underlying5 (by kernel_rfl) (by kernel_rfl) hf with ⟨hcs, _⟩ | ⟨x, l, c, A, L, C, Z, hcs, _, hl, hm, _, hx⟩
  · simp [Value.cells] at hcs
    obtain ⟨rfl, rfl, rfl⟩ := hcs
    exact ⟨[], Grid.nil _ _, fun _ h => by cases h⟩
  · simp [Value.cells] at hcs
    obtain ⟨rfl, rfl, rfl⟩ := hcs
    refine ⟨(List.range len).map fun r => (Z r).take (L r), ⟨by simp, hl, hm, fun hp => ?_⟩, fun zs hzs z hz => ?_⟩
    · have hs : x.spot = none := by
        have := World.cell?_spot (hx 0 (by omega)).1
        simpa [Addr.add] using this
      obtain ⟨b, off, spot⟩ := x
      simp at hs
      subst hs
      refine ⟨b, off, rfl, ?_, fun j hj => ?_⟩
      · have := cell_lt (hx 0 (by omega)).1
        simpa [Addr.add] using this
      · obtain ⟨q1, q2, q3, q4, q5, q6, q7⟩ := hx j (by omega)
        rw [add_plain] at q1
        refine ⟨A j, L j, C j, q1, ?_⟩
        have e : ((List.range len).map fun r => (Z r).take (L r))[j]?.getD [] = (Z j).take (L j) := by simp [hj]
        rw [e]
        exact row_open q2 q3 q4 q5 q6 (fun a' ha c hc => (q7 a' ha).2 c hc)
    · obtain ⟨r, hr, rfl⟩ := List.mem_map.1 hzs
      exact (hx r (by have := List.mem_range.1 hr; omega)).2.2.2.2.1 z (List.mem_of_mem_take hz)

end Go.Proofs.YtefgimpodhjdpaaGreatDoor
namespace Go.Proofs.YtefgimpodhjdpaaGreatDoor
open Go.Joins Go.ChangeShapes Go.WideShapes Go.RowKit Go.Deep
set_option maxRecDepth 100000

theorem disk_cells {H : Type} {enc : TypeId × Value → H} {w : World} {fuel : Nat} {cs : List Value} {x : DataW H × List MemPlace} (hl : cs.length = 2)
    (h : DataW.trod enc Tryz.prog w 0 (fun _ => true) true fuel 59 cs = some x) : ∃ (a : Option Addr) (n c : Nat) (zss : List (List Int)) (y : Int), cs = [.slice a n c, .int .i64 y] ∧ Grid w w.heap.size a n c zss ∧ ∀ zs ∈ zss, ∀ z ∈ zs, (Lit.int .u8 z).wf = true := by
  have q0 : Tryz.prog.cellsOf 25 = 1 := by kernel_rfl
  have q1 : Tryz.prog.cellsOf 2 = 1 := by kernel_rfl
  obtain ⟨xs, n, -, -, -, hlen, hx⟩ := DataW.trod_struct Tryz.underlying59 h
  match cs, hl, xs, hlen with
  | [c0, c1], _, [y0, y1], _ =>
    have h0 := hx 0 _ rfl
    have h1 := hx 1 _ rfl
    simp [q0, q1] at h0 h1
    obtain ⟨y, hy, -, -⟩ := DataW.trod_int Tryz.underlying2 h1
    simp only [List.cons.injEq, and_true] at hy
    subst hy
    have hs : ∃ a n c, c0 = .slice a n c := by
      rcases open_slice Tryz.underlying25 h0 with ⟨hcs, _⟩ | ⟨x, l, c, m, n, D, Pl, hcs, _⟩
      · simp only [List.cons.injEq, and_true] at hcs
        exact ⟨none, 0, 0, hcs⟩
      · simp only [List.cons.injEq, and_true] at hcs
        exact ⟨some x, l, c, hcs⟩
    obtain ⟨a, m, c, rfl⟩ := hs
    obtain ⟨zss, hG, hw⟩ := open_grid (d := y0.1) (p := y0.2) ⟨n, by simpa [Value.cells] using h0⟩
    exact ⟨a, m, c, zss, y, rfl, hG, hw⟩
theorem open_disk {H : Type} {enc : TypeId × Value → H} {w : World} {r : Reach} {b0 : Nat} {v : Value} {d : DataW H} {p : List MemPlace} (hv : Value.okWide Tryz.prog w r b0 59 v) (h : DataW.Trod enc Tryz.prog w 0 (fun _ => true) true 59 v d p) :
    ∃ (a : Option Addr) (n c : Nat) (t : DiskD), v = .agg #[.slice a n c, .int .i64 t.s] ∧ Grid w w.heap.size a n c t.rs ∧ ∀ zs ∈ t.rs, ∀ z ∈ zs, (Lit.int .u8 z).wf = true := by
  have hC : Tryz.prog.cellsOf 59 = 2 := by kernel_rfl
  obtain ⟨cs, rfl, hsz⟩ := okWide_struct Tryz.underlying59 hv
  obtain ⟨fuel, hf⟩ := h
  obtain ⟨a, n, c, zss, y, hq, hG, hw⟩ := disk_cells (cs := cs.toList) (by simpa using hsz.trans hC) hf
  refine ⟨a, n, c, ⟨zss, y⟩, ?_, hG, hw⟩
  have : cs = [Value.slice a n c, .int .i64 y].toArray := by rw [← hq]
  rw [this]
end Go.Proofs.YtefgimpodhjdpaaGreatDoor
namespace Go.Proofs.YtefgimpodhjdpaaGreatDoor
open Go.Joins Go.ChangeShapes Go.WideShapes Go.RowKit Go.Deep

/-- Five cells that read as a pin. -/
theorem pin_cells {H : Type} {enc : TypeId × Value → H} {P : Program} {w : World} {base : Nat} {sp : Nat → Bool} {held : Bool} {fuel : Nat} {t : TypeId} {f0 f1 f2 f3 f4 : Field} {cs : List Value} {x : DataW H × List MemPlace}
    (hs : P.underlying t = some (.struct #[f0, f1, f2, f3, f4])) (e0 : P.underlying f0.type = some .string) (e1 : P.underlying f1.type = some (.int .i64)) (e2 : P.underlying f2.type = some (.int .i64)) (e3 : P.underlying f3.type = some (.int .i64)) (e4 : P.underlying f4.type = some (.int .i64))
    (ho : [f0.offset, f1.offset, f2.offset, f3.offset, f4.offset] = [0, 1, 2, 3, 4])
    (hc : [P.cellsOf f0.type, P.cellsOf f1.type, P.cellsOf f2.type, P.cellsOf f3.type, P.cellsOf f4.type] = [1, 1, 1, 1, 1]) (hl : cs.length = 5)
    (h : DataW.trod enc P w base sp held fuel t cs = some x) : ∃ p : PinD, cs = p.vals ∧ p.n.size ≤ maxLen := by
  simp only [List.cons.injEq, and_true] at ho hc
  obtain ⟨o0, o1, o2, o3, o4⟩ := ho
  obtain ⟨q0, q1, q2, q3, q4⟩ := hc
  obtain ⟨xs, n, -, -, -, hlen, hx⟩ := DataW.trod_struct hs h
  match cs, hl, xs, hlen with
  | [c0, c1, c2, c3, c4], _, [y0, y1, y2, y3, y4], _ =>
    have h0 := hx 0 f0 rfl
    have h1 := hx 1 f1 rfl
    have h2 := hx 2 f2 rfl
    have h3 := hx 3 f3 rfl
    have h4 := hx 4 f4 rfl
    simp [o0, o1, o2, o3, o4, q0, q1, q2, q3, q4] at h0 h1 h2 h3 h4
    obtain ⟨s, hx0, -, ws⟩ := DataW.trod_string e0 h0
    obtain ⟨x1, hx1, -, -⟩ := DataW.trod_int e1 h1
    obtain ⟨x2, hx2, -, -⟩ := DataW.trod_int e2 h2
    obtain ⟨x3, hx3, -, -⟩ := DataW.trod_int e3 h3
    obtain ⟨x4, hx4, -, -⟩ := DataW.trod_int e4 h4
    simp only [List.cons.injEq, and_true] at hx0 hx1 hx2 hx3 hx4
    subst hx0; subst hx1; subst hx2; subst hx3; subst hx4
    exact ⟨⟨s, x1, x2, x3, x4⟩, rfl, ws⟩
theorem open_pin {H : Type} {enc : TypeId × Value → H} {P : Program} {w : World} {r : Reach} {b0 : Nat} {t : TypeId} {f0 f1 f2 f3 f4 : Field} {v : Value} {d : DataW H} {p : List MemPlace}
    (hs : P.underlying t = some (.struct #[f0, f1, f2, f3, f4])) (e0 : P.underlying f0.type = some .string) (e1 : P.underlying f1.type = some (.int .i64)) (e2 : P.underlying f2.type = some (.int .i64)) (e3 : P.underlying f3.type = some (.int .i64)) (e4 : P.underlying f4.type = some (.int .i64))
    (ho : [f0.offset, f1.offset, f2.offset, f3.offset, f4.offset] = [0, 1, 2, 3, 4])
    (hc : [P.cellsOf f0.type, P.cellsOf f1.type, P.cellsOf f2.type, P.cellsOf f3.type, P.cellsOf f4.type] = [1, 1, 1, 1, 1]) (hC : P.cellsOf t = 5)
    (hv : Value.okWide P w r b0 t v) (h : DataW.Trod enc P w 0 (fun _ => true) true t v d p) : ∃ q : PinD, v = P5 q ∧ q.n.size ≤ maxLen := by
  obtain ⟨cs, rfl, hsz⟩ := okWide_struct hs hv
  obtain ⟨fuel, hf⟩ := h
  obtain ⟨q, hq, hn⟩ := pin_cells hs e0 e1 e2 e3 e4 ho hc (cs := cs.toList) (by simpa using hsz.trans hC) hf
  refine ⟨q, ?_, hn⟩
  have : cs = q.vals.toArray := by rw [← hq]
  rw [this]
  rfl
theorem open_pins {H : Type} {enc : TypeId × Value → H} {P : Program} {W : World} {t e : TypeId} {f0 f1 f2 f3 f4 : Field} {a : Option Addr} {len cap : Nat} {d : DataW H} {p : List MemPlace}
    (ht : P.underlying t = some (.slice e)) (hs : P.underlying e = some (.struct #[f0, f1, f2, f3, f4])) (e0 : P.underlying f0.type = some .string) (e1 : P.underlying f1.type = some (.int .i64)) (e2 : P.underlying f2.type = some (.int .i64)) (e3 : P.underlying f3.type = some (.int .i64)) (e4 : P.underlying f4.type = some (.int .i64))
    (ho : [f0.offset, f1.offset, f2.offset, f3.offset, f4.offset] = [0, 1, 2, 3, 4])
    (hc : [P.cellsOf f0.type, P.cellsOf f1.type, P.cellsOf f2.type, P.cellsOf f3.type, P.cellsOf f4.type] = [1, 1, 1, 1, 1]) (hC : P.cellsOf e = 5)
    (h : DataW.Trod enc P W 0 (fun _ => true) true t (.slice a len cap) d p) : ∃ ps, PRow W W.heap.size a len cap ps := by
  obtain ⟨fuel, hf⟩ := h
  rcases open_slice ht hf with ⟨hcs, _⟩ | ⟨x, l, c, m, n, D, Pl, hcs, _, hl, hm, hmm, _, hx⟩
  · simp [Value.cells] at hcs
    obtain ⟨rfl, rfl, rfl⟩ := hcs
    exact ⟨[], PRow.nil _ _⟩
  · simp [Value.cells] at hcs
    obtain ⟨rfl, rfl, rfl⟩ := hcs
    have hlm : len ≤ m := by rw [hmm]; split <;> omega
    rw [hC] at hx
    have each : ∀ i, i < len → ∃ q : PinD, q.n.size ≤ maxLen ∧ ∀ j v, q.vals[j]? = some v → W.cell? (x.add (i * 5 + j)) = some v := by
      intro i hi
      obtain ⟨cs', h1, h2⟩ := hx i (by omega)
      obtain ⟨_, hlen, hcell⟩ := World.cells?_some h1
      obtain ⟨q, rfl, hq⟩ := pin_cells hs e0 e1 e2 e3 e4 ho hc hlen h2
      refine ⟨q, hq, fun j v hj => ?_⟩
      have hj5 : j < 5 := by have := (List.getElem?_eq_some_iff.1 hj).1; simpa [PinD.vals_length] using this
      have := hcell j hj5
      rw [add_add] at this
      rw [this, hj]
    obtain ⟨q, hq⟩ := choose_lt each
    refine ⟨(List.range len).map q, by simp, hl, hm, fun y hy => ?_, fun hp => ?_⟩
    · obtain ⟨r, hr, rfl⟩ := List.mem_map.1 hy
      exact (hq r (List.mem_range.1 hr)).1
    · have hc0 := (hq 0 (by omega)).2 0 _ rfl
      have hs : x.spot = none := by
        have := World.cell?_spot hc0
        simpa [Addr.add] using this
      obtain ⟨b, off, spot⟩ := x
      simp at hs
      subst hs
      refine ⟨b, off, rfl, ?_, fun j hj i v hv => ?_⟩
      · have := cell_lt hc0
        simpa [Addr.add] using this
      · have e : ((List.range len).map q)[j]?.getD pin0 = q j := by simp [hj]
        rw [e] at hv
        have := (hq j hj).2 i v hv
        rw [Addr.add_lit] at this
        rw [Nat.add_assoc]
        exact this
end Go.Proofs.YtefgimpodhjdpaaGreatDoor
