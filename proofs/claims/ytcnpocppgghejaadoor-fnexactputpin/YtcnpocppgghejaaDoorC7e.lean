/- Contracts of how a pin is found, by the program and by its model. Conditions: as each theorem states. -/
import Derived.Test.YtcnpocppgghejaaDoorC7c
import Derived.Test.YtcnpocppgghejaaDoorC7d
namespace Go.Proofs.YtcnpocppgghejaaDoor
open Go.RowKit
set_option maxRecDepth 100000
set_option linter.unusedVariables false

/-- The map that holds the first k pins. -/
structure ByName (w : World) (ps : List PinD) (k : Nat) (wr : World) : Prop where
  map : PMap wr w.heap.size (ps.take k)
  bel : Below w.heap.size w wr
theorem take_apart {ps : List PinD} (h : Apart ps) {k : Nat} (hk : k < ps.length) : ∀ q ∈ ps.take k, q.nm ≠ (ps[k]?.getD pin0).nm := by
  intro q hq
  have e : ps = ps.take k ++ (ps[k]?.getD pin0) :: ps.drop (k + 1) := by
    rw [List.getElem?_eq_getElem hk, Option.getD_some, ← List.drop_eq_getElem_cons hk, List.take_append_drop]
  rw [e] at h
  exact (List.pairwise_append.1 h).2.2 q hq _ (by simp)
theorem take_snoc {ps : List PinD} {k : Nat} (hk : k < ps.length) : ps.take k ++ [ps[k]?.getD pin0] = ps.take (k + 1) := by
  rw [List.take_succ_eq_append_getElem hk, List.getElem?_eq_getElem hk]
  rfl
theorem run_makeMap_hint (n : Int) (w : World) : (Instr.makeMap 68 (some (.int .i64 n))).run Tryd.prog w = .ok (.map (some w.heap.size)) (w.alloc (.map #[] 0)) := by
  simp [Instr.makeMap, run_underlying Tryd.underlying68, asInt, asIntOf]
theorem pinsByName_any (a : Option Addr) (len cap B : Nat) (ps : List PinD) (w : World) (hR : PRow w B a len cap ps) (hB : B ≤ w.heap.size) (hl : len ≤ 4) (ha : Apart ps) :
    Calls Tryd.prog 51 #[.slice a len cap] w fun e w' => e = .returned (.map (some w.heap.size)) ∧ PMap w' w.heap.size ps ∧ Below w.heap.size w w' := by
  have hmm := fun w => run_makeMap_hint len w
  have hL := Lib.hid hR.length
  have T0 : ByName w ps 0 (w.alloc (.map #[] 0)) := ⟨PMap.new w, bal (Below.refl _ _) _⟩
  go_enter Tryd.func51, Tryd.ntmps51
  go_wp2_with fail
  generalize w.alloc (.map #[] 0) = w1 at *
  go_loopw [11] (fun i wr => ∃ k : Nat, k ≤ len ∧ i = .int .i64 k ∧ ByName w ps k wr) (fun i _ => len - (intOf i).toNat)
  case atStart => exact ⟨0, Nat.zero_le _, rfl, T0⟩
  case round =>
    obtain ⟨k, hk, rfl, hT⟩ := hrel
    clear T0
    by_cases hlt : k < len
    · obtain ⟨b, off, hab, hbB, c0, c1, c2, c3, c4⟩ := (hR.below (hT.bel.mono hB)).at' hlt
      subst hab
      have hkp : k < ps.length := by rw [hL.out]; exact hlt
      obtain ⟨w2, hrun, M2, hturn⟩ := (hT.map.alloc (.cells #[.string (ps[k]?.getD pin0).n, .int .i64 (ps[k]?.getD pin0).a, .int .i64 (ps[k]?.getD pin0).b, .int .i64 (ps[k]?.getD pin0).e, .int .i64 (ps[k]?.getD pin0).u] 26)).store (p := ps[k]?.getD pin0) (by simp; omega) (hR.name hlt) (take_apart ha hkp)
      have b2 := turned_below hturn (bal hT.bel _) (Nat.le_refl _)
      rw [take_snoc hkp] at M2
      have T2 := Lib.hid (ByName.mk M2 b2)
      clear M2 b2 hturn hT hmm
      generalize ps[k]?.getD pin0 = p at *
      go_wp2_with fail
      go_roundw
      case rel => exact ⟨k + 1, by omega, by go_num, T2.out⟩
      case measure => simp [intOf]; omega
    · obtain rfl : k = len := by omega
      have e : ps.take k = ps := List.take_of_length_le (by rw [hL.out]; omega)
      have HM := Lib.hid (e ▸ hT.map)
      have HB := Lib.hid hT.bel
      clear hT hmm
      go_wp2_with fail
      go_ret
      exact ⟨rfl, HM.out, HB.out⟩

def fndC : Option PinD → Int
  | some _ => 0
  | none => 4
theorem findC_ok {ps : List PinD} {l : List UInt8} (h0 : pinsF ps = 0) (h1 : M.nameF l = 0) : findC ps l = fndC (findP ps (M.nrm l)) := by
  unfold findC
  rw [if_neg (fun h => h h0), if_neg (fun h => h h1)]
  cases findP ps (M.nrm l) <;> rfl
theorem nrm_size {s : ByteArray} (h : s.size ≤ 20) : (M.bs (M.nrm s.data.toList)).size ≤ maxLen := by
  have hL : s.data.toList.length = s.size := by simp
  have hb := M.bare_length s.data.toList
  rw [M.bs_size, M.nrm, Lib.toLowerA, List.length_map]
  simp only [maxLen]
  omega
abbrev R6 (c : Int) (p : PinD) : Value := .agg #[.int .i64 c, .string p.n, .int .i64 p.a, .int .i64 p.b, .int .i64 p.e, .int .i64 p.u]
def RL6 (c : Int) (p : PinD) : List Value := [.int .i64 c, .string p.n, .int .i64 p.a, .int .i64 p.b, .int .i64 p.e, .int .i64 p.u]
theorem implFindPin_any (a : Option Addr) (len cap B : Nat) (ps : List PinD) (s : ByteArray) (w : World) (hR : PRow w B a len cap ps) (hB : B ≤ w.heap.size) (hs : s.size ≤ maxLen) :
    Calls Tryd.prog 20 #[.slice a len cap, .string s] w fun e w' => e = .returned (R6 (findC ps s.data.toList) (findR ps s.data.toList)) ∧ Below w.heap.size w w' := by
  have hL := Lib.hid hR.length
  have b0 := bal (Below.refl _ w) (.cells #[.int .i64 0, .string { data := #[] }, .int .i64 0, .int .i64 0, .int .i64 0, .int .i64 0] 37)
  have A0 := At.new w [.int .i64 0, .string { data := #[] }, .int .i64 0, .int .i64 0, .int .i64 0, .int .i64 0] 37
  have F := implPinsFault_any a len cap B ps _ (hR.below (b0.mono hB)) (Nat.le_trans hB b0.size)
  by_cases h0 : pinsF ps = 0
  case neg =>
    rw [show findC ps s.data.toList = pinsF ps by simp [findC, h0], show findR ps s.data.toList = pin0 by simp [findR, h0]]
    generalize pinsF ps = c at *
    clear hR
    go_enter Tryd.func20, Tryd.ntmps20
    go_wp2_with fail
    generalize w.alloc (.cells #[.int .i64 0, .string { data := #[] }, .int .i64 0, .int .i64 0, .int .i64 0, .int .i64 0] 37) = W0 at *
    refine F.mono ?_
    rintro r u1 ⟨rfl, b1⟩
    have q0 := (A0.on b1).cell 0 _ rfl
    have q1 := (A0.on b1).cell 1 _ rfl
    have q2 := (A0.on b1).cell 2 _ rfl
    have q3 := (A0.on b1).cell 3 _ rfl
    have q4 := (A0.on b1).cell 4 _ rfl
    have q5 := (A0.on b1).cell 5 _ rfl
    have z0 := (A0.on b1).free 0 _ rfl
    have z1 := (A0.on b1).free 1 _ rfl
    have z2 := (A0.on b1).free 2 _ rfl
    have z3 := (A0.on b1).free 3 _ rfl
    have z4 := (A0.on b1).free 4 _ rfl
    have z5 := (A0.on b1).free 5 _ rfl
    have B1 := btr b0 b1
    clear A0 b0 b1 F
    go_wp2_with fail
    refine bodyPost_ret (v := R6 c ⟨{ data := #[] }, 0, 0, 0, 0⟩) (by simp [results, Tryd.results20, go_sem, q0, q1, q2, q3, q4, q5]) rfl ⟨rfl, ?_⟩
    exact (by (iterate 6 (refine bset ?_ (by dsimp only; omega) _)); exact B1)
  rw [h0] at F
  obtain ⟨hl4, hgood, hrise⟩ := pinsF_zero h0
  have N0 := fun w => implNameFault_any s w hs
  by_cases h1 : M.nameF s.data.toList = 0
  case neg =>
    rw [show findC ps s.data.toList = M.nameF s.data.toList by simp [findC, h0, h1], show findR ps s.data.toList = pin0 by simp [findR, h0, h1]]
    generalize M.nameF s.data.toList = c at *
    clear hR
    go_enter Tryd.func20, Tryd.ntmps20
    go_wp2_with fail
    generalize w.alloc (.cells #[.int .i64 0, .string { data := #[] }, .int .i64 0, .int .i64 0, .int .i64 0, .int .i64 0] 37) = W0 at *
    refine F.mono ?_
    rintro r u1 ⟨rfl, b1⟩
    have q0 := (A0.on b1).cell 0 _ rfl
    have q1 := (A0.on b1).cell 1 _ rfl
    have q2 := (A0.on b1).cell 2 _ rfl
    have q3 := (A0.on b1).cell 3 _ rfl
    have q4 := (A0.on b1).cell 4 _ rfl
    have q5 := (A0.on b1).cell 5 _ rfl
    have z0 := (A0.on b1).free 0 _ rfl
    have z1 := (A0.on b1).free 1 _ rfl
    have z2 := (A0.on b1).free 2 _ rfl
    have z3 := (A0.on b1).free 3 _ rfl
    have z4 := (A0.on b1).free 4 _ rfl
    have z5 := (A0.on b1).free 5 _ rfl
    have B1 := btr b0 b1
    clear A0 b0 b1 F
    go_wp2_with fail
    refine (N0 _).mono ?_
    rintro r w' ⟨rfl, rfl⟩
    go_wp2_with fail
    refine bodyPost_ret (v := R6 c ⟨{ data := #[] }, 0, 0, 0, 0⟩) (by simp [results, Tryd.results20, go_sem, q0, q1, q2, q3, q4, q5]) rfl ⟨rfl, ?_⟩
    exact (by (iterate 6 (refine bset ?_ (by dsimp only; omega) _)); exact B1)
  rw [h1] at N0
  obtain ⟨h20, hm⟩ := M.nameF_zero h1
  have hsz : s.data.toList.length = s.size := by simp
  have NT := fun w => normalText_any s w (by omega) hm
  have hns : (M.bs (M.nrm s.data.toList)).size ≤ maxLen := nrm_size (by omega)
  have LK := Lib.hid (fun (w : World) (b : Nat) (h : PMap w b ps) => h.look (s := M.bs (M.nrm s.data.toList)) hns)
  rw [M.bs_list] at LK
  have BN := Lib.hid (fun (w1 : World) (h : Below w.heap.size w w1) => pinsByName_any a len cap B ps w1 (hR.below (h.mono hB)) (Nat.le_trans hB h.size) (by have := hL.out; omega) hrise.apart)
  have EC := findC_ok (l := s.data.toList) h0 h1
  have ER : findR ps s.data.toList = (findP ps (M.nrm s.data.toList)).getD pin0 := by simp [findR, h0, h1]
  rw [EC, ER]
  clear EC ER
  generalize M.bs (M.nrm s.data.toList) = S2 at *
  generalize findP ps (M.nrm s.data.toList) = o at *
  clear hR h0 h1 hgood hrise
  go_enter Tryd.func20, Tryd.ntmps20
  go_wp2_with fail
  generalize w.alloc (.cells #[.int .i64 0, .string { data := #[] }, .int .i64 0, .int .i64 0, .int .i64 0, .int .i64 0] 37) = W0 at *
  refine F.mono ?_
  rintro r u1 ⟨rfl, b1⟩
  have A1 := A0.on b1
  have B0 := btr b0 b1
  clear A0 b0 b1 F
  go_wp2_with fail
  refine (N0 _).mono ?_
  rintro r w' ⟨rfl, rfl⟩
  go_wp2_with fail
  refine (BN.out _ B0).mono ?_
  rintro r u2 ⟨rfl, M2, b2⟩
  go_wp2_with fail
  refine (NT _).mono ?_
  rintro r u3 ⟨rfl, b3⟩
  have M3 := M2.on b3
  have lk := LK.out _ _ M3
  have bb := btr b2 b3
  have B1 := btr B0 bb
  have q0 := (A1.on bb).cell 0 _ rfl
  have q1 := (A1.on bb).cell 1 _ rfl
  have q2 := (A1.on bb).cell 2 _ rfl
  have q3 := (A1.on bb).cell 3 _ rfl
  have q4 := (A1.on bb).cell 4 _ rfl
  have q5 := (A1.on bb).cell 5 _ rfl
  have z0 := (A1.on bb).free 0 _ rfl
  have z1 := (A1.on bb).free 1 _ rfl
  have z2 := (A1.on bb).free 2 _ rfl
  have z3 := (A1.on bb).free 3 _ rfl
  have z4 := (A1.on bb).free 4 _ rfl
  have z5 := (A1.on bb).free 5 _ rfl
  have lt3 : w.heap.size < u3.heap.size := (A1.on bb).lt (by simp)
  clear BN NT N0 LK M2 M3 A1 B0 b2 b3 bb
  cases o with
  | none =>
    go_wp2_with fail
    refine bodyPost_ret (v := R6 4 ⟨{ data := #[] }, 0, 0, 0, 0⟩) (by simp [results, Tryd.results20, go_sem, q0, q1, q2, q3, q4, q5, lt3]) rfl ⟨rfl, ?_⟩
    exact bal (by (iterate 6 (refine bset ?_ (by dsimp only; omega) _)); exact B1) _
  | some p =>
    go_wp2_with fail
    refine bodyPost_ret (v := R6 0 p) (by simp [results, Tryd.results20, go_sem, q0, q1, q2, q3, q4, q5, lt3]) rfl ⟨rfl, ?_⟩
    exact bal (by (iterate 6 (refine bset ?_ (by dsimp only; omega) _)); exact B1) _

/-- The place of the first pin of a name, from place i on. -/
def atI : List PinD → List UInt8 → Int → Int
  | [], _, _ => -1
  | p :: r, l, i => if p.nm = l then i else atI r l (i + 1)
theorem atI_step {ps : List PinD} {k : Nat} (hk : k < ps.length) (l : List UInt8) (i : Int) : atI (ps.drop k) l i = if (ps[k]?.getD pin0).nm = l then i else atI (ps.drop (k + 1)) l (i + 1) := by
  have e : ps.drop k = (ps[k]?.getD pin0) :: ps.drop (k + 1) := by
    rw [List.drop_eq_getElem_cons hk, List.getElem?_eq_getElem hk]
    rfl
  rw [e]
  rfl
theorem atI_spec : ∀ (ps : List PinD) (l : List UInt8) (i : Int), (findP ps l = none ∧ atI ps l i = -1) ∨ ∃ k : Nat, k < ps.length ∧ atI ps l i = i + k ∧ findP ps l = some (ps[k]?.getD pin0)
  | [], l, i => .inl ⟨rfl, rfl⟩
  | p :: r, l, i => by
    by_cases h : p.nm = l
    · refine .inr ⟨0, by simp, ?_, ?_⟩
      · rw [atI, if_pos h]; simp
      · simp [findP, h]
    · have ef : findP (p :: r) l = findP r l := by simp [findP, h]
      rw [ef, atI, if_neg h]
      rcases atI_spec r l (i + 1) with h1 | ⟨k, hk, h1, h2⟩
      · exact .inl h1
      · exact .inr ⟨k + 1, by simpa using hk, by rw [h1]; push_cast; omega, by simpa using h2⟩
def AtRel (w : World) (ps : List PinD) (l : List UInt8) (t : Int) (k : Nat) (wr : World) : Prop := atI (ps.drop k) l k = t ∧ Below w.heap.size w wr
theorem l7At_any (a : Option Addr) (len cap B : Nat) (ps : List PinD) (s : ByteArray) (w : World) (hR : PRow w B a len cap ps) (hB : B ≤ w.heap.size) :
    Calls Tryd.prog 48 #[.slice a len cap, .string s] w fun e w' => e = .returned (.int .i64 (atI ps s.data.toList 0)) ∧ Below w.heap.size w w' := by
  have hf := hR.fits
  have hm := hR.most
  unfold maxLen at hm
  have hL := Lib.hid hR.length
  have T0 : AtRel w ps s.data.toList (atI ps s.data.toList 0) 0 w := ⟨rfl, Below.refl _ _⟩
  generalize atI ps s.data.toList 0 = t at *
  go_enter Tryd.func48, Tryd.ntmps48
  go_wp2_with fail
  go_loopw [5] (fun i wr => ∃ k : Nat, k ≤ len ∧ i = .int .i64 k ∧ AtRel w ps s.data.toList t k wr) (fun i _ => len - (intOf i).toNat)
  case atStart => exact ⟨0, Nat.zero_le _, rfl, T0⟩
  case round =>
    obtain ⟨k, hk, rfl, ht, hb⟩ := hrel
    clear T0
    by_cases hlt : k < len
    · obtain ⟨b, off, hab, hbB, c0, -⟩ := (hR.below (hb.mono hB)).at' hlt
      subst hab
      rw [atI_step (by rw [hL.out]; exact hlt)] at ht
      have Q : ((ps[k]?.getD pin0).n.toList == s.toList) = decide ((ps[k]?.getD pin0).nm = s.data.toList) := text_beq (ps[k]?.getD pin0).n s
      have HB := Lib.hid hb
      by_cases h1 : (ps[k]?.getD pin0).nm = s.data.toList
      · rw [if_pos h1] at ht
        rw [decide_eq_true h1] at Q
        subst ht
        clear h1 hb
        generalize ps[k]?.getD pin0 = p at *
        go_wp2_with fail
        go_ret
        exact ⟨rfl, HB.out⟩
      · rw [if_neg h1] at ht
        rw [decide_eq_false h1] at Q
        have HT := Lib.hid ht
        clear h1 ht hb
        generalize ps[k]?.getD pin0 = p at *
        go_wp2_with fail
        go_roundw
        case rel => exact ⟨k + 1, by omega, by go_num, HT.out, HB.out⟩
        case measure => simp [intOf]; omega
    · obtain rfl : k = len := by omega
      have e : ps.drop k = [] := List.drop_of_length_le (by rw [hL.out]; omega)
      rw [e] at ht
      have ht' : -1 = t := ht
      subst ht'
      go_wp2_with fail
      go_ret
      exact ⟨rfl, hb⟩

theorem specFindPin_any (a : Option Addr) (len cap B : Nat) (ps : List PinD) (s : ByteArray) (w : World) (hR : PRow w B a len cap ps) (hB : B ≤ w.heap.size) (hs : s.size ≤ maxLen) :
    Calls Tryd.prog 19 #[.slice a len cap, .string s] w fun e w' => e = .returned (R6 (findC ps s.data.toList) (findR ps s.data.toList)) ∧ Below w.heap.size w w' := by
  have hL := Lib.hid hR.length
  have hm := hR.most
  have hfit := hR.fits
  unfold maxLen at hm
  have b0 := bal (Below.refl _ w) (.cells #[.int .i64 0, .string { data := #[] }, .int .i64 0, .int .i64 0, .int .i64 0, .int .i64 0] 37)
  have A0 := At.new w [.int .i64 0, .string { data := #[] }, .int .i64 0, .int .i64 0, .int .i64 0, .int .i64 0] 37
  have F := l7Pins_any a len cap B ps _ (hR.below (b0.mono hB)) (Nat.le_trans hB b0.size)
  by_cases h0 : pinsF ps = 0
  case neg =>
    rw [show findC ps s.data.toList = pinsF ps by simp [findC, h0], show findR ps s.data.toList = pin0 by simp [findR, h0]]
    generalize pinsF ps = c at *
    clear hR
    go_enter Tryd.func19, Tryd.ntmps19
    go_wp2_with fail
    generalize w.alloc (.cells #[.int .i64 0, .string { data := #[] }, .int .i64 0, .int .i64 0, .int .i64 0, .int .i64 0] 37) = W0 at *
    refine F.mono ?_
    rintro r u1 ⟨rfl, b1⟩
    have q0 := (A0.on b1).cell 0 _ rfl
    have q1 := (A0.on b1).cell 1 _ rfl
    have q2 := (A0.on b1).cell 2 _ rfl
    have q3 := (A0.on b1).cell 3 _ rfl
    have q4 := (A0.on b1).cell 4 _ rfl
    have q5 := (A0.on b1).cell 5 _ rfl
    have z0 := (A0.on b1).free 0 _ rfl
    have z1 := (A0.on b1).free 1 _ rfl
    have z2 := (A0.on b1).free 2 _ rfl
    have z3 := (A0.on b1).free 3 _ rfl
    have z4 := (A0.on b1).free 4 _ rfl
    have z5 := (A0.on b1).free 5 _ rfl
    have B1 := btr b0 b1
    clear A0 b0 b1 F
    go_wp2_with fail
    refine bodyPost_ret (v := R6 c ⟨{ data := #[] }, 0, 0, 0, 0⟩) (by simp [results, Tryd.results19, go_sem, q0, q1, q2, q3, q4, q5]) rfl ⟨rfl, ?_⟩
    exact (by (iterate 6 (refine bset ?_ (by dsimp only; omega) _)); exact B1)
  rw [h0] at F
  have N0 := fun w => l5Fault_any s w hs
  by_cases h1 : M.nameF s.data.toList = 0
  case neg =>
    rw [show findC ps s.data.toList = M.nameF s.data.toList by simp [findC, h0, h1], show findR ps s.data.toList = pin0 by simp [findR, h0, h1]]
    generalize M.nameF s.data.toList = c at *
    clear hR
    go_enter Tryd.func19, Tryd.ntmps19
    go_wp2_with fail
    generalize w.alloc (.cells #[.int .i64 0, .string { data := #[] }, .int .i64 0, .int .i64 0, .int .i64 0, .int .i64 0] 37) = W0 at *
    refine F.mono ?_
    rintro r u1 ⟨rfl, b1⟩
    go_wp2_with fail
    refine (N0 _).mono ?_
    rintro r u2 ⟨rfl, b2⟩
    have bb := btr b1 b2
    have q0 := (A0.on bb).cell 0 _ rfl
    have q1 := (A0.on bb).cell 1 _ rfl
    have q2 := (A0.on bb).cell 2 _ rfl
    have q3 := (A0.on bb).cell 3 _ rfl
    have q4 := (A0.on bb).cell 4 _ rfl
    have q5 := (A0.on bb).cell 5 _ rfl
    have z0 := (A0.on bb).free 0 _ rfl
    have z1 := (A0.on bb).free 1 _ rfl
    have z2 := (A0.on bb).free 2 _ rfl
    have z3 := (A0.on bb).free 3 _ rfl
    have z4 := (A0.on bb).free 4 _ rfl
    have z5 := (A0.on bb).free 5 _ rfl
    have B1 := btr b0 bb
    clear A0 b0 b1 b2 bb F
    go_wp2_with fail
    refine bodyPost_ret (v := R6 c ⟨{ data := #[] }, 0, 0, 0, 0⟩) (by simp [results, Tryd.results19, go_sem, q0, q1, q2, q3, q4, q5]) rfl ⟨rfl, ?_⟩
    exact (by (iterate 6 (refine bset ?_ (by dsimp only; omega) _)); exact B1)
  rw [h1] at N0
  obtain ⟨h20, hm20⟩ := M.nameF_zero h1
  have hsz : s.data.toList.length = s.size := by simp
  have NT := fun w => l5Normal_any s w (by omega)
  have EC := findC_ok (l := s.data.toList) h0 h1
  have ER : findR ps s.data.toList = (findP ps (M.nrm s.data.toList)).getD pin0 := by simp [findR, h0, h1]
  rw [EC, ER]
  have AT := Lib.hid (fun (w1 : World) (h : Below w.heap.size w w1) => l7At_any a len cap B ps (M.bs (M.nrm s.data.toList)) w1 (hR.below (h.mono hB)) (Nat.le_trans hB h.size))
  have AS := atI_spec ps (M.nrm s.data.toList) 0
  rw [M.bs_list] at AT
  clear EC ER
  generalize M.bs (M.nrm s.data.toList) = S2 at *
  generalize atI ps (M.nrm s.data.toList) 0 = t at *
  generalize findP ps (M.nrm s.data.toList) = o at *
  have HR := Lib.hid hR
  clear hR h0 h1
  rcases AS with ⟨rfl, rfl⟩ | ⟨k, hk, rfl, rfl⟩
  · go_enter Tryd.func19, Tryd.ntmps19
    go_wp2_with fail
    generalize w.alloc (.cells #[.int .i64 0, .string { data := #[] }, .int .i64 0, .int .i64 0, .int .i64 0, .int .i64 0] 37) = W0 at *
    refine F.mono ?_
    rintro r u1 ⟨rfl, b1⟩
    go_wp2_with fail
    refine (N0 _).mono ?_
    rintro r u2 ⟨rfl, b2⟩
    go_wp2_with fail
    refine (NT _).mono ?_
    rintro r u3 ⟨rfl, b3⟩
    have bb := btr b1 (btr b2 b3)
    have A1 := A0.on bb
    have B0 := btr b0 bb
    clear A0 b0 b1 b2 b3 bb F N0 NT
    go_wp2_with fail
    refine (AT.out _ B0).mono ?_
    rintro r u4 ⟨rfl, b4⟩
    have B1 := btr B0 b4
    have q0 := (A1.on b4).cell 0 _ rfl
    have q1 := (A1.on b4).cell 1 _ rfl
    have q2 := (A1.on b4).cell 2 _ rfl
    have q3 := (A1.on b4).cell 3 _ rfl
    have q4 := (A1.on b4).cell 4 _ rfl
    have q5 := (A1.on b4).cell 5 _ rfl
    have z0 := (A1.on b4).free 0 _ rfl
    have z1 := (A1.on b4).free 1 _ rfl
    have z2 := (A1.on b4).free 2 _ rfl
    have z3 := (A1.on b4).free 3 _ rfl
    have z4 := (A1.on b4).free 4 _ rfl
    have z5 := (A1.on b4).free 5 _ rfl
    clear A1 B0 b4 AT
    go_wp2_with fail
    refine bodyPost_ret (v := R6 4 ⟨{ data := #[] }, 0, 0, 0, 0⟩) (by simp [results, Tryd.results19, go_sem, q0, q1, q2, q3, q4, q5]) rfl ⟨rfl, ?_⟩
    exact (by (iterate 6 (refine bset ?_ (by dsimp only; omega) _)); exact B1)
  · have hkl : k < len := by rw [← hL.out]; exact hk
    obtain ⟨b, off, ha, -⟩ := HR.out.at' hkl
    subst ha
    have hk0 : ¬ (0 : Int) + k < 0 := by omega
    have hk1 : ¬ (k : Int) < 0 := by omega
    go_enter Tryd.func19, Tryd.ntmps19
    go_wp2_with fail
    generalize w.alloc (.cells #[.int .i64 0, .string { data := #[] }, .int .i64 0, .int .i64 0, .int .i64 0, .int .i64 0] 37) = W0 at *
    refine F.mono ?_
    rintro r u1 ⟨rfl, b1⟩
    go_wp2_with fail
    refine (N0 _).mono ?_
    rintro r u2 ⟨rfl, b2⟩
    go_wp2_with fail
    refine (NT _).mono ?_
    rintro r u3 ⟨rfl, b3⟩
    have bb := btr b1 (btr b2 b3)
    have A1 := A0.on bb
    have B0 := btr b0 bb
    clear A0 b0 b1 b2 b3 bb F N0 NT
    go_wp2_with fail
    refine (AT.out _ B0).mono ?_
    rintro r u4 ⟨rfl, b4⟩
    have B1 := btr B0 b4
    have q0 := (A1.on b4).cell 0 _ rfl
    have q1 := (A1.on b4).cell 1 _ rfl
    have q2 := (A1.on b4).cell 2 _ rfl
    have q3 := (A1.on b4).cell 3 _ rfl
    have q4 := (A1.on b4).cell 4 _ rfl
    have q5 := (A1.on b4).cell 5 _ rfl
    have z0 := (A1.on b4).free 0 _ rfl
    have z1 := (A1.on b4).free 1 _ rfl
    have z2 := (A1.on b4).free 2 _ rfl
    have z3 := (A1.on b4).free 3 _ rfl
    have z4 := (A1.on b4).free 4 _ rfl
    have z5 := (A1.on b4).free 5 _ rfl
    clear A1 B0 b4 AT
    obtain ⟨b', off', ha', hbB', c0, c1, c2, c3, c4⟩ := (HR.out.below (B1.mono hB)).at' hkl
    injection ha' with ha'
    injection ha' with e1 e2
    subst e1
    subst e2
    generalize hp : ps[k]?.getD pin0 = p at *
    go_wp2_with fail
    refine bodyPost_ret (v := R6 0 p) (by simp [results, Tryd.results19, go_sem, q0, q1, q2, q3, q4, q5]) rfl ⟨by rw [hp]; rfl, ?_⟩
    exact (by (iterate 6 (refine bset ?_ (by dsimp only; omega) _)); exact B1)
end Go.Proofs.YtcnpocppgghejaaDoor
