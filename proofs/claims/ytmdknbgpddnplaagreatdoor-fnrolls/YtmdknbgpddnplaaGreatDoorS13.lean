/- Texts of this seat that several laws rest on, laid into one. Conditions: as each theorem states. -/
import Derived.Test.YtmdknbgpddnplaaGreatDoorS2
import Derived.Test.YtmdknbgpddnplaaGreatDoorS4
import Derived.Test.YtmdknbgpddnplaaGreatDoorS5
import Derived.Test.YtmdknbgpddnplaaGreatDoorS9
import Derived.Test.YtmdknbgpddnplaaGreatDoorS11
import Derived.Test.YtmdknbgpddnplaaGreatDoorS12
import Derived.Laws.StructEq
namespace Go.Proofs.YtmdknbgpddnplaaGreatDoor
open Go.RowKit
set_option maxRecDepth 100000
set_option linter.unusedVariables false

def pinEq (p q : PinD) : Bool := decide (p.n.toList = q.n.toList ∧ p.a = q.a ∧ p.b = q.b ∧ p.e = q.e ∧ p.u = q.u)
theorem pinEq_iff (p q : PinD) : pinEq p q = true ↔ p = q := by
  obtain ⟨n, a, b, e, u⟩ := p
  obtain ⟨n', a', b', e', u'⟩ := q
  simp only [pinEq, decide_eq_true_eq, PinD.mk.injEq, ByteArray.toList_eq]
  exact ⟨fun ⟨h, r⟩ => ⟨nm_inj h, r⟩, fun ⟨h, r⟩ => ⟨by rw [h], r⟩⟩
theorem pinEq_self (p : PinD) : pinEq p p = true := (pinEq_iff p p).2 rfl
theorem pin_eq (p q : PinD) (w : World) : (Op.equalIn 10000 25 (P5 p) (P5 q)).run Tryz.prog w = .ok (pinEq p q) w := by
  have u3 := Tryz.underlying2
  have a3 := Tryz.isAgg2
  have z3 := Tryz.sizeOf2
  have u9 := Tryz.underlying9
  have a9 := Tryz.isAgg9
  have z9 := Tryz.sizeOf9
  have hS : Tryz.prog.underlying 25 = some (.struct (Tryz.prog.fieldsOf 25)) := by kernel_rfl
  have hp : Tryz.prog.stoodInHeld 25 = false := by kernel_rfl
  rw [show (10000 : Nat) = 9999 + 1 from rfl, run_equalIn_agg w 9999 25 _ _ hS hp]
  simp only [Program.fieldsOf, Tryz.underlying25]
  go_simp
  unfold pinEq
  by_cases h0 : p.n.toList = q.n.toList <;> by_cases h1 : p.a = q.a <;> by_cases h2 : p.b = q.b <;> by_cases h3 : p.e = q.e <;> by_cases h4 : p.u = q.u <;> simp only [h0, h1, h2, h3, h4, if_true, if_false, and_true, and_false, and_self, decide_true, decide_false]
theorem pin_neq (p q : PinD) (w : World) : (binOp .neq 25 (P5 p) (P5 q)).run Tryz.prog w = .ok (.bool (!pinEq p q)) w := by
  rw [run_neq_struct, pin_eq]
  rfl
theorem pin_eql (p q : PinD) (w : World) : (binOp .eql 25 (P5 p) (P5 q)).run Tryz.prog w = .ok (.bool (pinEq p q)) w := by
  rw [run_eql_struct, pin_eq]
  rfl
theorem pin_guard (op : BinOp) (x y : Operand) (p q : PinD) (w : World) : (eqGuard op 25 x y (P5 p) (P5 q)).run Tryz.prog w = .ok () w := run_eqGuard_agg w op 25 x y _ _ (by kernel_rfl)

def sameL : List PinD → List PinD → Bool
  | [], [] => true
  | p :: r, q :: s => pinEq p q && sameL r s
  | _, _ => false
theorem sameL_self : ∀ ps : List PinD, sameL ps ps = true
  | [] => rfl
  | p :: r => by rw [sameL, pinEq_self, sameL_self r]; rfl
theorem sameL_len : ∀ {ps qs : List PinD}, ps.length ≠ qs.length → sameL ps qs = false
  | [], [], h => absurd rfl h
  | [], _ :: _, _ => rfl
  | _ :: _, [], _ => rfl
  | p :: r, q :: s, h => by rw [sameL, sameL_len (ps := r) (qs := s) (by simpa using h), Bool.and_false]
theorem sameL_step {ps qs : List PinD} {k : Nat} (h1 : k < ps.length) (h2 : k < qs.length) : sameL (ps.drop k) (qs.drop k) = (pinEq (ps[k]?.getD pin0) (qs[k]?.getD pin0) && sameL (ps.drop (k + 1)) (qs.drop (k + 1))) := by
  have e : ∀ {ps : List PinD}, k < ps.length → ps.drop k = (ps[k]?.getD pin0) :: ps.drop (k + 1) := fun hk => by
    rw [List.drop_eq_getElem_cons hk, List.getElem?_eq_getElem hk]
    rfl
  rw [e h1, e h2]
  rfl
def SameRel (w : World) (ps qs : List PinD) (t : Bool) (k : Nat) (wr : World) : Prop := sameL (ps.drop k) (qs.drop k) = t ∧ Below w.heap.size w wr
theorem slicesEqual_any (a b : Option Addr) (n m c1 c2 B : Nat) (ps qs : List PinD) (w : World) (hR : PRow w B a n c1 ps) (hQ : PRow w B b m c2 qs) (hB : B ≤ w.heap.size) :
    Calls Tryz.prog 84 #[.slice a n c1, .slice b m c2] w fun e w' => e = .returned (.bool (sameL ps qs)) ∧ Below w.heap.size w w' := by
  have f1 := hR.fits
  have m1 := hR.most
  have f2 := hQ.fits
  have m2 := hQ.most
  unfold maxLen at m1 m2
  have L1 := Lib.hid hR.length
  have L2 := Lib.hid hQ.length
  by_cases hnm : n = m
  · subst hnm
    have T0 : SameRel w ps qs (sameL ps qs) 0 w := ⟨rfl, Below.refl _ _⟩
    generalize sameL ps qs = t at *
    go_enter Tryz.func84, Tryz.ntmps84
    go_wp2_with fail
    go_loopw [13] (fun i wr => ∃ k : Nat, k ≤ n ∧ i = .int .i64 k ∧ SameRel w ps qs t k wr) (fun i _ => n - (intOf i).toNat)
    case atStart => exact ⟨0, Nat.zero_le _, rfl, T0⟩
    case round =>
      obtain ⟨k, hk, rfl, ht, hb⟩ := hrel
      by_cases hlt : k < n
      · obtain ⟨b1, o1, ha1, hb1, c0, c1, c2, c3, c4⟩ := (hR.below (hb.mono hB)).at' hlt
        obtain ⟨b2, o2, ha2, hb2, d0, d1, d2, d3, d4⟩ := (hQ.below (hb.mono hB)).at' hlt
        have hs := sameL_step (k := k) (ps := ps) (qs := qs) (by rw [L1.out]; exact hlt) (by rw [L2.out]; exact hlt)
        rw [ht] at hs
        have N := fun w => pin_neq (ps[k]?.getD pin0) (qs[k]?.getD pin0) w
        have G := fun op x y w => pin_guard op x y (ps[k]?.getD pin0) (qs[k]?.getD pin0) w
        have HB := Lib.hid hb
        clear hb hR hQ ht T0
        subst ha1
        subst ha2
        generalize ps[k]?.getD pin0 = p at *
        generalize qs[k]?.getD pin0 = q at *
        generalize pinEq p q = c at *
        cases c
        · rw [Bool.false_and] at hs
          subst hs
          go_wp2_with fail
          refine wp_region_line (Bel wr) [(0, true), (1, true), (2, true), (3, true), (4, true), (5, true), (6, true), (7, true), (8, true)] (by kernel_rfl) (by kernel_rfl) (fun _ _ d _ _ h => by cases d <;> exact h) (Bel.drew wr) ?_
          have hst := Bel.drew wr
          have inst : Nonempty (Of (Bel wr)) := ⟨⟨_, hst⟩⟩
          have q0 := bel_cell c0
          have q1 := bel_cell c1
          have q2 := bel_cell c2
          have q3 := bel_cell c3
          have q4 := bel_cell c4
          have y0 := bel_cell d0
          have y1 := bel_cell d1
          have y2 := bel_cell d2
          have y3 := bel_cell d3
          have y4 := bel_cell d4
          iterate 9 (refine line_read rfl (by kernel_rfl) (fun K hK => ?_); go_big_quiet_op; refine hK _ ?_; clear hK K)
          refine line_nil ?_
          have bb := btr HB.out hst.out
          clear hst inst q0 q1 q2 q3 q4 y0 y1 y2 y3 y4 c0 c1 c2 c3 c4 d0 d1 d2 d3 d4 HB N G
          go_wp2_with fail
          go_ret
          exact ⟨rfl, bb⟩
        · rw [Bool.true_and] at hs
          have HS := Lib.hid hs
          clear hs
          go_wp2_with fail
          refine wp_region_line (Bel wr) [(0, true), (1, true), (2, true), (3, true), (4, true), (5, true), (6, true), (7, true), (8, true)] (by kernel_rfl) (by kernel_rfl) (fun _ _ d _ _ h => by cases d <;> exact h) (Bel.drew wr) ?_
          have hst := Bel.drew wr
          have inst : Nonempty (Of (Bel wr)) := ⟨⟨_, hst⟩⟩
          have q0 := bel_cell c0
          have q1 := bel_cell c1
          have q2 := bel_cell c2
          have q3 := bel_cell c3
          have q4 := bel_cell c4
          have y0 := bel_cell d0
          have y1 := bel_cell d1
          have y2 := bel_cell d2
          have y3 := bel_cell d3
          have y4 := bel_cell d4
          iterate 9 (refine line_read rfl (by kernel_rfl) (fun K hK => ?_); go_big_quiet_op; refine hK _ ?_; clear hK K)
          refine line_nil ?_
          have bb := btr HB.out hst.out
          clear hst inst q0 q1 q2 q3 q4 y0 y1 y2 y3 y4 c0 c1 c2 c3 c4 d0 d1 d2 d3 d4 HB N G
          go_wp2_with fail
          go_roundw
          case rel => exact ⟨k + 1, by omega, by go_num, HS.out.symm, bb⟩
          case measure => simp [intOf]; omega
      · obtain rfl : k = n := by omega
        have e1 : ps.drop k = [] := List.drop_of_length_le (by rw [L1.out]; omega)
        have e2 : qs.drop k = [] := List.drop_of_length_le (by rw [L2.out]; omega)
        rw [e1, e2] at ht
        have ht' : true = t := ht
        subst ht'
        clear ht e1 e2
        go_wp2_with fail
        go_ret
        exact ⟨rfl, hb⟩
  · have hl : ps.length ≠ qs.length := by rw [L1.out, L2.out]; exact hnm
    rw [sameL_len hl]
    have hnm' : ((n : Int) == (m : Int)) = false := by
      rw [beq_eq_false_iff_ne]
      omega
    clear hR hQ hl
    go_enter Tryz.func84, Tryz.ntmps84
    go_wp2_with fail
    go_ret
    exact ⟨rfl, Below.refl _ _⟩
theorem implSamePins_any (a b : Option Addr) (n m c1 c2 B : Nat) (ps qs : List PinD) (w : World) (hR : PRow w B a n c1 ps) (hQ : PRow w B b m c2 qs) (hB : B ≤ w.heap.size) :
    Calls Tryz.prog 26 #[.slice a n c1, .slice b m c2] w fun e w' => e = .returned (.bool (sameL ps qs)) ∧ Below w.heap.size w w' := by
  have S := slicesEqual_any a b n m c1 c2 B ps qs w hR hQ hB
  generalize sameL ps qs = t at *
  clear hR hQ
  go_enter Tryz.func26, Tryz.ntmps26
  go_wp2_with fail
  refine S.mono ?_
  rintro r u1 ⟨rfl, b1⟩
  go_wp2_with fail
  go_ret
  exact ⟨rfl, b1⟩
end Go.Proofs.YtmdknbgpddnplaaGreatDoor
namespace Go.Proofs.YtmdknbgpddnplaaGreatDoor
open Go.RowKit
set_option maxRecDepth 100000
set_option linter.unusedVariables false

theorem two_back7 {x y : Int} (hx : M.byteB x) (hy : M.byteB y) : M.two (256 * x + y) = [x, y] := by
  unfold M.byteB at hx hy
  unfold M.two
  congr 1
  · omega
  · congr 1
    omega
theorem byte_back7 {z : Int} (h : M.byteB z) : ((UInt8.ofNat z.toNat).toNat : Int) = z := by
  unfold M.byteB at h
  simp
  omega
theorem pin_pack {zs : List Int} (hb : ∀ z ∈ zs, M.byteB z) (h : pinOk zs = true) : (pinZ zs).f = 0 ∧ packPL (pinZ zs) = zs := by
  simp only [pinOk, Bool.and_eq_true, decide_eq_true_eq] at h
  obtain ⟨h7, hf⟩ := h
  refine ⟨hf, ?_⟩
  unfold packPL
  rw [if_pos hf]
  match zs, h7, hb with
  | z0 :: z1 :: z2 :: z3 :: z4 :: z5 :: z6 :: r, _, hb =>
    have ht : M.textL (M.bs (r.map fun z => UInt8.ofNat z.toNat)) = r := by
      unfold M.textL
      rw [M.bs_list, List.map_map]
      have : r.map ((fun c : UInt8 => (c.toNat : Int)) ∘ fun z => UInt8.ofNat z.toNat) = r.map id := List.map_congr_left fun z hz => byte_back7 (hb z (by simp [hz]))
      rw [this, List.map_id]
    show (M.two (256 * z0 + z1) ++ M.two (256 * z2 + z3) ++ [z4] ++ M.two (256 * z5 + z6)) ++ M.textL (M.bs (r.map fun z => UInt8.ofNat z.toNat)) = _
    rw [ht, two_back7 (hb z0 (by simp)) (hb z1 (by simp)), two_back7 (hb z2 (by simp)) (hb z3 (by simp)), two_back7 (hb z5 (by simp)) (hb z6 (by simp))]
    rfl
theorem read_cases {zs : List Int} (hb : ∀ z ∈ zs, M.byteB z) : readC zs = 5 ∨ (readC zs = 0 ∧ (readR zs).f = 0 ∧ packPL (readR zs) = zs) := by
  unfold readC readR
  cases h : pinOk zs
  · exact .inl rfl
  · obtain ⟨h1, h2⟩ := pin_pack hb h
    exact .inr ⟨rfl, h1, h2⟩
theorem sum_val7 {v : Int} (h : M.sumB v = true) : 256 * (v / 256) + v % 256 = v := by omega
theorem pin_back {p : PinD} (h : p.f = 0) : readR (packPL p) = p ∧ readC (packPL p) = 0 := by
  obtain ⟨-, h1, h2, h3, h4⟩ := pin_bounds h
  have e : pinZ (packP p) = p := by
    obtain ⟨n, a, b, e, u⟩ := p
    have en : pinNm (packP ⟨n, a, b, e, u⟩) = n.data.toList := by
      have : (packP ⟨n, a, b, e, u⟩).drop 7 = M.textL n := rfl
      unfold pinNm
      rw [this]
      unfold M.textL
      rw [List.map_map]
      have : n.data.toList.map ((fun z : Int => UInt8.ofNat z.toNat) ∘ fun c : UInt8 => (c.toNat : Int)) = n.data.toList.map id := List.map_congr_left fun c _ => by simp
      rw [this, List.map_id]
    show PinD.mk (M.bs (pinNm (packP ⟨n, a, b, e, u⟩))) (256 * (a / 256) + a % 256) (256 * (b / 256) + b % 256) e (256 * (u / 256) + u % 256) = _
    rw [en, M.bs_data, sum_val7 h1, sum_val7 h2, sum_val7 h4]
  have ok : pinOk (packP p) = true := by
    unfold pinOk
    rw [e, h, packP_length]
    simp
  have ep : packPL p = packP p := by simp [packPL, h]
  rw [ep]
  unfold readR readC
  rw [ok, e]
  exact ⟨rfl, rfl⟩
/-- What holds once a pin was put. -/
structure PutOk (ps : List PinD) (p : PinD) : Prop where
  fp : p.f = 0
  fr : pinsF (putR ps p) = 0
  fc : findC (putR ps p) p.n.data.toList = 0
  ff : findR (putR ps p) p.n.data.toList = p
  old : putC (putR ps p) p = 11
  was : findC ps p.n.data.toList ≠ 0 ∨ (findC ps p.n.data.toList = 0 ∧ (findR ps p.n.data.toList).e < p.e)
theorem put_ok {ps : List PinD} {p : PinD} (h : putC ps p = 0) : PutOk ps p := by
  have h0 : pinsF ps = 0 := by
    by_cases e : pinsF ps = 0
    · exact e
    · exact absurd ((putC_list (p := p) e).1.symm.trans h) e
  have h1 : p.f = 0 := by
    by_cases e : p.f = 0
    · exact e
    · exact absurd ((putC_pin h0 e).1.symm.trans h) e
  obtain ⟨hl, hf, hr⟩ := pinsF_zero h0
  have er : putR ps p = putL ps p := by unfold putR; rw [if_pos h]
  have hmem : p ∈ putL ps p := (putG_perm p ps).mem_iff.2 (by simp)
  have hr2 := putL_rise p hr
  have hf2 : ∀ q ∈ putL ps p, q.f = 0 := fun q hq => by
    rcases putL_mem hq with rfl | hq
    · exact h1
    · exact hf q hq
  have hlen : (putL ps p).length = (Others ps p).length + 1 := by
    exact (putG_perm p ps).length_eq.trans (List.length_cons ..)
  have hl2 : (putL ps p).length ≤ 4 := by
    rw [hlen]
    cases hq : findP ps p.nm with
    | none =>
      have h4 : ps.length ≠ 4 := fun e => by have := (putC_full h0 h1 hq e).1; omega
      rw [others_none hq]
      omega
    | some q =>
      have := others_lt hq
      omega
  have hp2 := pinsF_make hl2 hf2 hr2
  have hfd : findP (putL ps p) p.nm = some p := findP_of hr2 hmem
  obtain ⟨hn, hb⟩ := M.normF_zero (pinF_zero h1).1
  have hn' : M.nameF p.n.data.toList = 0 := hn
  have hb' : M.nrm p.n.data.toList = p.nm := hb
  refine ⟨h1, by rw [er]; exact hp2, ?_, ?_, ?_, ?_⟩
  · unfold findC
    rw [er, hp2, hn', hb', hfd]
    simp
  · unfold findR
    rw [er, hp2, hn', hb', hfd]
    simp
  · unfold putC
    rw [er, hp2, h1, hfd]
    simp
  · have ec : findC ps p.n.data.toList = match findP ps p.nm with | some _ => 0 | none => 4 := by
      unfold findC
      rw [h0, hn', hb']
      simp only [ne_eq, not_true_eq_false, if_false]
      cases findP ps p.nm <;> rfl
    have efr : findR ps p.n.data.toList = (findP ps p.nm).getD pin0 := by
      unfold findR
      rw [h0, hn', hb']
      simp
    cases hq : findP ps p.nm with
    | none =>
      rw [hq] at ec
      left
      rw [ec]
      decide
    | some q =>
      rw [hq] at ec efr
      right
      refine ⟨ec, ?_⟩
      rw [efr]
      show q.e < p.e
      have : putC ps p = if q.e ≥ p.e then 11 else 0 := by
        unfold putC
        rw [h0, h1, hq]
        simp
      rw [this] at h
      split at h
      · cases h
      · omega
theorem putR_names7 {ps : List PinD} {p : PinD} (h : ∀ q ∈ ps, q.n.size ≤ maxLen) (hp : p.n.size ≤ maxLen) : ∀ q ∈ putR ps p, q.n.size ≤ maxLen := by
  intro q hq
  unfold putR at hq
  split at hq
  · rcases putL_mem hq with rfl | hq
    · exact hp
    · exact h q hq
  · cases hq
theorem OwnP.len7 {w : World} {B : Nat} {a : Option Addr} {len cap : Nat} {ps : List PinD} (h : OwnP w B (.slice a len cap) ps) : len = ps.length := by
  obtain ⟨a', c', e, -⟩ := h.form
  injection e
theorem pr0 (c : Int) (n : ByteArray) (a b e u : Int) (w : World) : Sem.run Tryz.prog (Instr.field 52 (.agg #[.int .i64 c, .string n, .int .i64 a, .int .i64 b, .int .i64 e, .int .i64 u]) 0) w = .ok (.int .i64 c) w := by kernel_rfl
theorem pr1 (c : Int) (n : ByteArray) (a b e u : Int) (w : World) : Sem.run Tryz.prog (Instr.field 52 (.agg #[.int .i64 c, .string n, .int .i64 a, .int .i64 b, .int .i64 e, .int .i64 u]) 1) w = .ok (.agg #[.string n, .int .i64 a, .int .i64 b, .int .i64 e, .int .i64 u]) w := by kernel_rfl
theorem by7 (c : Int) (a : Option Addr) (n k : Nat) (w : World) : Sem.run Tryz.prog (Instr.field 166 (.agg #[.int .i64 c, .slice a n k]) 1) w = .ok (.slice a n k) w := by kernel_rfl
theorem ps0 (c : Int) (a : Option Addr) (n k : Nat) (w : World) : Sem.run Tryz.prog (Instr.field 37 (.agg #[.int .i64 c, .slice a n k]) 0) w = .ok (.int .i64 c) w := by kernel_rfl
theorem ps1 (c : Int) (a : Option Addr) (n k : Nat) (w : World) : Sem.run Tryz.prog (Instr.field 37 (.agg #[.int .i64 c, .slice a n k]) 1) w = .ok (.slice a n k) w := by kernel_rfl
theorem pin_neq7 (n : ByteArray) (a b e u : Int) (w : World) : (binOp .neq 25 (.agg #[.string n, .int .i64 a, .int .i64 b, .int .i64 e, .int .i64 u]) (.agg #[.string n, .int .i64 a, .int .i64 b, .int .i64 e, .int .i64 u])).run Tryz.prog w = .ok (.bool false) w := by
  have := pin_neq ⟨n, a, b, e, u⟩ ⟨n, a, b, e, u⟩ w
  rw [pinEq_self] at this
  exact this
theorem pin_eql7 (n : ByteArray) (a b e u : Int) (w : World) : (binOp .eql 25 (.agg #[.string n, .int .i64 a, .int .i64 b, .int .i64 e, .int .i64 u]) (.agg #[.string n, .int .i64 a, .int .i64 b, .int .i64 e, .int .i64 u])).run Tryz.prog w = .ok (.bool true) w := by
  have := pin_eql ⟨n, a, b, e, u⟩ ⟨n, a, b, e, u⟩ w
  rw [pinEq_self] at this
  exact this
theorem pin_guard7 (op : BinOp) (x y : Operand) (n : ByteArray) (a b e u : Int) (w : World) : (eqGuard op 25 x y (.agg #[.string n, .int .i64 a, .int .i64 b, .int .i64 e, .int .i64 u]) (.agg #[.string n, .int .i64 a, .int .i64 b, .int .i64 e, .int .i64 u])).run Tryz.prog w = .ok () w := pin_guard op x y ⟨n, a, b, e, u⟩ ⟨n, a, b, e, u⟩ w
end Go.Proofs.YtmdknbgpddnplaaGreatDoor
namespace Go.Proofs.YtmdknbgpddnplaaGreatDoor
set_option linter.unusedVariables false

theorem put_len {ps : List PinD} {p q : PinD} (hr : Rise ps) (h : findP ps p.nm = some q) : (putL ps p).length = ps.length := by
  have e : ∀ {ps : List PinD}, Rise ps → (∃ x ∈ ps, x.nm = p.nm) → (ps.filter fun q => !decide (q.nm = p.nm)).length + 1 = ps.length := by
    intro ps
    induction ps with
    | nil => rintro _ ⟨x, hx, _⟩; cases hx
    | cons y r ih =>
      intro hr hx
      obtain ⟨h1, h2⟩ := List.pairwise_cons.1 hr
      by_cases hy : y.nm = p.nm
      · have hf : (y :: r).filter (fun q => !decide (q.nm = p.nm)) = r := by
          rw [List.filter_cons_of_neg (by simp [hy])]
          refine List.filter_eq_self.2 fun x hx => ?_
          have hx1 := h1 x hx
          simp only [Bool.not_eq_true', decide_eq_false_iff_not]
          intro e
          rw [e, ← hy, nlt_irrefl] at hx1
          cases hx1
        rw [hf]
        rfl
      · rw [List.filter_cons_of_pos (by simp [hy]), List.length_cons, List.length_cons]
        obtain ⟨x, hx, hxn⟩ := hx
        rcases List.mem_cons.1 hx with rfl | hx
        · exact absurd hxn hy
        · rw [ih h2 ⟨x, hx, hxn⟩]
  have hm := findP_mem h
  rw [show (putL ps p).length = _ from (putG_perm p ps).length_eq, List.length_cons]
  exact e hr ⟨q, hm.1, hm.2⟩
/-- What holds once a rollover was applied. -/
structure AppOk (ps : List PinD) (r : RollD) (t : Int) : Prop where
  res : applyL ps r t = putR ps r.p
  fr : pinsF (putR ps r.p) = 0
  ff : findR (putR ps r.p) r.p.n.data.toList = r.p
  len : (putR ps r.p).length = ps.length
  once : applyC (putR ps r.p) r t ≠ 0
theorem app_ok {ps : List PinD} {r : RollD} {t : Int} (h : applyC ps r t = 0) : AppOk ps r t := by
  obtain ⟨h0, h1, q, hq, hc, hp, he⟩ := applyC_zero h
  have P := put_ok hp
  have hrise := (pinsF_zero h0).2.2
  have er : putR ps r.p = putL ps r.p := by unfold putR; rw [if_pos hp]
  refine ⟨he, P.fr, P.ff, by rw [er]; exact put_len hrise hq, fun h2 => ?_⟩
  obtain ⟨_, _, q2, hq2, hc2, hp2, _⟩ := applyC_zero h2
  rw [P.old] at hp2
  cases hp2
theorem live_of {p : PinD} {t : Int} (h : p.f = 0) (h1 : timB t = true) (h2 : t ≤ p.u) : liveB p t = true := by simp [liveB, h, h1, h2]
/-- What holds of a rollover that may follow. -/
structure ChkOk (o : PinD) (r : RollD) (t : Int) : Prop where
  ep : r.p.e = o.e + 1
  who : r.b = o.a ∨ r.b = o.b
  live : liveB o t = true
  pf : r.p.f = 0
  sign : M.checkB r.b (rsumV r.p) r.x r.y = true
theorem chk_ok {o : PinD} {r : RollD} {t : Int} (h : checkF o r t = 0) : ChkOk o r t := by
  obtain ⟨h0, h1, h2, h3⟩ := checkF_zero h
  obtain ⟨c0, c1, c2, c3, c4⟩ := chk_zero h3
  have hp := (rollF_zero h1).1
  exact ⟨c1, c2, live_of h0 h2 c3, hp, by unfold rsumV; rw [if_pos hp]; exact c4⟩
theorem applyL_names8 {ps : List PinD} {r : RollD} {t : Int} (h : ∀ q ∈ ps, q.n.size ≤ maxLen) (hp : r.p.n.size ≤ maxLen) : ∀ q ∈ applyL ps r t, q.n.size ≤ maxLen := by
  intro q hq
  unfold applyL at hq
  split at hq
  · exact putR_names7 h hp q hq
  · cases hq
end Go.Proofs.YtmdknbgpddnplaaGreatDoor
namespace Go.Proofs.YtmdknbgpddnplaaGreatDoor
open Go.RowKit
set_option maxRecDepth 100000

/-- A list of numbers that was drawn so far. -/
structure LRel (w0 : World) (a : Option Addr) (len cap : Nat) (zs : List Int) (p b : Nat) (v : Value) (wr : World) : Prop where
  own : ∃ zs', zs'.length ≤ b ∧ OwnK .i64 wr (w0.heap.size + 1) v zs' ∧ ∀ z ∈ zs', (Lit.int .i64 z).wf = true
  draw : Draw w0 a len cap zs p wr
section
variable {w0 : World} {a : Option Addr} {len cap : Nat} {zs : List Int} {p p' b : Nat} {v : Value} {w w' : World}
theorem LRel.only (h : LRel w0 a len cap zs p b v w) (hO : Only w0.heap.size w w') (D : Draw w0 a len cap zs p' w') : LRel w0 a len cap zs p' b v w' := by
  obtain ⟨zs', h1, h2, h3⟩ := h.own
  exact ⟨⟨zs', h1, h2.only hO (by omega), h3⟩, D⟩
theorem LRel.alloc (h : LRel w0 a len cap zs p b v w) (o : Obj) : LRel w0 a len cap zs p b v (w.alloc o) := by
  obtain ⟨zs', h1, h2, h3⟩ := h.own
  exact ⟨⟨zs', h1, h2.alloc o, h3⟩, h.draw.alloc o⟩
theorem LRel.kept (h : LRel w0 a len cap zs p b v w) (hg : w.grownBy w' (some w0.heap.size)) (D : Draw w0 a len cap zs p' w') : LRel w0 a len cap zs p' b v w' := by
  obtain ⟨zs', h1, h2, h3⟩ := h.own
  exact ⟨⟨zs', h1, h2.kept hg (.inr (fun e => by have := (h2.lt _ e).1; omega)), h3⟩, D⟩
end
theorem i64_wf {x : Int} (h0 : -9223372036854775808 ≤ x) (h1 : x ≤ 9223372036854775807) : (Lit.int .i64 x).wf = true := by
  simp [Lit.wf, IntKind.min, IntKind.max, IntKind.signed, IntKind.bits]; omega

theorem rows_info2 : (Tryz.prog.info? 22).map (fun i => (i.zero, i.size, i.bytes)) = some (some (.slice none 0 0), 1, 24) := by kernel_rfl
/-- A list of pieces that was drawn so far. -/
structure GRel (w0 : World) (a : Option Addr) (len cap : Nat) (zs : List Int) (p b : Nat) (v : Value) (wr : World) : Prop where
  own : ∃ rows, rows.length ≤ b ∧ Own2 wr (w0.heap.size + 1) v rows
  draw : Draw w0 a len cap zs p wr
section
variable {w0 : World} {a : Option Addr} {len cap : Nat} {zs : List Int} {p p' b : Nat} {v : Value} {w w' : World}
theorem GRel.only (h : GRel w0 a len cap zs p b v w) (hO : Only w0.heap.size w w') (D : Draw w0 a len cap zs p' w') : GRel w0 a len cap zs p' b v w' := by
  obtain ⟨rows, h1, h2⟩ := h.own
  exact ⟨⟨rows, h1, h2.only hO (by omega)⟩, D⟩
theorem GRel.alloc (h : GRel w0 a len cap zs p b v w) (o : Obj) : GRel w0 a len cap zs p b v (w.alloc o) := by
  obtain ⟨rows, h1, h2⟩ := h.own
  exact ⟨⟨rows, h1, h2.alloc o⟩, h.draw.alloc o⟩
theorem GRel.kept (h : GRel w0 a len cap zs p b v w) (hg : w.grownBy w' (some w0.heap.size)) (D : Draw w0 a len cap zs p' w') : GRel w0 a len cap zs p' b v w' := by
  obtain ⟨rows, h1, h2⟩ := h.own
  exact ⟨⟨rows, h1, h2.kept hg (by omega)⟩, D⟩
end
theorem slice_oneCell (a : Option Addr) (n c : Nat) : ∀ u ∈ [Value.slice a n c], u.oneCell' = true := by
  intro u hu
  simp at hu
  subst hu
  rfl
theorem step_row {w0 w1 w2 wb : World} {a : Option Addr} {len cap : Nat} {zs : List Int} {p b : Nat} {v v' : Value} {rows : List (Value × List Int)} {a' : Option Addr} {n' c' : Nat} {zs' : List Int}
    (h : Own2 w1 (w0.heap.size + 1) v rows) (hb : rows.length ≤ b) (hlt : ∀ k, v.ownBlock = some k → k < wb.heap.size) (hB : w0.heap.size < wb.heap.size) (ho : OwnK .u8 w1 wb.heap.size (.slice a' n' c') zs') (hz : ∀ z ∈ zs', (Lit.int .u8 z).wf = true)
    (hn : Own w2 (w0.heap.size + 1) 1 v' (rows.length + 1) (rows.map (·.1) ++ [.slice a' n' c'])) (hg : w1.grownBy w2 v.ownBlock) (hat : v'.ownBlock = v.ownBlock ∨ v'.ownBlock = some w1.heap.size) (D : Draw w0 a len cap zs p w1) :
    GRel w0 a len cap zs p (b + 1) v' w2 := by
  refine ⟨⟨rows ++ [(.slice a' n' c', zs')], by simp; omega, h.more (ho.less (by omega)) hz (fun k hk e => ?_) hn hg hat⟩, D.grown hg (fun k hk => by have := (h.own.lt k hk).1; omega)⟩
  have h1 := (ho.lt k hk).1
  have h2 := hlt k e
  omega

end Go.Proofs.YtmdknbgpddnplaaGreatDoor
namespace Go.Proofs.YtmdknbgpddnplaaGreatDoor
open Go.RowKit
set_option maxRecDepth 100000
set_option linter.unusedVariables false

/-- While a chain is drawn. -/
structure CLoop (w0 : World) (a : Option Addr) (len cap : Nat) (zs : List Int) (fb nb : Nat) (q nq : PinD) (k : Nat) (v : Value) (rs : List RollD) (cur : World) : Prop where
  draw : ∃ p, p + 12 * k ≤ 100 ∧ Draw w0 a len cap zs p cur
  first : At fb q.vals cur
  now : At nb nq.vals cur
  own : OwnR cur (nb + 1) v rs
  names : ∀ r ∈ rs, r.p.n.size ≤ 21
  nn : nq.n.size ≤ 21
  few : rs.length + k ≤ 3
theorem src_new8 {P : Program} (w : World) (p : RollD) (t tx e' : TypeId) (hk : P.underlying tx = some (.slice e')) :
    Go.Src P 8 tx (.slice (some ⟨w.heap.size, 0, none⟩) 1 1) 1 p.vals (w.alloc (.cells #[.string p.p.n, .int .i64 p.p.a, .int .i64 p.p.b, .int .i64 p.p.e, .int .i64 p.p.u, .int .i64 p.b, .int .i64 p.x, .int .i64 p.y] t)) := by
  refine Go.Src.ofSlice _ hk _ _ _ _ rfl (fun j u hu => ?_) (roll_oneCell p)
  have A : At w.heap.size p.vals (w.alloc (.cells #[.string p.p.n, .int .i64 p.p.a, .int .i64 p.p.b, .int .i64 p.p.e, .int .i64 p.p.u, .int .i64 p.b, .int .i64 p.x, .int .i64 p.y] t)) := At.new w p.vals t
  rw [Addr.add_lit, Nat.zero_add]
  exact A.cell j u hu
theorem OwnR.grew8 {u u' : World} {B g : Nat} {v : Value} {qs : List RollD} (h : OwnR u B v qs) (k : u.grownBy u' (some g)) (hg : g < B) : OwnR u' B v qs := Own.keep h k.size fun i hi => k.block i (Own.lt h i hi).2 (fun e => by injection e with e; have := (Own.lt h i hi).1; omega)
theorem roll8_info : (Tryz.prog.info? 29).map (fun i => (i.zero, i.size, i.bytes)) = some (some (R8 roll0), 8, 72) := by kernel_rfl
set_option maxHeartbeats 8000000 in
theorem DrawChainFault_any {a : Option Addr} {len cap : Nat} {zs : List Int} {w : World} (hR : Row .u8 w w.heap.size a len cap zs) :
    Calls Tryz.prog 27 #[.slice a len cap] w (DrawnChn w) := by
  obtain ⟨i0, hi0, hz0, hz1, hz2⟩ := info_parts roll8_info
  have A0 : At w.heap.size pinZero (w.alloc (.cells #[.string { data := #[] }, .int .i64 0, .int .i64 0, .int .i64 0, .int .i64 0] 25)) := At.new w pinZero 25
  have b0 := bal (Below.refl _ w) (.cells #[.string { data := #[] }, .int .i64 0, .int .i64 0, .int .i64 0, .int .i64 0] 25)
  have R0 := hR.on b0
  clear hR
  go_enter Tryz.func27, Tryz.ntmps27
  go_wp2_with fail
  generalize w.alloc (.cells #[.string { data := #[] }, .int .i64 0, .int .i64 0, .int .i64 0, .int .i64 0] 25) = W0 at *
  refine (dsource R0).mono ?_
  rintro e w1 ⟨rfl, D1⟩
  have lt1 := D1.lt
  have lt0 : w.heap.size < W0.heap.size := A0.lt (by simp)
  go_wp2_with fail
  refine (dl7Draw D1 (by omega)).mono ?_
  rintro e w2 ⟨q, p2, hqf, hp2, rfl, D2, g2⟩
  have hq : q.n.size ≤ 21 := by have := pin_size hqf; omega
  have lt2 := D2.lt
  have D3 := ((D2.alloc (.cells #[.string q.n, .int .i64 q.a, .int .i64 q.b, .int .i64 q.e, .int .i64 q.u] 25)).alloc (.cells #[.string q.n, .int .i64 q.a, .int .i64 q.b, .int .i64 q.e, .int .i64 q.u] 25)).alloc (.cells #[] 29)
  have F3 : At w2.heap.size q.vals (((w2.alloc (.cells #[.string q.n, .int .i64 q.a, .int .i64 q.b, .int .i64 q.e, .int .i64 q.u] 25)).alloc (.cells #[.string q.n, .int .i64 q.a, .int .i64 q.b, .int .i64 q.e, .int .i64 q.u] 25)).alloc (.cells #[] 29)) := ((At.new w2 q.vals 25).alloc _).alloc _
  have N3 : At (w2.heap.size + 1) q.vals (((w2.alloc (.cells #[.string q.n, .int .i64 q.a, .int .i64 q.b, .int .i64 q.e, .int .i64 q.u] 25)).alloc (.cells #[.string q.n, .int .i64 q.a, .int .i64 q.b, .int .i64 q.e, .int .i64 q.u] 25)).alloc (.cells #[] 29)) := (At.newN (w := w2.alloc (.cells #[.string q.n, .int .i64 q.a, .int .i64 q.b, .int .i64 q.e, .int .i64 q.u] 25)) q.vals 25 (by simp)).alloc _
  have O3 : OwnR (((w2.alloc (.cells #[.string q.n, .int .i64 q.a, .int .i64 q.b, .int .i64 q.e, .int .i64 q.u] 25)).alloc (.cells #[.string q.n, .int .i64 q.a, .int .i64 q.b, .int .i64 q.e, .int .i64 q.u] 25)).alloc (.cells #[] 29)) (w2.heap.size + 1 + 1) (.slice (some ⟨w2.heap.size + 1 + 1, 0, none⟩) 0 0) [] := by
    have := Own.made ((w2.alloc (.cells #[.string q.n, .int .i64 q.a, .int .i64 q.b, .int .i64 q.e, .int .i64 q.u] 25)).alloc (.cells #[.string q.n, .int .i64 q.a, .int .i64 q.b, .int .i64 q.e, .int .i64 q.u] 25)) #[] 29 0 (size := 8) (B := w2.heap.size + 1 + 1) (by simp) (by simp) rfl
    simp only [World.size_alloc] at this
    exact this
  clear D1 D2 g2 R0 hqf
  go_wp2_with fail
  generalize ((w2.alloc (.cells #[.string q.n, .int .i64 q.a, .int .i64 q.b, .int .i64 q.e, .int .i64 q.u] 25)).alloc (.cells #[.string q.n, .int .i64 q.a, .int .i64 q.b, .int .i64 q.e, .int .i64 q.u] 25)).alloc (.cells #[] 29) = W3 at *
  generalize w2.heap.size = fb at *
  refine (dnext 4 D3 (by omega)).mono ?_
  rintro e w4 ⟨v, v0, v1, rfl, D4, G4⟩
  have hv : v < 4 := by omega
  obtain ⟨v, rfl⟩ := Int.eq_ofNat_of_zero_le v0
  have T0 : CLoop W0 a len cap zs fb (fb + 1) q q v (.slice (some ⟨fb + 1 + 1, 0, none⟩) 0 0) [] w4 := ⟨⟨_, by omega, D4⟩, F3.only5 G4 (by omega), N3.only5 G4 (by omega), Own.only O3 G4 (by omega), by simp, hq, by simp; omega⟩
  clear D3 F3 N3 O3 D4 G4 v0 v1
  go_wp2_with fail
  go_loopw [8, 9] (fun x i wr => ∃ (k : Nat) (rs : List RollD) (nq : PinD), k ≤ 3 ∧ i = .int .i64 k ∧ CLoop W0 a len cap zs fb (fb + 1) q nq k x rs wr) (fun _ i _ => (intOf i).toNat)
  case atStart => exact ⟨v, [], q, by omega, rfl, T0⟩
  case round =>
    obtain ⟨k, rs, nq, hk, rfl, hT⟩ := hrel
    clear T0
    obtain ⟨vx, vc, hv, hv1, hv2, -⟩ := OwnR.form hT.own
    subst hv
    unfold maxLen at hv2
    obtain ⟨p, hp, DD⟩ := hT.draw
    have HF := Lib.hid hT.first
    have HW := Lib.hid hT.now
    have HO := Lib.hid hT.own
    have HS := Lib.hid hT.names
    have hnn := hT.nn
    have hfew := hT.few
    clear hT
    by_cases h0 : k = 0
    · subst h0
      go_wp2_with fail
      refine (l1Chance_any 12 DD (by omega)).mono ?_
      rintro e w5 ⟨ch, rfl, D5, G5⟩
      have F5 := HF.out.only5 G5 (by omega)
      have O5 : OwnR w5 (fb + 1 + 1) _ rs := Own.only HO.out G5 (by omega)
      clear HF HW HO DD
      cases ch
      · clear hi0 hz0 hz1 hz2
        go_upto_region 13 with fail
        refine wp_region_line (At fb q.vals) [(0, true), (1, true), (2, true), (3, false), (4, false), (5, false), (6, true), (7, true)] (by kernel_rfl) (by kernel_rfl) (fun _ _ d _ _ h => by cases d <;> exact h) (F5.on (bdrew _)) ?_
        have hst := F5.on (bdrew w5)
        have inst : Nonempty (Of (At fb q.vals)) := ⟨⟨_, hst⟩⟩
        have y0 : ∀ z : Of (At fb q.vals), z.val.cell? ⟨fb, 0, none⟩ = some (.string q.n) := fun z => z.prop.cell 0 _ rfl
        have y1 : ∀ z : Of (At fb q.vals), z.val.cell? ⟨fb, 1, none⟩ = some (.int .i64 q.a) := fun z => z.prop.cell 1 _ rfl
        have y2 : ∀ z : Of (At fb q.vals), z.val.cell? ⟨fb, 2, none⟩ = some (.int .i64 q.b) := fun z => z.prop.cell 2 _ rfl
        have y3 : ∀ z : Of (At fb q.vals), z.val.cell? ⟨fb, 3, none⟩ = some (.int .i64 q.e) := fun z => z.prop.cell 3 _ rfl
        have y4 : ∀ z : Of (At fb q.vals), z.val.cell? ⟨fb, 4, none⟩ = some (.int .i64 q.u) := fun z => z.prop.cell 4 _ rfl
        have DD := D5.below (bdrew w5)
        have OD := OwnR.below O5 (bdrew w5)
        clear F5 D5 O5
        generalize w5.drew = V1 at *
        iterate 3 (refine line_read rfl (by kernel_rfl) (fun K hK => ?_); go_big_quiet_op; refine hK _ ?_; clear hK K)
        refine line_alone rfl (by kernel_rfl) (fun K hK => ?_)
        go_big_op
        have hstN : At fb q.vals (V1.alloc (.cells #[.int .i64 0, .int .i64 40, .int .i64 51] 2)) := hst.alloc _
        refine hK _ _ hstN ?_
        clear hK K hst
        have hst := hstN
        clear hstN
        refine line_alone rfl (by kernel_rfl) (fun K hK => ?_)
        refine call_any (args := #[.pointer (some ⟨W0.heap.size, 0, none⟩), .slice (some ⟨V1.heap.size, 0, none⟩) 3 3]) rfl (by kernel_rfl) (by kernel_rfl) (dpick [0, 40, 51] 3 DD (by omega) (by omega) (by omega) rfl 2) ?_
        rintro e x3 ⟨t, ht, rfl, DN, GN⟩
        have hstN : At fb q.vals x3 := hst.only5 GN (by omega)
        have ON : OwnR x3 _ _ _ := Own.only (OwnR.alloc OD _) GN (by omega)
        refine ⟨_, rfl, hK _ _ hstN ?_⟩
        clear hK K hst DD OD ht GN
        have hst := hstN
        clear hstN
        simp only [Act.put, List.setIfInBounds_toArray, List.set_cons_zero, List.set_cons_succ]
        have A3 := A0.on DN.bel
        have B3 := btr b0 DN.bel
        have c0 := A3.cell 0 _ rfl
        have c1 := A3.cell 1 _ rfl
        have c2 := A3.cell 2 _ rfl
        have c3 := A3.cell 3 _ rfl
        have c4 := A3.cell 4 _ rfl
        have z0 := A3.free 0 _ rfl
        have z1 := A3.free 1 _ rfl
        have z2 := A3.free 2 _ rfl
        have z3 := A3.free 3 _ rfl
        have z4 := A3.free 4 _ rfl
        have P5' : At fb q.vals (((((x3.setCell ⟨w.heap.size, 0, none⟩ (.string q.n)).setCell ⟨w.heap.size, 1, none⟩ (.int .i64 q.a)).setCell ⟨w.heap.size, 2, none⟩ (.int .i64 q.b)).setCell ⟨w.heap.size, 3, none⟩ (.int .i64 q.e)).setCell ⟨w.heap.size, 4, none⟩ (.int .i64 q.u)) := by
          iterate 5 (refine At.setB ?_ (by dsimp only; omega) _)
          exact hst
        have A5 : At w.heap.size q.vals (((((x3.setCell ⟨w.heap.size, 0, none⟩ (.string q.n)).setCell ⟨w.heap.size, 1, none⟩ (.int .i64 q.a)).setCell ⟨w.heap.size, 2, none⟩ (.int .i64 q.b)).setCell ⟨w.heap.size, 3, none⟩ (.int .i64 q.e)).setCell ⟨w.heap.size, 4, none⟩ (.int .i64 q.u)) := ((((A3.set 0 (.string q.n)).set 1 (.int .i64 q.a)).set 2 (.int .i64 q.b)).set 3 (.int .i64 q.e)).set 4 (.int .i64 q.u)
        have B5 : Below w.heap.size w (((((x3.setCell ⟨w.heap.size, 0, none⟩ (.string q.n)).setCell ⟨w.heap.size, 1, none⟩ (.int .i64 q.a)).setCell ⟨w.heap.size, 2, none⟩ (.int .i64 q.b)).setCell ⟨w.heap.size, 3, none⟩ (.int .i64 q.e)).setCell ⟨w.heap.size, 4, none⟩ (.int .i64 q.u)) := by
          iterate 5 (refine bset ?_ (Nat.le_refl _) _)
          exact B3
        have hne : ∀ j, Value.ownBlock (.slice vx rs.length vc) = some j → j ≠ w.heap.size := fun j hj e => by have := (Own.lt ON j hj).1; omega
        have O5 : OwnR (((((x3.setCell ⟨w.heap.size, 0, none⟩ (.string q.n)).setCell ⟨w.heap.size, 1, none⟩ (.int .i64 q.a)).setCell ⟨w.heap.size, 2, none⟩ (.int .i64 q.b)).setCell ⟨w.heap.size, 3, none⟩ (.int .i64 q.e)).setCell ⟨w.heap.size, 4, none⟩ (.int .i64 q.u)) (fb + 1 + 1) (.slice vx rs.length vc) rs := by
          iterate 5 (refine Own.setCell ?_ hne _)
          exact ON
        have H5 := Lib.hid (And.intro B5 (OwnR.row O5 (fun p hp => by have := HS.out p hp; simp only [maxLen]; omega)))
        clear A3 B3 B5 O5 ON DN hne
        refine line_alone rfl (by kernel_rfl) (fun K hK => ?_)
        go_big_op
        refine hK _ _ (P5') ?_
        clear hK K
        clear P5' c0 c1 c2 c3 c4 z0 z1 z2 z3 z4 hst
        iterate 2 (refine line_read rfl (by kernel_rfl) (fun K hK => ?_); go_big_quiet_op; refine hK _ ?_; clear hK K)
        refine line_nil ?_
        generalize (((((x3.setCell ⟨w.heap.size, 0, none⟩ (.string q.n)).setCell ⟨w.heap.size, 1, none⟩ (.int .i64 q.a)).setCell ⟨w.heap.size, 2, none⟩ (.int .i64 q.b)).setCell ⟨w.heap.size, 3, none⟩ (.int .i64 q.e)).setCell ⟨w.heap.size, 4, none⟩ (.int .i64 q.u)) = x5 at *
        have c0 := A5.cell 0 _ rfl
        have c1 := A5.cell 1 _ rfl
        have c2 := A5.cell 2 _ rfl
        have c3 := A5.cell 3 _ rfl
        have c4 := A5.cell 4 _ rfl
        clear A5
        go_wp2_with fail
        exact bodyPost_ret (v := .tuple #[P5 q, .slice vx rs.length vc, .int .i64 t]) (by simp [results, Tryz.results27, go_sem, c0, c1, c2, c3, c4]) rfl ⟨q, vx, rs.length, vc, rs, t, rfl, hq, HS.out, H5.out.2, H5.out.1⟩
      · have hmk : (Instr.makeSlice 55 (.int .i64 9) (.int .i64 9)).run Tryz.prog w5 = .ok (.slice (some ⟨w5.heap.size, 0, none⟩) 9 9) (w5.alloc (.cells (flatR (List.replicate 9 roll0)).toArray 29)) := by
          have := run_make (P := Tryz.prog) w5 55 29 i0 (R8 roll0) Tryz.underlying55 hi0 hz0 .i64 .i64 9 9 (by omega) (by omega) (by rw [hz2]; omega) (by omega)
          rw [hz1] at this
          have e9 : madeCells (R8 roll0).cells (Int.toNat 9 * 8) = (flatR (List.replicate 9 roll0)).toArray := by kernel_rfl
          rw [e9] at this
          exact this
        have O9 : OwnR (w5.alloc (.cells (flatR (List.replicate 9 roll0)).toArray 29)) w5.heap.size (.slice (some ⟨w5.heap.size, 0, none⟩) 9 9) (List.replicate 9 roll0) := own_cells w5 (flatR (List.replicate 9 roll0)) 9 8 29 rfl (by simp only [maxLen]; omega)
        have lt5 := F5.lt (by simp [PinD.vals])
        have D9 := D5.alloc (.cells (flatR (List.replicate 9 roll0)).toArray 29)
        have F9 := F5.alloc (.cells (flatR (List.replicate 9 roll0)).toArray 29)
        have hs9 : ∀ r ∈ List.replicate 9 roll0, r.p.n.size ≤ 21 := fun y hy => by rw [List.eq_of_mem_replicate hy]; exact Nat.zero_le _
        clear D5 F5 O5 hi0 hz0 hz1 hz2
        have hcs : ∃ cs, cs = (flatR (List.replicate 9 roll0)).toArray := ⟨_, rfl⟩
        obtain ⟨cs9, hcs⟩ := hcs
        rw [← hcs] at hmk O9 D9 F9
        clear hcs
        generalize List.replicate 9 roll0 = rs9 at *
        go_wp2_with fail
        generalize hW9 : w5.alloc (.cells cs9 29) = W9 at *
        clear hmk hW9
        generalize w5.heap.size = sb at *
        have ltsb : fb + 1 ≤ sb := by omega
        go_upto_region 13 with fail
        refine wp_region_line (At fb q.vals) [(0, true), (1, true), (2, true), (3, false), (4, false), (5, false), (6, true), (7, true)] (by kernel_rfl) (by kernel_rfl) (fun _ _ d _ _ h => by cases d <;> exact h) (F9.on (bdrew _)) ?_
        have hst := F9.on (bdrew W9)
        have inst : Nonempty (Of (At fb q.vals)) := ⟨⟨_, hst⟩⟩
        have y0 : ∀ z : Of (At fb q.vals), z.val.cell? ⟨fb, 0, none⟩ = some (.string q.n) := fun z => z.prop.cell 0 _ rfl
        have y1 : ∀ z : Of (At fb q.vals), z.val.cell? ⟨fb, 1, none⟩ = some (.int .i64 q.a) := fun z => z.prop.cell 1 _ rfl
        have y2 : ∀ z : Of (At fb q.vals), z.val.cell? ⟨fb, 2, none⟩ = some (.int .i64 q.b) := fun z => z.prop.cell 2 _ rfl
        have y3 : ∀ z : Of (At fb q.vals), z.val.cell? ⟨fb, 3, none⟩ = some (.int .i64 q.e) := fun z => z.prop.cell 3 _ rfl
        have y4 : ∀ z : Of (At fb q.vals), z.val.cell? ⟨fb, 4, none⟩ = some (.int .i64 q.u) := fun z => z.prop.cell 4 _ rfl
        have DD := D9.below (bdrew W9)
        have OD := OwnR.below O9 (bdrew W9)
        clear F9 D9 O9
        generalize W9.drew = V1 at *
        iterate 3 (refine line_read rfl (by kernel_rfl) (fun K hK => ?_); go_big_quiet_op; refine hK _ ?_; clear hK K)
        refine line_alone rfl (by kernel_rfl) (fun K hK => ?_)
        go_big_op
        have hstN : At fb q.vals (V1.alloc (.cells #[.int .i64 0, .int .i64 40, .int .i64 51] 2)) := hst.alloc _
        refine hK _ _ hstN ?_
        clear hK K hst
        have hst := hstN
        clear hstN
        refine line_alone rfl (by kernel_rfl) (fun K hK => ?_)
        refine call_any (args := #[.pointer (some ⟨W0.heap.size, 0, none⟩), .slice (some ⟨V1.heap.size, 0, none⟩) 3 3]) rfl (by kernel_rfl) (by kernel_rfl) (dpick [0, 40, 51] 3 DD (by omega) (by omega) (by omega) rfl 2) ?_
        rintro e x3 ⟨t, ht, rfl, DN, GN⟩
        have hstN : At fb q.vals x3 := hst.only5 GN (by omega)
        have ON : OwnR x3 _ _ _ := Own.only (OwnR.alloc OD _) GN (by omega)
        refine ⟨_, rfl, hK _ _ hstN ?_⟩
        clear hK K hst DD OD ht GN
        have hst := hstN
        clear hstN
        simp only [Act.put, List.setIfInBounds_toArray, List.set_cons_zero, List.set_cons_succ]
        have A3 := A0.on DN.bel
        have B3 := btr b0 DN.bel
        have c0 := A3.cell 0 _ rfl
        have c1 := A3.cell 1 _ rfl
        have c2 := A3.cell 2 _ rfl
        have c3 := A3.cell 3 _ rfl
        have c4 := A3.cell 4 _ rfl
        have z0 := A3.free 0 _ rfl
        have z1 := A3.free 1 _ rfl
        have z2 := A3.free 2 _ rfl
        have z3 := A3.free 3 _ rfl
        have z4 := A3.free 4 _ rfl
        have P5' : At fb q.vals (((((x3.setCell ⟨w.heap.size, 0, none⟩ (.string q.n)).setCell ⟨w.heap.size, 1, none⟩ (.int .i64 q.a)).setCell ⟨w.heap.size, 2, none⟩ (.int .i64 q.b)).setCell ⟨w.heap.size, 3, none⟩ (.int .i64 q.e)).setCell ⟨w.heap.size, 4, none⟩ (.int .i64 q.u)) := by
          iterate 5 (refine At.setB ?_ (by dsimp only; omega) _)
          exact hst
        have A5 : At w.heap.size q.vals (((((x3.setCell ⟨w.heap.size, 0, none⟩ (.string q.n)).setCell ⟨w.heap.size, 1, none⟩ (.int .i64 q.a)).setCell ⟨w.heap.size, 2, none⟩ (.int .i64 q.b)).setCell ⟨w.heap.size, 3, none⟩ (.int .i64 q.e)).setCell ⟨w.heap.size, 4, none⟩ (.int .i64 q.u)) := ((((A3.set 0 (.string q.n)).set 1 (.int .i64 q.a)).set 2 (.int .i64 q.b)).set 3 (.int .i64 q.e)).set 4 (.int .i64 q.u)
        have B5 : Below w.heap.size w (((((x3.setCell ⟨w.heap.size, 0, none⟩ (.string q.n)).setCell ⟨w.heap.size, 1, none⟩ (.int .i64 q.a)).setCell ⟨w.heap.size, 2, none⟩ (.int .i64 q.b)).setCell ⟨w.heap.size, 3, none⟩ (.int .i64 q.e)).setCell ⟨w.heap.size, 4, none⟩ (.int .i64 q.u)) := by
          iterate 5 (refine bset ?_ (Nat.le_refl _) _)
          exact B3
        have hne : ∀ j, Value.ownBlock (.slice (some ⟨sb, 0, none⟩) 9 9) = some j → j ≠ w.heap.size := fun j hj e => by have := (Own.lt ON j hj).1; omega
        have O5 : OwnR (((((x3.setCell ⟨w.heap.size, 0, none⟩ (.string q.n)).setCell ⟨w.heap.size, 1, none⟩ (.int .i64 q.a)).setCell ⟨w.heap.size, 2, none⟩ (.int .i64 q.b)).setCell ⟨w.heap.size, 3, none⟩ (.int .i64 q.e)).setCell ⟨w.heap.size, 4, none⟩ (.int .i64 q.u)) (sb) (.slice (some ⟨sb, 0, none⟩) 9 9) rs9 := by
          iterate 5 (refine Own.setCell ?_ hne _)
          exact ON
        have H5 := Lib.hid (And.intro B5 (OwnR.row O5 (fun p hp => by have := hs9 p hp; simp only [maxLen]; omega)))
        clear A3 B3 B5 O5 ON DN hne
        refine line_alone rfl (by kernel_rfl) (fun K hK => ?_)
        go_big_op
        refine hK _ _ (P5') ?_
        clear hK K
        clear P5' c0 c1 c2 c3 c4 z0 z1 z2 z3 z4 hst
        iterate 2 (refine line_read rfl (by kernel_rfl) (fun K hK => ?_); go_big_quiet_op; refine hK _ ?_; clear hK K)
        refine line_nil ?_
        generalize (((((x3.setCell ⟨w.heap.size, 0, none⟩ (.string q.n)).setCell ⟨w.heap.size, 1, none⟩ (.int .i64 q.a)).setCell ⟨w.heap.size, 2, none⟩ (.int .i64 q.b)).setCell ⟨w.heap.size, 3, none⟩ (.int .i64 q.e)).setCell ⟨w.heap.size, 4, none⟩ (.int .i64 q.u)) = x5 at *
        have c0 := A5.cell 0 _ rfl
        have c1 := A5.cell 1 _ rfl
        have c2 := A5.cell 2 _ rfl
        have c3 := A5.cell 3 _ rfl
        have c4 := A5.cell 4 _ rfl
        clear A5
        go_wp2_with fail
        exact bodyPost_ret (v := .tuple #[P5 q, .slice (some ⟨sb, 0, none⟩) 9 9, .int .i64 t]) (by simp [results, Tryz.results27, go_sem, c0, c1, c2, c3, c4]) rfl ⟨q, (some ⟨sb, 0, none⟩), 9, 9, rs9, t, rfl, hq, hs9, H5.out.2, H5.out.1⟩
    · have hk0 : (0 : Int) < k := by omega
      have x0 := HW.out.cell 0 _ rfl
      have x1 := HW.out.cell 1 _ rfl
      have x2 := HW.out.cell 2 _ rfl
      have x3 := HW.out.cell 3 _ rfl
      have x4 := HW.out.cell 4 _ rfl
      go_wp2_with fail
      refine (dl8Draw DD (by omega) nq hnn).mono ?_
      rintro e w5 ⟨r, pr, hr, hpr, rfl, D5, g5⟩
      have F5 := HF.out.kept g5 (fun e => by injection e with e; omega)
      have N5 := HW.out.kept g5 (fun e => by injection e with e; omega)
      have O5 : OwnR w5 (fb + 1 + 1) (.slice vx rs.length vc) rs := OwnR.grew8 HO.out g5 (by omega)
      have lt5 := N5.lt (by simp [PinD.vals])
      have ltO := fun k hk => Own.lt O5 k hk
      have D6 := D5.alloc (.cells #[.string r.p.n, .int .i64 r.p.a, .int .i64 r.p.b, .int .i64 r.p.e, .int .i64 r.p.u, .int .i64 r.b, .int .i64 r.x, .int .i64 r.y] 29)
      have F6 := F5.alloc (.cells #[.string r.p.n, .int .i64 r.p.a, .int .i64 r.p.b, .int .i64 r.p.e, .int .i64 r.p.u, .int .i64 r.b, .int .i64 r.x, .int .i64 r.y] 29)
      have N6 := N5.alloc (.cells #[.string r.p.n, .int .i64 r.p.a, .int .i64 r.p.b, .int .i64 r.p.e, .int .i64 r.p.u, .int .i64 r.b, .int .i64 r.x, .int .i64 r.y] 29)
      have O6 := OwnR.alloc O5 (.cells #[.string r.p.n, .int .i64 r.p.a, .int .i64 r.p.b, .int .i64 r.p.e, .int .i64 r.p.u, .int .i64 r.b, .int .i64 r.x, .int .i64 r.y] 29)
      have X6 : At w5.heap.size r.vals (w5.alloc (.cells #[.string r.p.n, .int .i64 r.p.a, .int .i64 r.p.b, .int .i64 r.p.e, .int .i64 r.p.u, .int .i64 r.b, .int .i64 r.x, .int .i64 r.y] 29)) := At.new w5 r.vals 29
      clear HF HW HO DD g5 D5 F5 N5 O5 x0 x1 x2 x3 x4 hnn
      have hrl : rs.length ≤ 3 := by omega
      go_upto_region 9 with fail
      generalize w5.alloc (.cells #[.string r.p.n, .int .i64 r.p.a, .int .i64 r.p.b, .int .i64 r.p.e, .int .i64 r.p.u, .int .i64 r.b, .int .i64 r.x, .int .i64 r.y] 29) = W6 at *
      have lt6 : w5.heap.size < W6.heap.size := X6.lt (by simp [RollD.vals])
      have x0 := X6.cell 0 _ rfl
      have x1 := X6.cell 1 _ rfl
      have x2 := X6.cell 2 _ rfl
      have x3 := X6.cell 3 _ rfl
      have x4 := X6.cell 4 _ rfl
      have x5 := X6.cell 5 _ rfl
      have x6 := X6.cell 6 _ rfl
      have x7 := X6.cell 7 _ rfl
      go_upto_region 10 with (at_builtin; refine wpList_append_src _ rfl (.tmp 26) (.tmp 28) 55 55 rfl (fb + 1 + 1) 29 i0 (R8 roll0) 8 72 Tryz.underlying55 hi0 hz0 hz1 hz2 rfl _ _ _ rfl (Own.alloc O6 _) _ 1 (RollD.vals r) rfl (src_new8 _ r _ _ _ Tryz.underlying55) (by simp only [maxLen]; omega) (by omega) (by simp; omega) ?_; intro v3 w7 hown hgrow hat)
      clear x0 x1 x2 x3 x4 x5 x6 x7
      have D7 := (D6.alloc (.cells #[.string r.p.n, .int .i64 r.p.a, .int .i64 r.p.b, .int .i64 r.p.e, .int .i64 r.p.u, .int .i64 r.b, .int .i64 r.x, .int .i64 r.y] 29)).grown hgrow (fun k hk => by have := (ltO k hk).1; omega)
      have F7 := (F6.alloc (.cells #[.string r.p.n, .int .i64 r.p.a, .int .i64 r.p.b, .int .i64 r.p.e, .int .i64 r.p.u, .int .i64 r.b, .int .i64 r.x, .int .i64 r.y] 29)).kept hgrow (fun e => by have := (ltO _ e.symm).1; omega)
      have N7 := (N6.alloc (.cells #[.string r.p.n, .int .i64 r.p.a, .int .i64 r.p.b, .int .i64 r.p.e, .int .i64 r.p.u, .int .i64 r.b, .int .i64 r.x, .int .i64 r.y] 29)).kept hgrow (fun e => by have := (ltO _ e.symm).1; omega)
      have X7 := (X6.alloc (.cells #[.string r.p.n, .int .i64 r.p.a, .int .i64 r.p.b, .int .i64 r.p.e, .int .i64 r.p.u, .int .i64 r.b, .int .i64 r.x, .int .i64 r.y] 29)).kept hgrow (fun e => by have := (ltO _ e.symm).2; omega)
      have O7 : OwnR w7 (fb + 1 + 1) v3 (rs ++ [r]) := by
        unfold OwnR
        rw [flatR_append, List.length_append]
        simpa [flatR] using hown
      clear hown hgrow hat D6 F6 N6 O6 X6
      have D8 : Draw W0 a len cap zs pr (((((w7.setCell ⟨fb + 1, 0, none⟩ (.string r.p.n)).setCell ⟨fb + 1, 1, none⟩ (.int .i64 r.p.a)).setCell ⟨fb + 1, 2, none⟩ (.int .i64 r.p.b)).setCell ⟨fb + 1, 3, none⟩ (.int .i64 r.p.e)).setCell ⟨fb + 1, 4, none⟩ (.int .i64 r.p.u)) := by
        iterate 5 (refine Draw.put ?_ (by dsimp only; omega) _)
        exact D7
      have F8 : At fb q.vals (((((w7.setCell ⟨fb + 1, 0, none⟩ (.string r.p.n)).setCell ⟨fb + 1, 1, none⟩ (.int .i64 r.p.a)).setCell ⟨fb + 1, 2, none⟩ (.int .i64 r.p.b)).setCell ⟨fb + 1, 3, none⟩ (.int .i64 r.p.e)).setCell ⟨fb + 1, 4, none⟩ (.int .i64 r.p.u)) := by
        iterate 5 (refine At.setB ?_ (by simp) _)
        exact F7
      have N8 : At (fb + 1) r.p.vals (((((w7.setCell ⟨fb + 1, 0, none⟩ (.string r.p.n)).setCell ⟨fb + 1, 1, none⟩ (.int .i64 r.p.a)).setCell ⟨fb + 1, 2, none⟩ (.int .i64 r.p.b)).setCell ⟨fb + 1, 3, none⟩ (.int .i64 r.p.e)).setCell ⟨fb + 1, 4, none⟩ (.int .i64 r.p.u)) := ((((N7.set 0 (.string r.p.n)).set 1 (.int .i64 r.p.a)).set 2 (.int .i64 r.p.b)).set 3 (.int .i64 r.p.e)).set 4 (.int .i64 r.p.u)
      have O8 : OwnR (((((w7.setCell ⟨fb + 1, 0, none⟩ (.string r.p.n)).setCell ⟨fb + 1, 1, none⟩ (.int .i64 r.p.a)).setCell ⟨fb + 1, 2, none⟩ (.int .i64 r.p.b)).setCell ⟨fb + 1, 3, none⟩ (.int .i64 r.p.e)).setCell ⟨fb + 1, 4, none⟩ (.int .i64 r.p.u)) (fb + 1 + 1) v3 (rs ++ [r]) := by
        iterate 5 (refine Own.setCell ?_ (fun k hk e => by have := (Own.lt O7 k hk).1; dsimp only at e; omega) _)
        exact O7
      have T8 := Lib.hid (CLoop.mk (k := k - 1) ⟨pr, by omega, D8⟩ F8 N8 O8 (fun y hy => by rcases List.mem_append.1 hy with hy | hy; exact HS.out y hy; simp at hy; subst hy; exact hr) hr (by simp; omega))
      have x0 := X7.cell 0 _ rfl
      have x1 := X7.cell 1 _ rfl
      have x2 := X7.cell 2 _ rfl
      have x3 := X7.cell 3 _ rfl
      have x4 := X7.cell 4 _ rfl
      have y0 := N7.cell 0 _ rfl
      have y1 := N7.cell 1 _ rfl
      have y2 := N7.cell 2 _ rfl
      have y3 := N7.cell 3 _ rfl
      have y4 := N7.cell 4 _ rfl
      have f0 := N7.free 0 _ rfl
      have f1 := N7.free 1 _ rfl
      have f2 := N7.free 2 _ rfl
      have f3 := N7.free 3 _ rfl
      have f4 := N7.free 4 _ rfl
      clear D7 F7 N7 X7 O7 D8 F8 N8 O8
      go_wp2_with fail
      go_roundw
      case rel => exact ⟨k - 1, _, _, by omega, by go_num, T8.out⟩
      case measure => simp [intOf]; omega
end Go.Proofs.YtmdknbgpddnplaaGreatDoor
