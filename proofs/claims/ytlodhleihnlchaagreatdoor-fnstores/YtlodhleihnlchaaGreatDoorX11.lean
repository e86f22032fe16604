/- Texts of this seat that several laws rest on, laid into one. Conditions: as each theorem states. -/
import Derived.Test.YtlodhleihnlchaaGreatDoorX4
import Derived.Test.YtlodhleihnlchaaGreatDoorX6
import Derived.Test.YtlodhleihnlchaaGreatDoorX7
import Derived.Test.YtlodhleihnlchaaGreatDoorX8
import Derived.Test.YtlodhleihnlchaaGreatDoorX9
import Derived.Test.YtlodhleihnlchaaGreatDoorX10
namespace Go.Proofs.YtlodhleihnlchaaGreatDoor
open Go.RowKit
set_option maxRecDepth 100000
set_option linter.unusedVariables false

theorem sum_val7 {v : Int} (h : M.sumB v = true) : 256 * (v / 256) + v % 256 = v := by omega
theorem pin_back {p : PinD} (h : p.f = 0) : readR (packPL p) = p ∧ readC (packPL p) = 0 := by
  obtain ⟨-, h1, h2, h3, h4⟩ := pin_bounds h
  have e : pinZ (packP p) = p := by
    obtain ⟨n, a, b, e, u⟩ := p
    have en : pinNm (packP ⟨n, a, b, e, u⟩) = n.data.toList := by
      have : (packP ⟨n, a, b, e, u⟩).drop 7 = M.textL n := rfl
      unfold pinNm
      rw [this]
      unfold M.textL
      rw [List.map_map]
      have : n.data.toList.map ((fun z : Int => UInt8.ofNat z.toNat) ∘ fun c : UInt8 => (c.toNat : Int)) = n.data.toList.map id := List.map_congr_left fun c _ => by simp
      rw [this, List.map_id]
    show PinD.mk (M.bs (pinNm (packP ⟨n, a, b, e, u⟩))) (256 * (a / 256) + a % 256) (256 * (b / 256) + b % 256) e (256 * (u / 256) + u % 256) = _
    rw [en, M.bs_data, sum_val7 h1, sum_val7 h2, sum_val7 h4]
  have ok : pinOk (packP p) = true := by
    unfold pinOk
    rw [e, h, packP_length]
    simp
  have ep : packPL p = packP p := by simp [packPL, h]
  rw [ep]
  unfold readR readC
  rw [ok, e]
  exact ⟨rfl, rfl⟩
structure PutOk (ps : List PinD) (p : PinD) : Prop where
  fp : p.f = 0
  fr : pinsF (putR ps p) = 0
  fc : findC (putR ps p) p.n.data.toList = 0
  ff : findR (putR ps p) p.n.data.toList = p
  old : putC (putR ps p) p = 11
  was : findC ps p.n.data.toList ≠ 0 ∨ (findC ps p.n.data.toList = 0 ∧ (findR ps p.n.data.toList).e < p.e)
theorem put_ok {ps : List PinD} {p : PinD} (h : putC ps p = 0) : PutOk ps p := by
  have h0 : pinsF ps = 0 := by
    by_cases e : pinsF ps = 0
    · exact e
    · exact absurd ((putC_list (p := p) e).1.symm.trans h) e
  have h1 : p.f = 0 := by
    by_cases e : p.f = 0
    · exact e
    · exact absurd ((putC_pin h0 e).1.symm.trans h) e
  obtain ⟨hl, hf, hr⟩ := pinsF_zero h0
  have er : putR ps p = putL ps p := by unfold putR; rw [if_pos h]
  have hmem : p ∈ putL ps p := (putG_perm p ps).mem_iff.2 (by simp)
  have hr2 := putL_rise p hr
  have hf2 : ∀ q ∈ putL ps p, q.f = 0 := fun q hq => by
    rcases putL_mem hq with rfl | hq
    · exact h1
    · exact hf q hq
  have hlen : (putL ps p).length = (Others ps p).length + 1 := by
    exact (putG_perm p ps).length_eq.trans (List.length_cons ..)
  have hl2 : (putL ps p).length ≤ 4 := by
    rw [hlen]
    cases hq : findP ps p.nm with
    | none =>
      have h4 : ps.length ≠ 4 := fun e => by have := (putC_full h0 h1 hq e).1; omega
      rw [others_none hq]
      omega
    | some q =>
      have := others_lt hq
      omega
  have hp2 := pinsF_make hl2 hf2 hr2
  have hfd : findP (putL ps p) p.nm = some p := findP_of hr2 hmem
  obtain ⟨hn, hb⟩ := M.normF_zero (pinF_zero h1).1
  have hn' : M.nameF p.n.data.toList = 0 := hn
  have hb' : M.nrm p.n.data.toList = p.nm := hb
  refine ⟨h1, by rw [er]; exact hp2, ?_, ?_, ?_, ?_⟩
  · unfold findC
    rw [er, hp2, hn', hb', hfd]
    simp
  · unfold findR
    rw [er, hp2, hn', hb', hfd]
    simp
  · unfold putC
    rw [er, hp2, h1, hfd]
    simp
  · have ec : findC ps p.n.data.toList = match findP ps p.nm with | some _ => 0 | none => 4 := by
      unfold findC
      rw [h0, hn', hb']
      simp only [ne_eq, not_true_eq_false, if_false]
      cases findP ps p.nm <;> rfl
    have efr : findR ps p.n.data.toList = (findP ps p.nm).getD pin0 := by
      unfold findR
      rw [h0, hn', hb']
      simp
    cases hq : findP ps p.nm with
    | none =>
      rw [hq] at ec
      left
      rw [ec]
      decide
    | some q =>
      rw [hq] at ec efr
      right
      refine ⟨ec, ?_⟩
      rw [efr]
      show q.e < p.e
      have : putC ps p = if q.e ≥ p.e then 11 else 0 := by
        unfold putC
        rw [h0, h1, hq]
        simp
      rw [this] at h
      split at h
      · cases h
      · omega
end Go.Proofs.YtlodhleihnlchaaGreatDoor
namespace Go.Proofs.YtlodhleihnlchaaGreatDoor
open Go.RowKit
set_option linter.unusedVariables false

def recP (p : PinD) : List Int := packP p ++ M.two (M.sumL (packP p))
theorem recP_length (p : PinD) : (recP p).length = 9 + p.n.size := by
  unfold recP
  rw [List.length_append, packP_length]
  show 7 + p.n.size + 2 = _
  omega
theorem sumL_sum9 (zs : List Int) : M.sumB (M.sumL zs) = true := by
  have := M.sumL_bd zs
  simp only [M.sumB, decide_eq_true_eq]; omega
theorem recP_byte {p : PinD} (h : p.f = 0) : ∀ z ∈ recP p, M.byteB z := by
  intro z hz
  rcases List.mem_append.1 hz with hz | hz
  · exact packP_byte h z hz
  · exact M.two_byte (sumL_sum9 _) z hz
def body (zs : List Int) : List Int := zs.take (zs.length - 2)
def tailN (zs : List Int) : Int := 256 * zs.getD (zs.length - 2) 0 + zs.getD (zs.length - 1) 0
def recOk (zs : List Int) : Bool := decide (2 ≤ zs.length) && (decide (tailN zs = M.sumL (body zs)) && pinOk (body zs))
theorem body_app (xs : List Int) (n : Int) : body (xs ++ M.two n) = xs := by
  unfold body
  have : (xs ++ M.two n).length - 2 = xs.length := by simp [M.two]
  rw [this, List.take_left]
theorem tail_app (xs : List Int) (n : Int) : tailN (xs ++ M.two n) = n := by
  unfold tailN
  have e : (xs ++ M.two n).length = xs.length + 2 := by simp [M.two]
  rw [e]
  have e0 : (xs ++ M.two n).getD (xs.length + 2 - 2) 0 = n / 256 := by simp [M.two]
  have e1 : (xs ++ M.two n).getD (xs.length + 2 - 1) 0 = n % 256 := by
    rw [show xs.length + 2 - 1 = xs.length + 1 by omega]
    simp [M.two]
  rw [e0, e1]
  omega
theorem pin_back9 {p : PinD} (h : p.f = 0) : pinOk (packP p) = true ∧ pinZ (packP p) = p := by
  obtain ⟨h1, h2⟩ := pin_back h
  have ep : packPL p = packP p := by simp [packPL, h]
  rw [ep] at h1 h2
  cases ok : pinOk (packP p)
  · simp [readC, ok] at h2
  · refine ⟨rfl, ?_⟩
    simpa [readR, ok] using h1
theorem rec_back {p : PinD} (h : p.f = 0) : recOk (recP p) = true ∧ pinZ (body (recP p)) = p := by
  obtain ⟨h1, h2⟩ := pin_back9 h
  have hl := recP_length p
  unfold recOk
  have eb : body (recP p) = packP p := body_app _ _
  have et : tailN (recP p) = M.sumL (packP p) := tail_app _ _
  rw [eb, et, h1, h2]
  refine ⟨?_, rfl⟩
  have : 2 ≤ (recP p).length := by omega
  simp [this]
theorem recOk_pin {zs : List Int} (h : recOk zs = true) : (pinZ (body zs)).f = 0 ∧ 2 ≤ zs.length ∧ tailN zs = M.sumL (body zs) ∧ pinOk (body zs) = true := by
  simp only [recOk, Bool.and_eq_true, decide_eq_true_eq] at h
  have hp := h.2.2
  simp only [pinOk, Bool.and_eq_true, decide_eq_true_eq] at hp
  exact ⟨hp.2, h.1, h.2.1, h.2.2⟩

def openG : List PinD → List (List Int) → Int × List PinD
  | ps, [] => (0, ps)
  | ps, r :: rs => if recOk r then (if put0 ps (pinZ (body r)) = 0 then openG (putL ps (pinZ (body r))) rs else (put0 ps (pinZ (body r)), [])) else (5, [])
theorem openG_nil (ps : List PinD) : openG ps [] = (0, ps) := by rw [openG]
theorem openG_no {ps : List PinD} {r : List Int} {rs : List (List Int)} (h : recOk r = false) : openG ps (r :: rs) = (5, []) := by rw [openG, h]; rfl
theorem openG_bad {ps : List PinD} {r : List Int} {rs : List (List Int)} (h : recOk r = true) (h1 : put0 ps (pinZ (body r)) ≠ 0) : openG ps (r :: rs) = (put0 ps (pinZ (body r)), []) := by rw [openG, if_pos h, if_neg h1]
theorem openG_put {ps : List PinD} {r : List Int} {rs : List (List Int)} (h : recOk r = true) (h1 : put0 ps (pinZ (body r)) = 0) : openG ps (r :: rs) = openG (putL ps (pinZ (body r))) rs := by rw [openG, if_pos h, if_pos h1]
theorem openG_cases {ps : List PinD} {r : List Int} {rs : List (List Int)} : (recOk r = false ∧ openG ps (r :: rs) = (5, [])) ∨ (recOk r = true ∧ put0 ps (pinZ (body r)) ≠ 0 ∧ openG ps (r :: rs) = (put0 ps (pinZ (body r)), [])) ∨ (recOk r = true ∧ put0 ps (pinZ (body r)) = 0 ∧ openG ps (r :: rs) = openG (putL ps (pinZ (body r))) rs) := by
  cases h : recOk r
  · exact .inl ⟨rfl, openG_no h⟩
  · by_cases h1 : put0 ps (pinZ (body r)) = 0
    · exact .inr (.inr ⟨rfl, h1, openG_put h h1⟩)
    · exact .inr (.inl ⟨rfl, h1, openG_bad h h1⟩)
theorem openG_drop {ps : List PinD} {rs : List (List Int)} {k : Nat} (hk : k < rs.length) : openG ps (rs.drop k) = openG ps ((rs[k]?.getD []) :: rs.drop (k + 1)) := by
  congr 1
  rw [List.drop_eq_getElem_cons hk, List.getElem?_eq_getElem hk]
  rfl
theorem openG_ne : ∀ {rs : List (List Int)} {ps : List PinD}, (openG ps rs).1 ≠ 0 → (openG ps rs).2 = []
  | [], ps, h => by rw [openG_nil] at h; exact absurd rfl h
  | r :: rs, ps, h => by
    rcases openG_cases (ps := ps) (r := r) (rs := rs) with ⟨_, e⟩ | ⟨_, _, e⟩ | ⟨_, _, e⟩
    · rw [e]
    · rw [e]
    · rw [e] at h ⊢; exact openG_ne h
theorem openG_append : ∀ (rs qs : List (List Int)) (ps : List PinD), openG ps (rs ++ qs) = if (openG ps rs).1 = 0 then openG (openG ps rs).2 qs else openG ps rs
  | [], qs, ps => by rw [openG_nil, if_pos rfl]; rfl
  | r :: rs, qs, ps => by
    rw [List.cons_append]
    cases h : recOk r
    · rw [openG_no h, openG_no h]; rfl
    · by_cases h1 : put0 ps (pinZ (body r)) = 0
      · rw [openG_put h h1, openG_put h h1]; exact openG_append rs qs _
      · rw [openG_bad h h1, openG_bad h h1, if_neg h1]
theorem openG_take {rs : List (List Int)} {ps : List PinD} (n : Nat) (h : (openG ps rs).1 = 0) : (openG ps (rs.take n)).1 = 0 ∧ openG ps rs = openG (openG ps (rs.take n)).2 (rs.drop n) := by
  have e := openG_append (rs.take n) (rs.drop n) ps
  rw [List.take_append_drop] at e
  by_cases h1 : (openG ps (rs.take n)).1 = 0
  · rw [if_pos h1] at e
    exact ⟨h1, e⟩
  · rw [if_neg h1] at e
    rw [e] at h
    exact absurd h h1
theorem put_right {ps : List PinD} {p : PinD} (h : pinsF ps = 0) (h1 : p.f = 0) (h2 : put0 ps p = 0) : pinsF (putL ps p) = 0 := by
  have e := put0_code h h1
  have hc : putC ps p = 0 := by rw [e.1]; exact h2
  have := (put_ok hc).fr
  unfold putR at this
  rwa [if_pos hc] at this
theorem openG_right : ∀ {rs : List (List Int)} {ps : List PinD}, pinsF ps = 0 → (openG ps rs).1 = 0 → pinsF (openG ps rs).2 = 0
  | [], ps, h, _ => by rw [openG_nil]; exact h
  | r :: rs, ps, h, h0 => by
    rcases openG_cases (ps := ps) (r := r) (rs := rs) with ⟨_, e⟩ | ⟨_, hp, e⟩ | ⟨ho, hp, e⟩
    · rw [e] at h0; cases h0
    · rw [e] at h0; exact absurd h0 hp
    · rw [e] at h0 ⊢
      exact openG_right (put_right h (recOk_pin ho).1 hp) h0
theorem putL_has (ps : List PinD) (p : PinD) : p ∈ putL ps p := (putG_perm p ps).mem_iff.2 (by simp)
theorem putL_kept {ps : List PinD} {p q : PinD} (h : q ∈ ps) (hn : q.nm ≠ p.nm) : q ∈ putL ps p := (putG_perm p ps).mem_iff.2 (by simp [h, hn])
theorem findP_put {ps : List PinD} {p : PinD} (hr : Rise ps) : findP (putL ps p) p.nm = some p := findP_of (putL_rise p hr) (putL_has ps p)
theorem findP_else {ps : List PinD} {p : PinD} {l : List UInt8} (hr : Rise ps) (hn : p.nm ≠ l) : findP (putL ps p) l = findP ps l := by
  cases h : findP ps l with
  | none =>
    have hno := findP_none h
    cases h2 : findP (putL ps p) l with
    | none => rfl
    | some q =>
      obtain ⟨hm, hq⟩ := findP_mem h2
      rcases putL_mem hm with rfl | hm
      · exact absurd hq hn
      · exact absurd hq (hno q hm)
  | some q =>
    obtain ⟨hm, rfl⟩ := findP_mem h
    exact findP_of (putL_rise p hr) (putL_kept hm fun e => hn e.symm)
theorem openG_grow : ∀ {rs : List (List Int)} {ps : List PinD}, pinsF ps = 0 → (openG ps rs).1 = 0 → ∀ {l : List UInt8} {p : PinD}, findP ps l = some p → ∃ q, findP (openG ps rs).2 l = some q ∧ p.e ≤ q.e
  | [], ps, _, _, l, p, hf => by rw [openG_nil]; exact ⟨p, hf, Int.le_refl _⟩
  | r :: rs, ps, h, h0, l, p, hf => by
    rcases openG_cases (ps := ps) (r := r) (rs := rs) with ⟨_, e⟩ | ⟨_, hp, e⟩ | ⟨ho, hp, e⟩
    · rw [e] at h0; cases h0
    · rw [e] at h0; exact absurd h0 hp
    · rw [e] at h0 ⊢
      have hR := put_right h (recOk_pin ho).1 hp
      have hr := (pinsF_zero h).2.2
      by_cases hn : (pinZ (body r)).nm = l
      · subst hn
        obtain ⟨q, h1, h2⟩ := openG_grow hR h0 (findP_put (p := pinZ (body r)) hr)
        refine ⟨q, h1, Int.le_trans ?_ h2⟩
        by_cases hle : (pinZ (body r)).e ≤ p.e
        · rw [put0_old hf hle] at hp; cases hp
        · omega
      · exact openG_grow hR h0 (by rw [findP_else hr hn]; exact hf)
theorem openG_note {rs : List (List Int)} {p : PinD} (h : (openG [] rs).1 = 0) (hp : p.f = 0) : openG [] (rs ++ [recP p]) = if put0 (openG [] rs).2 p = 0 then (0, putL (openG [] rs).2 p) else (put0 (openG [] rs).2 p, []) := by
  obtain ⟨h1, h2⟩ := rec_back hp
  rw [openG_append, if_pos h, openG, if_pos h1, h2, openG_nil]
end Go.Proofs.YtlodhleihnlchaaGreatDoor
namespace Go.Proofs.YtlodhleihnlchaaGreatDoor
set_option linter.unusedVariables false

end Go.Proofs.YtlodhleihnlchaaGreatDoor
namespace Go.Proofs.YtlodhleihnlchaaGreatDoor
open Go.RowKit
set_option linter.unusedVariables false

theorem sameL_eq : ∀ {ps qs : List PinD}, sameL ps qs = true → ps = qs
  | [], [], _ => rfl
  | [], _ :: _, h => by cases h
  | _ :: _, [], h => by cases h
  | p :: r, q :: s, h => by
    rw [sameL, Bool.and_eq_true] at h
    rw [(pinEq_iff p q).1 h.1, sameL_eq h.2]
def openC (d : DiskD) : Int := if diskF d = 0 then (openG [] d.rs).1 else diskF d
def openS (d : DiskD) : StoreD := if openC d = 0 then ⟨(openG [] d.rs).2, d⟩ else store0
theorem openC_bad {d : DiskD} (h : diskF d ≠ 0) : openC d = diskF d := by unfold openC; rw [if_neg h]
theorem openC_ok {d : DiskD} (h : diskF d = 0) : openC d = (openG [] d.rs).1 := by unfold openC; rw [if_pos h]
theorem openC_zero {d : DiskD} (h : openC d = 0) : diskF d = 0 ∧ (openG [] d.rs).1 = 0 := by
  by_cases h0 : diskF d = 0
  · rw [openC_ok h0] at h; exact ⟨h0, h⟩
  · rw [openC_bad h0] at h; exact absurd h h0
theorem openC_make {d : DiskD} (h : diskF d = 0) (h1 : (openG [] d.rs).1 = 0) : openC d = 0 := by rw [openC_ok h, h1]
theorem openS_yes {d : DiskD} (h : openC d = 0) : openS d = ⟨(openG [] d.rs).2, d⟩ := by unfold openS; rw [if_pos h]
theorem openS_no {d : DiskD} (h : openC d ≠ 0) : openS d = store0 := by unfold openS; rw [if_neg h]
def storeF (s : StoreD) : Int := if openC s.d = 0 then (if sameL (openG [] s.d.rs).2 s.ps then 0 else 8) else openC s.d
theorem storeF_bad {s : StoreD} (h : openC s.d ≠ 0) : storeF s = openC s.d := by unfold storeF; rw [if_neg h]
theorem storeF_else {s : StoreD} (h : openC s.d = 0) (h1 : sameL (openG [] s.d.rs).2 s.ps = false) : storeF s = 8 := by unfold storeF; rw [if_pos h, h1]; rfl
theorem storeF_yes {s : StoreD} (h : openC s.d = 0) (h1 : sameL (openG [] s.d.rs).2 s.ps = true) : storeF s = 0 := by unfold storeF; rw [if_pos h, if_pos h1]
theorem storeF_zero {s : StoreD} (h : storeF s = 0) : openC s.d = 0 ∧ (openG [] s.d.rs).2 = s.ps := by
  by_cases h0 : openC s.d = 0
  · cases h1 : sameL (openG [] s.d.rs).2 s.ps
    · rw [storeF_else h0 h1] at h; cases h
    · exact ⟨h0, sameL_eq h1⟩
  · rw [storeF_bad h0] at h; exact absurd h h0
theorem storeF_make {s : StoreD} (h : openC s.d = 0) (h1 : (openG [] s.d.rs).2 = s.ps) : storeF s = 0 := storeF_yes h (by rw [h1]; exact sameL_self _)
theorem pins0 : pinsF [] = 0 := rfl
theorem store0_f : storeF store0 = 0 := storeF_make (openC_make rfl rfl) rfl
theorem storeF_pins {s : StoreD} (h : storeF s = 0) : pinsF s.ps = 0 := by
  obtain ⟨h1, h2⟩ := storeF_zero h
  rw [← h2]
  exact openG_right pins0 (openC_zero h1).2
theorem openS_f {d : DiskD} (h : openC d = 0) : storeF (openS d) = 0 := by
  rw [openS_yes h]
  exact storeF_make (s := ⟨(openG [] d.rs).2, d⟩) h rfl
theorem openS_self {s : StoreD} (h : storeF s = 0) : openS s.d = s := by
  obtain ⟨h1, h2⟩ := storeF_zero h
  rw [openS_yes h1, h2]
def noted (s : StoreD) (p : PinD) : StoreD := ⟨putL s.ps p, ⟨s.d.rs ++ [recP p], s.d.s⟩⟩
def noteC (s : StoreD) (p : PinD) : Int := if storeF s = 0 then (if putC s.ps p = 0 then (if 12 ≤ s.d.rs.length then 7 else 0) else putC s.ps p) else storeF s
def noteS (s : StoreD) (p : PinD) : StoreD := if noteC s p = 0 then noted s p else store0
theorem noteC_bad {s : StoreD} {p : PinD} (h : storeF s ≠ 0) : noteC s p = storeF s := by unfold noteC; rw [if_neg h]
theorem noteC_put {s : StoreD} {p : PinD} (h : storeF s = 0) (h1 : putC s.ps p ≠ 0) : noteC s p = putC s.ps p := by unfold noteC; rw [if_pos h, if_neg h1]
theorem noteC_full {s : StoreD} {p : PinD} (h : storeF s = 0) (h1 : putC s.ps p = 0) (h2 : 12 ≤ s.d.rs.length) : noteC s p = 7 := by unfold noteC; rw [if_pos h, if_pos h1, if_pos h2]
theorem noteC_yes {s : StoreD} {p : PinD} (h : storeF s = 0) (h1 : putC s.ps p = 0) (h2 : ¬ 12 ≤ s.d.rs.length) : noteC s p = 0 := by unfold noteC; rw [if_pos h, if_pos h1, if_neg h2]
theorem noteC_zero {s : StoreD} {p : PinD} (h : noteC s p = 0) : storeF s = 0 ∧ putC s.ps p = 0 ∧ s.d.rs.length < 12 := by
  by_cases h0 : storeF s = 0
  · by_cases h1 : putC s.ps p = 0
    · by_cases h2 : 12 ≤ s.d.rs.length
      · rw [noteC_full h0 h1 h2] at h; cases h
      · exact ⟨h0, h1, by omega⟩
    · rw [noteC_put h0 h1] at h; exact absurd h h1
  · rw [noteC_bad h0] at h; exact absurd h h0
theorem recP_short {p : PinD} (h : p.f = 0) : longR (recP p) = false := by
  have := pin_size h
  have := recP_length p
  simp only [longR, decide_eq_false_iff_not]
  omega
theorem noted_f {s : StoreD} {p : PinD} (h : storeF s = 0) (h1 : putC s.ps p = 0) (h2 : s.d.rs.length < 12) : storeF (noted s p) = 0 := by
  obtain ⟨ho, hp⟩ := storeF_zero h
  obtain ⟨hd, hg⟩ := openC_zero ho
  have P := put_ok h1
  have hput : put0 s.ps p = 0 := by rw [← (put0_code (storeF_pins h) P.fp).1]; exact h1
  have eg : openG [] (s.d.rs ++ [recP p]) = (0, putL s.ps p) := by
    rw [openG_note hg P.fp, hp, if_pos hput]
  obtain ⟨d1, d2, d3, d4⟩ := diskF_zero hd
  refine storeF_make (s := noted s p) (openC_make ?_ ?_) ?_
  · show diskF ⟨s.d.rs ++ [recP p], s.d.s⟩ = 0
    refine diskF_yes ?_ ?_ ?_
    · simp; omega
    · simp only [List.any_append, d2, List.any_cons, recP_short P.fp, List.any_nil, Bool.or_false]
    · refine ⟨d3, ?_⟩
      simp only [List.length_append, List.length_cons, List.length_nil]
      omega
  · show (openG [] (s.d.rs ++ [recP p])).1 = 0
    rw [eg]
  · show (openG [] (s.d.rs ++ [recP p])).2 = putL s.ps p
    rw [eg]
structure NoteOk (s : StoreD) (p : PinD) : Prop where
  f : storeF (noteS s p) = 0
  c : openC (noteS s p).d = 0
  o : openS (noteS s p).d = noteS s p
  fc : findC (noteS s p).ps p.n.data.toList = 0
  ff : findR (noteS s p).ps p.n.data.toList = p
  safe : (noteS s p).d.s = s.d.s
theorem note_ok {s : StoreD} {p : PinD} (h : noteC s p = 0) : NoteOk s p := by
  obtain ⟨h0, h1, h2⟩ := noteC_zero h
  have e : noteS s p = noted s p := by unfold noteS; rw [if_pos h]
  have hf := noted_f h0 h1 h2
  have P := put_ok h1
  have er : putR s.ps p = putL s.ps p := by unfold putR; rw [if_pos h1]
  have P1 := P.fc
  have P2 := P.ff
  rw [er] at P1 P2
  refine ⟨by rw [e]; exact hf, by rw [e]; exact (storeF_zero hf).1, by rw [e]; exact openS_self hf, by rw [e]; exact P1, by rw [e]; exact P2, by rw [e]; rfl⟩
def rollC (s : StoreD) (r : RollD) (t : Int) : Int := if storeF s = 0 then (if applyC s.ps r t = 0 then (if 12 ≤ s.d.rs.length then 7 else 0) else applyC s.ps r t) else storeF s
def rollSt (s : StoreD) (r : RollD) (t : Int) : StoreD := if rollC s r t = 0 then noted s r.p else store0
theorem rollC_bad {s : StoreD} {r : RollD} {t : Int} (h : storeF s ≠ 0) : rollC s r t = storeF s := by unfold rollC; rw [if_neg h]
theorem rollC_app {s : StoreD} {r : RollD} {t : Int} (h : storeF s = 0) (h1 : applyC s.ps r t ≠ 0) : rollC s r t = applyC s.ps r t := by unfold rollC; rw [if_pos h, if_neg h1]
theorem rollC_note {s : StoreD} {r : RollD} {t : Int} (h : storeF s = 0) (h1 : applyC s.ps r t = 0) : rollC s r t = noteC s r.p ∧ rollSt s r t = noteS s r.p := by
  obtain ⟨_, _, q, _, _, hp, _⟩ := applyC_zero h1
  have e : rollC s r t = noteC s r.p := by unfold rollC noteC; rw [if_pos h, if_pos h1, if_pos h, if_pos hp]
  exact ⟨e, by unfold rollSt noteS; rw [e]⟩
theorem rollC_zero {s : StoreD} {r : RollD} {t : Int} (h : rollC s r t = 0) : storeF s = 0 ∧ applyC s.ps r t = 0 := by
  by_cases h0 : storeF s = 0
  · by_cases h1 : applyC s.ps r t = 0
    · exact ⟨h0, h1⟩
    · rw [rollC_app h0 h1] at h; exact absurd h h1
  · rw [rollC_bad h0] at h; exact absurd h h0
theorem roll_ok {s : StoreD} {r : RollD} {t : Int} (h : rollC s r t = 0) : storeF (rollSt s r t) = 0 ∧ findC (rollSt s r t).ps r.p.n.data.toList = 0 ∧ findR (rollSt s r t).ps r.p.n.data.toList = r.p := by
  obtain ⟨h0, h1⟩ := rollC_zero h
  obtain ⟨e1, e2⟩ := rollC_note h0 h1
  rw [e1] at h
  have N := note_ok h
  rw [e2]
  exact ⟨N.f, N.fc, N.ff⟩
def syncS (s : StoreD) : StoreD := if storeF s = 0 then ⟨s.ps, ⟨s.d.rs, s.d.rs.length⟩⟩ else store0
theorem diskF_s {rs : List (List Int)} {s t : Int} (h : diskF ⟨rs, s⟩ = 0) (h1 : 0 ≤ t ∧ t ≤ rs.length) : diskF ⟨rs, t⟩ = 0 := by
  obtain ⟨d1, d2, _, _⟩ := diskF_zero h
  exact diskF_yes (d := ⟨rs, t⟩) (by show ¬ 12 < rs.length; have : rs.length ≤ 12 := d1; omega) d2 h1
theorem sync_f {s : StoreD} (h : storeF s = 0) : storeF (syncS s) = 0 ∧ (syncS s).d.s = s.d.rs.length := by
  obtain ⟨ho, hp⟩ := storeF_zero h
  obtain ⟨hd, hg⟩ := openC_zero ho
  have e : syncS s = ⟨s.ps, ⟨s.d.rs, s.d.rs.length⟩⟩ := by unfold syncS; rw [if_pos h]
  rw [e]
  exact ⟨storeF_make (s := ⟨s.ps, ⟨s.d.rs, s.d.rs.length⟩⟩) (openC_make (diskF_s (s := s.d.s) hd ⟨by omega, Int.le_refl _⟩) hg) hp, rfl⟩
def leftN (s : StoreD) (k : Int) : Int := s.d.s + (if k ≤ s.d.rs.length - s.d.s then k else s.d.rs.length - s.d.s)
def leftD (s : StoreD) (k : Int) : DiskD := ⟨s.d.rs.take (leftN s k).toNat, leftN s k⟩
def crashC (s : StoreD) (k : Int) : Int := if storeF s = 0 then (if k < 0 then 3 else 0) else storeF s
def crashS (s : StoreD) (k : Int) : StoreD := if crashC s k = 0 then openS (leftD s k) else store0
theorem crashC_bad {s : StoreD} {k : Int} (h : storeF s ≠ 0) : crashC s k = storeF s := by unfold crashC; rw [if_neg h]
theorem crashC_neg {s : StoreD} {k : Int} (h : storeF s = 0) (h1 : k < 0) : crashC s k = 3 := by unfold crashC; rw [if_pos h, if_pos h1]
theorem crashC_yes {s : StoreD} {k : Int} (h : storeF s = 0) (h1 : ¬ k < 0) : crashC s k = 0 := by unfold crashC; rw [if_pos h, if_neg h1]
theorem crashC_zero {s : StoreD} {k : Int} (h : crashC s k = 0) : storeF s = 0 ∧ 0 ≤ k := by
  by_cases h0 : storeF s = 0
  · by_cases h1 : k < 0
    · rw [crashC_neg h0 h1] at h; cases h
    · exact ⟨h0, by omega⟩
  · rw [crashC_bad h0] at h; exact absurd h h0
theorem left_bd {s : StoreD} {k : Int} (h : storeF s = 0) (hk : 0 ≤ k) : 0 ≤ s.d.s ∧ s.d.s ≤ leftN s k ∧ leftN s k ≤ s.d.rs.length := by
  obtain ⟨_, _, d3, d4⟩ := diskF_zero (openC_zero (storeF_zero h).1).1
  unfold leftN
  refine ⟨d3, ?_, ?_⟩
  · split <;> omega
  · split <;> omega
theorem left_len {s : StoreD} {k : Int} (h : storeF s = 0) (hk : 0 ≤ k) : ((leftD s k).rs.length : Int) = leftN s k := by
  have := left_bd h hk
  show (((s.d.rs.take (leftN s k).toNat).length : Nat) : Int) = _
  rw [List.length_take]
  omega
theorem take_disk {rs : List (List Int)} {n : Nat} {s t : Int} (h : diskF ⟨rs, s⟩ = 0) (h1 : 0 ≤ t ∧ t ≤ (rs.take n).length) : diskF ⟨rs.take n, t⟩ = 0 := by
  obtain ⟨d1, d2, _, _⟩ := diskF_zero h
  refine diskF_yes (d := ⟨rs.take n, t⟩) ?_ ?_ h1
  · show ¬ 12 < (rs.take n).length
    have : rs.length ≤ 12 := d1
    rw [List.length_take]
    omega
  · exact List.any_eq_false.2 fun r hr => List.any_eq_false.1 d2 r (List.mem_of_mem_take hr)
theorem left_open {s : StoreD} {k : Int} (h : storeF s = 0) (hk : 0 ≤ k) : openC (leftD s k) = 0 := by
  have hl := left_len h hk
  have hb := left_bd h hk
  obtain ⟨hd, hg⟩ := openC_zero (storeF_zero h).1
  refine openC_make (take_disk (s := s.d.s) hd ⟨by omega, ?_⟩) (openG_take _ hg).1
  show leftN s k ≤ ((leftD s k).rs.length : Int)
  omega
theorem safe_open {s : StoreD} (h : storeF s = 0) : openC ⟨s.d.rs.take s.d.s.toNat, 0⟩ = 0 := by
  obtain ⟨hd, hg⟩ := openC_zero (storeF_zero h).1
  exact openC_make (take_disk (s := s.d.s) hd ⟨by omega, by omega⟩) (openG_take _ hg).1
structure CrashOk (s : StoreD) (k : Int) : Prop where
  f : storeF (crashS s k) = 0
  d : (crashS s k).d = leftD s k
  safe : (crashS s k).d.s = (crashS s k).d.rs.length
  len : s.d.s ≤ (crashS s k).d.rs.length
  again : crashC (crashS s k) 0 = 0 ∧ crashS (crashS s k) 0 = crashS s k
  old : ∀ p ∈ (openS ⟨s.d.rs.take s.d.s.toNat, 0⟩).ps, findC (crashS s k).ps p.nm = 0 ∧ p.e ≤ (findR (crashS s k).ps p.nm).e
theorem findC_yes {ps : List PinD} {p q : PinD} (h : pinsF ps = 0) (hp : p.f = 0) (hf : findP ps p.nm = some q) : findC ps p.nm = 0 ∧ findR ps p.nm = q := by
  obtain ⟨hn, hb⟩ := M.normF_zero (pinF_zero hp).1
  unfold findC findR
  have hn' : M.nameF p.nm = 0 := hn
  have hb' : M.nrm p.nm = p.nm := hb
  rw [h, hn', hb', hf]
  simp
theorem crash_ok {s : StoreD} {k : Int} (h : crashC s k = 0) : CrashOk s k := by
  obtain ⟨h0, hk⟩ := crashC_zero h
  have ho := left_open h0 hk
  have hl := left_len h0 hk
  have hb := left_bd h0 hk
  have e : crashS s k = openS (leftD s k) := by unfold crashS; rw [if_pos h]
  have ed : (openS (leftD s k)).d = leftD s k := by rw [openS_yes ho]
  have ep : (openS (leftD s k)).ps = (openG [] (leftD s k).rs).2 := by rw [openS_yes ho]
  have hf := openS_f ho
  have es : (leftD s k).s = leftN s k := rfl
  refine ⟨by rw [e]; exact hf, by rw [e]; exact ed, ?_, ?_, ?_, ?_⟩
  · rw [e, ed, es, hl]
  · rw [e, ed, hl]
    exact hb.2.1
  · rw [e]
    have hc := crashC_yes (k := 0) hf (by omega)
    refine ⟨hc, ?_⟩
    have en : leftN (openS (leftD s k)) 0 = leftN s k := by
      have : leftN (openS (leftD s k)) 0 = leftN s k + (if (0 : Int) ≤ (leftD s k).rs.length - leftN s k then 0 else (leftD s k).rs.length - leftN s k) := by
        rw [show leftN (openS (leftD s k)) 0 = (openS (leftD s k)).d.s + (if (0 : Int) ≤ (openS (leftD s k)).d.rs.length - (openS (leftD s k)).d.s then 0 else (openS (leftD s k)).d.rs.length - (openS (leftD s k)).d.s) from rfl, ed, es]
      rw [this, hl, if_pos (by omega)]
      omega
    have el : leftD (openS (leftD s k)) 0 = leftD s k := by
      unfold leftD at *
      rw [en, ed]
      congr 1
      rw [List.take_take, Nat.min_self]
    unfold crashS
    rw [if_pos hc, el]
  · rw [e]
    intro p hp
    have hs := safe_open h0
    rw [openS_yes hs] at hp
    have hR := storeF_pins hf
    obtain ⟨hd, hg⟩ := openC_zero (storeF_zero h0).1
    obtain ⟨hg1, hg2⟩ := openC_zero ho
    have hsafe := (openG_take s.d.s.toNat hg).1
    have hsr := openG_right pins0 hsafe
    obtain ⟨_, sf, sr⟩ := pinsF_zero hsr
    have hm : p ∈ (openG [] (s.d.rs.take s.d.s.toNat)).2 := hp
    have hfp : findP (openG [] (s.d.rs.take s.d.s.toNat)).2 p.nm = some p := findP_of sr hm
    have et : (leftD s k).rs.take s.d.s.toNat = s.d.rs.take s.d.s.toNat := by
      show (s.d.rs.take (leftN s k).toNat).take s.d.s.toNat = _
      rw [List.take_take]
      congr 1
      omega
    have h3 := openG_take (rs := (leftD s k).rs) s.d.s.toNat hg2
    rw [et] at h3
    have hg4 : (openG (openG [] (s.d.rs.take s.d.s.toNat)).2 ((leftD s k).rs.drop s.d.s.toNat)).1 = 0 := by rw [← h3.2]; exact hg2
    obtain ⟨q, hq, hle⟩ := openG_grow hsr hg4 hfp
    rw [← h3.2] at hq
    rw [← ep] at hq
    obtain ⟨f1, f2⟩ := findC_yes hR (sf p hm) hq
    exact ⟨f1, by rw [f2]; exact hle⟩
end Go.Proofs.YtlodhleihnlchaaGreatDoor
namespace Go.Proofs.YtlodhleihnlchaaGreatDoor
open Go.RowKit
set_option maxRecDepth 100000
set_option linter.unusedVariables false

def slotL (zs : List Int) : List Value := (List.range 41).map fun i => if i = 40 then .int .i64 ((zs.length : Nat) : Int) else .int .u8 (zs.getD i 0)
theorem slotL_len (zs : List Int) : (slotL zs).length = 41 := by simp [slotL]
theorem slotL_at (zs : List Int) {i : Nat} (h : i < 41) : (slotL zs)[i]? = some (if i = 40 then .int .i64 ((zs.length : Nat) : Int) else .int .u8 (zs.getD i 0)) := by simp [slotL, h]
theorem slotL_size (zs : List Int) : (slotL zs)[40]? = some (.int .i64 ((zs.length : Nat) : Int)) := by rw [slotL_at zs (by omega)]; rfl
theorem slotL_one (zs : List Int) : (slotL zs).toArray.all (·.oneCell') = true := all_oneCell_toArray fun v hv => by
  simp only [slotL, List.mem_map] at hv
  obtain ⟨i, _, rfl⟩ := hv
  split <;> rfl
theorem JB.slot {g : Nat} {rs : List (List Int)} {n s : Int} {w : World} (h : JB g (jour rs n s) w) {k : Nat} (hk : k < 12) : w.rangeAt g (k * 41) (slotL (rs[k]?.getD [])) := by
  intro j v hv
  have hj : j < 41 := by have := (List.getElem?_eq_some_iff.1 hv).1; rwa [slotL_len] at this
  rw [slotL_at _ hj] at hv
  injection hv with hv
  subst hv
  rw [Nat.mul_comm]
  by_cases h40 : j = 40
  · subst h40
    exact h.at (jour_size rs n s hk)
  · rw [if_neg h40]
    exact h.at (jour_byte rs n s hk (by omega))
theorem slot_fit (zs : List Int) : (Tryz.prog.info? 183).map (·.size) = some (slotL zs).length := by
  rw [slotL_len]
  kernel_rfl
theorem slot_zero : (Tryz.prog.info? 183).map (fun i => (i.zero, i.size)) = some (some (.agg (slotL []).toArray), 41) := by kernel_rfl
theorem slot_row {g : Nat} {zs : List Int} {w : World} (h : At g (slotL zs) w) (hl : zs.length ≤ 40) (hw : ∀ z ∈ zs, (Lit.int .u8 z).wf = true) : Row .u8 w w.heap.size (some ⟨g, 0, none⟩) zs.length 40 zs :=
  ⟨rfl, hw, hl, by simp only [maxLen]; omega, fun hp => ⟨g, 0, rfl, h.lt (by rw [slotL_len]; omega), fun j hj => by
    rw [Nat.zero_add]
    refine h.cell j _ ?_
    rw [slotL_at zs (by omega), if_neg (by omega)]⟩⟩
attribute [irreducible] slotL
structure DSt (W : World) (j r d : Nat) (J : List Value) (v : Value) (s : Int) (zss : List (List Int)) (xs : List Value) (wr : World) : Prop where
  J : JB j J wr
  R : At r [.slice none 0 0, .int .i64 0] wr
  D : At d [v, .int .i64 s] wr
  G : OwnG wr W.heap.size wr.heap.size v zss xs
  B : Below W.heap.size W wr
  off : ∀ k, v.ownBlock = some k → k ≠ j ∧ k ≠ r ∧ k ≠ d
  offx : ∀ (i : Nat) (u : Value) (k : Nat), xs[i]? = some u → u.ownBlock = some k → k ≠ r ∧ k ≠ d
  le : W.heap.size ≤ d
section
variable {W wr w1 w2 : World} {j r d : Nat} {J : List Value} {v : Value} {s : Int} {zss : List (List Int)} {xs : List Value}
theorem DSt.on (h : DSt W j r d J v s zss xs wr) (hb : Below wr.heap.size wr w1) : DSt W j r d J v s zss xs w1 :=
  ⟨h.J.on hb, h.R.on hb, h.D.on hb, (h.G.below hb).more hb.size (Nat.le_refl _), btr h.B hb, h.off, h.offx, h.le⟩
theorem DSt.app (h : DSt W j r d J v s zss xs wr) {v' u : Value} {zs : List Int} (hb : Below wr.heap.size wr w1) (hu : OwnK .u8 w1 wr.heap.size u zs)
    (ho : Own w2 W.heap.size 1 v' (zss.length + 1) (xs ++ [u])) (hg : w1.grownBy w2 v.ownBlock) (hat : v'.ownBlock = v.ownBlock ∨ v'.ownBlock = some w1.heap.size)
    (hd : d ≠ j) (hr : d ≠ r) : DSt W j r d J v' s (zss ++ [zs]) (xs ++ [u]) (w2.setCell ⟨d, 0, none⟩ v') := by
  have T := h.on hb
  have hB := h.B.size
  have hsz := hb.size
  have hJ : JB j J w2 := (hg.block j T.J.lt (fun e => (h.off j e.symm).1 rfl)).trans T.J
  have hR := T.R.kept hg (fun e => (h.off r e.symm).2.1 rfl)
  have hD := T.D.kept hg (fun e => (h.off d e.symm).2.2 rfl)
  have lts : j < w1.heap.size ∧ r < w1.heap.size ∧ d < w1.heap.size := ⟨T.J.lt, T.R.lt (by simp), T.D.lt (by simp)⟩
  have G2 := OwnG.app h.G hB hb hu ho hg hat
  have off2 : ∀ k, v'.ownBlock = some k → k ≠ j ∧ k ≠ r ∧ k ≠ d := fun k e => by
    rcases hat with ha | ha
    · rw [ha] at e; exact h.off k e
    · rw [ha] at e; injection e with e; omega
  have ltd := h.D.lt (by simp)
  have ltr := h.R.lt (by simp)
  have off3 : ∀ (i : Nat) (x : Value) (k : Nat), (xs ++ [u])[i]? = some x → x.ownBlock = some k → k ≠ r ∧ k ≠ d := fun i x k hx e => by
    rcases Nat.lt_or_ge i xs.length with hi | hi
    · rw [List.getElem?_append_left hi] at hx
      exact h.offx i x k hx e
    · rw [List.getElem?_append_right hi] at hx
      have h0 := (List.getElem?_eq_some_iff.1 hx).1
      simp at h0
      rw [h0] at hx
      simp at hx
      subst hx
      have := (Own.lt hu k e).1
      omega
  have hB2 : Below W.heap.size W w2 := T.B.grown hg (Nat.le_trans hB hsz) fun k e => (h.G.own.lt k e).1
  refine ⟨hJ.setB (Ne.symm hd) _, hR.setB (Ne.symm hr) _, by simpa using hD.set 0 v', ?_, bset hB2 h.le _, off2, off3, h.le⟩
  have hk : ∀ k, k ≠ d → (w2.setCell ⟨d, 0, none⟩ v').heap[k]? = w2.heap[k]? := fun k hk => Below.heap_setCell w2 ⟨d, 0, none⟩ v' k hk
  have G3 := G2.keepP (w' := w2.setCell ⟨d, 0, none⟩ v') (by simp [World.setCell]) (fun k e => hk k (off2 k e).2.2) (fun i x k hx e => hk k (off3 i x k hx e).2)
  rw [show (w2.setCell ⟨d, 0, none⟩ v').heap.size = w2.heap.size by simp [World.setCell]]
  exact G3
end
theorem OwnG.fresh {w : World} {lo : Nat} {v : Value} (h : Own w lo 1 v 0 []) : OwnG w lo w.heap.size v [] [] :=
  ⟨h, Nat.le_refl _, fun k e => (h.lt k e).2, fun j u hu => by simp at hu, fun i j u1 u2 _ hu => by simp at hu⟩
theorem DSt.new {W x : World} {j r d : Nat} {J : List Value} {v v0 : Value} {s s0 : Int} (hJ : JB j J x) (hR : At r [.slice none 0 0, .int .i64 0] x) (hD : At d [v0, .int .i64 s0] x) (hO : Own x W.heap.size 1 v 0 []) (hB : Below W.heap.size W x)
    (off : ∀ k, v.ownBlock = some k → k ≠ j ∧ k ≠ r ∧ k ≠ d) (hj : d ≠ j) (hr : d ≠ r) (le : W.heap.size ≤ d) : DSt W j r d J v s [] [] ((x.setCell ⟨d, 0, none⟩ v).setCell ⟨d, 1, none⟩ (.int .i64 s)) := by
  have hO2 := (hO.setCell (p := ⟨d, 0, none⟩) (fun k e => (off k e).2.2) v).setCell (p := ⟨d, 1, none⟩) (fun k e => (off k e).2.2) (.int .i64 s)
  exact ⟨(hJ.setB (Ne.symm hj) _).setB (Ne.symm hj) _, (hR.setB (Ne.symm hr) _).setB (Ne.symm hr) _, by simpa using (hD.set 0 v).set 1 (.int .i64 s), OwnG.fresh hO2, bset (bset hB le _) le _, off, fun i u k hu => by simp at hu, le⟩
theorem slices_info : (Tryz.prog.info? 22).map (fun i => (i.zero, i.size, i.bytes)) = some (some (.slice none 0 0), 1, 24) := by kernel_rfl
def DiskRes (rs : List (List Int)) (s : Int) (w : World) (e : Ending) (w' : World) : Prop :=
  ∃ a n c xs, e = .returned (.agg #[.slice a n c, .int .i64 s]) ∧ OwnG w' w.heap.size w'.heap.size (.slice a n c) rs xs ∧ Below w.heap.size w w'
theorem run_slots (g n : Nat) (hn : n ≤ 12) (W : World) : (Instr.sliceAt 184 (.pointer (some ⟨g, 0, none⟩)) none (some (.int .i64 (n : Int))) none).run Tryz.prog W = .ok (.slice (some ⟨g, 0, none⟩) n 12) W := by
  have hu : Tryz.prog.underlying 184 = some (.array (Tryz.prog.arrayLen 184) (Tryz.prog.elem 184)) := by kernel_rfl
  have hl : Tryz.prog.arrayLen 184 = 12 := by kernel_rfl
  have he : Tryz.prog.elem 184 = 183 := by kernel_rfl
  have hs : (sizeOf 183).run Tryz.prog W = .ok 41 W := by
    have h := (zero_of_info slot_zero).2
    cases hq : Tryz.prog.info? 183 with
    | none => rw [hq] at h; cases h
    | some i =>
      rw [hq] at h
      simp at h
      simp [sizeOf, typeInfo, hq, h]
  rw [run_sliceAt_array_h W _ _ hu .i64 n (by omega) (by rw [hl]; omega), he, hl, hs]
  simp [slicedAt, Result.andThen, Addr.add_lit]
theorem run_room (g n : Nat) (hn : n ≤ 40) (W : World) : (Instr.sliceAt 181 (.pointer (some ⟨g, 0, none⟩)) none (some (.int .i64 (n : Int))) none).run Tryz.prog W = .ok (.slice (some ⟨g, 0, none⟩) n 40) W := by
  have hu : Tryz.prog.underlying 181 = some (.array (Tryz.prog.arrayLen 181) (Tryz.prog.elem 181)) := by kernel_rfl
  have hl : Tryz.prog.arrayLen 181 = 40 := by kernel_rfl
  have he : Tryz.prog.elem 181 = 5 := by kernel_rfl
  have hs : (sizeOf 5).run Tryz.prog W = .ok 1 W := by
    obtain ⟨i0, hi0, hz0, hz1, hz2⟩ := info_parts u8_info
    simp [sizeOf, typeInfo, hi0, hz1]
  rw [run_sliceAt_array_h W _ _ hu .i64 n (by omega) (by rw [hl]; omega), he, hl, hs]
  simp [slicedAt, Result.andThen, Addr.add_lit]
set_option maxHeartbeats 1000000 in
theorem disk_any (rs : List (List Int)) (n : Nat) (s : Int) (w : World) (hn : n ≤ rs.length) (h12 : rs.length ≤ 12) (hl : rs.any longR = false) (hw : ∀ zs ∈ rs, ∀ z ∈ zs, (Lit.int .u8 z).wf = true) :
    Calls Tryz.prog 120 #[.agg (jour rs n s).toArray] w (DiskRes (rs.take n) s w) := by
  obtain ⟨i0, hi0, hz0, hz1, hz2⟩ := info_parts slices_info
  have hmk : ∀ W : World, (Instr.makeSlice 52 (.int .i64 0) (.int .i64 (n : Int))).run Tryz.prog W = .ok (.slice (some ⟨W.heap.size, 0, none⟩) 0 n) (W.alloc (.cells (madeCells #[.slice none 0 0] n) 22)) := by
    intro W
    have := run_make (P := Tryz.prog) W 52 22 i0 (.slice none 0 0) Tryz.underlying52 hi0 hz0 .i64 .i64 0 n (by omega) (by omega) (by rw [hz2]; omega) (by omega)
    simpa [hz1, Value.cells] using this
  have hzs := (zero_of_info slot_zero).1
  have b0 := bal (bal (Below.refl _ w) (.cells (jour rs n s).toArray 186)) (.cells #[.slice none 0 0, .int .i64 0] 55)
  have Q0 := (JB.new w (jour rs n s)).on (bal (Below.refl _ _) (.cells #[.slice none 0 0, .int .i64 0] 55))
  have R0 := At.new (w.alloc (.cells (jour rs n s).toArray 186)) [.slice none 0 0, .int .i64 0] 55
  rw [World.size_alloc] at R0
  have sz0 : ((w.alloc (.cells (jour rs n s).toArray 186)).alloc (.cells #[.slice none 0 0, .int .i64 0] 55)).heap.size = w.heap.size + 2 := by simp
  have d0 := Q0.at (jour_count rs n s)
  have d1 := Q0.at (jour_safe rs n s)
  have HJC := Lib.hid (jour_count rs n s)
  have HSLOT := Lib.hid (fun (g : Nat) (wr : World) (k : Nat) (h : JB g (jour rs n s) wr) (hk : k < 12) => JB.slot (g := g) (rs := rs) (n := n) (s := s) (w := wr) h hk)
  have HN := Lib.hid hn
  have H12 := Lib.hid h12
  have HLL := Lib.hid hl
  have HW := Lib.hid hw
  clear hn hl hw
  have hn12 : n ≤ 12 := by have := HN.out; omega
  clear h12
  generalize jour rs n s = J at *
  go_enter Tryz.func120, Tryz.ntmps120
  go_upto_region 1 with fail
  generalize (w.alloc (.cells J.toArray 186)).alloc (.cells #[.slice none 0 0, .int .i64 0] 55) = W0 at *
  have HQ := Lib.hid Q0
  have HR := Lib.hid R0
  have HB := Lib.hid b0
  have HZ := Lib.hid sz0
  clear Q0 R0 b0 sz0
  go_cut [3] from 6 to 11 (fun v' wx => ∃ d g, v' = .pointer (some ⟨d, 0, none⟩) ∧ d ≠ w.heap.size ∧ d ≠ w.heap.size + 1 ∧ DSt w w.heap.size (w.heap.size + 1) d J (.slice (some ⟨g, 0, none⟩) 0 n) s [] [] wx)
  case first =>
    refine wp_region_fork (Bel W0) (by kernel_rfl) (Bel.drew W0) ?_
    have hst : (Bel W0) _ := (Bel.drew W0)
    have inst : Nonempty (Of (Bel W0)) := ⟨⟨_, hst⟩⟩
    have u0 := bel_cell d0
    have u1 := bel_cell d1
    have HV := Lib.hid (show W0.drew.heap.size = w.heap.size + 2 from HZ.out)
    have HQ1 := Lib.hid (HQ.out.on (bdrew W0))
    have HR1 := Lib.hid (HR.out.on (bdrew W0))
    have HB1 := Lib.hid (btr HB.out (bdrew W0))
    have hm4 : n ≤ maxLen := by simp only [maxLen]; omega
    generalize W0.drew = V1 at *
    refine any_seg 4 [(0, true), (1, true), (3, true), (4, true)] (by kernel_rfl) (fun _ _ d _ _ h => by cases d <;> exact h) ?_
    iterate 4 (refine line_read rfl (by kernel_rfl) (fun K hK => ?_); go_big_quiet_op; refine hK _ ?_; clear hK K)
    refine line_nil ?_
    clear u0 u1 d0 d1
    refine any_fork 2 6 (by kernel_rfl) rfl rfl (by kernel_rfl) (by kernel_rfl) (fun K hK => ?_) (fun K hK => ?_)
    · go_big_op
      have O1 := Own.made (size := 1) (B := w.heap.size) V1 (madeCells #[.slice none 0 0] n) 22 n (by have := HV.out; omega) hm4 (by rw [size_madeCells]; simp)
      have hst2 := hst.on (bal (Below.refl _ V1) (.cells (madeCells #[.slice none 0 0] n) 22))
      have HQ2 := Lib.hid (HQ1.out.on (bal (Below.refl _ V1) (.cells (madeCells #[.slice none 0 0] n) 22)))
      have HR2 := Lib.hid (HR1.out.on (bal (Below.refl _ V1) (.cells (madeCells #[.slice none 0 0] n) 22)))
      have HB2 := Lib.hid (bal HB1.out (.cells (madeCells #[.slice none 0 0] n) 22))
      have HV2 := Lib.hid (show (V1.alloc (.cells (madeCells #[.slice none 0 0] n) 22)).heap.size = V1.heap.size + 1 by simp)
      refine hK _ _ hst2 ?_
      clear hK K hst hmk
      have hst := hst2
      clear hst2
      generalize V1.alloc (.cells (madeCells #[.slice none 0 0] n) 22) = x1 at *
      generalize V1.heap.size = mg at *
      refine any_rest [(5, true), (6, false), (7, false)] (by kernel_rfl) (fun _ _ d _ _ h => by cases d <;> exact h) ?_
      refine line_readv (v := .agg #[.slice (some ⟨mg, 0, none⟩) 0 n, .int .i64 s]) rfl (by kernel_rfl) (fun _ => by kernel_rfl) ?_
      simp only [Act.put, List.setIfInBounds_toArray, List.set_cons_zero, List.set_cons_succ]
      refine line_alone rfl (by kernel_rfl) (fun K hK => ?_)
      go_big_op
      have A := At.new x1 [.slice none 0 0, .int .i64 0] 55
      have b3 := bal (Below.refl _ x1) (.cells #[.slice none 0 0, .int .i64 0] 55)
      have hst2 := hst.on b3
      have leA : W0.heap.size ≤ x1.heap.size := hst.out.size
      have DN := Lib.hid (DSt.new (s := s) (HQ2.out.on b3) (HR2.out.on b3) A (O1.below b3) (btr HB2.out b3) (fun k e => by simp [Value.ownBlock] at e; have := HV.out; have := HV2.out; omega) (by have := HV.out; have := HV2.out; omega) (by have := HV.out; have := HV2.out; omega) (by have := HV.out; have := HV2.out; omega))
      refine hK _ _ hst2 ?_
      clear hK K hst b3 O1 HQ2 HR2 HB2
      have hst := hst2
      clear hst2
      have hd1 : x1.heap.size ≠ w.heap.size := by have := HV.out; have := HV2.out; omega
      have hd2 : x1.heap.size ≠ w.heap.size + 1 := by have := HV.out; have := HV2.out; omega
      generalize x1.alloc (.cells #[.slice none 0 0, .int .i64 0] 55) = xa at *
      generalize x1.heap.size = d at *
      have p0 := A.cell 0 _ rfl
      have p1 := A.cell 1 _ rfl
      have f0 := A.free 0 _ rfl
      have f1 := A.free 1 _ rfl
      refine line_alone rfl (by kernel_rfl) (fun K hK => ?_)
      go_big_op
      refine hK _ _ (⟨(by (iterate 2 (refine bset ?_ (by dsimp only; omega) _)); exact hst.out)⟩) ?_
      clear hK K
      refine line_nil ?_
      clear hst A p0 p1 f0 f1
      go_wp2_with fail
      go_meet
      case rel => exact ⟨d, mg, rfl, hd1, hd2, DN.out⟩
    · go_big_op
      have A := At.new V1 [.slice none 0 0, .int .i64 0] 55
      have b3 := bal (Below.refl _ V1) (.cells #[.slice none 0 0, .int .i64 0] 55)
      have hst2 := hst.on b3
      have HQ2 := Lib.hid (HQ1.out.on b3)
      have HR2 := Lib.hid (HR1.out.on b3)
      have HB2 := Lib.hid (btr HB1.out b3)
      have HV2 := Lib.hid (show (V1.alloc (.cells #[.slice none 0 0, .int .i64 0] 55)).heap.size = V1.heap.size + 1 by simp)
      have leA : W0.heap.size ≤ V1.heap.size := hst.out.size
      refine hK _ _ hst2 ?_
      clear hK K hst b3
      have hst := hst2
      clear hst2
      have hd1 : V1.heap.size ≠ w.heap.size := by have := HV.out; omega
      have hd2 : V1.heap.size ≠ w.heap.size + 1 := by have := HV.out; omega
      generalize V1.alloc (.cells #[.slice none 0 0, .int .i64 0] 55) = x1 at *
      generalize V1.heap.size = d at *
      refine any_rest [(2, false), (5, true), (7, false)] (by kernel_rfl) (fun _ _ d _ _ h => by cases d <;> exact h) ?_
      refine line_alone rfl (by kernel_rfl) (fun K hK => ?_)
      go_big_op
      have O1 := Own.made (size := 1) (B := w.heap.size) x1 (madeCells #[.slice none 0 0] n) 22 n (by have := HV.out; have := HV2.out; omega) hm4 (by rw [size_madeCells]; simp)
      have b4 := bal (Below.refl _ x1) (.cells (madeCells #[.slice none 0 0] n) 22)
      have hst2 := hst.on b4
      have A4 := A.on b4
      have DN := Lib.hid (DSt.new (s := s) (HQ2.out.on b4) (HR2.out.on b4) A4 O1 (btr HB2.out b4) (fun k e => by simp [Value.ownBlock] at e; have := HV.out; have := HV2.out; omega) (by have := HV.out; omega) (by have := HV.out; omega) (by have := HV.out; omega))
      refine hK _ _ hst2 ?_
      clear hK K hst hmk b4 O1 HQ2 HR2 HB2 A
      have hst := hst2
      clear hst2
      generalize x1.alloc (.cells (madeCells #[.slice none 0 0] n) 22) = xa at *
      generalize x1.heap.size = mg at *
      refine line_readv (v := .agg #[.slice (some ⟨mg, 0, none⟩) 0 n, .int .i64 s]) rfl (by kernel_rfl) (fun _ => by kernel_rfl) ?_
      simp only [Act.put, List.setIfInBounds_toArray, List.set_cons_zero, List.set_cons_succ]
      have p0 := A4.cell 0 _ rfl
      have p1 := A4.cell 1 _ rfl
      have f0 := A4.free 0 _ rfl
      have f1 := A4.free 1 _ rfl
      refine line_alone rfl (by kernel_rfl) (fun K hK => ?_)
      go_big_op
      refine hK _ _ (⟨(by (iterate 2 (refine bset ?_ (by dsimp only; omega) _)); exact hst.out)⟩) ?_
      clear hK K
      refine line_nil ?_
      clear hst A4 p0 p1 f0 f1
      go_wp2_with fail
      go_meet
      case rel => exact ⟨d, mg, rfl, hd1, hd2, DN.out⟩
  case rest =>
    obtain ⟨d, g, rfl, hd1, hd2, T0⟩ := hcut
    clear HQ HR HB HZ d0 d1 hmk
    have q0 := T0.J.at HJC.out
    have HT0 := Lib.hid T0
    clear T0
    have hsl := fun W => run_slots w.heap.size n hn12 W
    go_wp2_with fail
    go_loopw [17] (fun i wr => ∃ (k : Nat) (v : Value) (xs : List Value), k ≤ n ∧ i = .int .i64 k ∧ DSt w w.heap.size (w.heap.size + 1) d J v s (rs.take k) xs wr) (fun i _ => n - (intOf i).toNat)
    case atStart => exact ⟨0, _, _, Nat.zero_le _, rfl, HT0.out⟩
    case round =>
      obtain ⟨k, v, xs, hk, rfl, hT⟩ := hrel
      clear HT0 q0
      by_cases hlt : k < n
      · have hl2 : k < rs.length := by have := HN.out; omega
        have RG := Lib.hid (HSLOT.out w.heap.size wr k hT.J (by omega))
        have hz40 := long_no HLL.out hl2
        have HTK := Lib.hid (M.take_snoc rs [] k hl2)
        have HLK := Lib.hid (show (rs.take k).length = k by simp; omega)
        have hzw := HW.out (rs[k]?.getD []) (by rw [List.getElem?_eq_getElem hl2]; exact List.getElem_mem hl2)
        have HT := Lib.hid hT
        generalize rs[k]?.getD [] = zs at *
        have HZW := Lib.hid hzw
        have HSF := Lib.hid (slot_fit zs)
        have HSO := Lib.hid (slotL_one zs)
        have HSF2 := Lib.hid (show (Tryz.prog.info? 183).map (·.size) = some (slotL zs).toArray.size by rw [slot_fit zs]; simp)
        have HSZ := Lib.hid (show (slotL []).toArray.size = (slotL zs).toArray.size by simp [slotL_len])
        clear hT hl2 hzw
        go_upto_region 5 with (first | (refine wpList_load_mid rfl 183 (.tmp 19) rfl w.heap.size (k * 41) rfl (slotL zs) _ RG.out Tryz.underlying183 rfl HSF.out ?_) | (refine wpList_store_row rfl 183 (.tmp 5) (.tmp 20) rfl wr.heap.size (slotL zs).toArray rfl rfl 183 (slotL []).toArray (MapKept.heap_alloc wr _).1 HSF2.out HSZ.out HSO.out ?_; rw [World.setRow_alloc_new]))
        have L0 := At.new wr (slotL zs) 183
        have HT2 := Lib.hid (HT.out.on (bal (Below.refl _ wr) (.cells (slotL zs).toArray 183)))
        have B2 := bal (Below.refl _ wr) (.cells (slotL zs).toArray 183)
        clear RG HSF HSF2 HSO HSZ
        have hld : d ≠ wr.heap.size := by have := HT.out.D.lt (by simp); omega
        have hlv : ∀ k, v.ownBlock = some k → k ≠ wr.heap.size := fun k e => by have := (HT.out.G.own.lt k e).2; omega
        have hd0 : w.heap.size ≤ d := HT.out.le
        clear HT
        generalize wr.alloc (.cells (slotL zs).toArray 183) = W4 at *
        generalize wr.heap.size = lb at *
        simp only [Act.put]
        refine wp_region_fork (Hold w lb (slotL zs)) (by kernel_rfl) (⟨HT2.out.B.drew, L0.on (bdrew _)⟩) ?_
        have hst : (Hold w lb (slotL zs)) _ := (⟨HT2.out.B.drew, L0.on (bdrew _)⟩)
        have inst : Nonempty (Of (Hold w lb (slotL zs))) := ⟨⟨_, hst⟩⟩
        have HT1 := Lib.hid (HT2.out.on (bdrew W4))
        clear HT2
        generalize W4.drew = V1 at *
        have u4 := hold_cell (W := w) (g := lb) 40 _ (slotL_size zs)
        have u5 := fun W => run_room lb zs.length hz40 W
        refine any_seg 6 [(0, true), (2, true), (3, true), (4, true), (5, true)] (by kernel_rfl) (fun _ _ d _ _ h => by cases d <;> exact h) ?_
        iterate 5 (refine line_read rfl (by kernel_rfl) (fun K hK => ?_); go_big_quiet_op; refine hK _ ?_; clear hK K)
        refine line_nil ?_
        clear u4 u5
        refine any_fork 1 6 (by kernel_rfl) rfl rfl (by kernel_rfl) (by kernel_rfl) (fun K hK => ?_) (fun K hK => ?_)
        · have e1 := (HT1.out).D.cell 0 _ rfl
          go_big_op
          refine hK _ _ hst ?_
          clear hK K e1
          refine any_rest [(6, false), (7, false), (8, false), (9, true), (10, false)] (by kernel_rfl) (fun _ _ d _ _ h => by cases d <;> exact h) ?_
          refine line_alone rfl (by kernel_rfl) (fun K hK => ?_)
          refine call_any (args := #[.slice (some ⟨lb, 0, none⟩) zs.length 40]) rfl (by kernel_rfl) (by kernel_rfl) (copyBytes_any _ _ _ _ zs _ (slot_row hst.at' hz40 HZW.out) (Nat.le_refl _) (by omega)) ?_
          rintro e x6 ⟨rfl, O6, b6⟩
          have hst2 := hst.on b6
          refine ⟨_, rfl, hK _ _ hst2 ?_⟩
          clear hK K hst
          have hst := hst2
          clear hst2
          simp only [Act.put, List.setIfInBounds_toArray, List.set_cons_zero, List.set_cons_succ]
          refine line_alone rfl (by kernel_rfl) (fun K hK => ?_)
          go_big_op
          have SR := Lib.hid (src_new (P := Tryz.prog) x6 [.slice (some ⟨V1.heap.size, 0, none⟩) zs.length zs.length] 1 1 22 52 22 Tryz.underlying52 rfl (by intro u hu; simp at hu; subst hu; rfl))
          have b7 := btr b6 (bal (Below.refl _ x6) (.cells #[.slice (some ⟨V1.heap.size, 0, none⟩) zs.length zs.length] 22))
          have O7 := Lib.hid (O6.alloc (.cells #[.slice (some ⟨V1.heap.size, 0, none⟩) zs.length zs.length] 22))
          have hst2 := hst.on (bal (Below.refl _ x6) (.cells #[.slice (some ⟨V1.heap.size, 0, none⟩) zs.length zs.length] 22))
          refine hK _ _ hst2 ?_
          clear hK K hst O6 b6
          have hst := hst2
          clear hst2
          have hc7 : (x6.alloc (.cells [Value.slice (some ⟨V1.heap.size, 0, none⟩) zs.length zs.length].toArray 22)) = x6.alloc (.cells #[.slice (some ⟨V1.heap.size, 0, none⟩) zs.length zs.length] 22) := rfl
          rw [hc7] at SR
          clear hc7
          generalize x6.alloc (.cells #[.slice (some ⟨V1.heap.size, 0, none⟩) zs.length zs.length] 22) = x7 at *
          generalize x6.heap.size = lit at *
          refine line_alone rfl (by kernel_rfl) (fun K hK => ?_)
          have HT7 := Lib.hid (HT1.out.on b7)
          refine wp_append_src _ (.tmp 22) (.tmp 28) 52 52 rfl w.heap.size 22 i0 (.slice none 0 0) 1 24 Tryz.underlying52 hi0 hz0 hz1 hz2 rfl v k xs rfl (by have := HT7.out.G.own; rwa [HLK.out] at this) _ 1 [.slice (some ⟨V1.heap.size, 0, none⟩) zs.length zs.length] rfl SR.out (by simp only [maxLen]; omega) (by omega) (Nat.le_trans HT7.out.B.size (Nat.le_refl _)) (fun v8 w8 hown hgrow hat => ?_)
          obtain ⟨a8, c8, hv8, -⟩ := Own.form hown
          subst hv8
          have T8 := Lib.hid (HT1.out.app b7 O7.out (by rw [HLK.out]; exact hown) hgrow hat hd1 hd2)
          have D8 := HT7.out.D.kept hgrow (fun e => (HT7.out.off d e.symm).2.2 rfl)
          have B8 : Below w.heap.size w w8 := HT7.out.B.grown hgrow HT7.out.B.size fun k e => (HT7.out.G.own.lt k e).1
          have L8 := hst.at'.kept hgrow (fun e => hlv lb e.symm rfl)
          have hst2 : Hold w lb (slotL zs) w8 := ⟨B8, L8⟩
          refine hK _ _ hst2 ?_
          clear hK K hst hown hgrow hat O7 SR HT7 b7 B8 L8
          have hst := hst2
          clear hst2
          simp only [Act.put, List.setIfInBounds_toArray, List.set_cons_zero, List.set_cons_succ]
          have p0 := D8.cell 0 _ rfl
          have p1 := D8.cell 1 _ rfl
          have f0 := D8.free 0 _ rfl
          have f1 := D8.free 1 _ rfl
          iterate 1 (refine line_read rfl (by kernel_rfl) (fun K hK => ?_); go_big_quiet_op; refine hK _ ?_; clear hK K)
          refine line_alone rfl (by kernel_rfl) (fun K hK => ?_)
          go_big_op
          refine hK _ _ (hst.setB (p := ⟨d, 0, none⟩) hd0 (fun e => hld e.symm) _) ?_
          clear hK K
          refine line_nil ?_
          clear p0 p1 f0 f1 D8
          go_wp2_with fail
          go_roundw
          case rel => exact ⟨k + 1, _, _, by omega, by go_num, by rw [HTK.out]; exact T8.out⟩
          case measure => simp [intOf]; omega
        · refine call_any (args := #[.slice (some ⟨lb, 0, none⟩) zs.length 40]) rfl (by kernel_rfl) (by kernel_rfl) (copyBytes_any _ _ _ _ zs _ (slot_row hst.at' hz40 HZW.out) (Nat.le_refl _) (by omega)) ?_
          rintro e x6 ⟨rfl, O6, b6⟩
          have hst2 := hst.on b6
          refine ⟨_, rfl, hK _ _ hst2 ?_⟩
          clear hK K hst
          have hst := hst2
          clear hst2
          simp only [Act.put, List.setIfInBounds_toArray, List.set_cons_zero, List.set_cons_succ]
          refine any_fork 1 7 (by kernel_rfl) rfl rfl (by kernel_rfl) (by kernel_rfl) (fun K hK => ?_) (fun K hK => ?_)
          · have e1 := (HT1.out.on b6).D.cell 0 _ rfl
            go_big_op
            refine hK _ _ hst ?_
            clear hK K e1
            refine any_rest [(7, false), (8, false), (9, true), (10, false)] (by kernel_rfl) (fun _ _ d _ _ h => by cases d <;> exact h) ?_
            refine line_alone rfl (by kernel_rfl) (fun K hK => ?_)
            go_big_op
            have SR := Lib.hid (src_new (P := Tryz.prog) x6 [.slice (some ⟨V1.heap.size, 0, none⟩) zs.length zs.length] 1 1 22 52 22 Tryz.underlying52 rfl (by intro u hu; simp at hu; subst hu; rfl))
            have b7 := btr b6 (bal (Below.refl _ x6) (.cells #[.slice (some ⟨V1.heap.size, 0, none⟩) zs.length zs.length] 22))
            have O7 := Lib.hid (O6.alloc (.cells #[.slice (some ⟨V1.heap.size, 0, none⟩) zs.length zs.length] 22))
            have hst2 := hst.on (bal (Below.refl _ x6) (.cells #[.slice (some ⟨V1.heap.size, 0, none⟩) zs.length zs.length] 22))
            refine hK _ _ hst2 ?_
            clear hK K hst O6 b6
            have hst := hst2
            clear hst2
            have hc7 : (x6.alloc (.cells [Value.slice (some ⟨V1.heap.size, 0, none⟩) zs.length zs.length].toArray 22)) = x6.alloc (.cells #[.slice (some ⟨V1.heap.size, 0, none⟩) zs.length zs.length] 22) := rfl
            rw [hc7] at SR
            clear hc7
            generalize x6.alloc (.cells #[.slice (some ⟨V1.heap.size, 0, none⟩) zs.length zs.length] 22) = x7 at *
            generalize x6.heap.size = lit at *
            refine line_alone rfl (by kernel_rfl) (fun K hK => ?_)
            have HT7 := Lib.hid (HT1.out.on b7)
            refine wp_append_src _ (.tmp 22) (.tmp 28) 52 52 rfl w.heap.size 22 i0 (.slice none 0 0) 1 24 Tryz.underlying52 hi0 hz0 hz1 hz2 rfl v k xs rfl (by have := HT7.out.G.own; rwa [HLK.out] at this) _ 1 [.slice (some ⟨V1.heap.size, 0, none⟩) zs.length zs.length] rfl SR.out (by simp only [maxLen]; omega) (by omega) (Nat.le_trans HT7.out.B.size (Nat.le_refl _)) (fun v8 w8 hown hgrow hat => ?_)
            obtain ⟨a8, c8, hv8, -⟩ := Own.form hown
            subst hv8
            have T8 := Lib.hid (HT1.out.app b7 O7.out (by rw [HLK.out]; exact hown) hgrow hat hd1 hd2)
            have D8 := HT7.out.D.kept hgrow (fun e => (HT7.out.off d e.symm).2.2 rfl)
            have B8 : Below w.heap.size w w8 := HT7.out.B.grown hgrow HT7.out.B.size fun k e => (HT7.out.G.own.lt k e).1
            have L8 := hst.at'.kept hgrow (fun e => hlv lb e.symm rfl)
            have hst2 : Hold w lb (slotL zs) w8 := ⟨B8, L8⟩
            refine hK _ _ hst2 ?_
            clear hK K hst hown hgrow hat O7 SR HT7 b7 B8 L8
            have hst := hst2
            clear hst2
            simp only [Act.put, List.setIfInBounds_toArray, List.set_cons_zero, List.set_cons_succ]
            have p0 := D8.cell 0 _ rfl
            have p1 := D8.cell 1 _ rfl
            have f0 := D8.free 0 _ rfl
            have f1 := D8.free 1 _ rfl
            iterate 1 (refine line_read rfl (by kernel_rfl) (fun K hK => ?_); go_big_quiet_op; refine hK _ ?_; clear hK K)
            refine line_alone rfl (by kernel_rfl) (fun K hK => ?_)
            go_big_op
            refine hK _ _ (hst.setB (p := ⟨d, 0, none⟩) hd0 (fun e => hld e.symm) _) ?_
            clear hK K
            refine line_nil ?_
            clear p0 p1 f0 f1 D8
            go_wp2_with fail
            go_roundw
            case rel => exact ⟨k + 1, _, _, by omega, by go_num, by rw [HTK.out]; exact T8.out⟩
            case measure => simp [intOf]; omega
          · go_big_op
            have SR := Lib.hid (src_new (P := Tryz.prog) x6 [.slice (some ⟨V1.heap.size, 0, none⟩) zs.length zs.length] 1 1 22 52 22 Tryz.underlying52 rfl (by intro u hu; simp at hu; subst hu; rfl))
            have b7 := btr b6 (bal (Below.refl _ x6) (.cells #[.slice (some ⟨V1.heap.size, 0, none⟩) zs.length zs.length] 22))
            have O7 := Lib.hid (O6.alloc (.cells #[.slice (some ⟨V1.heap.size, 0, none⟩) zs.length zs.length] 22))
            have hst2 := hst.on (bal (Below.refl _ x6) (.cells #[.slice (some ⟨V1.heap.size, 0, none⟩) zs.length zs.length] 22))
            refine hK _ _ hst2 ?_
            clear hK K hst O6 b6
            have hst := hst2
            clear hst2
            have hc7 : (x6.alloc (.cells [Value.slice (some ⟨V1.heap.size, 0, none⟩) zs.length zs.length].toArray 22)) = x6.alloc (.cells #[.slice (some ⟨V1.heap.size, 0, none⟩) zs.length zs.length] 22) := rfl
            rw [hc7] at SR
            clear hc7
            generalize x6.alloc (.cells #[.slice (some ⟨V1.heap.size, 0, none⟩) zs.length zs.length] 22) = x7 at *
            generalize x6.heap.size = lit at *
            refine any_rest [(1, false), (8, false), (9, true), (10, false)] (by kernel_rfl) (fun _ _ d _ _ h => by cases d <;> exact h) ?_
            refine line_alone rfl (by kernel_rfl) (fun K hK => ?_)
            have e1 := (HT1.out.on b7).D.cell 0 _ rfl
            go_big_op
            refine hK _ _ hst ?_
            clear hK K e1
            refine line_alone rfl (by kernel_rfl) (fun K hK => ?_)
            have HT7 := Lib.hid (HT1.out.on b7)
            refine wp_append_src _ (.tmp 22) (.tmp 28) 52 52 rfl w.heap.size 22 i0 (.slice none 0 0) 1 24 Tryz.underlying52 hi0 hz0 hz1 hz2 rfl v k xs rfl (by have := HT7.out.G.own; rwa [HLK.out] at this) _ 1 [.slice (some ⟨V1.heap.size, 0, none⟩) zs.length zs.length] rfl SR.out (by simp only [maxLen]; omega) (by omega) (Nat.le_trans HT7.out.B.size (Nat.le_refl _)) (fun v8 w8 hown hgrow hat => ?_)
            obtain ⟨a8, c8, hv8, -⟩ := Own.form hown
            subst hv8
            have T8 := Lib.hid (HT1.out.app b7 O7.out (by rw [HLK.out]; exact hown) hgrow hat hd1 hd2)
            have D8 := HT7.out.D.kept hgrow (fun e => (HT7.out.off d e.symm).2.2 rfl)
            have B8 : Below w.heap.size w w8 := HT7.out.B.grown hgrow HT7.out.B.size fun k e => (HT7.out.G.own.lt k e).1
            have L8 := hst.at'.kept hgrow (fun e => hlv lb e.symm rfl)
            have hst2 : Hold w lb (slotL zs) w8 := ⟨B8, L8⟩
            refine hK _ _ hst2 ?_
            clear hK K hst hown hgrow hat O7 SR HT7 b7 B8 L8
            have hst := hst2
            clear hst2
            simp only [Act.put, List.setIfInBounds_toArray, List.set_cons_zero, List.set_cons_succ]
            have p0 := D8.cell 0 _ rfl
            have p1 := D8.cell 1 _ rfl
            have f0 := D8.free 0 _ rfl
            have f1 := D8.free 1 _ rfl
            iterate 1 (refine line_read rfl (by kernel_rfl) (fun K hK => ?_); go_big_quiet_op; refine hK _ ?_; clear hK K)
            refine line_alone rfl (by kernel_rfl) (fun K hK => ?_)
            go_big_op
            refine hK _ _ (hst.setB (p := ⟨d, 0, none⟩) hd0 (fun e => hld e.symm) _) ?_
            clear hK K
            refine line_nil ?_
            clear p0 p1 f0 f1 D8
            go_wp2_with fail
            go_roundw
            case rel => exact ⟨k + 1, _, _, by omega, by go_num, by rw [HTK.out]; exact T8.out⟩
            case measure => simp [intOf]; omega
      · obtain rfl : k = n := by omega
        obtain ⟨a, c, hv, -⟩ := hT.G.form
        rw [show (rs.take k).length = k by have := HN.out; simp; omega] at hv
        subst hv
        have HF := Lib.hid hT
        have R1 := hT.R
        have D1 := hT.D
        clear hT
        have p0 := D1.cell 0 _ rfl
        have p1 := D1.cell 1 _ rfl
        have q0 := R1.cell 0 _ rfl
        have q1 := R1.cell 1 _ rfl
        have f0 := R1.free 0 _ rfl
        have f1 := R1.free 1 _ rfl
        clear D1 R1
        have hne : w.heap.size + 1 ≠ d := Ne.symm hd2
        have G1 := HF.out.G.keepP (w' := (wr.setCell ⟨w.heap.size + 1, 0, none⟩ (.slice a k c)).setCell ⟨w.heap.size + 1, 1, none⟩ (.int .i64 s)) (by simp [World.setCell])
          (fun g e => by
            have hg : g ≠ w.heap.size + 1 := (HF.out.off g e).2.1
            rw [Below.heap_setCell _ _ _ g hg, Below.heap_setCell _ _ _ g hg])
          (fun i x g hx e => by
            have hg : g ≠ w.heap.size + 1 := (HF.out.offx i x g hx e).1
            rw [Below.heap_setCell _ _ _ g hg, Below.heap_setCell _ _ _ g hg])
        have G2 := G1.more (hi' := ((wr.setCell ⟨w.heap.size + 1, 0, none⟩ (.slice a k c)).setCell ⟨w.heap.size + 1, 1, none⟩ (.int .i64 s)).heap.size) G1.top (Nat.le_refl _)
        have B2 : Below w.heap.size w ((wr.setCell ⟨w.heap.size + 1, 0, none⟩ (.slice a k c)).setCell ⟨w.heap.size + 1, 1, none⟩ (.int .i64 s)) := (by (iterate 2 (refine bset ?_ (by dsimp only; omega) _)); exact HF.out.B)
        have GB := Lib.hid (And.intro G2 B2)
        clear G1 G2 B2 HF
        go_wp2_with fail
        exact bodyPost_ret (v := .agg #[.slice a k c, .int .i64 s]) (by simp [results, Tryz.results120, go_sem, q0, q1]) rfl ⟨a, k, c, xs, rfl, GB.out.1, GB.out.2⟩
end Go.Proofs.YtlodhleihnlchaaGreatDoor
namespace Go.Proofs.YtlodhleihnlchaaGreatDoor
open Go.RowKit
set_option maxRecDepth 100000
set_option linter.unusedVariables false

def rdC (zs : List Int) : Int := if recOk zs then 0 else 5
def rdP (zs : List Int) : PinD := if recOk zs then pinZ (body zs) else pin0
theorem recOk_short {zs : List Int} (h : zs.length < 2) : recOk zs = false := by
  unfold recOk
  rw [show decide (2 ≤ zs.length) = false by simp; omega]
  rfl
theorem recOk_sum {zs : List Int} (h : 2 ≤ zs.length) (h1 : tailN zs ≠ M.sumL (body zs)) : recOk zs = false := by
  unfold recOk
  simp [h1]
theorem recOk_pinOk {zs : List Int} (h : 2 ≤ zs.length) (h1 : tailN zs = M.sumL (body zs)) : recOk zs = pinOk (body zs) := by
  unfold recOk
  simp [h, h1]
theorem implReadRecord9_any (a : Option Addr) (len cap B : Nat) (zs : List Int) (w : World) (hR : Row .u8 w B a len cap zs) (hB : B ≤ w.heap.size) :
    Calls Tryz.prog 138 #[.slice a len cap] w fun r w' => r = .returned (RP6 (rdC zs) (rdP zs)) ∧ Below w.heap.size w w' := by
  have hzl := hR.length
  have hfit := hR.fits
  have hmost := hR.most
  have hm2 := hmost
  unfold maxLen at hm2
  have b0 := bal (Below.refl _ w) (.cells #[.int .i64 0, .string { data := #[] }, .int .i64 0, .int .i64 0, .int .i64 0, .int .i64 0] 74)
  have A0 := At.new w [.int .i64 0, .string { data := #[] }, .int .i64 0, .int .i64 0, .int .i64 0, .int .i64 0] 74
  by_cases h2 : len < 2
  · have eno : recOk zs = false := recOk_short (by omega)
    rw [show rdC zs = 5 by simp [rdC, eno], show rdP zs = pin0 by simp [rdP, eno]]
    have h2' : (len : Int) - 2 < 0 := by omega
    have HB0 := Lib.hid b0
    have HA0 := Lib.hid A0
    clear hR b0 A0 eno hzl
    go_enter Tryz.func138, Tryz.ntmps138
    go_wp2_with fail
    generalize w.alloc (.cells #[.int .i64 0, .string { data := #[] }, .int .i64 0, .int .i64 0, .int .i64 0, .int .i64 0] 74) = W0 at *
    refine wp_region_line (Bel W0) [(0, true), (1, true), (2, true), (3, true), (4, true), (5, true), (7, true), (8, true), (9, true), (6, false), (10, false), (11, true), (12, true), (13, true)] (by kernel_rfl) (by kernel_rfl) (fun _ _ d _ _ h => by cases d <;> exact h) (Bel.drew W0) ?_
    have hst := Bel.drew W0
    have inst : Nonempty (Of (Bel W0)) := ⟨⟨_, hst⟩⟩
    generalize W0.drew = V1 at *
    iterate 3 (refine line_read rfl (by kernel_rfl) (fun K hK => ?_); go_big_quiet_op; refine hK _ ?_; clear hK K)
    iterate 10 (refine line_skip rfl (by kernel_rfl) ?_; simp only [Act.put, List.setIfInBounds_toArray, List.set_cons_zero, List.set_cons_succ])
    iterate 1 (refine line_read rfl (by kernel_rfl) (fun K hK => ?_); go_big_quiet_op; refine hK _ ?_; clear hK K)
    refine line_nil ?_
    have A1 := (HA0.out.on hst.out)
    have B1 := btr HB0.out hst.out
    clear hst inst HA0 HB0
    have q0 := A1.cell 0 _ rfl
    have q1 := A1.cell 1 _ rfl
    have q2 := A1.cell 2 _ rfl
    have q3 := A1.cell 3 _ rfl
    have q4 := A1.cell 4 _ rfl
    have q5 := A1.cell 5 _ rfl
    have z0 := A1.free 0 _ rfl
    have z1 := A1.free 1 _ rfl
    have z2 := A1.free 2 _ rfl
    have z3 := A1.free 3 _ rfl
    have z4 := A1.free 4 _ rfl
    have z5 := A1.free 5 _ rfl
    clear A1
    go_wp2_with fail
    refine bodyPost_ret (v := RP6 5 ⟨{ data := #[] }, 0, 0, 0, 0⟩) (by simp [results, Tryz.results138, go_sem, q0, q1, q2, q3, q4, q5]) rfl ⟨rfl, ?_⟩
    exact (by (iterate 6 (refine bset ?_ (by dsimp only; omega) _)); exact B1)
  obtain ⟨m, rfl⟩ : ∃ m, len = m + 2 := ⟨len - 2, by omega⟩
  obtain ⟨b, off, rfl, hb, hc⟩ := hR.cells (by omega)
  have hz2 : 2 ≤ zs.length := by omega
  have ebody : body zs = zs.take m := by unfold body; rw [hzl]; rfl
  have etail : tailN zs = 256 * zs.getD m 0 + zs.getD (m + 1) 0 := by unfold tailN; rw [hzl]; rfl
  have z0 := hR.byte m
  have z1 := hR.byte (m + 1)
  have RB : Row .u8 w B (some ⟨b, off, none⟩) m cap (body zs) := by
    have := hR.sub 0 m cap (by omega) (by omega) hmost
    rwa [Nat.add_zero, List.drop_zero, ← ebody] at this
  have d0 := cell_keep b0 (hc m (by omega))
  have d1 := cell_keep b0 (hc (m + 1) (by omega))
  have T0 := Lib.hid (fun (w' : World) d0 d1 => readTwo_any b (off + m) 2 (cap - m) (zs.getD m 0) (zs.getD (m + 1) 0) w' (by omega) (by omega) (by simp only [maxLen]; omega) d0 d1 z0.1 z0.2 z1.1 z1.2)
  have SB := Lib.hid (fun (w' : World) (h : Below w.heap.size w w') => sumBytes_any (some ⟨b, off, none⟩) m cap B (body zs) w' (RB.below (h.mono hB)))
  have RD := Lib.hid (fun (w' : World) (h : Below w.heap.size w w') => implReadPin_any (some ⟨b, off, none⟩) m cap B (body zs) w' (RB.below (h.mono hB)) (Nat.le_trans hB h.size))
  obtain ⟨s0, s1⟩ := M.sumL_bd (body zs)
  have hmz : ¬ ((m : Int) < 0) := by omega
  have hmd : decide ((m : Int) < 0) = false := by simp
  have HD0 := Lib.hid d0
  have HD1 := Lib.hid d1
  have HB0 := Lib.hid b0
  have HA0 := Lib.hid A0
  rw [← Nat.add_assoc] at HD1
  by_cases ht : tailN zs = M.sumL (body zs)
  · have er := recOk_pinOk hz2 ht
    rw [show rdC zs = readC (body zs) by simp [rdC, readC, er], show rdP zs = readR (body zs) by simp [rdP, readR, er]]
    rw [etail] at ht
    have hq : (256 * zs.getD m 0 + zs.getD (m + 1) 0 != M.sumL (body zs)) = false := by rw [ht]; simp
    have HT := Lib.hid ht
    generalize readC (body zs) = rc at *
    generalize readR (body zs) = rp at *
    generalize zs.getD m 0 = y0 at *
    generalize zs.getD (m + 1) 0 = y1 at *
    generalize M.sumL (body zs) = sm at *
    generalize body zs = bz at *
    clear hR hc b0 A0 d0 d1 er ht ebody etail RB
    go_enter Tryz.func138, Tryz.ntmps138
    go_wp2_with fail
    generalize w.alloc (.cells #[.int .i64 0, .string { data := #[] }, .int .i64 0, .int .i64 0, .int .i64 0, .int .i64 0] 74) = W0 at *
    refine wp_region_line (Bel W0) [(0, true), (1, true), (2, true), (3, true), (4, true), (5, true), (7, true), (8, true), (9, true), (6, false), (10, false), (11, true), (12, true), (13, true)] (by kernel_rfl) (by kernel_rfl) (fun _ _ d _ _ h => by cases d <;> exact h) (Bel.drew W0) ?_
    have hst := Bel.drew W0
    have inst : Nonempty (Of (Bel W0)) := ⟨⟨_, hst⟩⟩
    generalize W0.drew = V1 at *
    iterate 9 (refine line_read rfl (by kernel_rfl) (fun K hK => ?_); go_big_quiet_op; refine hK _ ?_; clear hK K)
    refine line_alone rfl (by kernel_rfl) (fun K hK => ?_)
    refine call_wp (args := #[.slice (some ⟨b, off + m, none⟩) 2 (cap - m)]) rfl (by kernel_rfl) (by kernel_rfl) (T0.out _ (cell_keep hst.out HD0.out) (cell_keep hst.out HD1.out)) (fun wn hbn => ?_)
    have hst2 := hst.on hbn
    refine hK _ _ hst2 ?_
    clear hK K hst hbn
    have hst := hst2
    clear hst2
    simp only [Act.put, List.setIfInBounds_toArray, List.set_cons_zero, List.set_cons_succ]
    refine line_alone rfl (by kernel_rfl) (fun K hK => ?_)
    refine call_wp (args := #[.slice (some ⟨b, off, none⟩) m cap]) rfl (by kernel_rfl) (by kernel_rfl) (SB.out _ (btr HB0.out hst.out)) (fun wn hbn => ?_)
    subst hbn
    refine hK _ _ hst ?_
    clear hK K
    simp only [Act.put, List.setIfInBounds_toArray, List.set_cons_zero, List.set_cons_succ]
    iterate 3 (refine line_read rfl (by kernel_rfl) (fun K hK => ?_); go_big_quiet_op; refine hK _ ?_; clear hK K)
    refine line_nil ?_
    have A1 := (HA0.out.on hst.out)
    have HA1 := Lib.hid A1
    have B1 := btr HB0.out hst.out
    clear hst inst HA0 HB0 HD0 HD1 T0 SB
    have q0 := A1.cell 0 _ rfl
    have q1 := A1.cell 1 _ rfl
    have q2 := A1.cell 2 _ rfl
    have q3 := A1.cell 3 _ rfl
    have q4 := A1.cell 4 _ rfl
    have q5 := A1.cell 5 _ rfl
    have z0 := A1.free 0 _ rfl
    have z1 := A1.free 1 _ rfl
    have z2 := A1.free 2 _ rfl
    have z3 := A1.free 3 _ rfl
    have z4 := A1.free 4 _ rfl
    have z5 := A1.free 5 _ rfl
    clear A1
    clear q0 q1 q2 q3 q4 q5
    clear z2 z3 z4 z5
    go_wp2_with fail
    refine (RD.out _ B1).mono ?_
    rintro r w2 ⟨rfl, b2⟩
    have A2 := HA1.out.on b2
    have B2 := btr B1 b2
    have q0 := A2.cell 0 _ rfl
    have q1 := A2.cell 1 _ rfl
    have q2 := A2.cell 2 _ rfl
    have q3 := A2.cell 3 _ rfl
    have q4 := A2.cell 4 _ rfl
    have q5 := A2.cell 5 _ rfl
    have z0 := A2.free 0 _ rfl
    have z1 := A2.free 1 _ rfl
    have z2 := A2.free 2 _ rfl
    have z3 := A2.free 3 _ rfl
    have z4 := A2.free 4 _ rfl
    have z5 := A2.free 5 _ rfl
    clear A2 B1 b2 RD HA1
    go_wp2_with fail
    refine bodyPost_ret (v := RP6 rc rp) (by simp [results, Tryz.results138, go_sem, q0, q1, q2, q3, q4, q5]) rfl ⟨rfl, ?_⟩
    exact (by (iterate 6 (refine bset ?_ (by dsimp only; omega) _)); exact B2)
  · have er := recOk_sum hz2 ht
    rw [show rdC zs = 5 by simp [rdC, er], show rdP zs = pin0 by simp [rdP, er]]
    rw [etail] at ht
    have hq : (256 * zs.getD m 0 + zs.getD (m + 1) 0 != M.sumL (body zs)) = true := by simpa using ht
    have hq2 : decide (256 * zs.getD m 0 + zs.getD (m + 1) 0 = M.sumL (body zs)) = false := by simpa using ht
    generalize zs.getD m 0 = y0 at *
    generalize zs.getD (m + 1) 0 = y1 at *
    generalize M.sumL (body zs) = sm at *
    generalize body zs = bz at *
    clear hR hc b0 A0 d0 d1 er ht ebody etail RB
    go_enter Tryz.func138, Tryz.ntmps138
    go_wp2_with fail
    generalize w.alloc (.cells #[.int .i64 0, .string { data := #[] }, .int .i64 0, .int .i64 0, .int .i64 0, .int .i64 0] 74) = W0 at *
    refine wp_region_line (Bel W0) [(0, true), (1, true), (2, true), (3, true), (4, true), (5, true), (7, true), (8, true), (9, true), (6, false), (10, false), (11, true), (12, true), (13, true)] (by kernel_rfl) (by kernel_rfl) (fun _ _ d _ _ h => by cases d <;> exact h) (Bel.drew W0) ?_
    have hst := Bel.drew W0
    have inst : Nonempty (Of (Bel W0)) := ⟨⟨_, hst⟩⟩
    generalize W0.drew = V1 at *
    iterate 9 (refine line_read rfl (by kernel_rfl) (fun K hK => ?_); go_big_quiet_op; refine hK _ ?_; clear hK K)
    refine line_alone rfl (by kernel_rfl) (fun K hK => ?_)
    refine call_wp (args := #[.slice (some ⟨b, off + m, none⟩) 2 (cap - m)]) rfl (by kernel_rfl) (by kernel_rfl) (T0.out _ (cell_keep hst.out HD0.out) (cell_keep hst.out HD1.out)) (fun wn hbn => ?_)
    have hst2 := hst.on hbn
    refine hK _ _ hst2 ?_
    clear hK K hst hbn
    have hst := hst2
    clear hst2
    simp only [Act.put, List.setIfInBounds_toArray, List.set_cons_zero, List.set_cons_succ]
    refine line_alone rfl (by kernel_rfl) (fun K hK => ?_)
    refine call_wp (args := #[.slice (some ⟨b, off, none⟩) m cap]) rfl (by kernel_rfl) (by kernel_rfl) (SB.out _ (btr HB0.out hst.out)) (fun wn hbn => ?_)
    subst hbn
    refine hK _ _ hst ?_
    clear hK K
    simp only [Act.put, List.setIfInBounds_toArray, List.set_cons_zero, List.set_cons_succ]
    iterate 3 (refine line_read rfl (by kernel_rfl) (fun K hK => ?_); go_big_quiet_op; refine hK _ ?_; clear hK K)
    refine line_nil ?_
    have A1 := (HA0.out.on hst.out)
    have HA1 := Lib.hid A1
    have B1 := btr HB0.out hst.out
    clear hst inst HA0 HB0 HD0 HD1 T0 SB
    have q0 := A1.cell 0 _ rfl
    have q1 := A1.cell 1 _ rfl
    have q2 := A1.cell 2 _ rfl
    have q3 := A1.cell 3 _ rfl
    have q4 := A1.cell 4 _ rfl
    have q5 := A1.cell 5 _ rfl
    have z0 := A1.free 0 _ rfl
    have z1 := A1.free 1 _ rfl
    have z2 := A1.free 2 _ rfl
    have z3 := A1.free 3 _ rfl
    have z4 := A1.free 4 _ rfl
    have z5 := A1.free 5 _ rfl
    clear A1 RD HA1
    go_wp2_with fail
    refine bodyPost_ret (v := RP6 5 ⟨{ data := #[] }, 0, 0, 0, 0⟩) (by simp [results, Tryz.results138, go_sem, q0, q1, q2, q3, q4, q5]) rfl ⟨rfl, ?_⟩
    exact (by (iterate 6 (refine bset ?_ (by dsimp only; omega) _)); exact B1)
theorem bfld1 (c : Int) (a : Option Addr) (n k : Nat) (w : World) : Sem.run Tryz.prog (Instr.field 39 (.agg #[.int .i64 c, .slice a n k]) 1) w = .ok (.slice a n k) w := by kernel_rfl
theorem rec_sum (zs : List Int) : M.sumB (M.sumL zs) = true := by
  have hs := M.sumL_bd zs
  simp only [M.sumB, decide_eq_true_eq]; omega
theorem pinRecord_any (p : PinD) (w : World) (h : p.f = 0) :
    Calls Tryz.prog 119 #[P5 p] w (Made (recP p) w) := by
  have hn20 := (pin_bounds h).1
  have b0 := bal (Below.refl _ w) (.cells #[.string p.n, .int .i64 p.a, .int .i64 p.b, .int .i64 p.e, .int .i64 p.u] 59)
  have A0 : At w.heap.size p.vals (w.alloc (.cells #[.string p.n, .int .i64 p.a, .int .i64 p.b, .int .i64 p.e, .int .i64 p.u] 59)) := At.new w p.vals 59
  have hw := fun z hz => byte_wf (packP_byte h z hz)
  have P := fun w => implPackPin_any p w (by simp only [maxLen]; omega)
  have e : packPL p = packP p := by simp [packPL, h]
  have hl : (packP p).length ≤ 1000000 := by rw [packP_length]; omega
  have hs := rec_sum (packP p)
  obtain ⟨s0, s1⟩ := M.sumL_bd (packP p)
  rw [e, h] at P
  unfold recP
  clear e h
  generalize packP p = zs at *
  have S := fun a n c B w R => sumBytes_any a n c B zs w R
  generalize M.sumL zs = x at *
  have g1 := bfld1
  have HL := Lib.hid hl
  have HS := Lib.hid hs
  clear hl hs
  have d0 := A0.cell 0 _ rfl
  have d1 := A0.cell 1 _ rfl
  have d2 := A0.cell 2 _ rfl
  have d3 := A0.cell 3 _ rfl
  have d4 := A0.cell 4 _ rfl
  have HB0 := Lib.hid b0
  clear A0 b0
  go_enter Tryz.func119, Tryz.ntmps119
  go_wp2_with fail
  generalize w.alloc (.cells #[.string p.n, .int .i64 p.a, .int .i64 p.b, .int .i64 p.e, .int .i64 p.u] 59) = W0 at *
  refine (P _).mono ?_
  rintro r u1 ⟨a, n, c, rfl, O1, b1⟩
  have R1 := Own.row O1 hw
  have B1 := btr HB0.out b1
  have hsz1 := HB0.out.size
  have hsz2 := b1.size
  have HO := Lib.hid (show OwnK .u8 u1 w.heap.size (.slice a n c) zs from Own.less O1 hsz1)
  clear O1 P d0 d1 d2 d3 d4
  go_wp2_with fail
  refine (S _ _ _ _ _ R1).mono ?_
  rintro r u2 ⟨rfl, rfl⟩
  clear R1 S
  have hsz3 := B1.size
  have HB1 := Lib.hid B1
  clear B1
  go_wp2_with fail
  refine (appendTwo_any _ x w.heap.size zs _ HO.out hsz3 HS.out HL.out).mono ?_
  rintro r u3 ⟨v3, rfl, O3, g3⟩
  have B3 := Own.grown HO.out HB1.out hsz3 g3
  obtain ⟨a3, n3, c3, hv3⟩ : ∃ a n c, v3 = .slice a n c := by obtain ⟨a, c, e, -⟩ := Own.form O3; exact ⟨_, _, _, e⟩
  subst hv3
  have HF := Lib.hid (And.intro O3 B3)
  clear O3 B3 g3
  go_wp2_with fail
  go_ret
  exact ⟨_, _, _, rfl, HF.out.1, HF.out.2⟩
theorem l9Record_any (g : Nat) (o : Nat) (p : PinD) (w : World) (L : ∀ w', Below w.heap.size w w' → Calls Tryz.prog 276 #[.pointer (some ⟨g, o, none⟩)] w' (Made (packP p) w')) (h : p.f = 0) :
    Calls Tryz.prog 225 #[.pointer (some ⟨g, o, none⟩)] w (Made (recP p) w) := by
  obtain ⟨i0, hi0, hz0, hz1, hz2⟩ := info_parts u8_info
  have hn20 := (pin_bounds h).1
  have hw := fun z hz => byte_wf (packP_byte h z hz)
  have P := L w (Below.refl _ _)
  have hl : (packP p).length ≤ 1000000 := by rw [packP_length]; omega
  have hs := rec_sum (packP p)
  obtain ⟨s0, s1⟩ := M.sumL_bd (packP p)
  unfold recP
  clear h L
  generalize packP p = zs at *
  have S := fun a n c B w R => l2Sum_any a n c B zs w R
  generalize hx : M.sumL zs = x at *
  have T := fun w => l1Two_any x w hs
  have HX := Lib.hid hx
  have HL := Lib.hid hl
  clear hl hs hx
  go_enter Tryz.func225, Tryz.ntmps225
  go_wp2_with fail
  refine P.mono ?_
  rintro r u1 ⟨a, n, c, rfl, O1, b1⟩
  have ln := OwnK.len O1
  subst ln
  have R1 := Own.row O1 hw
  have HO := Lib.hid O1
  have hsz1 := b1.size
  clear O1 P
  go_wp2_with fail
  refine (S _ _ _ _ _ R1).mono ?_
  rintro r u2 ⟨rfl, rfl⟩
  clear R1 S
  go_wp2_with fail
  refine (T _).mono ?_
  rintro r u3 ⟨rfl, rfl⟩
  have SR := src_new (P := Tryz.prog) u1 [.int .u8 (x / 256), .int .u8 (x % 256)] 2 2 5 22 5 Tryz.underlying22 rfl (ints_oneCell .u8 [x / 256, x % 256])
  have O3 : OwnK .u8 (u1.alloc (.cells #[.int .u8 (x / 256), .int .u8 (x % 256)] 5)) w.heap.size (.slice a zs.length c) zs := HO.out.alloc _
  have B3 := bal b1 (.cells #[.int .u8 (x / 256), .int .u8 (x % 256)] 5)
  have hsz3 := B3.size
  clear T
  have HSR := Lib.hid SR
  have HO3 := Lib.hid O3
  have HB3 := Lib.hid B3
  clear SR O3 B3 b1 HO
  go_wp2_with (at_builtin; refine wpList_append_src _ rfl (.tmp 6) (.tmp 9) 22 22 rfl w.heap.size 5 i0 (.int .u8 0) 1 1 Tryz.underlying22 hi0 hz0 hz1 hz2 rfl _ _ _ rfl HO3.out _ 2 _ rfl HSR.out (by have := HL.out; simp only [maxLen]; omega) (by have := HL.out; omega) hsz3 ?_; intro v w4 hown hgrow hat)
  have O4 : OwnK .u8 w4 w.heap.size v (zs ++ M.two x) := by
    unfold OwnK
    simpa [M.two] using hown
  have B4 := Own.grown HO3.out HB3.out hsz3 hgrow
  obtain ⟨a4, n4, c4, hv4⟩ : ∃ a n c, v = .slice a n c := by obtain ⟨a, c, e, -⟩ := Own.form O4; exact ⟨_, _, _, e⟩
  subst hv4
  have HF := Lib.hid (And.intro O4 B4)
  clear O4 B4 hown hgrow hat
  go_wp2_with fail
  go_ret
  exact ⟨_, _, _, rfl, HF.out.1, HF.out.2⟩
def PinRead9 (zs : List Int) (w : World) (e : Ending) (w' : World) : Prop := ∃ p : PinD, e = .returned (.tuple #[P5 p, .bool (recOk zs)]) ∧ (recOk zs = true → p = pinZ (body zs)) ∧ Below w.heap.size w w'
theorem l9Read_any (a : Option Addr) (len cap B : Nat) (zs : List Int) (w : World) (hR : Row .u8 w B a len cap zs) (hB : B ≤ w.heap.size) (h40 : len ≤ 40) :
    Calls Tryz.prog 274 #[.slice a len cap] w (PinRead9 zs w) := by
  have hzl := hR.length
  have hfit := hR.fits
  have hmost := hR.most
  have hm2 := hmost
  unfold maxLen at hm2
  have b0 := bal (Below.refl _ w) (.cells #[.string { data := #[] }, .int .i64 0, .int .i64 0, .int .i64 0, .int .i64 0] 59)
  have A0 := At.new w [.string { data := #[] }, .int .i64 0, .int .i64 0, .int .i64 0, .int .i64 0] 59
  have HB0 := Lib.hid b0
  have HA0 := Lib.hid A0
  by_cases h2 : len < 2
  · have eno : recOk zs = false := recOk_short (by omega)
    have HP : PinRead9 zs w = fun e w' => ∃ p : PinD, e = .returned (.tuple #[P5 p, .bool false]) ∧ Below w.heap.size w w' := by
      funext e w'
      simp [PinRead9, eno]
    rw [HP]
    have h2' : (len : Int) - 2 < 0 := by omega
    clear hR b0 A0 eno hzl HP
    go_enter Tryz.func274, Tryz.ntmps274
    go_wp2_with fail
    generalize w.alloc (.cells #[.string { data := #[] }, .int .i64 0, .int .i64 0, .int .i64 0, .int .i64 0] 59) = W0 at *
    refine wp_region_line (Bel W0) [(0, true), (1, true), (2, true), (3, true), (4, true), (6, true), (7, true), (8, true), (5, false), (9, false), (10, true), (11, true)] (by kernel_rfl) (by kernel_rfl) (fun _ _ d _ _ h => by cases d <;> exact h) (Bel.drew W0) ?_
    have hst := Bel.drew W0
    have inst : Nonempty (Of (Bel W0)) := ⟨⟨_, hst⟩⟩
    generalize W0.drew = V1 at *
    iterate 3 (refine line_read rfl (by kernel_rfl) (fun K hK => ?_); go_big_quiet_op; refine hK _ ?_; clear hK K)
    iterate 8 (refine line_skip rfl (by kernel_rfl) ?_; simp only [Act.put, List.setIfInBounds_toArray, List.set_cons_zero, List.set_cons_succ])
    iterate 1 (refine line_read rfl (by kernel_rfl) (fun K hK => ?_); go_big_quiet_op; refine hK _ ?_; clear hK K)
    refine line_nil ?_
    have A1 := (HA0.out.on hst.out)
    have B1 := btr HB0.out hst.out
    clear hst inst HA0 HB0
    have q0 := A1.cell 0 _ rfl
    have q1 := A1.cell 1 _ rfl
    have q2 := A1.cell 2 _ rfl
    have q3 := A1.cell 3 _ rfl
    have q4 := A1.cell 4 _ rfl
    have z0 := A1.free 0 _ rfl
    have z1 := A1.free 1 _ rfl
    have z2 := A1.free 2 _ rfl
    have z3 := A1.free 3 _ rfl
    have z4 := A1.free 4 _ rfl
    clear A1
    go_wp2_with fail
    refine bodyPost_ret (v := .tuple #[P5 ⟨{ data := #[] }, 0, 0, 0, 0⟩, .bool false]) (by simp [results, Tryz.results274, go_sem, q0, q1, q2, q3, q4]) rfl ⟨pin0, rfl, ?_⟩
    exact (by (iterate 5 (refine bset ?_ (by dsimp only; omega) _)); exact B1)
  obtain ⟨m, rfl⟩ : ∃ m, len = m + 2 := ⟨len - 2, by omega⟩
  obtain ⟨b, off, rfl, hb, hc⟩ := hR.cells (by omega)
  have hz2 : 2 ≤ zs.length := by omega
  have ebody : body zs = zs.take m := by unfold body; rw [hzl]; rfl
  have etail : tailN zs = 256 * zs.getD m 0 + zs.getD (m + 1) 0 := by unfold tailN; rw [hzl]; rfl
  have z0 := hR.byte m
  have z1 := hR.byte (m + 1)
  have RB : Row .u8 w B (some ⟨b, off, none⟩) m cap (body zs) := by
    have := hR.sub 0 m cap (by omega) (by omega) hmost
    rwa [Nat.add_zero, List.drop_zero, ← ebody] at this
  have HD0 := Lib.hid (cell_keep b0 (hc m (by omega)))
  have HD1 := Lib.hid (cell_keep b0 (hc (m + 1) (by omega)))
  have T0 := Lib.hid (fun (w' : World) d0 d1 => l1At_any b off (m + 2) cap m (zs.getD m 0) (zs.getD (m + 1) 0) w' (by omega) (by omega) hfit hmost d0 d1 z0.1 z0.2 z1.1 z1.2)
  have SB := Lib.hid (fun (w' : World) (h : Below w.heap.size w w') => l2Sum_any (some ⟨b, off, none⟩) m cap B (body zs) w' (RB.below (h.mono hB)))
  have RD := Lib.hid (fun (w' : World) (h : Below w.heap.size w w') => l7Read_any (some ⟨b, off, none⟩) m cap B (body zs) w' (RB.below (h.mono hB)) (Nat.le_trans hB h.size))
  obtain ⟨s0, s1⟩ := M.sumL_bd (body zs)
  have hmz : ¬ ((m : Int) < 0) := by omega
  have hmd : decide ((m : Int) < 0) = false := by simp
  by_cases ht : tailN zs = M.sumL (body zs)
  · have er := recOk_pinOk hz2 ht
    have HP : PinRead9 zs w = fun e w' => ∃ p : PinD, e = .returned (.tuple #[P5 p, .bool (pinOk (body zs))]) ∧ (pinOk (body zs) = true → p = pinZ (body zs)) ∧ Below w.heap.size w w' := by
      funext e w'
      simp [PinRead9, er]
    rw [HP]
    rw [etail] at ht
    have hq : (256 * zs.getD m 0 + zs.getD (m + 1) 0 != M.sumL (body zs)) = false := by rw [ht]; simp
    have HT := Lib.hid ht
    unfold PinRead at RD
    generalize pinOk (body zs) = ok at *
    generalize pinZ (body zs) = pz at *
    generalize zs.getD m 0 = y0 at *
    generalize zs.getD (m + 1) 0 = y1 at *
    generalize M.sumL (body zs) = sm at *
    generalize body zs = bz at *
    clear hR hc b0 A0 er ht ebody etail RB HP
    go_enter Tryz.func274, Tryz.ntmps274
    go_wp2_with fail
    generalize w.alloc (.cells #[.string { data := #[] }, .int .i64 0, .int .i64 0, .int .i64 0, .int .i64 0] 59) = W0 at *
    refine wp_region_line (Bel W0) [(0, true), (1, true), (2, true), (3, true), (4, true), (6, true), (7, true), (8, true), (5, false), (9, false), (10, true), (11, true)] (by kernel_rfl) (by kernel_rfl) (fun _ _ d _ _ h => by cases d <;> exact h) (Bel.drew W0) ?_
    have hst := Bel.drew W0
    have inst : Nonempty (Of (Bel W0)) := ⟨⟨_, hst⟩⟩
    generalize W0.drew = V1 at *
    iterate 8 (refine line_read rfl (by kernel_rfl) (fun K hK => ?_); go_big_quiet_op; refine hK _ ?_; clear hK K)
    refine line_alone rfl (by kernel_rfl) (fun K hK => ?_)
    refine call_wp (args := #[.slice (some ⟨b, off, none⟩) (m + 2) cap, .int .i64 m]) rfl (by kernel_rfl) (by kernel_rfl) (T0.out _ (cell_keep hst.out HD0.out) (cell_keep hst.out HD1.out)) (fun wn hbn => ?_)
    have hst2 := hst.on hbn
    refine hK _ _ hst2 ?_
    clear hK K hst hbn
    have hst := hst2
    clear hst2
    simp only [Act.put, List.setIfInBounds_toArray, List.set_cons_zero, List.set_cons_succ]
    refine line_alone rfl (by kernel_rfl) (fun K hK => ?_)
    refine call_wp (args := #[.slice (some ⟨b, off, none⟩) m cap]) rfl (by kernel_rfl) (by kernel_rfl) (SB.out _ (btr HB0.out hst.out)) (fun wn hbn => ?_)
    subst hbn
    refine hK _ _ hst ?_
    clear hK K
    simp only [Act.put, List.setIfInBounds_toArray, List.set_cons_zero, List.set_cons_succ]
    iterate 2 (refine line_read rfl (by kernel_rfl) (fun K hK => ?_); go_big_quiet_op; refine hK _ ?_; clear hK K)
    refine line_nil ?_
    have A1 := (HA0.out.on hst.out)
    have HA1 := Lib.hid A1
    have B1 := btr HB0.out hst.out
    clear hst inst HA0 HB0 HD0 HD1 T0 SB
    have q0 := A1.cell 0 _ rfl
    have q1 := A1.cell 1 _ rfl
    have q2 := A1.cell 2 _ rfl
    have q3 := A1.cell 3 _ rfl
    have q4 := A1.cell 4 _ rfl
    have z0 := A1.free 0 _ rfl
    have z1 := A1.free 1 _ rfl
    have z2 := A1.free 2 _ rfl
    have z3 := A1.free 3 _ rfl
    have z4 := A1.free 4 _ rfl
    clear A1
    clear q0 q1 q2 q3 q4
    clear z2 z3 z4
    go_wp2_with fail
    refine (RD.out _ B1).mono ?_
    rintro r w2 ⟨p, rfl, hp, b2⟩
    have A2 := HA1.out.on b2
    have B2 := btr B1 b2
    have HP := Lib.hid hp
    have q0 := A2.cell 0 _ rfl
    have q1 := A2.cell 1 _ rfl
    have q2 := A2.cell 2 _ rfl
    have q3 := A2.cell 3 _ rfl
    have q4 := A2.cell 4 _ rfl
    have z0 := A2.free 0 _ rfl
    have z1 := A2.free 1 _ rfl
    have z2 := A2.free 2 _ rfl
    have z3 := A2.free 3 _ rfl
    have z4 := A2.free 4 _ rfl
    clear A2 B1 b2 RD HA1 hp
    go_wp2_with fail
    refine bodyPost_ret (v := .tuple #[P5 p, .bool ok]) (by simp [results, Tryz.results274, go_sem, q0, q1, q2, q3, q4]) rfl ⟨p, rfl, HP.out, ?_⟩
    exact (by (iterate 5 (refine bset ?_ (by dsimp only; omega) _)); exact B2)
  · have er := recOk_sum hz2 ht
    have HP : PinRead9 zs w = fun e w' => ∃ p : PinD, e = .returned (.tuple #[P5 p, .bool false]) ∧ Below w.heap.size w w' := by
      funext e w'
      simp [PinRead9, er]
    rw [HP]
    rw [etail] at ht
    have hq : (256 * zs.getD m 0 + zs.getD (m + 1) 0 != M.sumL (body zs)) = true := by simpa using ht
    have hq2 : decide (256 * zs.getD m 0 + zs.getD (m + 1) 0 = M.sumL (body zs)) = false := by simpa using ht
    generalize zs.getD m 0 = y0 at *
    generalize zs.getD (m + 1) 0 = y1 at *
    generalize M.sumL (body zs) = sm at *
    generalize body zs = bz at *
    clear hR hc b0 A0 er ht ebody etail RB HP
    go_enter Tryz.func274, Tryz.ntmps274
    go_wp2_with fail
    generalize w.alloc (.cells #[.string { data := #[] }, .int .i64 0, .int .i64 0, .int .i64 0, .int .i64 0] 59) = W0 at *
    refine wp_region_line (Bel W0) [(0, true), (1, true), (2, true), (3, true), (4, true), (6, true), (7, true), (8, true), (5, false), (9, false), (10, true), (11, true)] (by kernel_rfl) (by kernel_rfl) (fun _ _ d _ _ h => by cases d <;> exact h) (Bel.drew W0) ?_
    have hst := Bel.drew W0
    have inst : Nonempty (Of (Bel W0)) := ⟨⟨_, hst⟩⟩
    generalize W0.drew = V1 at *
    iterate 8 (refine line_read rfl (by kernel_rfl) (fun K hK => ?_); go_big_quiet_op; refine hK _ ?_; clear hK K)
    refine line_alone rfl (by kernel_rfl) (fun K hK => ?_)
    refine call_wp (args := #[.slice (some ⟨b, off, none⟩) (m + 2) cap, .int .i64 m]) rfl (by kernel_rfl) (by kernel_rfl) (T0.out _ (cell_keep hst.out HD0.out) (cell_keep hst.out HD1.out)) (fun wn hbn => ?_)
    have hst2 := hst.on hbn
    refine hK _ _ hst2 ?_
    clear hK K hst hbn
    have hst := hst2
    clear hst2
    simp only [Act.put, List.setIfInBounds_toArray, List.set_cons_zero, List.set_cons_succ]
    refine line_alone rfl (by kernel_rfl) (fun K hK => ?_)
    refine call_wp (args := #[.slice (some ⟨b, off, none⟩) m cap]) rfl (by kernel_rfl) (by kernel_rfl) (SB.out _ (btr HB0.out hst.out)) (fun wn hbn => ?_)
    subst hbn
    refine hK _ _ hst ?_
    clear hK K
    simp only [Act.put, List.setIfInBounds_toArray, List.set_cons_zero, List.set_cons_succ]
    iterate 2 (refine line_read rfl (by kernel_rfl) (fun K hK => ?_); go_big_quiet_op; refine hK _ ?_; clear hK K)
    refine line_nil ?_
    have A1 := (HA0.out.on hst.out)
    have HA1 := Lib.hid A1
    have B1 := btr HB0.out hst.out
    clear hst inst HA0 HB0 HD0 HD1 T0 SB
    have q0 := A1.cell 0 _ rfl
    have q1 := A1.cell 1 _ rfl
    have q2 := A1.cell 2 _ rfl
    have q3 := A1.cell 3 _ rfl
    have q4 := A1.cell 4 _ rfl
    have z0 := A1.free 0 _ rfl
    have z1 := A1.free 1 _ rfl
    have z2 := A1.free 2 _ rfl
    have z3 := A1.free 3 _ rfl
    have z4 := A1.free 4 _ rfl
    clear A1 RD HA1
    go_wp2_with fail
    refine bodyPost_ret (v := .tuple #[P5 ⟨{ data := #[] }, 0, 0, 0, 0⟩, .bool false]) (by simp [results, Tryz.results274, go_sem, q0, q1, q2, q3, q4]) rfl ⟨pin0, rfl, ?_⟩
    exact (by (iterate 5 (refine bset ?_ (by dsimp only; omega) _)); exact B1)
end Go.Proofs.YtlodhleihnlchaaGreatDoor
