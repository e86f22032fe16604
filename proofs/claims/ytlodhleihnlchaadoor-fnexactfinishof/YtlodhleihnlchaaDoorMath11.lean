/- Plain facts on handshakes: what a shared number and what was heard are walked to; what is answered, what is taken; two who heard each other have the same keys. No condition beside what each theorem states. -/
import Derived.Test.YtlodhleihnlchaaDoorMath6
import Derived.Test.YtlodhleihnlchaaDoorMathG
namespace Go.Proofs.YtlodhleihnlchaaDoor
set_option linter.unusedVariables false

def masterN (sh he : Int) : Int := M.tagL M.masterS [sh, he]
def finN (sh he : Int) : Int := M.tagL M.finishS [masterN sh he]
def upN (sh he : Int) : Int := M.tagL M.upS [masterN sh he]
def downN (sh he : Int) : Int := M.tagL M.downS [masterN sh he]
def verN (he : Int) : Int := M.tagL M.verifyS [he]
theorem tag_sum11 (s : ByteArray) (zs : List Int) : M.sumB (M.tagL s zs) = true := by
  have := M.tagL_bd s zs
  simp only [M.sumB, decide_eq_true_eq]
  omega
theorem masterN_sum (sh he : Int) : M.sumB (masterN sh he) = true := tag_sum11 _ _
theorem finN_sum (sh he : Int) : M.sumB (finN sh he) = true := tag_sum11 _ _
theorem verN_sum (he : Int) : M.sumB (verN he) = true := tag_sum11 _ _
theorem heardL_sum (zss : List (List Int)) : M.sumB (M.heardL zss) = true := tag_sum11 _ _

/-- A result of a handshake: code, reply, keys. -/
structure TakD where
  c : Int
  r : Int
  s : Int
  p : Int
  x : Int
  y : Int
  f : Int
  u : Int
  d : Int
  h : Int
  k : Int
def tak0 (c : Int) : TakD := ⟨c, 0, 0, 0, 0, 0, 0, 0, 0, 0, 0⟩
def keysK (sh he pb : Int) : TakD := ⟨0, 0, 0, 0, 0, 0, 0, upN sh he, downN sh he, he, pb⟩
def keysB (sh he pb : Int) : Bool := pubB sh && M.sumB he && pubB pb
def keysT (sh he pb : Int) : TakD := if keysB sh he pb then keysK sh he pb else tak0 3
theorem keysT_no {sh he pb : Int} (h : keysB sh he pb = false) : keysT sh he pb = tak0 3 := by simp [keysT, h]
theorem keysT_yes {sh he pb : Int} (h : keysB sh he pb = true) : keysT sh he pb = keysK sh he pb := by simp [keysT, h]
def finR (sh he : Int) : Int × Int := if pubB sh && M.sumB he then (0, finN sh he) else (3, 0)

/-- What is wrong with a client. -/
def cliF (k r s : Int) (n : ByteArray) : Int := if inB k 1 1438 then (if helF n.data.toList r s = 0 then (if M.pubN k = s then 0 else 1) else helF n.data.toList r s) else 3
theorem cliF_sec {k r s : Int} {n : ByteArray} (h : inB k 1 1438 = false) : cliF k r s n = 3 := by simp [cliF, h]
theorem cliF_hel {k r s : Int} {n : ByteArray} (h : inB k 1 1438 = true) (h2 : ¬ helF n.data.toList r s = 0) : cliF k r s n = helF n.data.toList r s := by simp [cliF, h, h2]
theorem cliF_form {k r s : Int} {n : ByteArray} (h : inB k 1 1438 = true) (h2 : helF n.data.toList r s = 0) (h3 : ¬ M.pubN k = s) : cliF k r s n = 1 := by simp [cliF, h, h2, h3]
theorem cliF_yes {k r s : Int} {n : ByteArray} (h : inB k 1 1438 = true) (h2 : helF n.data.toList r s = 0) (h3 : M.pubN k = s) : cliF k r s n = 0 := by simp [cliF, h, h2, h3]
theorem cliF_zero {k r s : Int} {n : ByteArray} (h : cliF k r s n = 0) : inB k 1 1438 = true ∧ helF n.data.toList r s = 0 ∧ M.pubN k = s := by
  cases h1 : inB k 1 1438
  · rw [cliF_sec h1] at h
    omega
  · by_cases h2 : helF n.data.toList r s = 0
    · by_cases h3 : M.pubN k = s
      · exact ⟨rfl, h2, h3⟩
      · rw [cliF_form h1 h2 h3] at h
        omega
    · rw [cliF_hel h1 h2] at h
      exact absurd h h2

/-- A client who starts: code, and what it is. -/
def staC (k rd : Int) (n : ByteArray) : Int := if inB k 1 1438 && M.sumB rd then M.nameF n.data.toList else 3
def staI (k rd : Int) (n : ByteArray) (v : Int) : Int := if staC k rd n = 0 then v else 0
def staN (k rd : Int) (n : ByteArray) : ByteArray := if staC k rd n = 0 then M.bs (M.nrm n.data.toList) else { data := #[] }
theorem staC_no {k rd : Int} {n : ByteArray} (h : (inB k 1 1438 && M.sumB rd) = false) : staC k rd n = 3 := by simp [staC, h]
theorem staC_yes {k rd : Int} {n : ByteArray} (h : (inB k 1 1438 && M.sumB rd) = true) : staC k rd n = M.nameF n.data.toList := by simp [staC, h]
theorem staC_zero {k rd : Int} {n : ByteArray} (h : staC k rd n = 0) : inB k 1 1438 = true ∧ M.sumB rd = true ∧ M.nameF n.data.toList = 0 := by
  cases hc : (inB k 1 1438 && M.sumB rd)
  · rw [staC_no hc] at h
    omega
  · rw [staC_yes hc] at h
    simp only [Bool.and_eq_true] at hc
    exact ⟨hc.1, hc.2, h⟩

/-- What was heard; what is answered. -/
def heN (n : ByteArray) (r s rd sh pb : Int) : Int := M.heardL [packH n r s, frontR rd sh pb]
def shN (k s : Int) : Int := M.pw s k.toNat 2879
def ansB (i s rd : Int) : Bool := inB i 1 1438 && inB s 1 1438 && M.sumB rd
def ansH (i s rd : Int) (n : ByteArray) (r0 s0 : Int) : Int := heN n r0 s0 rd (M.pubN s) (M.pubN i)
def ansD (i s rd : Int) (n : ByteArray) (r0 s0 : Int) : TakD :=
  ⟨0, rd, M.pubN s, M.pubN i, M.sigPt i (verN (ansH i s rd n r0 s0)), M.sigPr i (verN (ansH i s rd n r0 s0)), finN (shN s s0) (ansH i s rd n r0 s0), upN (shN s s0) (ansH i s rd n r0 s0), downN (shN s s0) (ansH i s rd n r0 s0), ansH i s rd n r0 s0, M.pubN i⟩
def ansT (i s rd : Int) (n : ByteArray) (r0 s0 : Int) : TakD := if ansB i s rd then (if helF n.data.toList r0 s0 = 0 then ansD i s rd n r0 s0 else tak0 (helF n.data.toList r0 s0)) else tak0 3
theorem ansT_no {i s rd : Int} {n : ByteArray} {r0 s0 : Int} (h : ansB i s rd = false) : ansT i s rd n r0 s0 = tak0 3 := by simp [ansT, h]
theorem ansT_hel {i s rd : Int} {n : ByteArray} {r0 s0 : Int} (h : ansB i s rd = true) (h2 : ¬ helF n.data.toList r0 s0 = 0) : ansT i s rd n r0 s0 = tak0 (helF n.data.toList r0 s0) := by simp [ansT, h, h2]
theorem ansT_yes {i s rd : Int} {n : ByteArray} {r0 s0 : Int} (h : ansB i s rd = true) (h2 : helF n.data.toList r0 s0 = 0) : ansT i s rd n r0 s0 = ansD i s rd n r0 s0 := by simp [ansT, h, h2]

/-- What is taken. -/
def takK (k : Int) (n : ByteArray) (r0 s0 r s p x y f : Int) : TakD :=
  ⟨0, r, s, p, x, y, f, upN (shN k s) (heN n r0 s0 r s p), downN (shN k s) (heN n r0 s0 r s p), heN n r0 s0 r s p, p⟩
def takC (k r0 s0 : Int) (n : ByteArray) (r s p x y f : Int) : Int :=
  if cliF k r0 s0 n = 0 then (if repF r s p x y f = 0 then (if M.checkB p (verN (heN n r0 s0 r s p)) x y then (if f = finN (shN k s) (heN n r0 s0 r s p) then 0 else 8) else 9) else repF r s p x y f) else cliF k r0 s0 n
def takT (k r0 s0 : Int) (n : ByteArray) (r s p x y f : Int) : TakD := if takC k r0 s0 n r s p x y f = 0 then takK k n r0 s0 r s p x y f else tak0 (takC k r0 s0 n r s p x y f)
section
variable {k r0 s0 : Int} {n : ByteArray} {r s p x y f : Int}
theorem takC_cli (h : ¬ cliF k r0 s0 n = 0) : takC k r0 s0 n r s p x y f = cliF k r0 s0 n := by simp [takC, h]
theorem takC_rep (h : cliF k r0 s0 n = 0) (h2 : ¬ repF r s p x y f = 0) : takC k r0 s0 n r s p x y f = repF r s p x y f := by simp [takC, h, h2]
theorem takC_sign (h : cliF k r0 s0 n = 0) (h2 : repF r s p x y f = 0) (h3 : M.checkB p (verN (heN n r0 s0 r s p)) x y = false) : takC k r0 s0 n r s p x y f = 9 := by simp [takC, h, h2, h3]
theorem takC_fin (h : cliF k r0 s0 n = 0) (h2 : repF r s p x y f = 0) (h3 : M.checkB p (verN (heN n r0 s0 r s p)) x y = true) (h4 : ¬ f = finN (shN k s) (heN n r0 s0 r s p)) : takC k r0 s0 n r s p x y f = 8 := by
  unfold takC
  rw [if_pos h, if_pos h2, if_pos h3, if_neg h4]
theorem takC_yes (h : cliF k r0 s0 n = 0) (h2 : repF r s p x y f = 0) (h3 : M.checkB p (verN (heN n r0 s0 r s p)) x y = true) (h4 : f = finN (shN k s) (heN n r0 s0 r s p)) : takC k r0 s0 n r s p x y f = 0 := by
  unfold takC
  rw [if_pos h, if_pos h2, if_pos h3, if_pos h4]
theorem takC_zero (h : takC k r0 s0 n r s p x y f = 0) : cliF k r0 s0 n = 0 ∧ repF r s p x y f = 0 ∧ M.checkB p (verN (heN n r0 s0 r s p)) x y = true ∧ f = finN (shN k s) (heN n r0 s0 r s p) := by
  by_cases h1 : cliF k r0 s0 n = 0
  · by_cases h2 : repF r s p x y f = 0
    · cases h3 : M.checkB p (verN (heN n r0 s0 r s p)) x y
      · rw [takC_sign h1 h2 h3] at h
        omega
      · by_cases h4 : f = finN (shN k s) (heN n r0 s0 r s p)
        · exact ⟨h1, h2, rfl, h4⟩
        · rw [takC_fin h1 h2 h3 h4] at h
          omega
    · rw [takC_rep h1 h2] at h
      exact absurd h h2
  · rw [takC_cli h1] at h
    exact absurd h h1
theorem takT_no (h : ¬ takC k r0 s0 n r s p x y f = 0) : takT k r0 s0 n r s p x y f = tak0 (takC k r0 s0 n r s p x y f) := by simp [takT, h]
theorem takT_yes (h : takC k r0 s0 n r s p x y f = 0) : takT k r0 s0 n r s p x y f = takK k n r0 s0 r s p x y f := by simp [takT, h]
end

theorem pub_of {k : Int} (h : inB k 1 1438 = true) : pubB (M.pubN k) = true := by
  simp only [inB, decide_eq_true_eq] at h
  exact M.pub_pow h.1 h.2
/-- A client who started has no fault. -/
theorem sta_cli {k rd : Int} {n : ByteArray} (h : staC k rd n = 0) : cliF k rd (M.pubN k) (M.bs (M.nrm n.data.toList)) = 0 := by
  obtain ⟨h1, h2, h3⟩ := staC_zero h
  refine cliF_yes h1 ?_ rfl
  rw [helF_yes (by rw [h2, pub_of h1]; rfl), M.bs_list]
  exact M.normF_nrm h3
/-- A reply that was answered has no fault. -/
theorem ans_rep {i s rd : Int} {n : ByteArray} {r0 s0 : Int} (h : ansB i s rd = true) : repF rd (M.pubN s) (M.pubN i) (M.sigPt i (verN (ansH i s rd n r0 s0))) (M.sigPr i (verN (ansH i s rd n r0 s0))) (finN (shN s s0) (ansH i s rd n r0 s0)) = 0 := by
  simp only [ansB, Bool.and_eq_true] at h
  rw [repF_yes (by rw [h.2, pub_of h.1.1, pub_of h.1.2, finN_sum]; rfl)]
  simp [M.sigF, M.sigB_signed]
/-- Who answered, and who asked, have the same: what was answered is taken. -/
theorem ans_taken {k rd0 i s rd : Int} {n : ByteArray} (h : cliF k rd0 (M.pubN k) n = 0) (ha : ansB i s rd = true) :
    takT k rd0 (M.pubN k) n (ansD i s rd n rd0 (M.pubN k)).r (ansD i s rd n rd0 (M.pubN k)).s (ansD i s rd n rd0 (M.pubN k)).p (ansD i s rd n rd0 (M.pubN k)).x (ansD i s rd n rd0 (M.pubN k)).y (ansD i s rd n rd0 (M.pubN k)).f = ansD i s rd n rd0 (M.pubN k) := by
  have hr := ans_rep (n := n) (r0 := rd0) (s0 := M.pubN k) ha
  have ha' := ha
  simp only [ansB, Bool.and_eq_true] at ha'
  have hc := M.checked (s := i) (t := verN (ansH i s rd n rd0 (M.pubN k))) ha'.1.1 (verN_sum _)
  have e : shN k (M.pubN s) = shN s (M.pubN k) := by
    unfold shN M.pubN
    exact M.shared_eq k.toNat s.toNat
  have h0 : takC k rd0 (M.pubN k) n rd (M.pubN s) (M.pubN i) (M.sigPt i (verN (ansH i s rd n rd0 (M.pubN k)))) (M.sigPr i (verN (ansH i s rd n rd0 (M.pubN k)))) (finN (shN s (M.pubN k)) (ansH i s rd n rd0 (M.pubN k))) = 0 :=
    takC_yes h hr hc (by rw [e]; rfl)
  show takT k rd0 (M.pubN k) n rd (M.pubN s) (M.pubN i) (M.sigPt i (verN (ansH i s rd n rd0 (M.pubN k)))) (M.sigPr i (verN (ansH i s rd n rd0 (M.pubN k)))) (finN (shN s (M.pubN k)) (ansH i s rd n rd0 (M.pubN k))) = _
  rw [takT_yes h0]
  unfold takK ansD
  rw [e]
  rfl

theorem inv_all11 : M.allB (fun s => s == 0 || s * (s ^ 1437 % 1439) % 1439 == 1) 1439 = true := by decide +kernel
theorem pw_order {p : Int} (h : M.pw p 1439 2879 = 1) (e : Nat) : M.pw p (1439 * e) 2879 = 1 := by
  rw [← M.pw_pw, h, M.pw_one_base]
  rfl
/-- A shared number is a public one. -/
theorem shN_pub {k s : Int} (hk : inB k 1 1438 = true) (hs : pubB s = true) : pubB (shN k s) = true := by
  have hs' := hs
  simp only [pubB, inB, Bool.and_eq_true, decide_eq_true_eq, beq_iff_eq] at hs'
  obtain ⟨⟨s0, s1⟩, so⟩ := hs'
  simp only [inB, decide_eq_true_eq] at hk
  obtain ⟨k0, k1⟩ := hk
  have hb := M.pw_bd s k.toNat (m := 2879) (by omega)
  have ho : M.pw (M.pw s k.toNat 2879) 1439 2879 = 1 := by
    rw [M.pw_pw, Nat.mul_comm]
    exact pw_order so _
  have h0 : M.pw s k.toNat 2879 ≠ 0 := by
    intro e
    rw [e] at ho
    exact absurd ho (by decide +kernel)
  have h1 : M.pw s k.toNat 2879 ≠ 1 := by
    intro e
    have hi := M.allB_out inv_all11 (k := k.toNat) (by omega)
    simp only [Bool.or_eq_true, beq_iff_eq] at hi
    have hi2 : k.toNat * (k.toNat ^ 1437 % 1439) % 1439 = 1 := by
      rcases hi with hi | hi
      · omega
      · exact hi
    generalize k.toNat ^ 1437 % 1439 = u at *
    have h2 : M.pw s (k.toNat * u) 2879 = 1 := by
      rw [← M.pw_pw, e, M.pw_one_base]
      rfl
    have h3 : k.toNat * u = 1439 * (k.toNat * u / 1439) + 1 := by omega
    rw [h3, ← M.pw_add, pw_order so, M.pw_one (by omega) (by omega)] at h2
    omega
  unfold shN
  simp only [pubB, inB, ho, Bool.and_eq_true, decide_eq_true_eq, beq_self_eq_true, and_true]
  omega
/-- What is taken: signed by the key that it shows, and the keys are those of both. -/
theorem tak_keys {k r0 s0 : Int} {n : ByteArray} {r s p x y f : Int} (h : takC k r0 s0 n r s p x y f = 0) : keysT (shN k s) (heN n r0 s0 r s p) p = keysK (shN k s) (heN n r0 s0 r s p) p ∧ finR (shN k s) (heN n r0 s0 r s p) = (0, f) ∧ sharedR k s = (0, shN k s) := by
  obtain ⟨h1, h2, -, h4⟩ := takC_zero h
  obtain ⟨c1, -, -⟩ := cliF_zero h1
  obtain ⟨-, r2, r3, -, -⟩ := repF_zero h2
  have hp := shN_pub c1 r2
  refine ⟨keysT_yes ?_, ?_, ?_⟩
  · rw [keysB, hp, r3]
    unfold heN
    rw [heardL_sum]
    rfl
  · unfold finR
    rw [hp]
    unfold heN at *
    rw [heardL_sum, h4]
    rfl
  · unfold sharedR
    rw [c1, r2]
    rfl
theorem ver_key {he : Int} (h : M.sumB he = true) : M.keyD he M.verifyS = (0, verN he) := by
  have hl : M.labB M.verifyS = true := by decide +kernel
  simp only [M.keyD, h, hl, verN]
  rfl
end Go.Proofs.YtlodhleihnlchaaDoor
