/- What is read back from what was laid, and the other way round; what a key for a name matches. No condition beside what each theorem states. -/
import Derived.Test.YtdkgiiikcapjcaaDoorC5k
import Derived.Test.YtdkgiiikcapjcaaDoorC5i
namespace Go.Proofs.YtdkgiiikcapjcaaDoor
open Go.RowKit
set_option maxRecDepth 100000
set_option linter.unusedVariables false

theorem byte_back {z : Int} (h : M.byteB z) : ((UInt8.ofNat z.toNat).toNat : Int) = z := by
  unfold M.byteB at h
  simp
  omega
theorem text_back {zs : List Int} (h : ∀ z ∈ zs, M.byteB z) : M.textL (M.bs (zs.map fun z => UInt8.ofNat z.toNat)) = zs := by
  unfold M.textL
  rw [M.bs_list, List.map_map]
  have : zs.map ((fun c : UInt8 => (c.toNat : Int)) ∘ fun z => UInt8.ofNat z.toNat) = zs.map id := List.map_congr_left fun z hz => byte_back (h z hz)
  rw [this, List.map_id]
theorem two_back {x y : Int} (hx : M.byteB x) (hy : M.byteB y) : M.two (256 * x + y) = [x, y] := by
  unfold M.byteB at hx hy
  unfold M.two
  congr 1
  · omega
  · congr 1
    omega
theorem four_split {zs : List Int} (h : 4 ≤ zs.length) : zs = zs.getD 0 0 :: zs.getD 1 0 :: zs.getD 2 0 :: zs.getD 3 0 :: zs.drop 4 := by
  match zs, h with
  | a :: b :: c :: d :: r, _ => rfl
/-- What was read is laid back into the same bytes. -/
theorem pack_read {zs : List Int} (hb : ∀ z ∈ zs, M.byteB z) (h : keyOk zs = true) : M.tlsaF (keyNm zs) (zs.getD 0 0) (zs.getD 1 0) (256 * zs.getD 2 0 + zs.getD 3 0) = 0 ∧ packT (M.bs (keyNm zs)) (zs.getD 0 0) (zs.getD 1 0) (256 * zs.getD 2 0 + zs.getD 3 0) = zs := by
  unfold keyOk at h
  simp only [Bool.and_eq_true, decide_eq_true_eq] at h
  obtain ⟨h4, hf⟩ := h
  refine ⟨hf, ?_⟩
  have e := four_split h4
  have m2 : zs.getD 2 0 ∈ zs := by rw [List.getD_eq_getElem?_getD, List.getElem?_eq_getElem (by omega)]; exact List.getElem_mem _
  have m3 : zs.getD 3 0 ∈ zs := by rw [List.getD_eq_getElem?_getD, List.getElem?_eq_getElem (by omega)]; exact List.getElem_mem _
  unfold packT headT keyNm
  rw [two_back (hb _ m2) (hb _ m3), text_back (fun z hz => hb z (List.mem_of_mem_drop hz))]
  exact e.symm
/-- What was laid is read back. -/
theorem read_pack {n : ByteArray} {u m v : Int} (h : M.tlsaF n.data.toList u m v = 0) : keyT (packT n u m v) = T5 0 n u m v := by
  obtain ⟨hn, hu0, hu1, hm0, hm1, hv⟩ := tlsa_bounds h
  simp only [M.sumB, decide_eq_true_eq] at hv
  have e0 : (packT n u m v).getD 0 0 = u := rfl
  have e1 : (packT n u m v).getD 1 0 = m := rfl
  have e2 : (packT n u m v).getD 2 0 = v / 256 := rfl
  have e3 : (packT n u m v).getD 3 0 = v % 256 := rfl
  have e4 : keyNm (packT n u m v) = n.data.toList := by
    have : (packT n u m v).drop 4 = M.textL n := rfl
    unfold keyNm
    rw [this]
    unfold M.textL
    rw [List.map_map]
    have : n.data.toList.map ((fun z : Int => UInt8.ofNat z.toNat) ∘ fun c : UInt8 => (c.toNat : Int)) = n.data.toList.map id := List.map_congr_left fun c _ => by simp
    rw [this, List.map_id]
  have ev : 256 * (v / 256) + v % 256 = v := by omega
  have hok : keyOk (packT n u m v) = true := by
    unfold keyOk keyF
    rw [e0, e1, e2, e3, e4, ev, h]
    simp [packT, headT_length]
  rw [keyT_yes hok, e0, e1, e2, e3, e4, ev, M.bs_data]
theorem keyT_cases {zs : List Int} (hb : ∀ z ∈ zs, M.byteB z) : (if keyOk zs = true then (0 : Int) else 5) = 5 ∨
    ((if keyOk zs = true then (0 : Int) else 5) = 0 ∧ M.tlsaF (M.bs (if keyOk zs = true then keyNm zs else [])).data.toList (if keyOk zs = true then zs.getD 0 0 else 0) (if keyOk zs = true then zs.getD 1 0 else 0) (if keyOk zs = true then 256 * zs.getD 2 0 + zs.getD 3 0 else 0) = 0 ∧
      packTL (M.bs (if keyOk zs = true then keyNm zs else [])) (if keyOk zs = true then zs.getD 0 0 else 0) (if keyOk zs = true then zs.getD 1 0 else 0) (if keyOk zs = true then 256 * zs.getD 2 0 + zs.getD 3 0 else 0) = zs) := by
  cases h : keyOk zs
  · exact .inl (by simp)
  · obtain ⟨h1, h2⟩ := pack_read hb h
    refine .inr ⟨by simp, ?_, ?_⟩
    · simp only [if_true, M.bs_list]
      exact h1
    · simp only [if_true]
      unfold packTL
      rw [M.bs_list, if_pos h1]
      exact h2
theorem name_cases (l : List UInt8) : ¬ M.nameF l = 0 ∨ (M.nameF l = 0 ∧ M.nameF (M.nrmT l) = 0 ∧ M.nrmT (M.nrmT l) = M.nrmT l) := by
  by_cases h : M.nameF l = 0
  · obtain ⟨h1, h2⟩ := M.normF_zero (M.normF_nrm h)
    rw [M.nrmT_yes h]
    exact .inr ⟨h, h1, by rw [M.nrmT_yes h1, h2]⟩
  · exact .inl h
theorem for_cases (l : List UInt8) (p m : Int) : ¬ M.forC l (pubB p) m = 0 ∨ (M.forC l (pubB p) m = 0 ∧
    M.tlsaF (M.bs (M.forN l (pubB p) m)).data.toList (M.forU l (pubB p) m) (M.forM l (pubB p) m) (M.forV l (pubB p) p m) = 0 ∧
    M.matchB (M.bs (M.forN l (pubB p) m)).data.toList (M.forU l (pubB p) m) (M.forM l (pubB p) m) (M.forV l (pubB p) p m) l (pubB p) p = true) := by
  by_cases h : M.forC l (pubB p) m = 0
  · obtain ⟨h1, h2, h3⟩ := M.forC_zero h
    have e1 : M.forN l (pubB p) m = M.nrm l := by simp [M.forN, h]
    have e2 : M.forU l (pubB p) m = 3 := by simp [M.forU, h]
    have e3 : M.forM l (pubB p) m = m := by simp [M.forM, h]
    have e4 : M.forV l (pubB p) p m = M.valM p m := by simp [M.forV, h]
    rw [M.bs_list, e1, e2, e3, e4]
    refine .inr ⟨h, M.tlsaF_yes (M.normF_nrm h1) ?_, ?_⟩
    · rw [M.tlsaB_eq, h3, M.valM_sum (pub_sum h2)]
      rfl
    · rw [M.matchB_for pub_sum, decide_eq_true h]
      simp
  · exact .inl h
theorem tx1 (c : Int) (t : ByteArray) (w : World) : Sem.run Tryd.prog (Instr.field 26 (.agg #[.int .i64 c, .string t]) 1) w = .ok (.string t) w := by kernel_rfl
theorem tr0 (c : Int) (n : ByteArray) (u m v : Int) (w : World) : Sem.run Tryd.prog (Instr.field 32 (.agg #[.int .i64 c, .string n, .int .i64 u, .int .i64 m, .int .i64 v]) 0) w = .ok (.int .i64 c) w := by kernel_rfl
theorem tr1 (c : Int) (n : ByteArray) (u m v : Int) (w : World) : Sem.run Tryd.prog (Instr.field 32 (.agg #[.int .i64 c, .string n, .int .i64 u, .int .i64 m, .int .i64 v]) 1) w = .ok (.agg #[.string n, .int .i64 u, .int .i64 m, .int .i64 v]) w := by kernel_rfl
theorem by1 (c : Int) (a : Option Addr) (n k : Nat) (w : World) : Sem.run Tryd.prog (Instr.field 36 (.agg #[.int .i64 c, .slice a n k]) 1) w = .ok (.slice a n k) w := by kernel_rfl
end Go.Proofs.YtdkgiiikcapjcaaDoor
