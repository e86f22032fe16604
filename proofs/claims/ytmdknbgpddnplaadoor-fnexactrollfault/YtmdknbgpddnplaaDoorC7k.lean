/- Contracts of how a pin is laid into bytes, by the program and by its model. Conditions: as each theorem states. -/
import Derived.Test.YtmdknbgpddnplaaDoorC7a
import Derived.Test.YtmdknbgpddnplaaDoorC5j
namespace Go.Proofs.YtmdknbgpddnplaaDoor
open Go.RowKit
set_option maxRecDepth 100000
set_option linter.unusedVariables false

/-- The bytes ahead of a pin's name; the bytes of a pin. -/
def headP (a b e u : Int) : List Int := M.two a ++ M.two b ++ [e] ++ M.two u
theorem headP_length (a b e u : Int) : (headP a b e u).length = 7 := rfl
def packP (p : PinD) : List Int := headP p.a p.b p.e p.u ++ M.textL p.n
def packPL (p : PinD) : List Int := if p.f = 0 then packP p else []
theorem packP_length (p : PinD) : (packP p).length = 7 + p.n.size := by
  unfold packP
  rw [List.length_append, headP_length, M.textL_length]
theorem pin_bounds {p : PinD} (h : p.f = 0) : p.n.size ≤ 20 ∧ M.sumB p.a = true ∧ M.sumB p.b = true ∧ (1 ≤ p.e ∧ p.e ≤ 200) ∧ M.sumB p.u = true := by
  obtain ⟨-, h1, h2, h3, h4, -⟩ := pinF_zero h
  refine ⟨pin_size h, pub_sum6 h1, ?_, by simpa [epB] using h3, ?_⟩
  · simp only [bakB, Bool.or_eq_true, decide_eq_true_eq] at h2
    rcases h2 with h2 | h2
    · rw [h2]; rfl
    · exact pub_sum6 h2
  · simp only [timB, decide_eq_true_eq] at h4
    simp only [M.sumB, decide_eq_true_eq]
    omega
theorem packP_byte {p : PinD} (h : p.f = 0) : ∀ z ∈ packP p, M.byteB z := by
  intro z hz
  obtain ⟨-, h1, h2, h3, h4⟩ := pin_bounds h
  simp only [packP, headP, List.mem_append] at hz
  rcases hz with (((hz | hz) | hz) | hz) | hz
  · exact two_byte h1 z hz
  · exact two_byte h2 z hz
  · simp only [List.mem_cons, List.not_mem_nil, or_false] at hz
    unfold M.byteB
    omega
  · exact two_byte h4 z hz
  · exact M.textL_byte p.n z hz
theorem packPL_len (p : PinD) : (packPL p).length ≤ 27 := by
  unfold packPL
  split
  · rename_i h
    have hb := (pin_bounds h).1
    rw [packP_length]
    omega
  · simp
theorem packPL_byte (p : PinD) : ∀ z ∈ packPL p, M.byteB z := by
  intro z hz
  unfold packPL at hz
  split at hz
  · rename_i h
    exact packP_byte h z hz
  · cases hz

theorem l7Pack_any (g : Nat) (p : PinD) (w : World) (hA : At g p.vals w) (h : p.f = 0) :
    Calls Tryd.prog 33 #[.pointer (some ⟨g, 0, none⟩)] w (Made (packP p) w) := by
  obtain ⟨hn, ha, hb, ⟨he0, he1⟩, hu⟩ := pin_bounds h
  have he2 : 0 ≤ p.e := by omega
  have hnm : p.n.size ≤ maxLen := size_max hn
  obtain ⟨i0, hi0, hz0, hz1, hz2⟩ := info_parts u8_info
  have hcv := fun (W : World) => run_bytes_of_string (P := Tryd.prog) W 9 75 5 p.n Tryd.underlying9 Tryd.underlying75 Tryd.underlying5
  have ltg := hA.lt (by simp [PinD.vals])
  clear h
  have d0 := hA.cell 0 _ rfl
  have d1 := hA.cell 1 _ rfl
  have d2 := hA.cell 2 _ rfl
  have d3 := hA.cell 3 _ rfl
  have d4 := hA.cell 4 _ rfl
  go_enter Tryd.func33, Tryd.ntmps33
  go_wp2_with fail
  refine wp_region_line (Bel w) [(0, true), (1, true), (2, true), (3, true), (5, true), (6, true), (7, true), (8, true), (4, false), (9, false), (10, false), (11, true)] (by kernel_rfl) (by kernel_rfl) (fun _ _ d _ _ h => by cases d <;> exact h) (Bel.drew w) ?_
  have hst := Bel.drew w
  have inst : Nonempty (Of (Bel w)) := ⟨⟨_, hst⟩⟩
  have u1 := bel_cell d1
  have u2 := bel_cell d2
  have eV := Lib.hid (show w.drew.heap.size = w.heap.size from rfl)
  generalize w.drew = V1 at *
  iterate 8 (refine line_read rfl (by kernel_rfl) (fun K hK => ?_); go_big_quiet_op; refine hK _ ?_; clear hK K)
  refine line_alone rfl (by kernel_rfl) (fun K hK => ?_)
  refine call_any (args := #[.int .i64 p.a]) rfl (by kernel_rfl) (by kernel_rfl) (l1Two_any p.a _ ha) ?_
  rintro e w3 ⟨rfl, rfl⟩
  have st3 := hst.on (bal (Below.refl _ V1) (.cells #[.int .u8 (p.a / 256), .int .u8 (p.a % 256)] 5))
  have O3 : OwnK .u8 (V1.alloc (.cells #[.int .u8 (p.a / 256), .int .u8 (p.a % 256)] 5)) w.heap.size (.slice (some ⟨V1.heap.size, 0, none⟩) 2 2) (M.two p.a) := own_lit (k := .u8) V1 (M.two p.a) 2 5 (B := w.heap.size) (by have := eV.out; omega) rfl (by simp only [maxLen]; omega)
  refine ⟨_, rfl, hK _ _ st3 ?_⟩
  clear hK K hst
  simp only [Act.put, List.setIfInBounds_toArray, List.set_cons_zero, List.set_cons_succ]
  generalize V1.alloc (.cells #[.int .u8 (p.a / 256), .int .u8 (p.a % 256)] 5) = V2 at *
  refine line_alone rfl (by kernel_rfl) (fun K hK => ?_)
  refine call_any (args := #[.int .i64 p.b]) rfl (by kernel_rfl) (by kernel_rfl) (l1Two_any p.b _ hb) ?_
  rintro e w4 ⟨rfl, rfl⟩
  have st4 := st3.on (bal (Below.refl _ V2) (.cells #[.int .u8 (p.b / 256), .int .u8 (p.b % 256)] 5))
  refine ⟨_, rfl, hK _ _ st4 ?_⟩
  clear hK K
  simp only [Act.put, List.setIfInBounds_toArray, List.set_cons_zero, List.set_cons_succ]
  refine line_alone rfl (by kernel_rfl) (fun K hK => ?_)
  refine wp_append_src _ (.tmp 8) (.tmp 13) 75 75 rfl w.heap.size 5 i0 (.int .u8 0) 1 1 Tryd.underlying75 hi0 hz0 hz1 hz2 rfl _ 2 ((M.two p.a).map (Value.int .u8)) rfl (Own.alloc O3 _) _ 2 [.int .u8 (p.b / 256), .int .u8 (p.b % 256)] rfl (src_new V2 _ 2 2 _ _ _ Tryd.underlying75 rfl (ints_oneCell .u8 [p.b / 256, p.b % 256])) (by simp only [maxLen]; omega) (by omega) (by have := st3.out.size; simp; omega) (fun v5 w5 hown hgrow hat => ?_)
  have b5 : Below w.heap.size w w5 := (Own.alloc O3 (.cells #[.int .u8 (p.b / 256), .int .u8 (p.b % 256)] 5)).grown st4.out (by have := st3.out.size; simp; omega) hgrow
  have O5 : OwnK .u8 w5 w.heap.size v5 (M.two p.a ++ M.two p.b) := by unfold OwnK; simpa [M.two] using hown
  refine hK _ _ ⟨b5⟩ ?_
  clear hK K st3 st4 O3 hown hgrow hat inst u1 u2 eV
  simp only [Act.put, List.setIfInBounds_toArray, List.set_cons_zero, List.set_cons_succ]
  have inst : Nonempty (Of (Bel w)) := ⟨⟨_, ⟨b5⟩⟩⟩
  iterate 1 (refine line_read rfl (by kernel_rfl) (fun K hK => ?_); go_big_quiet_op; refine hK _ ?_; clear hK K)
  refine line_nil ?_
  have S0 : Bel w w5.drew := ⟨b5.drew⟩
  have O5d : OwnK .u8 w5.drew w.heap.size v5 (M.two p.a ++ M.two p.b) := O5
  have hz5 : w.heap.size ≤ w5.drew.heap.size := b5.size
  clear inst b5 O5
  go_wp2_with fail
  refine wp_region_line (Bel w) [(0, true), (1, true), (2, true), (3, true), (4, true), (5, true), (8, true), (9, true), (10, true), (11, true), (6, false), (7, false), (12, false), (13, false), (14, true)] (by kernel_rfl) (by kernel_rfl) (fun _ _ d _ _ h => by cases d <;> exact h) S0 ?_
  have hst := S0
  have inst : Nonempty (Of (Bel w)) := ⟨⟨_, hst⟩⟩
  have u3 := bel_cell d3
  have u4 := bel_cell d4
  generalize w5.drew = V5 at *
  clear S0
  iterate 10 (refine line_read rfl (by kernel_rfl) (fun K hK => ?_); go_big_quiet_op; refine hK _ ?_; clear hK K)
  refine line_alone rfl (by kernel_rfl) (fun K hK => ?_)
  go_big_op
  refine hK _ _ (hst.on (bal (Below.refl _ V5) _)) ?_
  clear hK K
  have O6 := O5d.alloc (.cells #[.int .u8 p.e] 5)
  have st6 := hst.on (bal (Below.refl _ V5) (.cells #[.int .u8 p.e] 5))
  refine line_alone rfl (by kernel_rfl) (fun K hK => ?_)
  refine wp_append_src _ (.tmp 15) (.tmp 21) 75 75 rfl w.heap.size 5 i0 (.int .u8 0) 1 1 Tryd.underlying75 hi0 hz0 hz1 hz2 rfl _ 4 ((M.two p.a ++ M.two p.b).map (Value.int .u8)) rfl O6 _ 1 [.int .u8 p.e] rfl (src_new V5 _ 1 1 _ _ _ Tryd.underlying75 rfl (ints_oneCell .u8 [p.e])) (by simp only [maxLen]; omega) (by omega) (by simp; omega) (fun v7 w7 hown hgrow hat => ?_)
  have b7 : Below w.heap.size w w7 := Own.grown O6 st6.out st6.out.size hgrow
  have O7 : OwnK .u8 w7 w.heap.size v7 (M.two p.a ++ M.two p.b ++ [p.e]) := by unfold OwnK; simpa [M.two] using hown
  refine hK _ _ ⟨b7⟩ ?_
  clear hK K st6 O6 O5d hown hgrow hat hst
  simp only [Act.put, List.setIfInBounds_toArray, List.set_cons_zero, List.set_cons_succ]
  refine line_alone rfl (by kernel_rfl) (fun K hK => ?_)
  refine call_any (args := #[.int .i64 p.u]) rfl (by kernel_rfl) (by kernel_rfl) (l1Two_any p.u _ hu) ?_
  rintro e w8 ⟨rfl, rfl⟩
  have st8 : Bel w (w7.alloc (.cells #[.int .u8 (p.u / 256), .int .u8 (p.u % 256)] 5)) := ⟨bal b7 _⟩
  refine ⟨_, rfl, hK _ _ st8 ?_⟩
  clear hK K
  simp only [Act.put, List.setIfInBounds_toArray, List.set_cons_zero, List.set_cons_succ]
  refine line_alone rfl (by kernel_rfl) (fun K hK => ?_)
  refine wp_append_src _ (.tmp 22) (.tmp 27) 75 75 rfl w.heap.size 5 i0 (.int .u8 0) 1 1 Tryd.underlying75 hi0 hz0 hz1 hz2 rfl _ 5 ((M.two p.a ++ M.two p.b ++ [p.e]).map (Value.int .u8)) rfl (Own.alloc O7 _) _ 2 [.int .u8 (p.u / 256), .int .u8 (p.u % 256)] rfl (src_new w7 _ 2 2 _ _ _ Tryd.underlying75 rfl (ints_oneCell .u8 [p.u / 256, p.u % 256])) (by simp only [maxLen]; omega) (by omega) (by have := b7.size; simp; omega) (fun v9 w9 hown hgrow hat => ?_)
  have b9 : Below w.heap.size w w9 := (Own.alloc O7 (.cells #[.int .u8 (p.u / 256), .int .u8 (p.u % 256)] 5)).grown st8.out (by have := b7.size; simp; omega) hgrow
  have O9 : OwnK .u8 w9 w.heap.size v9 (headP p.a p.b p.e p.u) := by unfold OwnK headP; simpa [M.two] using hown
  refine hK _ _ ⟨b9⟩ ?_
  clear hK K st8 O7 b7 hown hgrow hat u3 u4 inst
  simp only [Act.put, List.setIfInBounds_toArray, List.set_cons_zero, List.set_cons_succ]
  have inst : Nonempty (Of (Bel w)) := ⟨⟨_, ⟨b9⟩⟩⟩
  iterate 1 (refine line_read rfl (by kernel_rfl) (fun K hK => ?_); go_big_quiet_op; refine hK _ ?_; clear hK K)
  refine line_nil ?_
  have hz4 := b9.size
  have x0 := (hA.on b9).cell 0 _ rfl
  have hsrc := text_src w9 p.n hnm
  have O10 := (O9.alloc (textObj w9 p.n 5)).drew
  have b10 := (bal b9 (textObj w9 p.n 5)).drew
  clear hA d0 d1 d2 d3 d4 inst
  go_wp2_with (at_builtin; refine wpList_append_src _ rfl (.tmp 29) (.tmp 34) 75 75 rfl w.heap.size 5 i0 (.int .u8 0) 1 1 Tryd.underlying75 hi0 hz0 hz1 hz2 rfl _ _ _ rfl O10 _ p.n.size _ rfl hsrc (by rw [headP_length]; simp only [maxLen]; omega) (by rw [headP_length]; omega) (by simp; omega) ?_; intro v5 w5 hown hgrow hat)
  have O11 : OwnK .u8 w5 w.heap.size v5 (packP p) := by
    unfold OwnK packP
    rw [List.length_append, M.textL_length]
    simpa using hown
  have b11 : Below w.heap.size w w5 := O10.grown b10 (by simp; omega) hgrow
  obtain ⟨a6, c6, hv6, -⟩ := O11.form
  have HT := Lib.hid (And.intro O11 b11)
  clear hown hgrow hat O10 O11 b10 b11 hsrc O9 b9 hcv
  subst hv6
  go_wp2_with fail
  go_ret
  exact ⟨_, _, _, rfl, HT.out.1, HT.out.2⟩
end Go.Proofs.YtmdknbgpddnplaaDoor
