/- Texts of this seat that several laws rest on, laid into one. Conditions: as each theorem states. -/
import Derived.Test.YtlodhleihnlchaaGreatDoorX1
import Derived.Test.YtlodhleihnlchaaGreatDoorX2
import Derived.Test.YtlodhleihnlchaaGreatDoorX3
import Derived.Test.YtlodhleihnlchaaGreatDoorX4
import Derived.Test.YtlodhleihnlchaaGreatDoorX5
import Derived.Test.YtlodhleihnlchaaGreatDoorX6
import Derived.LaidEql
import Derived.Stop.Asserts
import Derived.RowKitTokens
import Derived.Laws.IdiomCopy
namespace Go.Proofs.YtlodhleihnlchaaGreatDoor
open Go.RowKit
set_option maxRecDepth 100000
set_option linter.unusedVariables false

def headP (a b e u : Int) : List Int := M.two a ++ M.two b ++ [e] ++ M.two u
theorem headP_length (a b e u : Int) : (headP a b e u).length = 7 := rfl
def packP (p : PinD) : List Int := headP p.a p.b p.e p.u ++ M.textL p.n
def packPL (p : PinD) : List Int := if p.f = 0 then packP p else []
theorem packP_length (p : PinD) : (packP p).length = 7 + p.n.size := by
  unfold packP
  rw [List.length_append, headP_length, M.textL_length]
theorem pin_bounds {p : PinD} (h : p.f = 0) : p.n.size ≤ 20 ∧ M.sumB p.a = true ∧ M.sumB p.b = true ∧ (1 ≤ p.e ∧ p.e ≤ 200) ∧ M.sumB p.u = true := by
  obtain ⟨-, h1, h2, h3, h4, -⟩ := pinF_zero h
  refine ⟨pin_size h, pub_sum6 h1, ?_, by simpa [epB] using h3, ?_⟩
  · simp only [bakB, Bool.or_eq_true, decide_eq_true_eq] at h2
    rcases h2 with h2 | h2
    · rw [h2]; rfl
    · exact pub_sum6 h2
  · simp only [timB, decide_eq_true_eq] at h4
    simp only [M.sumB, decide_eq_true_eq]
    omega
theorem packP_byte {p : PinD} (h : p.f = 0) : ∀ z ∈ packP p, M.byteB z := by
  intro z hz
  obtain ⟨-, h1, h2, h3, h4⟩ := pin_bounds h
  simp only [packP, headP, List.mem_append] at hz
  rcases hz with (((hz | hz) | hz) | hz) | hz
  · exact two_byte h1 z hz
  · exact two_byte h2 z hz
  · simp only [List.mem_cons, List.not_mem_nil, or_false] at hz
    unfold M.byteB
    omega
  · exact two_byte h4 z hz
  · exact M.textL_byte p.n z hz
theorem packPL_byte (p : PinD) : ∀ z ∈ packPL p, M.byteB z := by
  intro z hz
  unfold packPL at hz
  split at hz
  · rename_i h
    exact packP_byte h z hz
  · cases hz

theorem l7Pack_any (g : Nat) (p : PinD) (w : World) (hA : At g p.vals w) (h : p.f = 0) :
    Calls Tryz.prog 276 #[.pointer (some ⟨g, 0, none⟩)] w (Made (packP p) w) := by
  obtain ⟨hn, ha, hb, ⟨he0, he1⟩, hu⟩ := pin_bounds h
  have he2 : 0 ≤ p.e := by omega
  have hnm : p.n.size ≤ maxLen := size_max hn
  obtain ⟨i0, hi0, hz0, hz1, hz2⟩ := info_parts u8_info
  have hcv := fun (W : World) => run_bytes_of_string (P := Tryz.prog) W 9 22 5 p.n Tryz.underlying9 Tryz.underlying22 Tryz.underlying5
  have ltg := hA.lt (by simp [PinD.vals])
  clear h
  have d0 := hA.cell 0 _ rfl
  have d1 := hA.cell 1 _ rfl
  have d2 := hA.cell 2 _ rfl
  have d3 := hA.cell 3 _ rfl
  have d4 := hA.cell 4 _ rfl
  go_enter Tryz.func276, Tryz.ntmps276
  go_wp2_with fail
  refine wp_region_line (Bel w) [(0, true), (1, true), (2, true), (3, true), (5, true), (6, true), (7, true), (8, true), (4, false), (9, false), (10, false), (11, true)] (by kernel_rfl) (by kernel_rfl) (fun _ _ d _ _ h => by cases d <;> exact h) (Bel.drew w) ?_
  have hst := Bel.drew w
  have inst : Nonempty (Of (Bel w)) := ⟨⟨_, hst⟩⟩
  have u1 := bel_cell d1
  have u2 := bel_cell d2
  have eV := Lib.hid (show w.drew.heap.size = w.heap.size from rfl)
  generalize w.drew = V1 at *
  iterate 8 (refine line_read rfl (by kernel_rfl) (fun K hK => ?_); go_big_quiet_op; refine hK _ ?_; clear hK K)
  refine line_alone rfl (by kernel_rfl) (fun K hK => ?_)
  refine call_any (args := #[.int .i64 p.a]) rfl (by kernel_rfl) (by kernel_rfl) (l1Two_any p.a _ ha) ?_
  rintro e w3 ⟨rfl, rfl⟩
  have st3 := hst.on (bal (Below.refl _ V1) (.cells #[.int .u8 (p.a / 256), .int .u8 (p.a % 256)] 5))
  have O3 : OwnK .u8 (V1.alloc (.cells #[.int .u8 (p.a / 256), .int .u8 (p.a % 256)] 5)) w.heap.size (.slice (some ⟨V1.heap.size, 0, none⟩) 2 2) (M.two p.a) := own_lit (k := .u8) V1 (M.two p.a) 2 5 (B := w.heap.size) (by have := eV.out; omega) rfl (by simp only [maxLen]; omega)
  refine ⟨_, rfl, hK _ _ st3 ?_⟩
  clear hK K hst
  simp only [Act.put, List.setIfInBounds_toArray, List.set_cons_zero, List.set_cons_succ]
  generalize V1.alloc (.cells #[.int .u8 (p.a / 256), .int .u8 (p.a % 256)] 5) = V2 at *
  refine line_alone rfl (by kernel_rfl) (fun K hK => ?_)
  refine call_any (args := #[.int .i64 p.b]) rfl (by kernel_rfl) (by kernel_rfl) (l1Two_any p.b _ hb) ?_
  rintro e w4 ⟨rfl, rfl⟩
  have st4 := st3.on (bal (Below.refl _ V2) (.cells #[.int .u8 (p.b / 256), .int .u8 (p.b % 256)] 5))
  refine ⟨_, rfl, hK _ _ st4 ?_⟩
  clear hK K
  simp only [Act.put, List.setIfInBounds_toArray, List.set_cons_zero, List.set_cons_succ]
  refine line_alone rfl (by kernel_rfl) (fun K hK => ?_)
  refine wp_append_src _ (.tmp 8) (.tmp 13) 22 22 rfl w.heap.size 5 i0 (.int .u8 0) 1 1 Tryz.underlying22 hi0 hz0 hz1 hz2 rfl _ 2 ((M.two p.a).map (Value.int .u8)) rfl (Own.alloc O3 _) _ 2 [.int .u8 (p.b / 256), .int .u8 (p.b % 256)] rfl (src_new V2 _ 2 2 _ _ _ Tryz.underlying22 rfl (ints_oneCell .u8 [p.b / 256, p.b % 256])) (by simp only [maxLen]; omega) (by omega) (by have := st3.out.size; simp; omega) (fun v5 w5 hown hgrow hat => ?_)
  have b5 : Below w.heap.size w w5 := (Own.alloc O3 (.cells #[.int .u8 (p.b / 256), .int .u8 (p.b % 256)] 5)).grown st4.out (by have := st3.out.size; simp; omega) hgrow
  have O5 : OwnK .u8 w5 w.heap.size v5 (M.two p.a ++ M.two p.b) := by unfold OwnK; simpa [M.two] using hown
  refine hK _ _ ⟨b5⟩ ?_
  clear hK K st3 st4 O3 hown hgrow hat inst u1 u2 eV
  simp only [Act.put, List.setIfInBounds_toArray, List.set_cons_zero, List.set_cons_succ]
  have inst : Nonempty (Of (Bel w)) := ⟨⟨_, ⟨b5⟩⟩⟩
  iterate 1 (refine line_read rfl (by kernel_rfl) (fun K hK => ?_); go_big_quiet_op; refine hK _ ?_; clear hK K)
  refine line_nil ?_
  have S0 : Bel w w5.drew := ⟨b5.drew⟩
  have O5d : OwnK .u8 w5.drew w.heap.size v5 (M.two p.a ++ M.two p.b) := O5
  have hz5 : w.heap.size ≤ w5.drew.heap.size := b5.size
  clear inst b5 O5
  go_wp2_with fail
  refine wp_region_line (Bel w) [(0, true), (1, true), (2, true), (3, true), (4, true), (5, true), (8, true), (9, true), (10, true), (11, true), (6, false), (7, false), (12, false), (13, false), (14, true)] (by kernel_rfl) (by kernel_rfl) (fun _ _ d _ _ h => by cases d <;> exact h) S0 ?_
  have hst := S0
  have inst : Nonempty (Of (Bel w)) := ⟨⟨_, hst⟩⟩
  have u3 := bel_cell d3
  have u4 := bel_cell d4
  generalize w5.drew = V5 at *
  clear S0
  iterate 10 (refine line_read rfl (by kernel_rfl) (fun K hK => ?_); go_big_quiet_op; refine hK _ ?_; clear hK K)
  refine line_alone rfl (by kernel_rfl) (fun K hK => ?_)
  go_big_op
  refine hK _ _ (hst.on (bal (Below.refl _ V5) _)) ?_
  clear hK K
  have O6 := O5d.alloc (.cells #[.int .u8 p.e] 5)
  have st6 := hst.on (bal (Below.refl _ V5) (.cells #[.int .u8 p.e] 5))
  refine line_alone rfl (by kernel_rfl) (fun K hK => ?_)
  refine wp_append_src _ (.tmp 15) (.tmp 21) 22 22 rfl w.heap.size 5 i0 (.int .u8 0) 1 1 Tryz.underlying22 hi0 hz0 hz1 hz2 rfl _ 4 ((M.two p.a ++ M.two p.b).map (Value.int .u8)) rfl O6 _ 1 [.int .u8 p.e] rfl (src_new V5 _ 1 1 _ _ _ Tryz.underlying22 rfl (ints_oneCell .u8 [p.e])) (by simp only [maxLen]; omega) (by omega) (by simp; omega) (fun v7 w7 hown hgrow hat => ?_)
  have b7 : Below w.heap.size w w7 := Own.grown O6 st6.out st6.out.size hgrow
  have O7 : OwnK .u8 w7 w.heap.size v7 (M.two p.a ++ M.two p.b ++ [p.e]) := by unfold OwnK; simpa [M.two] using hown
  refine hK _ _ ⟨b7⟩ ?_
  clear hK K st6 O6 O5d hown hgrow hat hst
  simp only [Act.put, List.setIfInBounds_toArray, List.set_cons_zero, List.set_cons_succ]
  refine line_alone rfl (by kernel_rfl) (fun K hK => ?_)
  refine call_any (args := #[.int .i64 p.u]) rfl (by kernel_rfl) (by kernel_rfl) (l1Two_any p.u _ hu) ?_
  rintro e w8 ⟨rfl, rfl⟩
  have st8 : Bel w (w7.alloc (.cells #[.int .u8 (p.u / 256), .int .u8 (p.u % 256)] 5)) := ⟨bal b7 _⟩
  refine ⟨_, rfl, hK _ _ st8 ?_⟩
  clear hK K
  simp only [Act.put, List.setIfInBounds_toArray, List.set_cons_zero, List.set_cons_succ]
  refine line_alone rfl (by kernel_rfl) (fun K hK => ?_)
  refine wp_append_src _ (.tmp 22) (.tmp 27) 22 22 rfl w.heap.size 5 i0 (.int .u8 0) 1 1 Tryz.underlying22 hi0 hz0 hz1 hz2 rfl _ 5 ((M.two p.a ++ M.two p.b ++ [p.e]).map (Value.int .u8)) rfl (Own.alloc O7 _) _ 2 [.int .u8 (p.u / 256), .int .u8 (p.u % 256)] rfl (src_new w7 _ 2 2 _ _ _ Tryz.underlying22 rfl (ints_oneCell .u8 [p.u / 256, p.u % 256])) (by simp only [maxLen]; omega) (by omega) (by have := b7.size; simp; omega) (fun v9 w9 hown hgrow hat => ?_)
  have b9 : Below w.heap.size w w9 := (Own.alloc O7 (.cells #[.int .u8 (p.u / 256), .int .u8 (p.u % 256)] 5)).grown st8.out (by have := b7.size; simp; omega) hgrow
  have O9 : OwnK .u8 w9 w.heap.size v9 (headP p.a p.b p.e p.u) := by unfold OwnK headP; simpa [M.two] using hown
  refine hK _ _ ⟨b9⟩ ?_
  clear hK K st8 O7 b7 hown hgrow hat u3 u4 inst
  simp only [Act.put, List.setIfInBounds_toArray, List.set_cons_zero, List.set_cons_succ]
  have inst : Nonempty (Of (Bel w)) := ⟨⟨_, ⟨b9⟩⟩⟩
  iterate 1 (refine line_read rfl (by kernel_rfl) (fun K hK => ?_); go_big_quiet_op; refine hK _ ?_; clear hK K)
  refine line_nil ?_
  have hz4 := b9.size
  have x0 := (hA.on b9).cell 0 _ rfl
  have hsrc := text_src w9 p.n hnm
  have O10 := (O9.alloc (textObj w9 p.n 5)).drew
  have b10 := (bal b9 (textObj w9 p.n 5)).drew
  clear hA d0 d1 d2 d3 d4 inst
  go_wp2_with (at_builtin; refine wpList_append_src _ rfl (.tmp 29) (.tmp 34) 22 22 rfl w.heap.size 5 i0 (.int .u8 0) 1 1 Tryz.underlying22 hi0 hz0 hz1 hz2 rfl _ _ _ rfl O10 _ p.n.size _ rfl hsrc (by rw [headP_length]; simp only [maxLen]; omega) (by rw [headP_length]; omega) (by simp; omega) ?_; intro v5 w5 hown hgrow hat)
  have O11 : OwnK .u8 w5 w.heap.size v5 (packP p) := by
    unfold OwnK packP
    rw [List.length_append, M.textL_length]
    simpa using hown
  have b11 : Below w.heap.size w w5 := O10.grown b10 (by simp; omega) hgrow
  obtain ⟨a6, c6, hv6, -⟩ := O11.form
  have HT := Lib.hid (And.intro O11 b11)
  clear hown hgrow hat O10 O11 b10 b11 hsrc O9 b9 hcv
  subst hv6
  go_wp2_with fail
  go_ret
  exact ⟨_, _, _, rfl, HT.out.1, HT.out.2⟩
end Go.Proofs.YtlodhleihnlchaaGreatDoor
namespace Go.Proofs.YtlodhleihnlchaaGreatDoor
open Go.RowKit
set_option maxRecDepth 100000
set_option linter.unusedVariables false

structure DrwP (w0 : World) (a : Option Addr) (len cap : Nat) (zs : List Int) (p : Nat) (w : World) (rb : Nat) (rs : List Value) (cur : World) : Prop where
  draw : Draw w0 a len cap zs p cur
  grew : w.grownBy cur (some w0.heap.size)
  res : At rb rs cur
section
variable {w0 : World} {a : Option Addr} {len cap : Nat} {zs : List Int} {p p' : Nat} {w : World} {rb tb : Nat} {rs cs : List Value} {cur cur' : World}
theorem DrwP.only (h : DrwP w0 a len cap zs p w rb rs cur) (hO : Only w0.heap.size cur cur') (D : Draw w0 a len cap zs p' cur') (h1 : rb ≠ w0.heap.size) : DrwP w0 a len cap zs p' w rb rs cur' :=
  ⟨D, gtr h.grew hO.grown, h.res.only5 hO h1⟩
theorem DrwP.kept (h : DrwP w0 a len cap zs p w rb rs cur) (hO : cur.grownBy cur' (some w0.heap.size)) (D : Draw w0 a len cap zs p' cur') (h1 : rb ≠ w0.heap.size) : DrwP w0 a len cap zs p' w rb rs cur' :=
  ⟨D, gtr h.grew hO, h.res.kept hO (fun e => by injection e with e; exact h1 e)⟩
theorem DrwP.on (h : DrwP w0 a len cap zs p w rb rs cur) (hb : Below cur.heap.size cur cur') : DrwP w0 a len cap zs p w rb rs cur' := ⟨h.draw.below hb, gbe h.grew hb, h.res.on hb⟩
theorem DrwP.alloc (h : DrwP w0 a len cap zs p w rb rs cur) (o : Obj) : DrwP w0 a len cap zs p w rb rs (cur.alloc o) := ⟨h.draw.alloc o, gal h.grew o, h.res.alloc o⟩
structure BentP (w0 : World) (a : Option Addr) (len cap : Nat) (zs : List Int) (p : Nat) (w : World) (rb : Nat) (rs : List Value) (tb : Nat) (cs : List Value) (cur : World) : Prop where
  drw : DrwP w0 a len cap zs p w rb rs cur
  one : At tb cs cur
theorem BentP.only (h : BentP w0 a len cap zs p w rb rs tb cs cur) (hO : Only w0.heap.size cur cur') (D : Draw w0 a len cap zs p' cur') (h1 : rb ≠ w0.heap.size) (h2 : tb ≠ w0.heap.size) : BentP w0 a len cap zs p' w rb rs tb cs cur' :=
  ⟨h.drw.only hO D h1, h.one.only5 hO h2⟩
theorem BentP.kept (h : BentP w0 a len cap zs p w rb rs tb cs cur) (hO : cur.grownBy cur' (some w0.heap.size)) (D : Draw w0 a len cap zs p' cur') (h1 : rb ≠ w0.heap.size) (h2 : tb ≠ w0.heap.size) : BentP w0 a len cap zs p' w rb rs tb cs cur' :=
  ⟨h.drw.kept hO D h1, h.one.kept hO (fun e => by injection e with e; exact h2 e)⟩
theorem BentP.alloc (h : BentP w0 a len cap zs p w rb rs tb cs cur) (o : Obj) : BentP w0 a len cap zs p w rb rs tb cs (cur.alloc o) := ⟨h.drw.alloc o, h.one.alloc o⟩
theorem BentP.put (i : Nat) (x : Value) (h : BentP w0 a len cap zs p w rb rs tb cs cur) (h1 : rb ≠ tb) (h2 : w0.heap.size < tb) (h3 : w.heap.size ≤ tb) : BentP w0 a len cap zs p w rb rs tb (cs.set i x) (cur.setCell ⟨tb, i, none⟩ x) :=
  ⟨⟨h.drw.draw.put h2 x, gset h.drw.grew h3 x, h.drw.res.setB (p := ⟨tb, i, none⟩) h1 x⟩, h.one.set i x⟩
end
def DPin (K : Nat) (Q : PinD → Prop) (w0 : World) (a : Option Addr) (len cap : Nat) (zs : List Int) (w : World) (e : Ending) (w' : World) : Prop :=
  ∃ (q : PinD) (p : Nat), Q q ∧ p ≤ K ∧ e = .returned (P5 q) ∧ Draw w0 a len cap zs p w' ∧ w.grownBy w' (some w0.heap.size)
theorem dl7Public {w0 : World} {a : Option Addr} {len cap : Nat} {zs : List Int} {p : Nat} {w : World} (D : Draw w0 a len cap zs p w) (hp : p ≤ 1000) :
    Calls Tryz.prog 172 #[.pointer (some ⟨w0.heap.size, 0, none⟩)] w fun r w' => ∃ v : Int, pubB v = true ∧ r = .returned (.int .i64 v) ∧ Draw w0 a len cap zs (p + 1) w' ∧ w.grownBy w' (some w0.heap.size) := by
  have g1 := key1
  go_enter Tryz.func172, Tryz.ntmps172
  go_wp2_with fail
  refine (dnext 4 D (by omega)).mono ?_
  rintro r w1 ⟨x, x0, x1, rfl, D1, O1⟩
  have hx : x < 4 := by omega
  have hpub := pub_base (a := 1 + x) (by omega) (by omega)
  clear x1 D
  go_wp2_with fail
  refine (l1Key_any _ _ (by omega) (by omega)).mono ?_
  rintro r w2 ⟨rfl, b2⟩
  generalize M.pw 4 (1 + x).toNat 2879 = v at *
  have HD := Lib.hid (And.intro (D1.below b2) (gbe O1.grown b2))
  clear D1 O1 b2
  go_wp2_with fail
  go_ret
  exact ⟨v, hpub, rfl, HD.out.1, HD.out.2⟩

theorem pub_two {v : Int} (h : pubB v = true) : 2 ≤ v := by
  simp only [pubB, inB, Bool.and_eq_true, decide_eq_true_eq] at h
  omega
theorem drawn_ok {n : ByteArray} {a b e u : Int} (hn : n.size ≤ 20 ∧ M.normF n.data.toList = 0) (ha : pubB a = true) (hb : b = 0 ∨ pubB b = true) (hba : b ≠ a) (he : 1 ≤ e ∧ e ≤ 200) (hu : 0 ≤ u ∧ u ≤ 9999) : (PinD.mk n a b e u).f = 0 := by
  refine pinF_yes hn.2 ?_ hba
  have h1 : bakB b = true := by
    unfold bakB
    rcases hb with hb | hb <;> simp [hb]
  have h2 : epB e = true := by simp [epB]; omega
  have h3 : timB u = true := by simp [timB]; omega
  simp [pinB, ha, h1, h2, h3]
abbrev pinZero : List Value := [.string { data := #[] }, .int .i64 0, .int .i64 0, .int .i64 0, .int .i64 0]
set_option maxHeartbeats 1000000 in
theorem dl7Draw {w0 : World} {a : Option Addr} {len cap : Nat} {zs : List Int} {p0 : Nat} {w : World} (D : Draw w0 a len cap zs p0 w) (hp0 : p0 ≤ 500) :
    Calls Tryz.prog 122 #[.pointer (some ⟨w0.heap.size, 0, none⟩)] w (DPin (p0 + 6) (fun q => q.f = 0) w0 a len cap zs w) := by
  have hlt := D.lt
  have R0 : DrwP w0 a len cap zs p0 w w.heap.size pinZero (w.alloc (.cells #[.string { data := #[] }, .int .i64 0, .int .i64 0, .int .i64 0, .int .i64 0] 59)) :=
    ⟨D.alloc _, gal (World.grownBy.refl w (some w0.heap.size)) _, At.new w pinZero 59⟩
  go_enter Tryz.func122, Tryz.ntmps122
  go_wp2_with fail
  generalize w.alloc (.cells #[.string { data := #[] }, .int .i64 0, .int .i64 0, .int .i64 0, .int .i64 0] 59) = W0 at *
  refine (dl5DrawName R0.draw (by omega)).mono ?_
  rintro r w1 ⟨n, hn, rfl, D1, g1⟩
  have HN := Lib.hid hn
  have R1 := R0.kept g1 D1 (by omega)
  clear D R0 D1 g1 hn
  go_wp2_with fail
  refine (dl7Public R1.draw (by omega)).mono ?_
  rintro r w2 ⟨ac, hac, rfl, D2, g2⟩
  have HAC := Lib.hid hac
  have R2 := R1.kept g2 D2 (by omega)
  clear R1 D2 g2 hac
  go_wp2_with fail
  refine (dnext 3 R2.draw (by omega)).mono ?_
  rintro r w3 ⟨e, e0, e1, rfl, D3, O3⟩
  have he : e < 3 := by omega
  have R3 := R2.only O3 D3 (by omega)
  clear R2 D3 O3 e1
  go_wp2_with fail
  refine (dpick [0, 50, 9999] 3 R3.draw (by omega) (by omega) (by omega) rfl 2).mono ?_
  rintro r w4 ⟨u, hu, rfl, D4, O4⟩
  have HU := Lib.hid (show 0 ≤ u ∧ u ≤ 9999 by simp at hu; omega)
  have R4 := (R3.alloc (.cells #[.int .i64 0, .int .i64 50, .int .i64 9999] 2)).only O4 D4 (by omega)
  have lt4 := R4.res.lt (by simp)
  have B4 : BentP w0 a len cap zs (p0 + 1 + 1 + 1 + 1) w w.heap.size pinZero w4.heap.size [.string n, .int .i64 ac, .int .i64 0, .int .i64 (1 + e), .int .i64 u] (w4.alloc (.cells #[.string n, .int .i64 ac, .int .i64 0, .int .i64 (1 + e), .int .i64 u] 59)) :=
    ⟨R4.alloc _, At.new w4 [.string n, .int .i64 ac, .int .i64 0, .int .i64 (1 + e), .int .i64 u] 59⟩
  clear R3 R4 D4 O4 hu
  go_wp2_with fail
  generalize w4.alloc (.cells #[.string n, .int .i64 ac, .int .i64 0, .int .i64 (1 + e), .int .i64 u] 59) = v4 at *
  refine (dl7Public B4.drw.draw (by omega)).mono ?_
  rintro r w5 ⟨b, hb, rfl, D5, g5⟩
  have HBB := Lib.hid hb
  have B5 := B4.kept g5 D5 (by omega) (by omega)
  have hac2 := pub_two HAC.out
  clear B4 D5 g5 hb
  by_cases hba : b = ac
  · subst hba
    have x0 := B5.one.cell 0 _ rfl
    have x1 := B5.one.cell 1 _ rfl
    have x2 := B5.one.cell 2 _ rfl
    have x3 := B5.one.cell 3 _ rfl
    have x4 := B5.one.cell 4 _ rfl
    have B6 := B5
    have q0 := B5.drw.res.cell 0 _ rfl
    have q1 := B5.drw.res.cell 1 _ rfl
    have q2 := B5.drw.res.cell 2 _ rfl
    have q3 := B5.drw.res.cell 3 _ rfl
    have q4 := B5.drw.res.cell 4 _ rfl
    have z0 := B5.drw.res.free 0 _ rfl
    have z1 := B5.drw.res.free 1 _ rfl
    have z2 := B5.drw.res.free 2 _ rfl
    have z3 := B5.drw.res.free 3 _ rfl
    have z4 := B5.drw.res.free 4 _ rfl
    have x0 := B5.one.cell 0 _ rfl
    have x1 := B5.one.cell 1 _ rfl
    have x2 := B5.one.cell 2 _ rfl
    have x3 := B5.one.cell 3 _ rfl
    have x4 := B5.one.cell 4 _ rfl
    have f0 := B5.one.free 0 _ rfl
    have f1 := B5.one.free 1 _ rfl
    have f2 := B5.one.free 2 _ rfl
    have f3 := B5.one.free 3 _ rfl
    have f4 := B5.one.free 4 _ rfl
    have hrb : w.heap.size ≠ w4.heap.size := by omega
    have HB := Lib.hid B6
    clear B5 B6
    go_wp2_with fail
    refine bodyPost_ret (v := P5 ⟨n, b, 0, 1 + e, u⟩) (by simp [results, Tryz.results122, go_sem, q0, q1, q2, q3, q4]) rfl ?_
    refine ⟨_, p0 + 1 + 1 + 1 + 1 + 1, drawn_ok HN.out HAC.out (.inl rfl) (by omega) (by omega) HU.out, by omega, rfl, ?hd, ?hg⟩
    case hd =>
      iterate 5 (refine Draw.put ?_ (by dsimp only; omega) _)
      exact HB.out.drw.draw
    case hg =>
      iterate 5 (refine gset ?_ (Nat.le_refl _) _)
      exact HB.out.drw.grew
  · have nba : (b == ac) = false := by rw [beq_eq_false_iff_ne]; exact hba
    have x0 := B5.one.cell 0 _ rfl
    have x1 := B5.one.cell 1 _ rfl
    have x2 := B5.one.cell 2 _ rfl
    have x3 := B5.one.cell 3 _ rfl
    have x4 := B5.one.cell 4 _ rfl
    go_wp2_with fail
    refine (l1Chance_any 2 B5.drw.draw (by omega)).mono ?_
    rintro r w6 ⟨c, rfl, D6, O6⟩
    have B6 := B5.only O6 D6 (by omega) (by omega)
    clear B5 D6 O6 x0 x1 x2 x3 x4
    cases c
    · have B7 := B6
      have q0 := B6.drw.res.cell 0 _ rfl
      have q1 := B6.drw.res.cell 1 _ rfl
      have q2 := B6.drw.res.cell 2 _ rfl
      have q3 := B6.drw.res.cell 3 _ rfl
      have q4 := B6.drw.res.cell 4 _ rfl
      have z0 := B6.drw.res.free 0 _ rfl
      have z1 := B6.drw.res.free 1 _ rfl
      have z2 := B6.drw.res.free 2 _ rfl
      have z3 := B6.drw.res.free 3 _ rfl
      have z4 := B6.drw.res.free 4 _ rfl
      have x0 := B6.one.cell 0 _ rfl
      have x1 := B6.one.cell 1 _ rfl
      have x2 := B6.one.cell 2 _ rfl
      have x3 := B6.one.cell 3 _ rfl
      have x4 := B6.one.cell 4 _ rfl
      have f0 := B6.one.free 0 _ rfl
      have f1 := B6.one.free 1 _ rfl
      have f2 := B6.one.free 2 _ rfl
      have f3 := B6.one.free 3 _ rfl
      have f4 := B6.one.free 4 _ rfl
      have hrb : w.heap.size ≠ w4.heap.size := by omega
      have HB := Lib.hid B7
      clear B6 B7
      go_wp2_with fail
      refine bodyPost_ret (v := P5 ⟨n, ac, 0, 1 + e, u⟩) (by simp [results, Tryz.results122, go_sem, q0, q1, q2, q3, q4]) rfl ?_
      refine ⟨_, p0 + 1 + 1 + 1 + 1 + 1 + 1, drawn_ok HN.out HAC.out (.inl rfl) (by omega) (by omega) HU.out, by omega, rfl, ?hd, ?hg⟩
      case hd =>
        iterate 5 (refine Draw.put ?_ (by dsimp only; omega) _)
        exact HB.out.drw.draw
      case hg =>
        iterate 5 (refine gset ?_ (Nat.le_refl _) _)
        exact HB.out.drw.grew
    · have B7 := B6.put 2 (.int .i64 b) (by omega) (by omega) (by omega)
      have q0 := B6.drw.res.cell 0 _ rfl
      have q1 := B6.drw.res.cell 1 _ rfl
      have q2 := B6.drw.res.cell 2 _ rfl
      have q3 := B6.drw.res.cell 3 _ rfl
      have q4 := B6.drw.res.cell 4 _ rfl
      have z0 := B6.drw.res.free 0 _ rfl
      have z1 := B6.drw.res.free 1 _ rfl
      have z2 := B6.drw.res.free 2 _ rfl
      have z3 := B6.drw.res.free 3 _ rfl
      have z4 := B6.drw.res.free 4 _ rfl
      have x0 := B6.one.cell 0 _ rfl
      have x1 := B6.one.cell 1 _ rfl
      have x2 := B6.one.cell 2 _ rfl
      have x3 := B6.one.cell 3 _ rfl
      have x4 := B6.one.cell 4 _ rfl
      have f0 := B6.one.free 0 _ rfl
      have f1 := B6.one.free 1 _ rfl
      have f2 := B6.one.free 2 _ rfl
      have f3 := B6.one.free 3 _ rfl
      have f4 := B6.one.free 4 _ rfl
      have hrb : w.heap.size ≠ w4.heap.size := by omega
      have HB := Lib.hid B7
      clear B6 B7
      go_wp2_with fail
      refine bodyPost_ret (v := P5 ⟨n, ac, b, 1 + e, u⟩) (by simp [results, Tryz.results122, go_sem, q0, q1, q2, q3, q4]) rfl ?_
      refine ⟨_, p0 + 1 + 1 + 1 + 1 + 1 + 1, drawn_ok HN.out HAC.out (.inr HBB.out) hba (by omega) HU.out, by omega, rfl, ?hd, ?hg⟩
      case hd =>
        iterate 5 (refine Draw.put ?_ (by dsimp only; omega) _)
        exact HB.out.drw.draw
      case hg =>
        iterate 5 (refine gset ?_ (Nat.le_refl _) _)
        exact HB.out.drw.grew

set_option maxHeartbeats 1000000 in
theorem dl7Bent {w0 : World} {a : Option Addr} {len cap : Nat} {zs : List Int} {p0 : Nat} {w : World} (D : Draw w0 a len cap zs p0 w) (hp0 : p0 ≤ 500) :
    Calls Tryz.prog 115 #[.pointer (some ⟨w0.heap.size, 0, none⟩)] w (DPin (p0 + 8) (fun q => q.n.size ≤ 21) w0 a len cap zs w) := by
  have hlt := D.lt
  have R0 : DrwP w0 a len cap zs p0 w w.heap.size pinZero (w.alloc (.cells #[.string { data := #[] }, .int .i64 0, .int .i64 0, .int .i64 0, .int .i64 0] 59)) :=
    ⟨D.alloc _, gal (World.grownBy.refl w (some w0.heap.size)) _, At.new w pinZero 59⟩
  go_enter Tryz.func115, Tryz.ntmps115
  go_wp2_with fail
  generalize w.alloc (.cells #[.string { data := #[] }, .int .i64 0, .int .i64 0, .int .i64 0, .int .i64 0] 59) = W0 at *
  refine (dl7Draw R0.draw hp0).mono ?_
  rintro r w4 ⟨⟨n, ac, bk, e, u⟩, p, hf, hp, rfl, D1, g1⟩
  have hn : n.size ≤ 21 := by have := pin_size hf; dsimp only at this; omega
  have R1 := R0.kept g1 D1 (by omega)
  have lt4 := R1.res.lt (by simp)
  have B1 : BentP w0 a len cap zs p w w.heap.size pinZero w4.heap.size [.string n, .int .i64 ac, .int .i64 bk, .int .i64 e, .int .i64 u] (w4.alloc (.cells #[.string n, .int .i64 ac, .int .i64 bk, .int .i64 e, .int .i64 u] 59)) :=
    ⟨R1.alloc _, At.new w4 [.string n, .int .i64 ac, .int .i64 bk, .int .i64 e, .int .i64 u] 59⟩
  clear D R0 R1 D1 g1 hf
  go_wp2_with fail
  generalize w4.alloc (.cells #[.string n, .int .i64 ac, .int .i64 bk, .int .i64 e, .int .i64 u] 59) = v4 at *
  refine (dnext 10 B1.drw.draw (by omega)).mono ?_
  rintro r w5 ⟨sw, t0, t1, rfl, D2, O2⟩
  have B2 := B1.only O2 D2 (by omega) (by omega)
  clear B1 D2 O2 t1
  by_cases e0 : sw = 0
  · subst e0
    go_wp2_with fail
    refine (dl5Bent B2.drw.draw (by omega)).mono ?_
    rintro r w6 ⟨m, hs, rfl, D3, g3⟩
    have B3 := B2.kept g3 D3 (by omega) (by omega)
    have B4 := B3.put 0 (.string m) (by omega) (by omega) (by omega)
    clear B2 D3 g3
    have q0 := B3.drw.res.cell 0 _ rfl
    have q1 := B3.drw.res.cell 1 _ rfl
    have q2 := B3.drw.res.cell 2 _ rfl
    have q3 := B3.drw.res.cell 3 _ rfl
    have q4 := B3.drw.res.cell 4 _ rfl
    have z0 := B3.drw.res.free 0 _ rfl
    have z1 := B3.drw.res.free 1 _ rfl
    have z2 := B3.drw.res.free 2 _ rfl
    have z3 := B3.drw.res.free 3 _ rfl
    have z4 := B3.drw.res.free 4 _ rfl
    have x0 := B3.one.cell 0 _ rfl
    have x1 := B3.one.cell 1 _ rfl
    have x2 := B3.one.cell 2 _ rfl
    have x3 := B3.one.cell 3 _ rfl
    have x4 := B3.one.cell 4 _ rfl
    have f0 := B3.one.free 0 _ rfl
    have f1 := B3.one.free 1 _ rfl
    have f2 := B3.one.free 2 _ rfl
    have f3 := B3.one.free 3 _ rfl
    have f4 := B3.one.free 4 _ rfl
    have hrb : w.heap.size ≠ w4.heap.size := by omega
    have HB := Lib.hid B4
    clear B3 B4
    go_wp2_with fail
    refine bodyPost_ret (v := P5 ⟨m, ac, bk, e, u⟩) (by simp [results, Tryz.results115, go_sem, q0, q1, q2, q3, q4]) rfl ?_
    refine ⟨_, p + 1 + 1, hs, by omega, rfl, ?hd, ?hg⟩
    case hd =>
      iterate 5 (refine Draw.put ?_ (by dsimp only; omega) _)
      exact HB.out.drw.draw
    case hg =>
      iterate 5 (refine gset ?_ (Nat.le_refl _) _)
      exact HB.out.drw.grew
  by_cases e1 : sw = 1
  · subst e1
    have y0 := B2.one.cell 0 _ rfl
    have y1 := B2.one.cell 1 _ rfl
    have y2 := B2.one.cell 2 _ rfl
    have y3 := B2.one.cell 3 _ rfl
    have y4 := B2.one.cell 4 _ rfl
    go_wp2_with fail
    refine (dpick [ac, 5] 2 B2.drw.draw (by omega) (by omega) (by omega) rfl 2).mono ?_
    rintro r w6 ⟨y, hy, rfl, D3, O3⟩
    have B3 := (B2.alloc (.cells #[.int .i64 ac, .int .i64 5] 2)).only O3 D3 (by omega) (by omega)
    have B4 := B3.put 2 (.int .i64 y) (by omega) (by omega) (by omega)
    clear B2 D3 O3 hy y0 y1 y2 y3 y4
    have q0 := B3.drw.res.cell 0 _ rfl
    have q1 := B3.drw.res.cell 1 _ rfl
    have q2 := B3.drw.res.cell 2 _ rfl
    have q3 := B3.drw.res.cell 3 _ rfl
    have q4 := B3.drw.res.cell 4 _ rfl
    have z0 := B3.drw.res.free 0 _ rfl
    have z1 := B3.drw.res.free 1 _ rfl
    have z2 := B3.drw.res.free 2 _ rfl
    have z3 := B3.drw.res.free 3 _ rfl
    have z4 := B3.drw.res.free 4 _ rfl
    have x0 := B3.one.cell 0 _ rfl
    have x1 := B3.one.cell 1 _ rfl
    have x2 := B3.one.cell 2 _ rfl
    have x3 := B3.one.cell 3 _ rfl
    have x4 := B3.one.cell 4 _ rfl
    have f0 := B3.one.free 0 _ rfl
    have f1 := B3.one.free 1 _ rfl
    have f2 := B3.one.free 2 _ rfl
    have f3 := B3.one.free 3 _ rfl
    have f4 := B3.one.free 4 _ rfl
    have hrb : w.heap.size ≠ w4.heap.size := by omega
    have HB := Lib.hid B4
    clear B3 B4
    go_wp2_with fail
    refine bodyPost_ret (v := P5 ⟨n, ac, y, e, u⟩) (by simp [results, Tryz.results115, go_sem, q0, q1, q2, q3, q4]) rfl ?_
    refine ⟨_, p + 1 + 1, hn, by omega, rfl, ?hd, ?hg⟩
    case hd =>
      iterate 5 (refine Draw.put ?_ (by dsimp only; omega) _)
      exact HB.out.drw.draw
    case hg =>
      iterate 5 (refine gset ?_ (Nat.le_refl _) _)
      exact HB.out.drw.grew
  by_cases e2 : sw = 2
  · subst e2
    go_wp2_with fail
    refine (dpick [0, 200, 201] 3 B2.drw.draw (by omega) (by omega) (by omega) rfl 2).mono ?_
    rintro r w6 ⟨y, hy, rfl, D3, O3⟩
    have B3 := (B2.alloc (.cells #[.int .i64 0, .int .i64 200, .int .i64 201] 2)).only O3 D3 (by omega) (by omega)
    have B4 := B3.put 3 (.int .i64 y) (by omega) (by omega) (by omega)
    clear B2 D3 O3 hy
    have q0 := B3.drw.res.cell 0 _ rfl
    have q1 := B3.drw.res.cell 1 _ rfl
    have q2 := B3.drw.res.cell 2 _ rfl
    have q3 := B3.drw.res.cell 3 _ rfl
    have q4 := B3.drw.res.cell 4 _ rfl
    have z0 := B3.drw.res.free 0 _ rfl
    have z1 := B3.drw.res.free 1 _ rfl
    have z2 := B3.drw.res.free 2 _ rfl
    have z3 := B3.drw.res.free 3 _ rfl
    have z4 := B3.drw.res.free 4 _ rfl
    have x0 := B3.one.cell 0 _ rfl
    have x1 := B3.one.cell 1 _ rfl
    have x2 := B3.one.cell 2 _ rfl
    have x3 := B3.one.cell 3 _ rfl
    have x4 := B3.one.cell 4 _ rfl
    have f0 := B3.one.free 0 _ rfl
    have f1 := B3.one.free 1 _ rfl
    have f2 := B3.one.free 2 _ rfl
    have f3 := B3.one.free 3 _ rfl
    have f4 := B3.one.free 4 _ rfl
    have hrb : w.heap.size ≠ w4.heap.size := by omega
    have HB := Lib.hid B4
    clear B3 B4
    go_wp2_with fail
    refine bodyPost_ret (v := P5 ⟨n, ac, bk, y, u⟩) (by simp [results, Tryz.results115, go_sem, q0, q1, q2, q3, q4]) rfl ?_
    refine ⟨_, p + 1 + 1, hn, by omega, rfl, ?hd, ?hg⟩
    case hd =>
      iterate 5 (refine Draw.put ?_ (by dsimp only; omega) _)
      exact HB.out.drw.draw
    case hg =>
      iterate 5 (refine gset ?_ (Nat.le_refl _) _)
      exact HB.out.drw.grew
  by_cases e3 : sw = 3
  · subst e3
    go_wp2_with fail
    refine (dpick [-1, 10000] 2 B2.drw.draw (by omega) (by omega) (by omega) rfl 2).mono ?_
    rintro r w6 ⟨y, hy, rfl, D3, O3⟩
    have B3 := (B2.alloc (.cells #[.int .i64 (-1), .int .i64 10000] 2)).only O3 D3 (by omega) (by omega)
    have B4 := B3.put 4 (.int .i64 y) (by omega) (by omega) (by omega)
    clear B2 D3 O3 hy
    have q0 := B3.drw.res.cell 0 _ rfl
    have q1 := B3.drw.res.cell 1 _ rfl
    have q2 := B3.drw.res.cell 2 _ rfl
    have q3 := B3.drw.res.cell 3 _ rfl
    have q4 := B3.drw.res.cell 4 _ rfl
    have z0 := B3.drw.res.free 0 _ rfl
    have z1 := B3.drw.res.free 1 _ rfl
    have z2 := B3.drw.res.free 2 _ rfl
    have z3 := B3.drw.res.free 3 _ rfl
    have z4 := B3.drw.res.free 4 _ rfl
    have x0 := B3.one.cell 0 _ rfl
    have x1 := B3.one.cell 1 _ rfl
    have x2 := B3.one.cell 2 _ rfl
    have x3 := B3.one.cell 3 _ rfl
    have x4 := B3.one.cell 4 _ rfl
    have f0 := B3.one.free 0 _ rfl
    have f1 := B3.one.free 1 _ rfl
    have f2 := B3.one.free 2 _ rfl
    have f3 := B3.one.free 3 _ rfl
    have f4 := B3.one.free 4 _ rfl
    have hrb : w.heap.size ≠ w4.heap.size := by omega
    have HB := Lib.hid B4
    clear B3 B4
    go_wp2_with fail
    refine bodyPost_ret (v := P5 ⟨n, ac, bk, e, y⟩) (by simp [results, Tryz.results115, go_sem, q0, q1, q2, q3, q4]) rfl ?_
    refine ⟨_, p + 1 + 1, hn, by omega, rfl, ?hd, ?hg⟩
    case hd =>
      iterate 5 (refine Draw.put ?_ (by dsimp only; omega) _)
      exact HB.out.drw.draw
    case hg =>
      iterate 5 (refine gset ?_ (Nat.le_refl _) _)
      exact HB.out.drw.grew
  · have n0 : (sw == 0) = false := by rw [beq_eq_false_iff_ne]; exact e0
    have n1 : (sw == 1) = false := by rw [beq_eq_false_iff_ne]; exact e1
    have n2 : (sw == 2) = false := by rw [beq_eq_false_iff_ne]; exact e2
    have n3 : (sw == 3) = false := by rw [beq_eq_false_iff_ne]; exact e3
    have B4 := B2
    have q0 := B2.drw.res.cell 0 _ rfl
    have q1 := B2.drw.res.cell 1 _ rfl
    have q2 := B2.drw.res.cell 2 _ rfl
    have q3 := B2.drw.res.cell 3 _ rfl
    have q4 := B2.drw.res.cell 4 _ rfl
    have z0 := B2.drw.res.free 0 _ rfl
    have z1 := B2.drw.res.free 1 _ rfl
    have z2 := B2.drw.res.free 2 _ rfl
    have z3 := B2.drw.res.free 3 _ rfl
    have z4 := B2.drw.res.free 4 _ rfl
    have x0 := B2.one.cell 0 _ rfl
    have x1 := B2.one.cell 1 _ rfl
    have x2 := B2.one.cell 2 _ rfl
    have x3 := B2.one.cell 3 _ rfl
    have x4 := B2.one.cell 4 _ rfl
    have f0 := B2.one.free 0 _ rfl
    have f1 := B2.one.free 1 _ rfl
    have f2 := B2.one.free 2 _ rfl
    have f3 := B2.one.free 3 _ rfl
    have f4 := B2.one.free 4 _ rfl
    have hrb : w.heap.size ≠ w4.heap.size := by omega
    have HB := Lib.hid B4
    clear B2 B4
    go_wp2_with fail
    refine bodyPost_ret (v := P5 ⟨n, ac, bk, e, u⟩) (by simp [results, Tryz.results115, go_sem, q0, q1, q2, q3, q4]) rfl ?_
    refine ⟨_, p + 1, hn, by omega, rfl, ?hd, ?hg⟩
    case hd =>
      iterate 5 (refine Draw.put ?_ (by dsimp only; omega) _)
      exact HB.out.drw.draw
    case hg =>
      iterate 5 (refine gset ?_ (Nat.le_refl _) _)
      exact HB.out.drw.grew
end Go.Proofs.YtlodhleihnlchaaGreatDoor
namespace Go.Proofs.YtlodhleihnlchaaGreatDoor
open Go.RowKit
set_option maxRecDepth 100000
set_option linter.unusedVariables false

theorem l1Digits_any (k : Nat) (w : World) (hk : k < 10) : Calls Tryz.prog 265 #[.int .i64 k] w fun e w' => ∃ t : ByteArray, t.size = 1 ∧ e = .returned (.string t) ∧ Below w.heap.size w w' := by
  have hO := own_lit (k := .u8) w [48 + (k : Int)] 1 5 (B := w.heap.size) (Nat.le_refl _) rfl (by simp only [maxLen]; omega)
  have hrow := Own.row hO (by intro z hz; simp at hz; subst hz; exact byte_wf (show M.byteB _ by unfold M.byteB; omega))
  have cv : (convert 22 9 (.slice (some ⟨w.heap.size, 0, none⟩) 1 1)).run Tryz.prog (w.alloc (.cells #[.int .u8 (48 + (k : Int))] 5)) = .ok (.string (strOf [48 + (k : Int)])) (w.alloc (.cells #[.int .u8 (48 + (k : Int))] 5)) := conv_row hrow
  have hs : (strOf [48 + (k : Int)]).size = 1 := rfl
  have hb := bal (Below.refl _ w) (.cells #[.int .u8 (48 + (k : Int))] 5)
  have HS := Lib.hid hs
  generalize strOf [48 + (k : Int)] = tx at *
  clear hO hrow hs
  have hk2 : (k : Int) < 10 := by omega
  go_enter Tryz.func265, Tryz.ntmps265
  go_wp2_with fail
  go_ret
  exact ⟨tx, HS.out, rfl, hb⟩

def DPins (K : Nat) (Q : List PinD → Prop) (w0 : World) (a : Option Addr) (len cap : Nat) (zs : List Int) (w : World) (e : Ending) (w' : World) : Prop :=
  ∃ (x : Option Addr) (n c : Nat) (ps : List PinD) (p : Nat), Q ps ∧ p ≤ K ∧ e = .returned (.slice x n c) ∧ OwnP w' w.heap.size (.slice x n c) ps ∧ Draw w0 a len cap zs p w' ∧ w.grownBy w' (some w0.heap.size)
theorem put1_ok {ps : List PinD} {q : PinD} (h : ∀ p ∈ ps, p.f = 0) (hq : q.f = 0) : (∀ p ∈ put1 ps q, p.f = 0) ∧ (put1 ps q).length ≤ ps.length + 1 := by
  unfold put1
  split
  · refine ⟨fun p hp => ?_, ?_⟩
    · rcases putL_mem hp with rfl | hp
      · exact hq
      · exact h p hp
    · have h2 := (putG_perm q ps).length_eq
      have h3 := List.length_filter_le (fun x => !decide (x.nm = q.nm)) ps
      unfold putL
      simp only [List.length_cons] at h2
      omega
  · exact ⟨by simp, by simp⟩
structure DLoop (w0 : World) (a : Option Addr) (len cap : Nat) (zs : List Int) (p0 : Nat) (w : World) (k : Nat) (x : Option Addr) (n c : Nat) (ps : List PinD) (cur : World) : Prop where
  draw : ∃ p, p + 6 * k ≤ p0 + 25 ∧ Draw w0 a len cap zs p cur
  grew : w.grownBy cur (some w0.heap.size)
  own : OwnP cur w.heap.size (.slice x n c) ps
  ok : ∀ p ∈ ps, p.f = 0
  few : ps.length + k ≤ 4
set_option maxHeartbeats 1000000 in
theorem dl7DrawPins {w0 : World} {a : Option Addr} {len cap : Nat} {zs : List Int} {p0 : Nat} {w : World} (D : Draw w0 a len cap zs p0 w) (hp0 : p0 ≤ 400) :
    Calls Tryz.prog 234 #[.pointer (some ⟨w0.heap.size, 0, none⟩)] w (DPins (p0 + 25) (fun ps => (∀ p ∈ ps, p.f = 0) ∧ ps.length ≤ 4) w0 a len cap zs w) := by
  have hlt := D.lt
  go_enter Tryz.func234, Tryz.ntmps234
  have O0 : OwnP (w.alloc (.cells #[] 59)) w.heap.size (.slice (some ⟨w.heap.size, 0, none⟩) 0 0) [] := Own.made w #[] 59 0 (Nat.le_refl _) (by simp) rfl
  go_wp2_with fail
  refine (dnext 5 (D.alloc _) (by omega)).mono ?_
  rintro r w1 ⟨v, v0, v1, rfl, D1, O1⟩
  have hv : v < 5 := by omega
  obtain ⟨v, rfl⟩ := Int.eq_ofNat_of_zero_le v0
  have T0 : DLoop w0 a len cap zs p0 w v (some ⟨w.heap.size, 0, none⟩) 0 0 [] w1 := ⟨⟨_, by omega, D1⟩, gtr (gal (World.grownBy.refl w _) _) O1.grown, Own.only O0 O1 (by omega), by simp, by simp; omega⟩
  clear O0 D D1 O1 v0 v1
  go_wp2_with fail
  go_loopw [3, 4] (fun x i wr => ∃ (k : Nat) (b : Option Addr) (n c : Nat) (ps : List PinD), k ≤ 4 ∧ i = .int .i64 k ∧ x = .slice b n c ∧ DLoop w0 a len cap zs p0 w k b n c ps wr) (fun _ i _ => (intOf i).toNat)
  case atStart => exact ⟨v, _, _, _, _, by omega, rfl, rfl, T0⟩
  case round =>
    obtain ⟨k, b, n, c, ps, hk, rfl, rfl, hT⟩ := hrel
    clear T0
    by_cases h0 : k = 0
    · subst h0
      obtain ⟨p, hp, DD⟩ := hT.draw
      have F := Lib.hid (show DPins (p0 + 25) (fun ps => (∀ p ∈ ps, p.f = 0) ∧ ps.length ≤ 4) w0 a len cap zs w (.returned (.slice b n c)) wr from ⟨b, n, c, ps, p, ⟨hT.ok, hT.few⟩, by omega, rfl, hT.own, DD, hT.grew⟩)
      clear hT DD
      go_wp2_with fail
      go_ret
      exact F.out
    · have hk0 : (0 : Int) < k := by omega
      obtain ⟨p, hp, DD⟩ := hT.draw
      have hgt : ∀ {u1 u2 : World} {v : Value} {qs : List PinD}, OwnP u1 w.heap.size v qs → u1.grownBy u2 (some w0.heap.size) → OwnP u2 w.heap.size v qs := fun h g => Own.keep h g.size fun k hk => g.block k (Own.lt h k hk).2 (fun e => by injection e with e; have := (Own.lt h k hk).1; omega)
      go_wp2_with fail
      refine (dl7Draw DD (by omega)).mono ?_
      rintro r w2 ⟨q, p2, hq, hp2, rfl, D2, g2⟩
      have Q2 := hgt hT.own g2
      have G2 := gtr hT.grew g2
      have hok := hT.ok
      have hfew := hT.few
      have R2 := Q2.row (fun x hx => by have := pin_size (hok x hx); simp only [maxLen]; omega)
      have hnl : n ≤ 1000 := by have := R2.length; omega
      have PT := l7Put_any b n c _ ps q w2 R2 (Nat.le_refl _) hnl
      have h1 := put1_ok hok hq
      clear DD g2 hT
      go_wp2_with fail
      refine PT.mono ?_
      rintro r w3 ⟨x3, n3, c3, rfl, O3, b3⟩
      clear PT R2
      by_cases hc : put0 ps q = 0
      · have T3 : DLoop w0 a len cap zs p0 w (k - 1) x3 n3 c3 (put1 ps q) w3 := ⟨⟨_, by omega, D2.below b3⟩, gbe G2 b3, O3.less G2.size, h1.1, by omega⟩
        clear D2 G2 Q2 b3 O3 h1
        rw [hc]
        go_wp2_with fail
        go_roundw
        case rel => exact ⟨k - 1, _, _, _, _, by omega, by go_num, rfl, T3⟩
        case measure => simp [intOf]; omega
      · have T3 : DLoop w0 a len cap zs p0 w (k - 1) b n c ps w3 := ⟨⟨_, by omega, D2.below b3⟩, gbe G2 b3, Q2.below b3, hok, by omega⟩
        have hc2 : (put0 ps q == 0) = false := by rw [beq_eq_false_iff_ne]; exact hc
        generalize put0 ps q = pc at *
        clear D2 G2 Q2 b3 O3 h1
        go_wp2_with fail
        go_roundw
        case rel => exact ⟨k - 1, _, _, _, _, by omega, by go_num, rfl, T3⟩
        case measure => simp [intOf]; omega
theorem gown {w u u' : World} {g : Nat} {row : Option Nat} (h : w.grownBy u (some g)) (k : u.grownBy u' row) (hr : ∀ i, row = some i → w.heap.size ≤ i) : w.grownBy u' (some g) :=
  ⟨k.os.trans h.os, k.tape.trans h.tape, k.output.trans h.output, Nat.le_trans h.size k.size, fun i hi hne => (k.block i (Nat.lt_of_lt_of_le hi h.size) (fun e => by have := hr i e.symm; omega)).trans (h.block i hi hne)⟩
structure DList (w0 : World) (a : Option Addr) (len cap : Nat) (zs : List Int) (p : Nat) (w : World) (v : Value) (ps : List PinD) (cur : World) : Prop where
  draw : Draw w0 a len cap zs p cur
  grew : w.grownBy cur (some w0.heap.size)
  own : OwnP cur w.heap.size v ps
theorem DList.app {w0 : World} {a : Option Addr} {len cap : Nat} {zs : List Int} {p : Nat} {w : World} {v v3 : Value} {ps : List PinD} {cur w3 : World} {o : Obj} {q : PinD} (h : DList w0 a len cap zs p w v ps cur) (hw : w0.heap.size < w.heap.size)
    (hown : Own w3 w.heap.size 5 v3 (ps.length + 1) (flat ps ++ q.vals)) (hg : (cur.alloc o).grownBy w3 v.ownBlock) : DList w0 a len cap zs p w v3 (ps ++ [q]) w3 := by
  have hl := fun k hk => (Own.lt h.own k hk).1
  refine ⟨(h.draw.alloc o).grown hg (fun k hk => by have := hl k hk; omega), gown (gal h.grew o) hg hl, ?_⟩
  unfold OwnP
  rw [flat_append, List.length_append]
  simpa [flat] using hown
theorem own_cells (w : World) (xs : List Value) (n s : Nat) (t : TypeId) (hl : xs.length = n * s) (hm : n ≤ maxLen) : Own (w.alloc (.cells xs.toArray t)) w.heap.size s (.slice (some ⟨w.heap.size, 0, none⟩) n n) n xs :=
  ⟨hl, .inr ⟨w.heap.size, n, rfl, Nat.le_refl _, by simp, Nat.le_refl _, hm, fun j u hu => (At.new w xs t).cell j u hu, fun j hj => by
    have h1 := (At.new w xs t).cell j (xs[j]'(by omega)) (by simp [show j < xs.length by omega])
    exact ⟨by rw [h1]; rfl, (At.new w xs t).free j (xs[j]'(by omega)) (by simp [show j < xs.length by omega])⟩⟩⟩
set_option maxHeartbeats 2000000 in
theorem dl7BentPins {w0 : World} {a : Option Addr} {len cap : Nat} {zs : List Int} {p0 : Nat} {w : World} (D : Draw w0 a len cap zs p0 w) (hp0 : p0 ≤ 400) :
    Calls Tryz.prog 206 #[.pointer (some ⟨w0.heap.size, 0, none⟩)] w (DPins (p0 + 40) (fun ps => (∀ p ∈ ps, p.n.size ≤ 21) ∧ ps.length ≤ 5) w0 a len cap zs w) := by
  have hlt := D.lt
  have hgt : ∀ {u1 u2 : World} {v : Value} {qs : List PinD}, OwnP u1 w.heap.size v qs → u1.grownBy u2 (some w0.heap.size) → OwnP u2 w.heap.size v qs := fun h g => Own.keep h g.size fun k hk => g.block k (Own.lt h k hk).2 (fun e => by injection e with e; have := (Own.lt h k hk).1; omega)
  obtain ⟨i0, hi0, hz0, hz1, hz2⟩ := info_parts pin_info
  go_enter Tryz.func206, Tryz.ntmps206
  go_wp2_with fail
  refine (dl7DrawPins D hp0).mono ?_
  rintro r w1 ⟨x, n, c, ps, p, ⟨hok, hfew⟩, hp, rfl, O1, D1, g1⟩
  have hsz : ∀ q ∈ ps, q.n.size ≤ 21 := fun q hq => by have := pin_size (hok q hq); omega
  have HSZ := Lib.hid hsz
  clear D hok hsz
  go_wp2_with fail
  refine (dnext 12 D1 (by omega)).mono ?_
  rintro r w2 ⟨sw, t0, t1, rfl, D2, O2⟩
  have Q2 := hgt O1 O2.grown
  have G2 := gtr g1 O2.grown
  clear O1 D1 g1 O2 t1
  by_cases e0 : sw = 0
  · subst e0
    go_wp2_with fail
    refine (dl7Bent D2 (by omega)).mono ?_
    rintro r w3' ⟨q, p3, hq, hp3, rfl, D3, g3⟩
    have L3 : DList w0 a len cap zs p3 w (.slice x n c) ps w3' := ⟨D3, gtr G2 g3, hgt Q2 g3⟩
    have sz3 := L3.grew.size
    have HQ := Lib.hid hq
    clear D3 g3 Q2 G2 D2 hq
    go_wp2_with (at_builtin; refine wpList_append_src _ rfl (.tmp 11) (.tmp 14) 53 53 rfl w.heap.size 59 i0 (P5 pin0) 5 48 Tryz.underlying53 hi0 hz0 hz1 hz2 rfl _ _ _ rfl (Own.alloc L3.own _) _ 1 (PinD.vals q) rfl (src_new5 _ q _ _ _ Tryz.underlying53) (by simp only [maxLen]; omega) (by omega) (by simp; omega) ?_; intro v3 w3 hown hgrow hat)
    have L4 := L3.app hlt hown hgrow
    obtain ⟨x4, c4, e4, -⟩ := L4.own.form
    subst e4
    clear hown hgrow hat L3 hi0 hz0 hz1 hz2
    go_wp2_with fail
    go_ret
    exact ⟨_, _, _, ps ++ [q], _, ⟨fun y hy => by rcases List.mem_append.1 hy with hy | hy; exact HSZ.out y hy; simp at hy; subst hy; exact HQ.out, by simp; omega⟩, by omega, rfl, L4.own, L4.draw, L4.grew⟩
  by_cases e1 : sw = 1
  · subst e1
    have hmk : (Instr.makeSlice 53 (.int .i64 5) (.int .i64 5)).run Tryz.prog w2 = .ok (.slice (some ⟨w2.heap.size, 0, none⟩) 5 5) (w2.alloc (.cells (flat (List.replicate 5 pin0)).toArray 59)) := by
      have := run_make (P := Tryz.prog) w2 53 59 i0 (P5 pin0) Tryz.underlying53 hi0 hz0 .i64 .i64 5 5 (by omega) (by omega) (by rw [hz2]; omega) (by omega)
      rw [hz1] at this
      have e5 : madeCells (P5 pin0).cells (Int.toNat 5 * 5) = (flat (List.replicate 5 pin0)).toArray := by kernel_rfl
      rw [e5] at this
      exact this
    have O5 : OwnP (w2.alloc (.cells (flat (List.replicate 5 pin0)).toArray 59)) w2.heap.size (.slice (some ⟨w2.heap.size, 0, none⟩) 5 5) (List.replicate 5 pin0) := own_cells w2 (flat (List.replicate 5 pin0)) 5 5 59 rfl (by simp only [maxLen]; omega)
    have F : DPins (p0 + 40) (fun ps => (∀ p ∈ ps, p.n.size ≤ 21) ∧ ps.length ≤ 5) w0 a len cap zs w (.returned (.slice (some ⟨w2.heap.size, 0, none⟩) 5 5)) (w2.alloc (.cells (flat (List.replicate 5 pin0)).toArray 59)) :=
      ⟨_, _, _, List.replicate 5 pin0, _, ⟨fun y hy => by rw [List.eq_of_mem_replicate hy]; exact Nat.zero_le _, by simp⟩, by omega, rfl, O5.less G2.size, D2.alloc _, gal G2 _⟩
    have HF := Lib.hid F
    generalize w2.alloc (.cells (flat (List.replicate 5 pin0)).toArray 59) = w5 at *
    clear F O5 hi0 hz0 hz1 hz2 Q2 G2 D2
    go_wp2_with fail
    go_ret
    exact HF.out
  by_cases e2 : sw = 2
  · subst e2
    have T0 : DList w0 a len cap zs (p + 1) w (.slice none 0 0) [] w2 := ⟨D2, G2, OwnP.nil _ _⟩
    clear Q2 D2 G2
    go_wp2_with fail
    go_loopw [3, 4] (fun v i wr => ∃ (k : Nat) (qs : List PinD), k ≤ 4 ∧ i = .int .i64 k ∧ qs.length = k ∧ (∀ q ∈ qs, q.n.size ≤ 21) ∧ DList w0 a len cap zs (p + 1) w v qs wr) (fun _ i _ => 4 - (intOf i).toNat)
    case atStart => exact ⟨0, [], by omega, rfl, rfl, by simp, T0⟩
    case round =>
      obtain ⟨k, qs, hk, rfl, hql, hqs, hT⟩ := hrel
      clear T0
      obtain ⟨vx, vc, hv, -⟩ := hT.own.form
      subst hv
      by_cases hk4 : k < 4
      · have hk4' : (k : Int) < 4 := by omega
        have HQ := Lib.hid hqs
        have HQL := Lib.hid hql
        clear hqs
        have DG := l1Digits_any k wr (by omega)
        go_wp2_with fail
        refine DG.mono ?_
        rintro r u1 ⟨tx, htx, rfl, b1⟩
        have hT1 : DList w0 a len cap zs (p + 1) w (.slice vx qs.length vc) qs u1 := ⟨hT.draw.below b1, gbe hT.grew b1, hT.own.below b1⟩
        have hsum : (⟨#[110]⟩ : ByteArray).size + tx.size ≤ 9223372036854775807 := by show 1 + tx.size ≤ _; omega
        have hadd := run_string_add_sum (P := Tryz.prog) u1 ⟨#[110]⟩ tx hsum
        have hns : ((⟨#[110]⟩ : ByteArray) ++ tx).size ≤ 21 := by
          have : ((⟨#[110]⟩ : ByteArray) ++ tx).size = 1 + tx.size := by simp [ByteArray.size_append]; rfl
          omega
        have HNS := Lib.hid hns
        have sz1 := hT1.grew.size
        clear hT DG b1 hns hql htx hsum
        generalize (⟨#[110]⟩ : ByteArray) ++ tx = nm at *
        have hqn : qs.length ≤ 4 := by have := HQL.out; omega
        go_wp2_with (at_builtin; refine wpList_append_src _ rfl (.tmp 25) (.tmp 30) 53 53 rfl w.heap.size 59 i0 (P5 pin0) 5 48 Tryz.underlying53 hi0 hz0 hz1 hz2 rfl _ _ _ rfl (Own.alloc hT1.own _) _ 1 (PinD.vals (PinD.mk nm 4 0 1 0)) rfl (src_new5 _ (PinD.mk nm 4 0 1 0) _ _ _ Tryz.underlying53) (by simp only [maxLen]; omega) (by omega) (by simp; omega) ?_; intro v3 w3 hown hgrow hat)
        have L4 := hT1.app hlt hown hgrow
        clear hown hgrow hat hT1
        go_wp2_with fail
        go_roundw
        case rel => exact ⟨k + 1, _, by omega, by go_num, by rw [List.length_append, HQL.out]; rfl, fun y hy => by rcases List.mem_append.1 hy with hy | hy; exact HQ.out y hy; simp at hy; subst hy; exact HNS.out, L4⟩
        case measure => simp [intOf]; omega
      · obtain rfl : k = 4 := by omega
        clear hi0 hz0 hz1 hz2
        have F := Lib.hid (show DPins (p0 + 40) (fun ps => (∀ p ∈ ps, p.n.size ≤ 21) ∧ ps.length ≤ 5) w0 a len cap zs w (.returned (.slice vx qs.length vc)) wr from ⟨_, _, _, qs, _, ⟨hqs, by omega⟩, by omega, rfl, hT.own, hT.draw, hT.grew⟩)
        clear hT hqs hql
        go_wp2_with fail
        go_ret
        exact F.out
  · have n0 : (sw == 0) = false := by rw [beq_eq_false_iff_ne]; exact e0
    have n1 : (sw == 1) = false := by rw [beq_eq_false_iff_ne]; exact e1
    have n2 : (sw == 2) = false := by rw [beq_eq_false_iff_ne]; exact e2
    clear hi0 hz0 hz1 hz2
    go_wp2_with fail
    go_ret
    exact ⟨_, _, _, ps, _, ⟨HSZ.out, by omega⟩, by omega, rfl, Q2, D2, G2⟩
end Go.Proofs.YtlodhleihnlchaaGreatDoor
namespace Go.Proofs.YtlodhleihnlchaaGreatDoor
open Go.RowKit
set_option maxRecDepth 100000
set_option linter.unusedVariables false

end Go.Proofs.YtlodhleihnlchaaGreatDoor
namespace Go.Proofs.YtlodhleihnlchaaGreatDoor
open Go.RowKit Go.Extern.Stop Go.Stop Go.Extern

structure ErrT (w : World) : Prop where
  cell : w.cell? ⟨3, 0, none⟩ = some (.iface 384 (.agg #[.pointer (some ⟨8, 160, none⟩)]))
theorem ErrT.on {w w' : World} (h : ErrT w) (hb : Below w.heap.size w w') : ErrT w' := ⟨cell_keep hb h.cell⟩
theorem ErrT.grew {w w' : World} {row : Option Nat} (h : ErrT w) (hg : w.grownBy w' row) (hr : ∀ k, row = some k → 3 < k) : ErrT w' :=
  ⟨hg.cell h.cell (fun e => by have := hr _ e.symm; exact absurd this (Nat.lt_irrefl _))⟩
theorem ErrT.lt {w : World} (h : ErrT w) : 3 < w.heap.size := cell_lt h.cell

abbrev misV (c : Int) (s : ByteArray) : Value := .iface 315 (.agg #[.int .i64 c, .string s])
abbrev hdl (t : Nat) : Value := .pointer (some ⟨8, t, none⟩)
abbrev rval (t : Nat) (a : Addr) (f : Int) : Value := .agg #[hdl t, .pointer (some a), .int .u64 f]

theorem rl_valueOfP (t : Addr) (w : World) : (ReflectliteValue.unpack (.iface 322 (.pointer (some t)))).run Tryz.prog w
    = .ok (rval 322 ⟨w.heap.size, 0, none⟩ 150) (w.alloc (.cells #[.pointer (some t)] 322)) := by kernel_rfl
theorem rl_typeP (a : Addr) (w : World) : (ReflectliteValue.methodAny (ReflectliteValue.valueError "reflectlite.Value.Type" 0) (fun t _ _ _ => ReflectliteType.toType t) #[rval 322 a 150]).run Tryz.prog w
    = .ok (.iface 384 (.agg #[hdl 322])) w := by kernel_rfl
theorem rl_mKind (h : Value) (w : World) : (Go.method 566 384 (.agg #[h]) "Kind").run Tryz.prog w = .ok (360, h) w := by kernel_rfl
theorem rl_mElem (h : Value) (w : World) : (Go.method 566 384 (.agg #[h]) "Elem").run Tryz.prog w = .ok (375, .agg #[h]) w := by kernel_rfl
theorem rl_mImpl (h : Value) (w : World) : (Go.method 566 384 (.agg #[h]) "Implements").run Tryz.prog w = .ok (376, .agg #[h]) w := by kernel_rfl
theorem rl_mAsgn (h : Value) (w : World) : (Go.method 566 384 (.agg #[h]) "AssignableTo").run Tryz.prog w = .ok (373, .agg #[h]) w := by kernel_rfl
theorem rl_kindP (w : World) : ((ReflectliteType.abiMethod fun t => (fun a : Nat => Value.int IntKind.u8 (a : Int)) <$> Rtype.kind t) #[hdl 322]).run Tryz.prog w = .ok (.int .u8 22) w := by kernel_rfl
theorem rl_kindM (w : World) : ((ReflectliteType.abiMethod fun t => (fun a : Nat => Value.int IntKind.u8 (a : Int)) <$> Rtype.kind t) #[hdl 315]).run Tryz.prog w = .ok (.int .u8 25) w := by kernel_rfl
theorem rl_elemP (w : World) : (ReflectliteType.method ReflectliteType.elem #[.agg #[hdl 322]]).run Tryz.prog w = .ok (.iface 384 (.agg #[hdl 315])) w := by kernel_rfl
theorem rl_implM (w : World) : (ReflectliteType.relation "Implements" ReflectliteType.implements_ #[.agg #[hdl 315], .iface 384 (.agg #[hdl 160])]).run Tryz.prog w = .ok (.bool true) w := by kernel_rfl
theorem rl_typeOfM (v : Value) (w : World) : (ReflectliteType.typeOf #[.iface 315 v]).run Tryz.prog w = .ok (.iface 384 (.agg #[hdl 315])) w := by kernel_rfl
theorem rl_asgnM (w : World) : (ReflectliteType.relation "AssignableTo" ReflectliteType.assignableTo #[.agg #[hdl 315], .iface 384 (.agg #[hdl 315])]).run Tryz.prog w = .ok (.bool true) w := by kernel_rfl
theorem rl_valueOfM (c : Int) (s : ByteArray) (w : World) : (ReflectliteValue.unpack (misV c s)).run Tryz.prog w
    = .ok (rval 315 ⟨w.heap.size, 0, none⟩ 153) (w.alloc (.cells #[.int .i64 c, .string s] 315)) := by kernel_rfl

theorem rl_partsP (a : Addr) (w : World) : (ReflectliteValue.parts (rval 322 a 150)).run Tryz.prog w = .ok (some (322, a, 150)) w := by kernel_rfl
theorem rl_method {P : Program} {w : World} {z : Sem Value} {f : TypeId → Addr → Nat → Nat → Sem Value} {v : Value} {t : TypeId} {a : Addr} {k : Nat} (h : (ReflectliteValue.parts v).run P w = .ok (some (t, a, k)) w) :
    (ReflectliteValue.method z f #[v]).run P w = (f t a k (k % 32)).run P w := by
  rw [show ReflectliteValue.method z f #[v] = ReflectliteValue.parts v >>= _ from rfl]
  simp only [Sem.run_bind, h, Result.andThen]
theorem rl_isNilP (a p : Addr) (W : World) (ha : W.cell? a = some (.pointer (some p))) :
    (ReflectliteValue.method (ReflectliteValue.valueError "reflectlite.Value.IsNil" 0) ReflectliteValue.isNil #[rval 322 a 150]).run Tryz.prog W = .ok (.bool false) W := by
  rw [rl_method (rl_partsP _ _)]
  simp [ReflectliteValue.isNil, loadVar, isAgg, underlying, Tryz.underlying322, ha, Result.andThen]
theorem rl_elemOfP (w : World) : (Rtype.elem? 322).run Tryz.prog w = .ok (some 315) w := by kernel_rfl
theorem rl_mkM (p : Addr) (w : World) : (ReflectliteValue.mk 315 p ReflectliteValue.flagAddr).run Tryz.prog w = .ok (rval 315 p 409) w := by kernel_rfl
theorem rl_elemV (a p : Addr) (W : World) (ha : W.cell? a = some (.pointer (some p))) :
    (ReflectliteValue.method (ReflectliteValue.valueError "reflectlite.Value.Elem" 0) ReflectliteValue.elem #[rval 322 a 150]).run Tryz.prog W = .ok (rval 315 p 409) W := by
  rw [rl_method (rl_partsP _ _)]
  simp [ReflectliteValue.elem, loadVar, isAgg, underlying, Tryz.underlying322, ha, Result.andThen, rl_elemOfP, rl_mkM]
theorem rl_partsMa (a : Addr) (w : World) : (ReflectliteValue.parts (rval 315 a 409)).run Tryz.prog w = .ok (some (315, a, 409)) w := by kernel_rfl
theorem rl_partsM (a : Addr) (w : World) : (ReflectliteValue.parts (rval 315 a 153)).run Tryz.prog w = .ok (some (315, a, 153)) w := by kernel_rfl
theorem rl_directM (w : World) : (Rtype.directlyAssignable 315 315).run Tryz.prog w = .ok true w := by kernel_rfl
theorem rl_setM (tb b : Nat) (c : Int) (s : ByteArray) (o0 o1 : Value) (W : World) (b0 : W.cell? ⟨b, 0, none⟩ = some (.int .i64 c)) (b1 : W.cell? ⟨b, 1, none⟩ = some (.string s))
    (t0 : W.cell? ⟨tb, 0, none⟩ = some o0) (t1 : W.cell? ⟨tb, 1, none⟩ = some o1) (f0 : W.frozen? ⟨tb, 0, none⟩ = false) (f1 : W.frozen? ⟨tb, 1, none⟩ = false) :
    (ReflectliteValue.set #[rval 315 ⟨tb, 0, none⟩ 409, rval 315 ⟨b, 0, none⟩ 153]).run Tryz.prog W = .ok (.tuple #[]) ((W.setCell ⟨tb, 0, none⟩ (.int .i64 c)).setCell ⟨tb, 1, none⟩ (.string s)) := by
  have hl : (loadCells ⟨b, 0, none⟩ 2).run Tryz.prog W = .ok #[.int .i64 c, .string s] W := by
    have := run_loadCells_list (P := Tryz.prog) (w := W) ⟨b, 0, none⟩ [.int .i64 c, .string s] (fun j v hj => by
      rcases j with _ | _ | j
      · simp at hj; subst hj; exact b0
      · simp at hj; subst hj; exact b1
      · first | (simp at hj; done) | (simp at hj; omega))
    exact this
  generalize hv : rval 315 ⟨tb, 0, none⟩ 409 = v
  generalize hx : rval 315 ⟨b, 0, none⟩ 153 = x
  rw [show ReflectliteValue.set #[v, x] = (ReflectliteValue.parts v >>= fun p => ReflectliteValue.parts x >>= fun q => _) from rfl]
  subst hv; subst hx
  simp only [Sem.run_bind, rl_partsMa, rl_partsM, Result.andThen]
  simp [ReflectliteValue.flagAddr, loadVar, isAgg, underlying, Tryz.underlying315, hl, Result.andThen, rl_directM, storeVar, Value.cells]
  have hst := run_storeCells_cells (P := Tryz.prog) tb 0 [.int .i64 c, .string s] 0 W
    (fun j hj => by
      rcases j with _ | _ | j
      · simp [t0]
      · simp [t1]
      · first | (simp at hj; done) | (simp at hj; omega))
    (fun j hj => by
      rcases j with _ | _ | j
      · exact f0
      · exact f1
      · first | (simp at hj; done) | (simp at hj; omega))
    (fun v hv => by
      simp at hv
      rcases hv with rfl | rfl <;> rfl)
  rw [hst]
  rfl
end Go.Proofs.YtlodhleihnlchaaGreatDoor
namespace Go.Proofs.YtlodhleihnlchaaGreatDoor
open Go.RowKit Go.Extern.Stop Go.Stop Go.Extern

end Go.Proofs.YtlodhleihnlchaaGreatDoor
namespace Go.Proofs.YtlodhleihnlchaaGreatDoor
open Go.RowKit Go.Extern.Stop Go.Stop Go.Extern
set_option linter.unusedVariables false
set_option maxRecDepth 100000

abbrev refV (s : ByteArray) (e : Value) : Value := .iface 333 (.agg #[.string s, e])
theorem rl_typeOfR (v : Value) (w : World) : (ReflectliteType.typeOf #[.iface 333 v]).run Tryz.prog w = .ok (.iface 384 (.agg #[hdl 333])) w := by kernel_rfl
theorem rl_asgnR (w : World) : (ReflectliteType.relation "AssignableTo" ReflectliteType.assignableTo #[.agg #[hdl 333], .iface 384 (.agg #[hdl 315])]).run Tryz.prog w = .ok (.bool false) w := by kernel_rfl
theorem rl_noAs (s : ByteArray) (e : Value) (w : World) : (Instr.typeAssert (refV s e) 160 389 true).run Tryz.prog w = .ok (.tuple #[.nilIface, .bool false]) w := run_typeAssert_lacksB Tryz.underlying389 (by kernel_rfl) (by kernel_rfl) _ _ w
theorem rl_unwraps (s : ByteArray) (e : Value) (w : World) : (Instr.typeAssert (refV s e) 160 392 true).run Tryz.prog w = .ok (.tuple #[refV s e, .bool true]) w := run_typeAssert_hasB Tryz.underlying392 (by kernel_rfl) _ _ w
theorem rl_mUnwrap (s : ByteArray) (e : Value) (w : World) : (Go.method 566 333 (.agg #[.string s, e]) "Unwrap").run Tryz.prog w = .ok (367, .agg #[.string s, e]) w := by kernel_rfl
theorem unwrap_any (s : ByteArray) (e : Value) (w : World) :
    Calls Tryz.prog 367 #[.agg #[.string s, e]] w fun r w' => r = .returned e ∧ Below w.heap.size w w' := by
  have b0 := bal (Below.refl _ w) (.cells #[.string s, e] 333)
  go_enter Tryz.func367, Tryz.ntmps367
  go_wp2_with fail
  go_ret
  exact ⟨rfl, b0⟩
def AsHit (tb : Nat) (c : Int) (w : World) (ev : Ending) (w' : World) : Prop := ev = .returned (.bool true) ∧ w'.cell? ⟨tb, 0, none⟩ = some (.int .i64 c) ∧ Below tb w w'
set_option maxHeartbeats 4000000 in
theorem as_0 (c : Int) (s : ByteArray) (tb vb : Nat) (o0 o1 T : Value) (w : World) (cv : w.cell? ⟨vb, 0, none⟩ = some (.pointer (some ⟨tb, 0, none⟩))) (t0 : w.cell? ⟨tb, 0, none⟩ = some o0) (t1 : w.cell? ⟨tb, 1, none⟩ = some o1) (f0 : w.frozen? ⟨tb, 0, none⟩ = false) (f1 : w.frozen? ⟨tb, 1, none⟩ = false) :
    Calls Tryz.prog 297 #[misV c s, T, rval 322 ⟨vb, 0, none⟩ 150, .iface 384 (.agg #[hdl 315])] w (AsHit tb c w) := by
  have hV := @run_callFunc_extern Tryz.prog 294 _ (fun args => ReflectliteValue.unpack (args.getD 0 (.tuple #[]))) Tryz.func294 (by kernel_rfl) (by kernel_rfl) (by kernel_rfl) (by kernel_rfl)
  have hO := @run_callFunc_extern Tryz.prog 315 _ ReflectliteType.typeOf Tryz.func315 (by kernel_rfl) (by kernel_rfl) (by kernel_rfl) (by kernel_rfl)
  have hA := @run_callFunc_extern Tryz.prog 373 _ (ReflectliteType.relation "AssignableTo" ReflectliteType.assignableTo) Tryz.func373 (by kernel_rfl) (by kernel_rfl) (by kernel_rfl) (by kernel_rfl)
  have hL := @run_callFunc_extern Tryz.prog 316 _ (ReflectliteValue.method (ReflectliteValue.valueError "reflectlite.Value.Elem" 0) ReflectliteValue.elem) Tryz.func316 (by kernel_rfl) (by kernel_rfl) (by kernel_rfl) (by kernel_rfl)
  have hS := @run_callFunc_extern Tryz.prog 317 _ ReflectliteValue.set Tryz.func317 (by kernel_rfl) (by kernel_rfl) (by kernel_rfl) (by kernel_rfl)
  have tO := rl_typeOfM
  have tR := rl_typeOfR
  have mA := rl_mAsgn
  have a1 := rl_asgnM
  have a2 := rl_asgnR
  have v1 := rl_valueOfM
  have htl0 : tb < w.heap.size := cell_lt t0
  have hb := bal (Below.refl _ w) (.cells #[hdl 322, .pointer (some ⟨vb, 0, none⟩), .int .u64 150] 361)
  have HB := Lib.hid (hb.mono (Nat.le_of_lt htl0))
  have z := cell_keep hb cv; clear cv; have cv := z; clear z
  have z := cell_keep hb t0; clear t0; have t0 := z; clear z
  have z := cell_keep hb t1; clear t1; have t1 := z; clear z
  have z := (hb.frozen (p := ⟨tb, 0, none⟩) htl0).trans f0; clear f0; have f0 := z; clear z
  have z := (hb.frozen (p := ⟨tb, 1, none⟩) htl0).trans f1; clear f1; have f1 := z; clear z
  have AV : At w.heap.size [hdl 322, .pointer (some ⟨vb, 0, none⟩), .int .u64 150] (w.alloc (.cells #[hdl 322, .pointer (some ⟨vb, 0, none⟩), .int .u64 150] 361)) := At.new w [hdl 322, .pointer (some ⟨vb, 0, none⟩), .int .u64 150] 361
  clear hb htl0
  go_enter Tryz.func297, Tryz.ntmps297
  go_wp2
  generalize w.alloc (.cells #[hdl 322, .pointer (some ⟨vb, 0, none⟩), .int .u64 150] 361) = W1 at *
  refine wp_loop_rounds 1 ?_
  have el := rl_elemV ⟨vb, 0, none⟩ ⟨tb, 0, none⟩ W1 cv
  have hb4 : Below W1.heap.size W1 (W1.alloc (.cells #[.int .i64 c, .string s] 315)) := bal (Below.refl _ _) _
  have htl : tb < W1.heap.size := cell_lt t0
  have q0 := cell_keep hb4 t0
  have q1 := cell_keep hb4 t1
  have p0 := (hb4.frozen (p := ⟨tb, 0, none⟩) htl).trans f0
  have p1 := (hb4.frozen (p := ⟨tb, 1, none⟩) htl).trans f1
  have st := rl_setM tb W1.heap.size c s o0 o1 (W1.alloc (.cells #[.int .i64 c, .string s] 315)) (by rw [World.cell?_alloc_at _ _ _ _ (by simp)]; rfl) (by rw [World.cell?_alloc_at _ _ _ _ (by simp)]; rfl) q0 q1 p0 p1
  have F := Lib.hid (And.intro q0 (Below.trans HB.out (hb4.mono (Nat.le_of_lt htl))))
  clear hb4 q0 q1 p0 p1 t0 t1 f0 f1 cv HB htl
  have d0 := AV.cell 0 _ rfl
  have d1 := AV.cell 1 _ rfl
  have d2 := AV.cell 2 _ rfl
  clear AV
  rw [rounds_succ]
  go_wp2
  go_ret
  refine ⟨rfl, ?_, ?_⟩
  · rw [World.cell?_setCell_other _ _ _ _ (fun e => by injection e with _ e2; omega), World.cell?_setCell_same _ _ _ (by rw [F.out.1])]
  · exact (F.out.2.setCell (Nat.le_refl _) _).setCell (Nat.le_refl _) _
set_option maxHeartbeats 4000000 in
theorem as_1 (c : Int) (s s1 : ByteArray) (tb vb : Nat) (o0 o1 T : Value) (w : World) (cv : w.cell? ⟨vb, 0, none⟩ = some (.pointer (some ⟨tb, 0, none⟩))) (t0 : w.cell? ⟨tb, 0, none⟩ = some o0) (t1 : w.cell? ⟨tb, 1, none⟩ = some o1) (f0 : w.frozen? ⟨tb, 0, none⟩ = false) (f1 : w.frozen? ⟨tb, 1, none⟩ = false) :
    Calls Tryz.prog 297 #[refV s1 (misV c s), T, rval 322 ⟨vb, 0, none⟩ 150, .iface 384 (.agg #[hdl 315])] w (AsHit tb c w) := by
  have hV := @run_callFunc_extern Tryz.prog 294 _ (fun args => ReflectliteValue.unpack (args.getD 0 (.tuple #[]))) Tryz.func294 (by kernel_rfl) (by kernel_rfl) (by kernel_rfl) (by kernel_rfl)
  have hO := @run_callFunc_extern Tryz.prog 315 _ ReflectliteType.typeOf Tryz.func315 (by kernel_rfl) (by kernel_rfl) (by kernel_rfl) (by kernel_rfl)
  have hA := @run_callFunc_extern Tryz.prog 373 _ (ReflectliteType.relation "AssignableTo" ReflectliteType.assignableTo) Tryz.func373 (by kernel_rfl) (by kernel_rfl) (by kernel_rfl) (by kernel_rfl)
  have hL := @run_callFunc_extern Tryz.prog 316 _ (ReflectliteValue.method (ReflectliteValue.valueError "reflectlite.Value.Elem" 0) ReflectliteValue.elem) Tryz.func316 (by kernel_rfl) (by kernel_rfl) (by kernel_rfl) (by kernel_rfl)
  have hS := @run_callFunc_extern Tryz.prog 317 _ ReflectliteValue.set Tryz.func317 (by kernel_rfl) (by kernel_rfl) (by kernel_rfl) (by kernel_rfl)
  have tO := rl_typeOfM
  have tR := rl_typeOfR
  have mA := rl_mAsgn
  have a1 := rl_asgnM
  have a2 := rl_asgnR
  have v1 := rl_valueOfM
  have htl0 : tb < w.heap.size := cell_lt t0
  have hb := bal (Below.refl _ w) (.cells #[hdl 322, .pointer (some ⟨vb, 0, none⟩), .int .u64 150] 361)
  have HB := Lib.hid (hb.mono (Nat.le_of_lt htl0))
  have z := cell_keep hb cv; clear cv; have cv := z; clear z
  have z := cell_keep hb t0; clear t0; have t0 := z; clear z
  have z := cell_keep hb t1; clear t1; have t1 := z; clear z
  have z := (hb.frozen (p := ⟨tb, 0, none⟩) htl0).trans f0; clear f0; have f0 := z; clear z
  have z := (hb.frozen (p := ⟨tb, 1, none⟩) htl0).trans f1; clear f1; have f1 := z; clear z
  have AV : At w.heap.size [hdl 322, .pointer (some ⟨vb, 0, none⟩), .int .u64 150] (w.alloc (.cells #[hdl 322, .pointer (some ⟨vb, 0, none⟩), .int .u64 150] 361)) := At.new w [hdl 322, .pointer (some ⟨vb, 0, none⟩), .int .u64 150] 361
  clear hb htl0
  go_enter Tryz.func297, Tryz.ntmps297
  go_wp2
  generalize w.alloc (.cells #[hdl 322, .pointer (some ⟨vb, 0, none⟩), .int .u64 150] 361) = W1 at *
  refine wp_loop_rounds 2 ?_
  have ta1 := rl_noAs s1 (misV c s)
  have ta2 := rl_unwraps s1 (misV c s)
  have mU := rl_mUnwrap s1 (misV c s)
  rw [rounds_succ]
  go_wp2_with fail
  refine (unwrap_any _ _ _).mono ?_
  rintro r W2 ⟨rfl, hb⟩
  have htl : tb < W1.heap.size := cell_lt t0
  have z := Lib.hid (Below.trans HB.out (hb.mono (Nat.le_of_lt htl))); clear HB; have HB := z; clear z
  have z := AV.on hb; clear AV; have AV := z; clear z
  have z := cell_keep hb cv; clear cv; have cv := z; clear z
  have z := cell_keep hb t0; clear t0; have t0 := z; clear z
  have z := cell_keep hb t1; clear t1; have t1 := z; clear z
  have z := (hb.frozen (p := ⟨tb, 0, none⟩) htl).trans f0; clear f0; have f0 := z; clear z
  have z := (hb.frozen (p := ⟨tb, 1, none⟩) htl).trans f1; clear f1; have f1 := z; clear z
  clear hb htl ta1 ta2 mU
  go_wp2
  generalize W2 = W1 at *
  have el := rl_elemV ⟨vb, 0, none⟩ ⟨tb, 0, none⟩ W1 cv
  have hb4 : Below W1.heap.size W1 (W1.alloc (.cells #[.int .i64 c, .string s] 315)) := bal (Below.refl _ _) _
  have htl : tb < W1.heap.size := cell_lt t0
  have q0 := cell_keep hb4 t0
  have q1 := cell_keep hb4 t1
  have p0 := (hb4.frozen (p := ⟨tb, 0, none⟩) htl).trans f0
  have p1 := (hb4.frozen (p := ⟨tb, 1, none⟩) htl).trans f1
  have st := rl_setM tb W1.heap.size c s o0 o1 (W1.alloc (.cells #[.int .i64 c, .string s] 315)) (by rw [World.cell?_alloc_at _ _ _ _ (by simp)]; rfl) (by rw [World.cell?_alloc_at _ _ _ _ (by simp)]; rfl) q0 q1 p0 p1
  have F := Lib.hid (And.intro q0 (Below.trans HB.out (hb4.mono (Nat.le_of_lt htl))))
  clear hb4 q0 q1 p0 p1 t0 t1 f0 f1 cv HB htl
  have d0 := AV.cell 0 _ rfl
  have d1 := AV.cell 1 _ rfl
  have d2 := AV.cell 2 _ rfl
  clear AV
  rw [rounds_succ]
  go_wp2
  go_ret
  refine ⟨rfl, ?_, ?_⟩
  · rw [World.cell?_setCell_other _ _ _ _ (fun e => by injection e with _ e2; omega), World.cell?_setCell_same _ _ _ (by rw [F.out.1])]
  · exact (F.out.2.setCell (Nat.le_refl _) _).setCell (Nat.le_refl _) _
set_option maxHeartbeats 4000000 in
theorem as_2 (c : Int) (s s1 s2 : ByteArray) (tb vb : Nat) (o0 o1 T : Value) (w : World) (cv : w.cell? ⟨vb, 0, none⟩ = some (.pointer (some ⟨tb, 0, none⟩))) (t0 : w.cell? ⟨tb, 0, none⟩ = some o0) (t1 : w.cell? ⟨tb, 1, none⟩ = some o1) (f0 : w.frozen? ⟨tb, 0, none⟩ = false) (f1 : w.frozen? ⟨tb, 1, none⟩ = false) :
    Calls Tryz.prog 297 #[refV s2 (refV s1 (misV c s)), T, rval 322 ⟨vb, 0, none⟩ 150, .iface 384 (.agg #[hdl 315])] w (AsHit tb c w) := by
  have hV := @run_callFunc_extern Tryz.prog 294 _ (fun args => ReflectliteValue.unpack (args.getD 0 (.tuple #[]))) Tryz.func294 (by kernel_rfl) (by kernel_rfl) (by kernel_rfl) (by kernel_rfl)
  have hO := @run_callFunc_extern Tryz.prog 315 _ ReflectliteType.typeOf Tryz.func315 (by kernel_rfl) (by kernel_rfl) (by kernel_rfl) (by kernel_rfl)
  have hA := @run_callFunc_extern Tryz.prog 373 _ (ReflectliteType.relation "AssignableTo" ReflectliteType.assignableTo) Tryz.func373 (by kernel_rfl) (by kernel_rfl) (by kernel_rfl) (by kernel_rfl)
  have hL := @run_callFunc_extern Tryz.prog 316 _ (ReflectliteValue.method (ReflectliteValue.valueError "reflectlite.Value.Elem" 0) ReflectliteValue.elem) Tryz.func316 (by kernel_rfl) (by kernel_rfl) (by kernel_rfl) (by kernel_rfl)
  have hS := @run_callFunc_extern Tryz.prog 317 _ ReflectliteValue.set Tryz.func317 (by kernel_rfl) (by kernel_rfl) (by kernel_rfl) (by kernel_rfl)
  have tO := rl_typeOfM
  have tR := rl_typeOfR
  have mA := rl_mAsgn
  have a1 := rl_asgnM
  have a2 := rl_asgnR
  have v1 := rl_valueOfM
  have htl0 : tb < w.heap.size := cell_lt t0
  have hb := bal (Below.refl _ w) (.cells #[hdl 322, .pointer (some ⟨vb, 0, none⟩), .int .u64 150] 361)
  have HB := Lib.hid (hb.mono (Nat.le_of_lt htl0))
  have z := cell_keep hb cv; clear cv; have cv := z; clear z
  have z := cell_keep hb t0; clear t0; have t0 := z; clear z
  have z := cell_keep hb t1; clear t1; have t1 := z; clear z
  have z := (hb.frozen (p := ⟨tb, 0, none⟩) htl0).trans f0; clear f0; have f0 := z; clear z
  have z := (hb.frozen (p := ⟨tb, 1, none⟩) htl0).trans f1; clear f1; have f1 := z; clear z
  have AV : At w.heap.size [hdl 322, .pointer (some ⟨vb, 0, none⟩), .int .u64 150] (w.alloc (.cells #[hdl 322, .pointer (some ⟨vb, 0, none⟩), .int .u64 150] 361)) := At.new w [hdl 322, .pointer (some ⟨vb, 0, none⟩), .int .u64 150] 361
  clear hb htl0
  go_enter Tryz.func297, Tryz.ntmps297
  go_wp2
  generalize w.alloc (.cells #[hdl 322, .pointer (some ⟨vb, 0, none⟩), .int .u64 150] 361) = W1 at *
  refine wp_loop_rounds 3 ?_
  have ta1 := rl_noAs s2 (refV s1 (misV c s))
  have ta2 := rl_unwraps s2 (refV s1 (misV c s))
  have mU := rl_mUnwrap s2 (refV s1 (misV c s))
  rw [rounds_succ]
  go_wp2_with fail
  refine (unwrap_any _ _ _).mono ?_
  rintro r W2 ⟨rfl, hb⟩
  have htl : tb < W1.heap.size := cell_lt t0
  have z := Lib.hid (Below.trans HB.out (hb.mono (Nat.le_of_lt htl))); clear HB; have HB := z; clear z
  have z := AV.on hb; clear AV; have AV := z; clear z
  have z := cell_keep hb cv; clear cv; have cv := z; clear z
  have z := cell_keep hb t0; clear t0; have t0 := z; clear z
  have z := cell_keep hb t1; clear t1; have t1 := z; clear z
  have z := (hb.frozen (p := ⟨tb, 0, none⟩) htl).trans f0; clear f0; have f0 := z; clear z
  have z := (hb.frozen (p := ⟨tb, 1, none⟩) htl).trans f1; clear f1; have f1 := z; clear z
  clear hb htl ta1 ta2 mU
  go_wp2
  generalize W2 = W1 at *
  have ta1 := rl_noAs s1 (misV c s)
  have ta2 := rl_unwraps s1 (misV c s)
  have mU := rl_mUnwrap s1 (misV c s)
  rw [rounds_succ]
  go_wp2_with fail
  refine (unwrap_any _ _ _).mono ?_
  rintro r W2 ⟨rfl, hb⟩
  have htl : tb < W1.heap.size := cell_lt t0
  have z := Lib.hid (Below.trans HB.out (hb.mono (Nat.le_of_lt htl))); clear HB; have HB := z; clear z
  have z := AV.on hb; clear AV; have AV := z; clear z
  have z := cell_keep hb cv; clear cv; have cv := z; clear z
  have z := cell_keep hb t0; clear t0; have t0 := z; clear z
  have z := cell_keep hb t1; clear t1; have t1 := z; clear z
  have z := (hb.frozen (p := ⟨tb, 0, none⟩) htl).trans f0; clear f0; have f0 := z; clear z
  have z := (hb.frozen (p := ⟨tb, 1, none⟩) htl).trans f1; clear f1; have f1 := z; clear z
  clear hb htl ta1 ta2 mU
  go_wp2
  generalize W2 = W1 at *
  have el := rl_elemV ⟨vb, 0, none⟩ ⟨tb, 0, none⟩ W1 cv
  have hb4 : Below W1.heap.size W1 (W1.alloc (.cells #[.int .i64 c, .string s] 315)) := bal (Below.refl _ _) _
  have htl : tb < W1.heap.size := cell_lt t0
  have q0 := cell_keep hb4 t0
  have q1 := cell_keep hb4 t1
  have p0 := (hb4.frozen (p := ⟨tb, 0, none⟩) htl).trans f0
  have p1 := (hb4.frozen (p := ⟨tb, 1, none⟩) htl).trans f1
  have st := rl_setM tb W1.heap.size c s o0 o1 (W1.alloc (.cells #[.int .i64 c, .string s] 315)) (by rw [World.cell?_alloc_at _ _ _ _ (by simp)]; rfl) (by rw [World.cell?_alloc_at _ _ _ _ (by simp)]; rfl) q0 q1 p0 p1
  have F := Lib.hid (And.intro q0 (Below.trans HB.out (hb4.mono (Nat.le_of_lt htl))))
  clear hb4 q0 q1 p0 p1 t0 t1 f0 f1 cv HB htl
  have d0 := AV.cell 0 _ rfl
  have d1 := AV.cell 1 _ rfl
  have d2 := AV.cell 2 _ rfl
  clear AV
  rw [rounds_succ]
  go_wp2
  go_ret
  refine ⟨rfl, ?_, ?_⟩
  · rw [World.cell?_setCell_other _ _ _ _ (fun e => by injection e with _ e2; omega), World.cell?_setCell_same _ _ _ (by rw [F.out.1])]
  · exact (F.out.2.setCell (Nat.le_refl _) _).setCell (Nat.le_refl _) _
def ErrC (c : Int) (e : Value) : Prop := (∃ s, e = misV c s) ∨ (∃ s1 s, e = refV s1 (misV c s)) ∨ ∃ s2 s1 s, e = refV s2 (refV s1 (misV c s))
def ErrC1 (c : Int) (e : Value) : Prop := (∃ s, e = misV c s) ∨ ∃ s1 s, e = refV s1 (misV c s)
theorem ErrC1.all {c : Int} {e : Value} (h : ErrC1 c e) : ErrC c e := h.elim (fun h => .inl h) fun h => .inr (.inl h)
theorem ErrC1.wrap {c : Int} {e : Value} (h : ErrC1 c e) (s : ByteArray) : ErrC c (refV s e) := by
  rcases h with ⟨x, rfl⟩ | ⟨y, x, rfl⟩
  · exact .inr (.inl ⟨_, _, rfl⟩)
  · exact .inr (.inr ⟨_, _, _, rfl⟩)
theorem ErrC.neq {c : Int} {e : Value} (h : ErrC c e) (w : World) : (binOp .neq 160 e .nilIface).run Tryz.prog w = .ok (.bool true) w := by
  rcases h with ⟨x, rfl⟩ | ⟨y, x, rfl⟩ | ⟨z, y, x, rfl⟩ <;> kernel_rfl
theorem ErrC.eql {c : Int} {e : Value} (h : ErrC c e) (w : World) : (binOp .eql 160 e .nilIface).run Tryz.prog w = .ok (.bool false) w := by
  rcases h with ⟨x, rfl⟩ | ⟨y, x, rfl⟩ | ⟨z, y, x, rfl⟩ <;> kernel_rfl
theorem ErrC.gneq {c : Int} {e : Value} (h : ErrC c e) (n : Nat) (w : World) : (eqGuard .neq 160 (.tmp n) (.const .nilIface) e .nilIface).run Tryz.prog w = .ok () w := by
  rcases h with ⟨x, rfl⟩ | ⟨y, x, rfl⟩ | ⟨z, y, x, rfl⟩ <;> kernel_rfl
theorem ErrC.geql {c : Int} {e : Value} (h : ErrC c e) (n : Nat) (w : World) : (eqGuard .eql 160 (.tmp n) (.const .nilIface) e .nilIface).run Tryz.prog w = .ok () w := by
  rcases h with ⟨x, rfl⟩ | ⟨y, x, rfl⟩ | ⟨z, y, x, rfl⟩ <;> kernel_rfl
theorem as_any {c : Int} {e : Value} (h : ErrC c e) (tb vb : Nat) (o0 o1 T : Value) (w : World) (cv : w.cell? ⟨vb, 0, none⟩ = some (.pointer (some ⟨tb, 0, none⟩))) (t0 : w.cell? ⟨tb, 0, none⟩ = some o0) (t1 : w.cell? ⟨tb, 1, none⟩ = some o1) (f0 : w.frozen? ⟨tb, 0, none⟩ = false) (f1 : w.frozen? ⟨tb, 1, none⟩ = false) :
    Calls Tryz.prog 297 #[e, T, rval 322 ⟨vb, 0, none⟩ 150, .iface 384 (.agg #[hdl 315])] w (AsHit tb c w) := by
  rcases h with ⟨x, rfl⟩ | ⟨y, x, rfl⟩ | ⟨z, y, x, rfl⟩
  · exact as_0 c x tb vb o0 o1 T w cv t0 t1 f0 f1
  · exact as_1 c x y tb vb o0 o1 T w cv t0 t1 f0 f1
  · exact as_2 c x y z tb vb o0 o1 T w cv t0 t1 f0 f1
set_option maxHeartbeats 4000000 in
theorem As_err {c : Int} {e : Value} (h : ErrC c e) (tb : Nat) (o0 o1 : Value) (w : World) (hg : ErrT w) (t0 : w.cell? ⟨tb, 0, none⟩ = some o0) (t1 : w.cell? ⟨tb, 1, none⟩ = some o1) (f0 : w.frozen? ⟨tb, 0, none⟩ = false) (f1 : w.frozen? ⟨tb, 1, none⟩ = false) :
    Calls Tryz.prog 262 #[e, .iface 322 (.pointer (some ⟨tb, 0, none⟩))] w (AsHit tb c w) := by
  have hV := @run_callFunc_extern Tryz.prog 294 _ (fun args => ReflectliteValue.unpack (args.getD 0 (.tuple #[]))) Tryz.func294 (by kernel_rfl) (by kernel_rfl) (by kernel_rfl) (by kernel_rfl)
  have hT := @run_callFunc_extern Tryz.prog 295 _ (ReflectliteValue.methodAny (ReflectliteValue.valueError "reflectlite.Value.Type" 0) (fun t _ _ _ => ReflectliteType.toType t)) Tryz.func295 (by kernel_rfl) (by kernel_rfl) (by kernel_rfl) (by kernel_rfl)
  have hN := @run_callFunc_extern Tryz.prog 296 _ (ReflectliteValue.method (ReflectliteValue.valueError "reflectlite.Value.IsNil" 0) ReflectliteValue.isNil) Tryz.func296 (by kernel_rfl) (by kernel_rfl) (by kernel_rfl) (by kernel_rfl)
  have hK := @run_callFunc_extern Tryz.prog 360 _ (ReflectliteType.abiMethod fun t => do pure (.int .u8 (← Rtype.kind t))) Tryz.func360 (by kernel_rfl) (by kernel_rfl) (by kernel_rfl) (by kernel_rfl)
  have hE := @run_callFunc_extern Tryz.prog 375 _ (ReflectliteType.method ReflectliteType.elem) Tryz.func375 (by kernel_rfl) (by kernel_rfl) (by kernel_rfl) (by kernel_rfl)
  have hI := @run_callFunc_extern Tryz.prog 376 _ (ReflectliteType.relation "Implements" ReflectliteType.implements_) Tryz.func376 (by kernel_rfl) (by kernel_rfl) (by kernel_rfl) (by kernel_rfl)
  have v2 := rl_valueOfP
  have ty := rl_typeP
  have mK := rl_mKind
  have mE := rl_mElem
  have mI := rl_mImpl
  have k1 := rl_kindP
  have k2 := rl_kindM
  have e1 := rl_elemP
  have i1 := rl_implM
  have ne := h.eql
  have ng := h.geql
  have n1 := rl_isNilP ⟨w.heap.size, 0, none⟩ ⟨tb, 0, none⟩ ((w.alloc (.cells #[.pointer (some ⟨tb, 0, none⟩)] 322)).alloc (.cells #[hdl 322, .pointer (some ⟨w.heap.size, 0, none⟩), .int .u64 150] 361)) (by simp)
  have hg2 : ((w.alloc (.cells #[.pointer (some ⟨tb, 0, none⟩)] 322)).alloc (.cells #[hdl 322, .pointer (some ⟨w.heap.size, 0, none⟩), .int .u64 150] 361)).cell? ⟨3, 0, none⟩ = some (.iface 384 (.agg #[.pointer (some ⟨8, 160, none⟩)])) :=
    ((hg.on (bal (Below.refl _ _) _)).on (bal (Below.refl _ _) _)).cell
  have htl : tb < w.heap.size := cell_lt t0
  have hb : Below w.heap.size w ((w.alloc (.cells #[.pointer (some ⟨tb, 0, none⟩)] 322)).alloc (.cells #[hdl 322, .pointer (some ⟨w.heap.size, 0, none⟩), .int .u64 150] 361)) := bal (bal (Below.refl _ _) _) _
  have A := as_any h tb w.heap.size o0 o1 (.iface 322 (.pointer (some ⟨tb, 0, none⟩))) _ (show ((w.alloc (.cells #[.pointer (some ⟨tb, 0, none⟩)] 322)).alloc (.cells #[hdl 322, .pointer (some ⟨w.heap.size, 0, none⟩), .int .u64 150] 361)).cell? ⟨w.heap.size, 0, none⟩ = some (.pointer (some ⟨tb, 0, none⟩)) by simp) (cell_keep hb t0) (cell_keep hb t1) ((hb.frozen (p := ⟨tb, 0, none⟩) htl).trans f0) ((hb.frozen (p := ⟨tb, 1, none⟩) htl).trans f1)
  have HB := Lib.hid (hb.mono (Nat.le_of_lt htl))
  clear hb t0 t1 f0 f1 hg htl h
  go_enter Tryz.func262, Tryz.ntmps262
  go_wp2_with fail
  refine A.mono ?_
  rintro r w2 ⟨rfl, q0, b2⟩
  have F := Lib.hid (And.intro q0 (Below.trans HB.out b2))
  clear q0 b2 HB
  go_wp2
  go_ret
  exact ⟨rfl, F.out.1, F.out.2⟩
theorem codeOf_err {c : Int} {e : Value} (h : ErrC c e) (w : World) (hg : ErrT w) :
    Calls Tryz.prog 198 #[e] w fun r w' => r = .returned (.int .i64 c) ∧ Below w.heap.size w w' := by
  have hg1 := fun o => hg.on (bal (Below.refl _ w) o)
  clear hg
  go_enter Tryz.func198, Tryz.ntmps198
  go_wp2_with fail
  refine (As_err h w.heap.size (.int .i64 0) (.string { data := #[] }) _ (hg1 _) (by go_simp) (by go_simp) (by go_simp) (by go_simp)).mono ?_
  rintro r w1 ⟨rfl, q0, hb⟩
  have hb2 := Below.trans (bal (Below.refl _ w) _) hb
  clear hb hg1
  go_wp2_with fail
  go_ret
  exact ⟨rfl, hb2⟩
end Go.Proofs.YtlodhleihnlchaaGreatDoor
namespace Go.Proofs.YtlodhleihnlchaaGreatDoor
set_option linter.unusedVariables false

structure RollD where
  p : PinD
  b : Int
  x : Int
  y : Int
def roll0 : RollD := ⟨pin0, 0, 0, 0⟩
instance : Inhabited RollD := ⟨roll0⟩
abbrev R8 (r : RollD) : Value := .agg #[.string r.p.n, .int .i64 r.p.a, .int .i64 r.p.b, .int .i64 r.p.e, .int .i64 r.p.u, .int .i64 r.b, .int .i64 r.x, .int .i64 r.y]
def RollD.vals (r : RollD) : List Value := [.string r.p.n, .int .i64 r.p.a, .int .i64 r.p.b, .int .i64 r.p.e, .int .i64 r.p.u, .int .i64 r.b, .int .i64 r.x, .int .i64 r.y]
abbrev R9 (c : Int) (r : RollD) : Value := .agg #[.int .i64 c, .string r.p.n, .int .i64 r.p.a, .int .i64 r.p.b, .int .i64 r.p.e, .int .i64 r.p.u, .int .i64 r.b, .int .i64 r.x, .int .i64 r.y]
def RollD.f (r : RollD) : Int := if r.p.f = 0 then (if pubB r.b then M.sigF r.x r.y else 3) else r.p.f
theorem rollF_pin {r : RollD} (h : r.p.f ≠ 0) : r.f = r.p.f := by unfold RollD.f; rw [if_neg h]
theorem rollF_by {r : RollD} (h : r.p.f = 0) (h1 : pubB r.b = false) : r.f = 3 := by unfold RollD.f; rw [if_pos h, h1]; rfl
theorem rollF_sig {r : RollD} (h : r.p.f = 0) (h1 : pubB r.b = true) : r.f = M.sigF r.x r.y := by unfold RollD.f; rw [if_pos h, if_pos h1]
theorem sigF_no {x y : Int} (h : M.sigB x y = false) : M.sigF x y = 3 := by simp [M.sigF, h]
theorem sigF_yes {x y : Int} (h : M.sigB x y = true) : M.sigF x y = 0 := by simp [M.sigF, h]
theorem rollF_zero {r : RollD} (h : r.f = 0) : r.p.f = 0 ∧ pubB r.b = true ∧ M.sigB r.x r.y = true := by
  by_cases h0 : r.p.f = 0
  · cases h1 : pubB r.b
    · rw [rollF_by h0 h1] at h; omega
    · rw [rollF_sig h0 h1] at h
      cases h2 : M.sigB r.x r.y
      · rw [sigF_no h2] at h; omega
      · exact ⟨h0, rfl, rfl⟩
  · rw [rollF_pin h0] at h; exact absurd h h0
def rsum (p : PinD) : Int := M.tagL M.rollS [M.sumL (packP p)]
theorem rsum_bd (p : PinD) : 0 ≤ rsum p ∧ rsum p < 65521 := M.tagL_bd _ _
theorem rsum_sum (p : PinD) : M.sumB (rsum p) = true := by
  have := rsum_bd p
  simp only [M.sumB, decide_eq_true_eq]; omega
def chk (o : PinD) (r : RollD) (t : Int) : Int :=
  if r.p.nm = o.nm then (if r.p.e = o.e + 1 then (if r.b = o.a ∨ r.b = o.b then (if t ≤ o.u then (if M.checkB r.b (rsum r.p) r.x r.y then 0 else 9) else 11) else 10) else 11) else 1
theorem chk_name {o : PinD} {r : RollD} {t : Int} (h : r.p.nm ≠ o.nm) : chk o r t = 1 := by unfold chk; rw [if_neg h]
theorem chk_ep {o : PinD} {r : RollD} {t : Int} (h : r.p.nm = o.nm) (h1 : r.p.e ≠ o.e + 1) : chk o r t = 11 := by unfold chk; rw [if_pos h, if_neg h1]
theorem chk_by {o : PinD} {r : RollD} {t : Int} (h : r.p.nm = o.nm) (h1 : r.p.e = o.e + 1) (h2 : r.b ≠ o.a) (h3 : r.b ≠ o.b) : chk o r t = 10 := by
  unfold chk; rw [if_pos h, if_pos h1, if_neg (by rintro (h | h); exact h2 h; exact h3 h)]
theorem chk_old {o : PinD} {r : RollD} {t : Int} (h : r.p.nm = o.nm) (h1 : r.p.e = o.e + 1) (h2 : r.b = o.a ∨ r.b = o.b) (h3 : ¬ t ≤ o.u) : chk o r t = 11 := by unfold chk; rw [if_pos h, if_pos h1, if_pos h2, if_neg h3]
theorem chk_sign {o : PinD} {r : RollD} {t : Int} (h : r.p.nm = o.nm) (h1 : r.p.e = o.e + 1) (h2 : r.b = o.a ∨ r.b = o.b) (h3 : t ≤ o.u) (h4 : M.checkB r.b (rsum r.p) r.x r.y = false) : chk o r t = 9 := by unfold chk; rw [if_pos h, if_pos h1, if_pos h2, if_pos h3, h4]; rfl
theorem chk_yes {o : PinD} {r : RollD} {t : Int} (h : r.p.nm = o.nm) (h1 : r.p.e = o.e + 1) (h2 : r.b = o.a ∨ r.b = o.b) (h3 : t ≤ o.u) (h4 : M.checkB r.b (rsum r.p) r.x r.y = true) : chk o r t = 0 := by unfold chk; rw [if_pos h, if_pos h1, if_pos h2, if_pos h3, if_pos h4]
def checkF (o : PinD) (r : RollD) (t : Int) : Int := if o.f = 0 then (if r.f = 0 then (if timB t then chk o r t else 3) else r.f) else o.f
theorem checkF_old {o : PinD} {r : RollD} {t : Int} (h : o.f ≠ 0) : checkF o r t = o.f := by unfold checkF; rw [if_neg h]
theorem checkF_roll {o : PinD} {r : RollD} {t : Int} (h : o.f = 0) (h1 : r.f ≠ 0) : checkF o r t = r.f := by unfold checkF; rw [if_pos h, if_neg h1]
theorem checkF_time {o : PinD} {r : RollD} {t : Int} (h : o.f = 0) (h1 : r.f = 0) (h2 : timB t = false) : checkF o r t = 3 := by unfold checkF; rw [if_pos h, if_pos h1, h2]; rfl
theorem checkF_chk {o : PinD} {r : RollD} {t : Int} (h : o.f = 0) (h1 : r.f = 0) (h2 : timB t = true) : checkF o r t = chk o r t := by unfold checkF; rw [if_pos h, if_pos h1, if_pos h2]
def applyC (ps : List PinD) (r : RollD) (t : Int) : Int :=
  if pinsF ps = 0 then (if r.f = 0 then (match findP ps r.p.nm with
    | none => 4
    | some q => if checkF q r t = 0 then putC ps r.p else checkF q r t) else r.f) else pinsF ps
def applyL (ps : List PinD) (r : RollD) (t : Int) : List PinD := if applyC ps r t = 0 then putR ps r.p else []
theorem applyC_list {ps : List PinD} {r : RollD} {t : Int} (h : pinsF ps ≠ 0) : applyC ps r t = pinsF ps ∧ applyL ps r t = [] := by
  have e : applyC ps r t = pinsF ps := by unfold applyC; rw [if_neg h]
  exact ⟨e, by unfold applyL; rw [e, if_neg h]⟩
theorem applyC_roll {ps : List PinD} {r : RollD} {t : Int} (h : pinsF ps = 0) (h1 : r.f ≠ 0) : applyC ps r t = r.f ∧ applyL ps r t = [] := by
  have e : applyC ps r t = r.f := by unfold applyC; rw [if_pos h, if_neg h1]
  exact ⟨e, by unfold applyL; rw [e, if_neg h1]⟩
theorem applyC_none {ps : List PinD} {r : RollD} {t : Int} (h : pinsF ps = 0) (h1 : r.f = 0) (h2 : findP ps r.p.nm = none) : applyC ps r t = 4 ∧ applyL ps r t = [] := by
  have e : applyC ps r t = 4 := by unfold applyC; rw [if_pos h, if_pos h1, h2]
  exact ⟨e, by unfold applyL; rw [e]; rfl⟩
theorem applyC_check {ps : List PinD} {r : RollD} {t : Int} {q : PinD} (h : pinsF ps = 0) (h1 : r.f = 0) (h2 : findP ps r.p.nm = some q) (h3 : checkF q r t ≠ 0) : applyC ps r t = checkF q r t ∧ applyL ps r t = [] := by
  have e : applyC ps r t = checkF q r t := by
    unfold applyC; rw [if_pos h, if_pos h1, h2]
    simp only
    rw [if_neg h3]
  exact ⟨e, by unfold applyL; rw [e, if_neg h3]⟩
theorem applyC_put {ps : List PinD} {r : RollD} {t : Int} {q : PinD} (h : pinsF ps = 0) (h1 : r.f = 0) (h2 : findP ps r.p.nm = some q) (h3 : checkF q r t = 0) : applyC ps r t = putC ps r.p ∧ applyL ps r t = putR ps r.p := by
  have e : applyC ps r t = putC ps r.p := by
    unfold applyC; rw [if_pos h, if_pos h1, h2]
    simp only
    rw [if_pos h3]
  refine ⟨e, ?_⟩
  unfold applyL
  rw [e]
  by_cases h4 : putC ps r.p = 0
  · rw [if_pos h4]
  · rw [if_neg h4]; unfold putR; rw [if_neg h4]
theorem applyC_zero {ps : List PinD} {r : RollD} {t : Int} (h : applyC ps r t = 0) : pinsF ps = 0 ∧ r.f = 0 ∧ ∃ q, findP ps r.p.nm = some q ∧ checkF q r t = 0 ∧ putC ps r.p = 0 ∧ applyL ps r t = putR ps r.p := by
  by_cases h0 : pinsF ps = 0
  · by_cases h1 : r.f = 0
    · cases h2 : findP ps r.p.nm with
      | none => rw [(applyC_none h0 h1 h2).1] at h; omega
      | some q =>
        by_cases h3 : checkF q r t = 0
        · obtain ⟨e1, e2⟩ := applyC_put h0 h1 h2 h3
          exact ⟨h0, h1, q, rfl, h3, e1 ▸ h, e2⟩
        · rw [(applyC_check h0 h1 h2 h3).1] at h; exact absurd h h3
    · rw [(applyC_roll h0 h1).1] at h; exact absurd h h1
  · rw [(applyC_list h0).1] at h; exact absurd h h0
def signD (s : Int) (p : PinD) : RollD := ⟨p, M.pubN s, M.sigPt s (rsum p), M.sigPr s (rsum p)⟩
end Go.Proofs.YtlodhleihnlchaaGreatDoor
