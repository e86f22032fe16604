/- Contracts of cuts, and of what is wrong with a name by the model. Conditions: as each theorem states. -/
import Derived.Test.YtlodhleihnlchaaDoorC5b
import Derived.Test.YtlodhleihnlchaaDoorC2e
import Derived.Lib.IndexBytes
namespace Go.Proofs.YtlodhleihnlchaaDoor
open Go.RowKit
set_option maxRecDepth 100000
set_option linter.unusedVariables false

theorem str_info : (Tryd.prog.info? 9).map (fun i => (i.zero, i.size, i.bytes)) = some (some (.string ByteArray.empty), 1, 16) := by kernel_rfl

/-- A slice of texts that the call made. -/
def OwnS (w : World) (B : Nat) (v : Value) (ps : List (List UInt8)) : Prop := Own w B 1 v ps.length (ps.map fun p => Value.string (M.bs p))
theorem strs_oneCell (ps : List (List UInt8)) : ∀ u ∈ ps.map (fun p => Value.string (M.bs p)), u.oneCell' = true := by
  intro u hu
  obtain ⟨p, _, rfl⟩ := List.mem_map.1 hu
  rfl
/-- While a text is cut. -/
inductive CutRel (W : World) (s : ByteArray) (v fv : Value) (k : Nat) (wr : World) : Prop
  | on (done : List (List UInt8)) (f : Nat) : fv = .int .i64 f → M.CutAt s.data.toList done f k → OwnS wr W.heap.size v done → Below W.heap.size W wr → CutRel W s v fv k wr
  | off (f : Nat) : fv = .int .i64 f → k = s.size + 1 → OwnS wr W.heap.size v (M.cutL [] s.data.toList) → Below W.heap.size W wr → CutRel W s v fv k wr

theorem own_more {W wr w2 : World} {v v2 : Value} {done : List (List UInt8)} {p : List UInt8} {x : ByteArray} {o : Obj} (ho : OwnS wr W.heap.size v done) (hb : Below W.heap.size W wr) (hx : x = M.bs p)
    (hown : Own w2 W.heap.size 1 v2 (done.length + 1) (done.map (fun p => Value.string (M.bs p)) ++ [.string x])) (hg : (wr.alloc o).grownBy w2 v.ownBlock) : OwnS w2 W.heap.size v2 (done ++ [p]) ∧ Below W.heap.size W w2 := by
  have hsz := hb.size
  refine ⟨?_, (Own.alloc ho o).grown (bal hb o) (by simp; omega) hg⟩
  unfold OwnS
  rw [hx] at hown
  simpa using hown

def CutMade (s : ByteArray) (w : World) (r : Ending) (w' : World) : Prop := ∃ a n c, r = .returned (.slice a n c) ∧ OwnS w' w.heap.size (.slice a n c) (M.cutL [] s.data.toList) ∧ Below w.heap.size w w'

theorem l1Cut_any (s : ByteArray) (w : World) (hs : s.size ≤ 20) :
    Calls Tryd.prog 46 #[.string s, .int .u8 46] w (CutMade s w) := by
  obtain ⟨i0, hi0, hz0, hz1, hz2⟩ := info_parts str_info
  have hL : s.data.toList.length = s.size := by simp
  have T0 : CutRel w s (.slice (some ⟨w.heap.size, 0, none⟩) 0 0) (.int .i64 0) 0 (w.alloc (.cells #[] 9)) :=
    .on [] 0 rfl (M.CutAt.zero _) (own_empty w 9) (bal (Below.refl _ _) _)
  have h1 : ∀ x : ByteArray, ∀ u ∈ [Value.string x], u.oneCell' = true := fun x u hu => by simp at hu; subst hu; rfl
  go_enter Tryd.func46, Tryd.ntmps46
  go_wp2_with fail
  generalize w.alloc (.cells #[] 9) = W1 at *
  go_loopw [5, 6, 7] (fun v f i wr => ∃ k : Nat, k ≤ s.size + 1 ∧ i = .int .i64 k ∧ CutRel w s v f k wr) (fun _ _ i _ => s.size + 1 - (intOf i).toNat)
  case atStart => exact ⟨0, Nat.zero_le _, rfl, T0⟩
  case round =>
    obtain ⟨k, hk, rfl, hT⟩ := hrel
    rcases hT with ⟨done, f, rfl, hc, ho, hb⟩ | ⟨f, rfl, rfl, ho, hb⟩
    · have hfk := hc.1
      have hkl := hc.2.1
      rw [hL] at hkl
      have hdl := hc.done_le
      rw [hL] at hdl
      have hsz := hb.size
      by_cases hlt : k < s.size
      · have hbyte : s.data.toList[k]? = some s[k] := Lib.data_getElem? s k hlt
        have hne : ((k : Int) == (s.size : Int)) = false := by simp; omega
        cases hd : M.dotB s[k]
        · have hq := Lib.hid (hc.next hbyte hd)
          have hd' : ((s[k].toNat : Int) == 46) = false := by simpa [M.dotB] using hd
          clear hbyte hd hc hL
          have HO := Lib.hid (And.intro ho hb)
          clear ho hb
          go_wp2_with fail
          go_roundw
          case rel => exact ⟨k + 1, by omega, by go_num, .on done f rfl hq.out HO.out.1 HO.out.2⟩
          case measure => simp [intOf]; omega
        · have hq := Lib.hid (hc.cut hbyte hd)
          have hd' : ((s[k].toNat : Int) == 46) = true := by simpa [M.dotB] using hd
          clear hbyte hd hc hL
          go_wp2_with (at_builtin; refine wpList_append_src _ rfl (.tmp 26) (.tmp 31) 82 82 rfl w.heap.size 9 i0 (.string ByteArray.empty) 1 16 Tryd.underlying82 hi0 hz0 hz1 hz2 rfl _ _ _ rfl (Own.alloc ho _) _ 1 [.string (s.extract f k)] rfl (src_new wr _ 1 1 _ _ _ Tryd.underlying82 rfl (h1 _)) (by simp only [maxLen]; omega) (by omega) (by simp; omega) ?_; intro v2 w2 hown hgrow hat)
          have T3 := own_more ho hb (M.bs_extract s f k) hown hgrow
          clear hown hgrow hat ho hb
          go_wp2_with fail
          go_roundw
          case rel => exact ⟨k + 1, by omega, by go_num, .on _ (k + 1) (by go_num) hq.out T3.1 T3.2⟩
          case measure => simp [intOf]; omega
      · obtain rfl : k = s.size := by omega
        have hq := hc
        rw [← hL] at hq
        have HQ := Lib.hid hq.last
        clear hc hL hq
        go_wp2_with (at_builtin; refine wpList_append_src _ rfl (.tmp 26) (.tmp 31) 82 82 rfl w.heap.size 9 i0 (.string ByteArray.empty) 1 16 Tryd.underlying82 hi0 hz0 hz1 hz2 rfl _ _ _ rfl (Own.alloc ho _) _ 1 [.string (s.extract f s.size)] rfl (src_new wr _ 1 1 _ _ _ Tryd.underlying82 rfl (h1 _)) (by simp only [maxLen]; omega) (by omega) (by simp; omega) ?_; intro v2 w2 hown hgrow hat)
        have T3 := own_more ho hb (M.bs_extract s f s.size) hown hgrow
        clear hown hgrow hat ho hb
        go_wp2_with fail
        go_roundw
        case rel => exact ⟨s.size + 1, by omega, by go_num, .off (s.size + 1) (by go_num) rfl (by rw [HQ.out]; simpa using T3.1) T3.2⟩
        case measure => simp [intOf]
    · obtain ⟨a, c, hv, -⟩ := Own.form ho
      subst hv
      go_wp2_with fail
      go_ret
      exact ⟨_, _, _, rfl, ho, hb⟩

theorem OwnS.at {w : World} {B : Nat} {a : Option Addr} {n c : Nat} {ps : List (List UInt8)} (h : OwnS w B (.slice a n c) ps) {j : Nat} {p : List UInt8} (hp : ps[j]? = some p) :
    n = ps.length ∧ n ≤ c ∧ c ≤ maxLen ∧ ∃ g, a = some ⟨g, 0, none⟩ ∧ w.cell? ⟨g, j, none⟩ = some (.string (M.bs p)) := by
  have hj := (List.getElem?_eq_some_iff.1 hp).1
  rcases h.2 with ⟨e, h0⟩ | ⟨g, c', e, hB, hg, h1, h2, hc, hr⟩
  · omega
  · injection e with e1 e2 e3
    subst e1
    subst e3
    refine ⟨e2, by omega, h2, g, rfl, hc j _ ?_⟩
    rw [List.getElem?_map, hp]
    rfl
theorem OwnS.len {w : World} {B : Nat} {a : Option Addr} {n c : Nat} {ps : List (List UInt8)} (h : OwnS w B (.slice a n c) ps) : n = ps.length := by
  rcases h.2 with ⟨e, h0⟩ | ⟨g, c', e, _⟩
  · injection e with e1 e2 e3
    omega
  · injection e

theorem l5Fault_any (s : ByteArray) (w : World) (hs : s.size ≤ maxLen) :
    Calls Tryd.prog 27 #[.string s] w fun e w' => e = .returned (.int .i64 (M.nameF s.data.toList)) ∧ Below w.heap.size w w' := by
  have hL : s.data.toList.length = s.size := by simp
  have hm := hs
  unfold maxLen at hs
  by_cases h : 20 < s.size
  · have HE := Lib.hid (M.nameF_long (l := s.data.toList) (by omega))
    have h' : (20 : Int) < s.size := by omega
    go_enter Tryd.func27, Tryd.ntmps27
    go_wp2_with fail
    go_ret
    exact ⟨ret_int HE.out.symm, Below.refl _ _⟩
  have h' : ¬ (20 : Int) < s.size := by omega
  have hbl := M.bare_length s.data.toList
  have C1 : ∀ w, Calls Tryd.prog 46 #[.string (M.bs (M.bare s.data.toList)), .int .u8 46] w fun r w' => ∃ a n c, r = .returned (.slice a n c) ∧ OwnS w' w.heap.size (.slice a n c) (M.cutL [] (M.bare s.data.toList)) ∧ Below w.heap.size w w' :=
    fun w => (l1Cut_any (M.bs (M.bare s.data.toList)) w (by rw [M.bs_size]; omega)).mono fun r w' h => by
      unfold CutMade at h
      rwa [M.bs_list] at h
  have HE := Lib.hid (show M.nameF s.data.toList = if (M.cutL [] (M.bare s.data.toList)).all M.partB then 0 else 5 by
    unfold M.nameF
    rw [if_neg (by omega), M.hasP_eq])
  have HP := Lib.hid (M.cutL_part (M.bare s.data.toList) [])
  have hn0 := M.cutL_length (M.bare s.data.toList) []
  obtain ⟨ps, hps⟩ : ∃ ps, ps = M.cutL [] (M.bare s.data.toList) := ⟨_, rfl⟩
  simp only [← hps] at C1 HE HP hn0
  clear hps
  go_enter Tryd.func27, Tryd.ntmps27
  go_wp2_with fail
  refine (l5Bare_any s _ hm).mono ?_
  rintro r w' ⟨rfl, rfl⟩
  go_wp2_with fail
  refine (C1 _).mono ?_
  rintro r w1 ⟨a, n, c, rfl, ho, hb⟩
  clear C1
  obtain rfl := ho.len
  go_wp2_with fail
  go_loop [4] (fun i => ∃ k : Nat, k ≤ ps.length ∧ i = .int .i64 k ∧ Hid ((ps.take k).all M.partB = true)) (fun i => ps.length - (intOf i).toNat)
  case atStart => exact ⟨0, Nat.zero_le _, rfl, Lib.hid (by simp)⟩
  case round =>
    obtain ⟨k, hk, rfl, hall⟩ := hrel
    by_cases hlt : k < ps.length
    · obtain ⟨p, hp⟩ : ∃ p, ps[k]? = some p := ⟨ps[k], by simp [hlt]⟩
      obtain ⟨-, hnc, hcm, g, rfl, hcell⟩ := ho.at hp
      have hpl := HP.out p (List.mem_of_getElem? hp)
      have F := fun w => l5Part_any (M.bs p) w (by rw [M.bs_size]; simp only [maxLen]; simp at hpl; omega)
      simp only [M.bs_list] at F
      unfold maxLen at hcm
      cases hb2 : M.partB p
      · have HN : Hid (ps.all M.partB = false) := Lib.hid (by
          rw [List.all_eq_false]
          exact ⟨p, List.mem_of_getElem? hp, by simp [hb2]⟩)
        simp only [hb2] at F
        clear hp hpl
        go_wp2_with fail
        refine (F _).mono ?_
        rintro r w' ⟨rfl, rfl⟩
        go_wp2_with fail
        go_ret
        exact ⟨ret_int (by rw [HE.out, HN.out]; rfl), hb⟩
      · have HN : Hid ((ps.take (k + 1)).all M.partB = true) := Lib.hid (by
          rw [List.take_add_one, hp, List.all_append, hall.out]
          simp [hb2])
        simp only [hb2] at F
        clear hp hpl
        go_wp2_with fail
        refine (F _).mono ?_
        rintro r w' ⟨rfl, rfl⟩
        go_wp2_with fail
        go_round
        case rel => exact ⟨k + 1, by omega, by go_num, HN⟩
        case measure => simp [intOf]; omega
    · obtain rfl : k = ps.length := by omega
      go_wp2_with fail
      go_ret
      exact ⟨ret_int (by rw [HE.out, show ps.all M.partB = true by have := hall.out; rwa [List.take_length] at this]; rfl), hb⟩
end Go.Proofs.YtlodhleihnlchaaDoor
