/- Texts of this seat that several laws rest on, laid into one. Conditions: as each theorem states. -/
import Derived.Test.YtcolecidbalmhaaGreatDoorS0
import Derived.Test.YtcolecidbalmhaaGreatDoorS1
import Derived.Test.YtcolecidbalmhaaGreatDoorS2
import Derived.Test.YtcolecidbalmhaaGreatDoorS3
import Derived.Test.YtcolecidbalmhaaGreatDoorS5
import Derived.Sort.LotA
import Derived.Deep.DeepCutAuto
import Derived.Deep.WholeRow
namespace Go.Proofs.YtcolecidbalmhaaGreatDoor
open Go.RowKit Go.Maps Go.Sort Go.Shelf
set_option maxRecDepth 100000
set_option linter.unusedVariables false

theorem flatK_get (ps : List PinD) (t : Nat) (h : t < ps.length * 5) : (flatK PinD.vals 5 ps.toArray)[t]! = ((ps[t / 5]?.getD pin0).vals)[t % 5]! := by
  rw [get_flatK _ _ _ _ (by simpa using h)]
  have h5 : t / 5 < ps.length := by omega
  congr 2
  simp [h5]
theorem vals_get (p : PinD) {i : Nat} (hi : i < 5) : p.vals[i]? = some p.vals[i]! := by
  rw [List.getElem?_eq_getElem (by rw [PinD.vals_length]; exact hi), List.getElem!_eq_getElem?_getD, List.getElem?_eq_getElem (by rw [PinD.vals_length]; exact hi)]
  rfl
theorem OwnP.holds {w : World} {B g n c : Nat} {ps : List PinD} (h : OwnP w B (.slice (some ⟨g, 0, none⟩) n c) ps) : HoldsK PinD.vals 5 w g 0 ps.toArray := by
  intro j hj
  rw [size_flatK] at hj
  have hj' : j < ps.length * 5 := by simpa using hj
  have h5 : j / 5 < ps.length := by omega
  have hm : j % 5 < 5 := Nat.mod_lt _ (by omega)
  have hjj : j / 5 * 5 + j % 5 = j := by omega
  rw [flatK_get ps j hj']
  have := h.cell h5 (vals_get (ps[j / 5]?.getD pin0) hm)
  rw [hjj] at this
  rw [Nat.zero_add]
  exact this
theorem grownBy_sortK {w : World} {g m : Nat} {os : Array Obj} (d : Array PinD) : w.grownBy (sortWorldK PinD.vals 5 w g 0 m d os) (some g) := by
  refine ⟨rfl, rfl, rfl, by simp [sortWorldK, putRowK], fun k hk hne => ?_⟩
  unfold sortWorldK putRowK putRow mapBlock
  rw [heap_grow_old _ _ (by simpa using hk)]
  have : g ≠ k := fun e => hne (by rw [e])
  simp [Array.getElem?_modify, this]
theorem OwnP.sorted {w : World} {B g n c m : Nat} {xs ys : List PinD} {os : Array Obj} (h : OwnP w B (.slice (some ⟨g, 0, none⟩) n c) xs) (hl : ys.length = xs.length) :
    OwnP (sortWorldK PinD.vals 5 w g 0 m ys.toArray os) B (.slice (some ⟨g, 0, none⟩) n c) ys := by
  have hH := h.holds
  rcases h.2 with ⟨e, h0⟩ | ⟨g', c', e, hB, hg, hn, hm, hcell, hroom⟩
  · cases e
  injection e with e1 e2 e3
  injection e1 with e1
  injection e1 with e1 _ _
  subst e1
  subst e3
  have hK : HoldsK PinD.vals 5 (sortWorldK PinD.vals 5 w g 0 m ys.toArray os) g 0 ys.toArray :=
    holdsK_grow _ _ _ _ _ _ _ (by simp [putRowK]; exact hg) (holdsK_putRowK _ _ _ _ _ xs.toArray _ (holdsK_ahead _ _ _ _ _ _ _ hH) (by simpa using hl))
  refine ⟨by rw [flat_length], .inr ⟨g, c, by rw [e2, hl], hB, ?_, by omega, hm, fun j u hu => ?_, fun j hj => ?_⟩⟩
  · simp [sortWorldK, putRowK]; omega
  · have hj := (List.getElem?_eq_some_iff.1 hu).1
    rw [flat_length] at hj
    have h5 : j / 5 < ys.length := by omega
    have hm5 : j % 5 < 5 := Nat.mod_lt _ (by omega)
    have hjj : j / 5 * 5 + j % 5 = j := by omega
    have q1 := flat_get ys (j / 5) (j % 5) _ h5 (vals_get _ hm5)
    rw [hjj, hu] at q1
    injection q1 with q1
    have := (hK j (by rw [size_flatK]; simpa using hj)).1
    rw [flatK_get ys j hj, Nat.zero_add] at this
    rw [q1]
    exact this
  · by_cases hj5 : j < ys.length * 5
    · have := hK j (by rw [size_flatK]; simpa using hj5)
      rw [Nat.zero_add] at this
      exact ⟨by rw [this.1]; rfl, this.2⟩
    · obtain ⟨q1, q2⟩ := hroom j hj
      have hgw : g < (putRowK PinD.vals 5 (Sort.ahead w m) g 0 ys.toArray).heap.size := by simp [putRowK]; exact hg
      unfold sortWorldK
      rw [cell?_grow _ _ ⟨g, j, none⟩ hgw, frozen?_grow _ _ ⟨g, j, none⟩ hgw]
      unfold putRowK
      rw [frozen?_putRow, cell?_putRow_other _ _ _ _ _ ⟨g, j, none⟩ (.inr (.inr (by rw [size_flatK]; simp; omega)))]
      exact ⟨q1, q2⟩

theorem cmpPin_any (p q : PinD) (W : World) : Calls Tryz.prog 196 #[P5 p, P5 q] W fun e w' => e = .returned (.int .i64 (Lib.compareBytes p.nm q.nm)) ∧ ∃ n os', w' = grow (W.drewN n) os' := by
  have hcon : ∀ W', Calls Tryz.prog 197 #[.string p.n, .string q.n] W' fun e w' => e = .returned (.int .i64 (Lib.compareBytes p.nm q.nm)) ∧ w' = W' := fun W' => Any.strings_Compare lays106 p.n q.n W'
  generalize Lib.compareBytes p.nm q.nm = r at hcon ⊢
  go_enter Tryz.func196, Tryz.ntmps196
  go_wp2_with fail
  refine (hcon _).mono ?_
  rintro e w' ⟨rfl, rfl⟩
  go_wp2_with fail
  go_ret
  exact ⟨rfl, 0, _, by rw [alloc_eq_grow, alloc_eq_grow, grow_grow]; rfl⟩
def cfP (p q : PinD) : Int := Lib.compareBytes p.nm q.nm
theorem ltOf_cfP (p q : PinD) : ltOf cfP p q = nlt p.nm q.nm := cmp_lt p.nm q.nm
theorem swo_cfP : SWO (ltOf cfP) where
  irrefl x := by rw [ltOf_cfP]; exact nlt_irrefl _
  trans x y z h1 h2 := by rw [ltOf_cfP] at *; exact nlt_trans h1 h2
  ntrans x y z h1 h2 := by
    rw [ltOf_cfP] at *
    cases h : nlt x.nm z.nm
    · rfl
    · by_cases e : x.nm = y.nm
      · rw [e, h2] at h; cases h
      · have h3 := nlt_trans (nlt_total h1 e) h
        rw [h2] at h3
        cases h3
theorem sortFunc_any (blk cap : Nat) (xs : List PinD) (w : World) (hH : HoldsK PinD.vals 5 w blk 0 xs.toArray) (hb : blk < w.heap.size) (h12 : xs.length ≤ 12) :
    Calls Tryz.prog 235 #[.slice (some ⟨blk, 0, none⟩) xs.length cap, .func (.func 196) #[] #[]] w fun e w' =>
      e = .returned (.tuple #[]) ∧ ∃ (ys : List PinD) (n : Nat) (os : Array Obj), ys.Perm xs ∧ ys.Pairwise (fun p q => nlt q.nm p.nm = false) ∧ w' = sortWorldK PinD.vals 5 w blk 0 n ys.toArray os := by
  have eg : ∀ args w, (callFunc 196 args).run Tryz.prog w = .ok (.enter 196 args) w := enters_of Tryz.func196 (by kernel_rfl) rfl
  have hlen : ∀ (n : Nat) (W : World), n ≤ 12 → Calls Tryz.prog 261 #[.int .u64 n] W fun e w' => (∃ l : Int, e = .returned (.int .i64 l)) ∧ w' = W := fun n W h => (Any.bits_Len lays125 n W (by omega) (by omega)).mono fun _ _ ⟨he, hw⟩ => ⟨⟨_, he⟩, hw⟩
  have hcon := AnyQ.slices_SortFunc_small_sorted laysSort 5 Tryz.isAgg31 Tryz.sizeOf31 PinD.vals (fun _ => rfl) pin_oneCell cfP 196 #[] swo_cfP blk 0 cap xs.toArray w eg (fun _ _ _ _ x y => cmpPin_any x y _) hH hb (by simpa using h12) hlen
  simp only [List.size_toArray] at hcon
  refine Calls.mono (show Calls Tryz.prog 235 _ _ _ from hcon) ?_
  rintro e w' ⟨rfl, d', n, os, ⟨p1, p2, p3⟩, hs, rfl⟩
  refine ⟨rfl, d'.toList, n, os, ?_, ?_, by simp⟩
  · have e1 : d'.extract 0 xs.length = d' := by rw [Array.extract_eq_self_iff]; right; exact ⟨rfl, by simp at p1; omega⟩
    rw [e1] at p3
    simpa using p3
  · rw [List.pairwise_iff_getElem]
    intro i j hi hj hij
    have := hs i j (Nat.zero_le _) hij (by simp at p1 hj; omega)
    rw [ltOf_cfP] at this
    simp at hi hj
    simpa [hi, hj] using this

theorem OwnP.some' {w : World} {B : Nat} {v : Value} {xs : List PinD} (h : OwnP w B v xs) (hx : 0 < xs.length) : ∃ g c, v = .slice (some ⟨g, 0, none⟩) xs.length c ∧ B ≤ g ∧ g < w.heap.size := by
  rcases h.2 with ⟨e, h0⟩ | ⟨g, c, e, hB, hg, _⟩
  · omega
  · exact ⟨g, c, e, hB, hg⟩
theorem rise_of {xs ys ps : List PinD} (hp : ys.Perm ps) (ha : Apart ps) (h : ys.Pairwise (fun p q => nlt q.nm p.nm = false)) : Rise ys := by
  have ha' : Apart ys := (hp.symm.pairwise_iff (fun {a b} (h : a.nm ≠ b.nm) => h.symm)).1 ha
  exact (ha'.and h).imp fun ⟨h1, h2⟩ => nlt_total h2 (fun e => h1 e.symm)
/-- A new slice of the pins of ps in rising order was answered. -/
def Sorted (ps : List PinD) (w : World) (e : Ending) (w' : World) : Prop := ∃ g c ys, e = .returned (.slice (some ⟨g, 0, none⟩) ys.length c) ∧ ys.Perm ps ∧ Rise ys ∧ OwnP w' w.heap.size (.slice (some ⟨g, 0, none⟩) ys.length c) ys ∧ Below w.heap.size w w'
theorem sortedFunc_any (b Bm : Nat) (ps : List PinD) (w : World) (hBm : Bm < w.heap.size) (cm : w.cell? ⟨Bm, 0, none⟩ = some (.map (some b))) (hM : PMap w b ps) (hl : ps.length ≤ 12) (h0 : 0 < ps.length) :
    Calls Tryz.prog 194 #[.func (.func 236) #[] #[.pointer (some ⟨Bm, 0, none⟩)], .func (.func 196) #[] #[]] w (Sorted ps w) := by
  have ha := hM.apart
  have S := collect_any b Bm ps w hBm cm hM (by omega)
  clear hM cm
  go_enter Tryz.func194, Tryz.ntmps194
  go_wp2_with fail
  refine S.mono ?_
  rintro r u1 ⟨v, xs, rfl, hp, hO, b1⟩
  have hlx := hp.length_eq
  obtain ⟨g, c, rfl, hg0, hg1⟩ := hO.some' (by omega)
  have T := sortFunc_any g c xs u1 hO.holds hg1 (by omega)
  have HO := Lib.hid hO
  have HP := Lib.hid hp
  clear hO S hlx hp
  go_wp2_with fail
  refine T.mono ?_
  rintro r u2 ⟨rfl, ys, n, os, hq, hs, hw⟩
  have hl2 : xs.length = ys.length := hq.length_eq.symm
  have O2 : OwnP u2 w.heap.size (.slice (some ⟨g, 0, none⟩) xs.length c) ys := by
    rw [hw]
    exact HO.out.sorted (m := n) (os := os) (ys := ys) hq.length_eq
  have b2 : RowKit.Below w.heap.size w u2 := by
    rw [hw]
    exact b1.grown (grownBy_sortK (w := u1) (g := g) (m := n) (os := os) ys.toArray) b1.size (fun k e => by injection e with e; subst e; exact hg0)
  have H : Sorted ps w (.returned (.slice (some ⟨g, 0, none⟩) xs.length c)) u2 := ⟨g, c, ys, by rw [hl2], hq.trans HP.out, rise_of (xs := xs) (hq.trans HP.out) ha hs, by rw [← hl2]; exact O2, b2⟩
  have HH := Lib.hid H
  clear O2 b2 hs T HO hw H hq hl2
  go_wp2_with fail
  go_ret
  exact HH.out
theorem risingPins_any (b : Nat) (ps : List PinD) (w : World) (hM : PMap w b ps) (hl : ps.length ≤ 12) (h0 : 0 < ps.length) :
    Calls Tryz.prog 139 #[.map (some b)] w (Sorted ps w) := by
  have b0 := bal (Below.refl _ w) (.cells #[.map (some b)] 134)
  have X0 := (At.new w [.map (some b)] 134).cell 0 _ rfl
  have S := sortedFunc_any b w.heap.size ps _ (by simp) X0 (hM.alloc _) hl h0
  clear X0 hM
  go_enter Tryz.func139, Tryz.ntmps139
  go_wp2_with fail
  refine (values_any b _).mono ?_
  rintro r u1 ⟨rfl, rfl⟩
  go_wp2_with fail
  refine S.mono ?_
  rintro r u2 ⟨g, c, ys, rfl, hp, hr, hO, b2⟩
  have bb := btr b0 b2
  have hO2 := hO.less b0.size
  have H := Lib.hid (show Sorted ps w (.returned (.slice (some ⟨g, 0, none⟩) ys.length c)) u2 from ⟨g, c, ys, rfl, hp, hr, hO2, bb⟩)
  clear hO hO2 hr b2 bb
  go_wp2_with fail
  go_ret
  exact H.out
end Go.Proofs.YtcolecidbalmhaaGreatDoor
namespace Go.Proofs.YtcolecidbalmhaaGreatDoor
open Go.RowKit
set_option maxRecDepth 100000
set_option linter.unusedVariables false

/-- A code and a new slice of pins were answered. -/
def PinsRes (c : Int) (ps : List PinD) (w : World) (e : Ending) (w' : World) : Prop := ∃ a n cap, e = .returned (.agg #[.int .i64 c, .slice a n cap]) ∧ OwnP w' w.heap.size (.slice a n cap) ps ∧ Below w.heap.size w w'
theorem At.turned {g b : Nat} {cs : List Value} {w w' : World} (h : At g cs w) (ht : w.mapTurned w' b) (hne : g ≠ b) : At g cs w' := h.kept ht.grown (fun e => by injection e with e; exact hne e)
theorem putC_list {ps : List PinD} {p : PinD} (h : pinsF ps ≠ 0) : putC ps p = pinsF ps ∧ putR ps p = [] := by
  have e : putC ps p = pinsF ps := by unfold putC; rw [if_pos h]
  exact ⟨e, by unfold putR; rw [e, if_neg h]⟩
theorem putC_pin {ps : List PinD} {p : PinD} (h0 : pinsF ps = 0) (h : p.f ≠ 0) : putC ps p = p.f ∧ putR ps p = [] := by
  have e : putC ps p = p.f := by unfold putC; rw [if_neg (fun h => h h0), if_pos h]
  exact ⟨e, by unfold putR; rw [e, if_neg h]⟩
theorem putC_old {ps : List PinD} {p q : PinD} (h0 : pinsF ps = 0) (h1 : p.f = 0) (hq : findP ps p.nm = some q) (h : p.e ≤ q.e) : putC ps p = 11 ∧ putR ps p = [] := by
  have e : putC ps p = 11 := by unfold putC; rw [if_neg (fun h => h h0), if_neg (fun h => h h1), hq]; simp only; rw [if_pos h]
  exact ⟨e, by unfold putR; rw [e, if_neg (by decide)]⟩
theorem putC_young {ps : List PinD} {p q : PinD} (h0 : pinsF ps = 0) (h1 : p.f = 0) (hq : findP ps p.nm = some q) (h : ¬ p.e ≤ q.e) : putC ps p = 0 ∧ putR ps p = putL ps p := by
  have e : putC ps p = 0 := by unfold putC; rw [if_neg (fun h => h h0), if_neg (fun h => h h1), hq]; simp only; rw [if_neg h]
  exact ⟨e, by unfold putR; rw [if_pos e]⟩
theorem putC_full {ps : List PinD} {p : PinD} (h0 : pinsF ps = 0) (h1 : p.f = 0) (hq : findP ps p.nm = none) (h : ps.length = 4) : putC ps p = 7 ∧ putR ps p = [] := by
  have e : putC ps p = 7 := by unfold putC; rw [if_neg (fun h => h h0), if_neg (fun h => h h1), hq]; simp only; rw [if_pos h]
  exact ⟨e, by unfold putR; rw [e, if_neg (by decide)]⟩
theorem putC_new {ps : List PinD} {p : PinD} (h0 : pinsF ps = 0) (h1 : p.f = 0) (hq : findP ps p.nm = none) (h : ps.length ≠ 4) : putC ps p = 0 ∧ putR ps p = putL ps p := by
  have e : putC ps p = 0 := by unfold putC; rw [if_neg (fun h => h h0), if_neg (fun h => h h1), hq]; simp only; rw [if_neg h]
  exact ⟨e, by unfold putR; rw [if_pos e]⟩
abbrev Others (ps : List PinD) (p : PinD) : List PinD := ps.filter fun q => !decide (q.nm = p.nm)
theorem others_ne {ps : List PinD} {p : PinD} : ∀ q ∈ Others ps p, q.nm ≠ p.nm := by
  intro q hq
  have := (List.mem_filter.1 hq).2
  simpa using this
theorem others_none {ps : List PinD} {p : PinD} (h : findP ps p.nm = none) : Others ps p = ps := List.filter_eq_self.2 fun q hq => by simpa using findP_none h q hq
theorem others_lt {ps : List PinD} {p q : PinD} (h : findP ps p.nm = some q) : (Others ps p).length < ps.length := by
  obtain ⟨h1, h2⟩ := findP_mem h
  have h3 := List.length_filter_le (fun q => !decide (q.nm = p.nm)) ps
  have h4 : (Others ps p).length ≠ ps.length := fun e => by
    have := (List.length_filter_eq_length_iff.1 e) q h1
    simp [h2] at this
  have : (Others ps p).length ≤ ps.length := h3
  omega
/-- What is left, and the pin, in rising order: just what the model makes. -/
theorem put_eq {ps ys : List PinD} {p : PinD} (hr : Rise ps) (hp : ys.Perm (Others ps p ++ [p])) (hy : Rise ys) : ys = putL ps p := by
  refine rise_eq ?_ hy (putL_rise p hr)
  exact hp.trans ((List.perm_append_singleton p (Others ps p)).trans (putG_perm p ps).symm)

theorem implPutPin_any (a : Option Addr) (len cap B : Nat) (ps : List PinD) (p : PinD) (w : World) (hR : PRow w B a len cap ps) (hB : B ≤ w.heap.size) (hn : p.n.size ≤ maxLen) :
    Calls Tryz.prog 72 #[.slice a len cap, P5 p] w (PinsRes (putC ps p) (putR ps p) w) := by
  have hL := Lib.hid hR.length
  have b0 := bal (bal (Below.refl _ w) (.cells #[.string p.n, .int .i64 p.a, .int .i64 p.b, .int .i64 p.e, .int .i64 p.u] 31)) (.cells #[.int .i64 0, .slice none 0 0] 120)
  have A1 : At w.heap.size p.vals ((w.alloc (.cells #[.string p.n, .int .i64 p.a, .int .i64 p.b, .int .i64 p.e, .int .i64 p.u] 31)).alloc (.cells #[.int .i64 0, .slice none 0 0] 120)) := (At.new w p.vals 31).alloc _
  have A2 := At.new (w.alloc (.cells #[.string p.n, .int .i64 p.a, .int .i64 p.b, .int .i64 p.e, .int .i64 p.u] 31)) [.int .i64 0, .slice none 0 0] 120
  rw [show (w.alloc (.cells #[.string p.n, .int .i64 p.a, .int .i64 p.b, .int .i64 p.e, .int .i64 p.u] 31)).heap.size = w.heap.size + 1 by simp] at A2
  have F := implPinsFault_any a len cap B ps _ (hR.below (b0.mono hB)) (Nat.le_trans hB b0.size)
  by_cases h0 : pinsF ps = 0
  case neg =>
    rw [(putC_list h0).1, (putC_list h0).2]
    generalize pinsF ps = c at *
    clear hR
    go_enter Tryz.func72, Tryz.ntmps72
    go_wp2_with fail
    generalize (w.alloc (.cells #[.string p.n, .int .i64 p.a, .int .i64 p.b, .int .i64 p.e, .int .i64 p.u] 31)).alloc (.cells #[.int .i64 0, .slice none 0 0] 120) = W0 at *
    refine F.mono ?_
    rintro r u1 ⟨rfl, b1⟩
    have q0 := (A2.on b1).cell 0 _ rfl
    have q1 := (A2.on b1).cell 1 _ rfl
    have z0 := (A2.on b1).free 0 _ rfl
    have z1 := (A2.on b1).free 1 _ rfl
    have B1 := btr b0 b1
    clear A1 A2 b0 b1 F
    go_wp2_with fail
    refine bodyPost_ret (v := .agg #[.int .i64 c, .slice none 0 0]) (by simp [results, Tryz.results72, go_sem, q0, q1]) rfl ⟨none, 0, 0, rfl, OwnP.nil _ _, ?_⟩
    exact (by (iterate 2 (refine bset ?_ (by dsimp only; omega) _)); exact B1)
  rw [h0] at F
  have F2 := fun w => implPinFault_any p w hn
  by_cases h1 : p.f = 0
  case neg =>
    rw [(putC_pin h0 h1).1, (putC_pin h0 h1).2]
    clear hR
    go_enter Tryz.func72, Tryz.ntmps72
    go_wp2_with fail
    generalize (w.alloc (.cells #[.string p.n, .int .i64 p.a, .int .i64 p.b, .int .i64 p.e, .int .i64 p.u] 31)).alloc (.cells #[.int .i64 0, .slice none 0 0] 120) = W0 at *
    refine F.mono ?_
    rintro r u1 ⟨rfl, b1⟩
    have x0 := (A1.on b1).cell 0 _ rfl
    have x1 := (A1.on b1).cell 1 _ rfl
    have x2 := (A1.on b1).cell 2 _ rfl
    have x3 := (A1.on b1).cell 3 _ rfl
    have x4 := (A1.on b1).cell 4 _ rfl
    go_wp2_with fail
    refine (F2 _).mono ?_
    rintro r u2 ⟨rfl, b2⟩
    have bb := btr b1 b2
    have q0 := (A2.on bb).cell 0 _ rfl
    have q1 := (A2.on bb).cell 1 _ rfl
    have z0 := (A2.on bb).free 0 _ rfl
    have z1 := (A2.on bb).free 1 _ rfl
    have B1 := btr b0 bb
    clear A1 A2 b0 b1 b2 bb F F2 x0 x1 x2 x3 x4
    go_wp2_with fail
    refine bodyPost_ret (v := .agg #[.int .i64 p.f, .slice none 0 0]) (by simp [results, Tryz.results72, go_sem, q0, q1]) rfl ⟨none, 0, 0, rfl, OwnP.nil _ _, ?_⟩
    exact (by (iterate 2 (refine bset ?_ (by dsimp only; omega) _)); exact B1)
  rw [h1] at F2
  obtain ⟨hl4, hgood, hrise⟩ := pinsF_zero h0
  have LK := Lib.hid (fun (w : World) (b : Nat) (h : PMap w b ps) => h.look (s := p.n) hn)
  have BN := Lib.hid (fun (w1 : World) (h : Below w.heap.size w w1) => pinsByName_any a len cap B ps w1 (hR.below (h.mono hB)) (Nat.le_trans hB h.size) (by have := hL.out; omega) hrise.apart)
  clear hR
  cases hf : findP ps p.nm with
  | none =>
    have hf2 : findP ps p.n.data.toList = none := hf
    simp only [hf2] at LK
    by_cases h4 : ps.length = 4
    · rw [(putC_full h0 h1 hf h4).1, (putC_full h0 h1 hf h4).2]
      have ho : (Others ps p).length = 4 := by rw [others_none hf]; exact h4
      go_enter Tryz.func72, Tryz.ntmps72
      go_wp2_with fail
      generalize (w.alloc (.cells #[.string p.n, .int .i64 p.a, .int .i64 p.b, .int .i64 p.e, .int .i64 p.u] 31)).alloc (.cells #[.int .i64 0, .slice none 0 0] 120) = W0 at *
      refine F.mono ?_
      rintro r u1 ⟨rfl, b1⟩
      have x0 := (A1.on b1).cell 0 _ rfl
      have x1 := (A1.on b1).cell 1 _ rfl
      have x2 := (A1.on b1).cell 2 _ rfl
      have x3 := (A1.on b1).cell 3 _ rfl
      have x4 := (A1.on b1).cell 4 _ rfl
      go_wp2_with fail
      refine (F2 _).mono ?_
      rintro r u2 ⟨rfl, b2⟩
      have B0 := btr b0 (btr b1 b2)
      go_wp2_with fail
      refine (BN.out _ B0).mono ?_
      rintro r u3 ⟨rfl, M3, b3⟩
      have bb := btr b1 (btr b2 b3)
      have B3 := btr B0 b3
      have lk := LK.out _ _ M3
      have A13 := A1.on bb
      have A23 := A2.on bb
      have lt2 := (A2.on (btr b1 b2)).lt (by simp)
      have lt3 := M3.lt
      have ltp : w.heap.size < u3.heap.size := by omega
      have ltr : w.heap.size + 1 < u3.heap.size := by omega
      have y0 := A13.cell 0 _ rfl
      have y1 := A13.cell 1 _ rfl
      have y2 := A13.cell 2 _ rfl
      have y3 := A13.cell 3 _ rfl
      have y4 := A13.cell 4 _ rfl
      have q0 := A23.cell 0 _ rfl
      have q1 := A23.cell 1 _ rfl
      have z0 := A23.free 0 _ rfl
      have z1 := A23.free 1 _ rfl
      have B1 := B3
      clear x0 x1 x2 x3 x4 A1 A2 b0 b1 b2 b3 F F2 BN LK B0 bb
      have Mb := M3.alloc (.cells #[.string pin0.n, .int .i64 pin0.a, .int .i64 pin0.b, .int .i64 pin0.e, .int .i64 pin0.u] 31)
      obtain ⟨w4, hdel, M4', tn4⟩ := Mb.drop (s := p.n) hn 0
      have M4 : PMap w4 u2.heap.size (Others ps p) := M4'
      have B4 := turned_below tn4 (bal B3 _) (by omega)
      have A14 := (A13.alloc (.cells #[.string pin0.n, .int .i64 pin0.a, .int .i64 pin0.b, .int .i64 pin0.e, .int .i64 pin0.u] 31)).turned tn4 (by omega)
      have A24 := (A23.alloc (.cells #[.string pin0.n, .int .i64 pin0.a, .int .i64 pin0.b, .int .i64 pin0.e, .int .i64 pin0.u] 31)).turned tn4 (by omega)
      have hlen := fun ty => M4.len ty
      clear Mb M3 M4' A13 A23 B3 B1 tn4 q0 q1 z0 z1
      rw [ho] at hlen
      have B1 := B4
      have q0 := A24.cell 0 _ rfl
      have q1 := A24.cell 1 _ rfl
      have z0 := A24.free 0 _ rfl
      have z1 := A24.free 1 _ rfl
      go_wp2_with fail
      refine bodyPost_ret (v := .agg #[.int .i64 7, .slice none 0 0]) (by simp [results, Tryz.results72, go_sem, q0, q1]) rfl ⟨none, 0, 0, rfl, OwnP.nil _ _, ?_⟩
      exact (by (iterate 2 (refine bset ?_ (by dsimp only; omega) _)); exact B1)
    · rw [(putC_new h0 h1 hf h4).1, (putC_new h0 h1 hf h4).2]
      have ho4 : ¬ (((Others ps p).length : Nat) : Int) = 4 := by rw [others_none hf]; omega
      have ho5 : (Others ps p).length ≤ 4 := by rw [others_none hf]; omega
      go_enter Tryz.func72, Tryz.ntmps72
      go_wp2_with fail
      generalize (w.alloc (.cells #[.string p.n, .int .i64 p.a, .int .i64 p.b, .int .i64 p.e, .int .i64 p.u] 31)).alloc (.cells #[.int .i64 0, .slice none 0 0] 120) = W0 at *
      refine F.mono ?_
      rintro r u1 ⟨rfl, b1⟩
      have x0 := (A1.on b1).cell 0 _ rfl
      have x1 := (A1.on b1).cell 1 _ rfl
      have x2 := (A1.on b1).cell 2 _ rfl
      have x3 := (A1.on b1).cell 3 _ rfl
      have x4 := (A1.on b1).cell 4 _ rfl
      go_wp2_with fail
      refine (F2 _).mono ?_
      rintro r u2 ⟨rfl, b2⟩
      have B0 := btr b0 (btr b1 b2)
      go_wp2_with fail
      refine (BN.out _ B0).mono ?_
      rintro r u3 ⟨rfl, M3, b3⟩
      have bb := btr b1 (btr b2 b3)
      have B3 := btr B0 b3
      have lk := LK.out _ _ M3
      have A13 := A1.on bb
      have A23 := A2.on bb
      have lt2 := (A2.on (btr b1 b2)).lt (by simp)
      have lt3 := M3.lt
      have ltp : w.heap.size < u3.heap.size := by omega
      have ltr : w.heap.size + 1 < u3.heap.size := by omega
      have y0 := A13.cell 0 _ rfl
      have y1 := A13.cell 1 _ rfl
      have y2 := A13.cell 2 _ rfl
      have y3 := A13.cell 3 _ rfl
      have y4 := A13.cell 4 _ rfl
      have q0 := A23.cell 0 _ rfl
      have q1 := A23.cell 1 _ rfl
      have z0 := A23.free 0 _ rfl
      have z1 := A23.free 1 _ rfl
      have B1 := B3
      clear x0 x1 x2 x3 x4 A1 A2 b0 b1 b2 b3 F F2 BN LK B0 bb
      have Mb := M3.alloc (.cells #[.string pin0.n, .int .i64 pin0.a, .int .i64 pin0.b, .int .i64 pin0.e, .int .i64 pin0.u] 31)
      obtain ⟨w4, hdel, M4', tn4⟩ := Mb.drop (s := p.n) hn 0
      have M4 : PMap w4 u2.heap.size (Others ps p) := M4'
      have B4 := turned_below tn4 (bal B3 _) (by omega)
      have A14 := (A13.alloc (.cells #[.string pin0.n, .int .i64 pin0.a, .int .i64 pin0.b, .int .i64 pin0.e, .int .i64 pin0.u] 31)).turned tn4 (by omega)
      have A24 := (A23.alloc (.cells #[.string pin0.n, .int .i64 pin0.a, .int .i64 pin0.b, .int .i64 pin0.e, .int .i64 pin0.u] 31)).turned tn4 (by omega)
      have hlen := fun ty => M4.len ty
      clear Mb M3 M4' A13 A23 B3 B1 tn4 q0 q1 z0 z1
      obtain ⟨w5, hst, M5, tn5⟩ := M4.store (p := p) (by omega) hn others_ne
      have B5 := turned_below tn5 B4 (by omega)
      have A25 := A24.turned tn5 (by omega)
      have lt5 := A25.lt (by simp)
      have x0 := A14.cell 0 _ rfl
      have x1 := A14.cell 1 _ rfl
      have x2 := A14.cell 2 _ rfl
      have x3 := A14.cell 3 _ rfl
      have x4 := A14.cell 4 _ rfl
      have RP := risingPins_any _ _ _ M5 (by simp; omega) (by simp)
      have hob : (((Others ps p).length : Int) == 4) = false := by simpa using ho4
      generalize (Others ps p).length = n4 at *
      clear A14 A24 M4 tn5 B4 M5
      go_wp2_with fail
      refine RP.mono ?_
      rintro r u6 ⟨g, c, ys, rfl, hp, hr, hO, b6⟩
      have hys := put_eq hrise hp hr
      have A26 := A25.on b6
      have q0 := A26.cell 0 _ rfl
      have q1 := A26.cell 1 _ rfl
      have z0 := A26.free 0 _ rfl
      have z1 := A26.free 1 _ rfl
      have hgl := (Own.lt hO g rfl)
      have B1 := btr B5 b6
      have O6 := Lib.hid (hO.less B5.size)
      have HY := Lib.hid hys
      have hne : w.heap.size + 1 ≠ g := by omega
      clear hO hp hr hys A25 A26 b6 B5 RP
      go_wp2_with fail
      refine bodyPost_ret (v := .agg #[.int .i64 0, .slice (some ⟨g, 0, none⟩) ys.length c]) (by simp [results, Tryz.results72, go_sem, q0, q1]) rfl ⟨_, _, c, rfl, ?_, (by (iterate 2 (refine bset ?_ (by dsimp only; omega) _)); exact B1)⟩
      rw [← HY.out]
      refine Own.setCell (Own.setCell O6.out (fun k hk e => ?_) _) (fun k hk e => ?_) _
      · simp [Value.ownBlock] at hk; dsimp only at e; omega
      · simp [Value.ownBlock] at hk; dsimp only at e; omega
  | some q =>
    have hf2 : findP ps p.n.data.toList = some q := hf
    simp only [hf2] at LK
    by_cases he : p.e ≤ q.e
    · rw [(putC_old h0 h1 hf he).1, (putC_old h0 h1 hf he).2]
      go_enter Tryz.func72, Tryz.ntmps72
      go_wp2_with fail
      generalize (w.alloc (.cells #[.string p.n, .int .i64 p.a, .int .i64 p.b, .int .i64 p.e, .int .i64 p.u] 31)).alloc (.cells #[.int .i64 0, .slice none 0 0] 120) = W0 at *
      refine F.mono ?_
      rintro r u1 ⟨rfl, b1⟩
      have x0 := (A1.on b1).cell 0 _ rfl
      have x1 := (A1.on b1).cell 1 _ rfl
      have x2 := (A1.on b1).cell 2 _ rfl
      have x3 := (A1.on b1).cell 3 _ rfl
      have x4 := (A1.on b1).cell 4 _ rfl
      go_wp2_with fail
      refine (F2 _).mono ?_
      rintro r u2 ⟨rfl, b2⟩
      have B0 := btr b0 (btr b1 b2)
      go_wp2_with fail
      refine (BN.out _ B0).mono ?_
      rintro r u3 ⟨rfl, M3, b3⟩
      have bb := btr b1 (btr b2 b3)
      have B3 := btr B0 b3
      have lk := LK.out _ _ M3
      have A13 := A1.on bb
      have A23 := A2.on bb
      have lt2 := (A2.on (btr b1 b2)).lt (by simp)
      have lt3 := M3.lt
      have ltp : w.heap.size < u3.heap.size := by omega
      have ltr : w.heap.size + 1 < u3.heap.size := by omega
      have y0 := A13.cell 0 _ rfl
      have y1 := A13.cell 1 _ rfl
      have y2 := A13.cell 2 _ rfl
      have y3 := A13.cell 3 _ rfl
      have y4 := A13.cell 4 _ rfl
      have q0 := A23.cell 0 _ rfl
      have q1 := A23.cell 1 _ rfl
      have z0 := A23.free 0 _ rfl
      have z1 := A23.free 1 _ rfl
      have B1 := B3
      clear x0 x1 x2 x3 x4 A1 A2 b0 b1 b2 b3 F F2 BN LK B0 bb
      go_wp2_with fail
      refine bodyPost_ret (v := .agg #[.int .i64 11, .slice none 0 0]) (by simp [results, Tryz.results72, go_sem, q0, q1, ltr]) rfl ⟨none, 0, 0, rfl, OwnP.nil _ _, ?_⟩
      exact bal (by (iterate 2 (refine bset ?_ (by dsimp only; omega) _)); exact B1) _
    · rw [(putC_young h0 h1 hf he).1, (putC_young h0 h1 hf he).2]
      have ho := others_lt hf
      have ho4 : ¬ (((Others ps p).length : Nat) : Int) = 4 := by omega
      have ho5 : (Others ps p).length ≤ 4 := by omega
      go_enter Tryz.func72, Tryz.ntmps72
      go_wp2_with fail
      generalize (w.alloc (.cells #[.string p.n, .int .i64 p.a, .int .i64 p.b, .int .i64 p.e, .int .i64 p.u] 31)).alloc (.cells #[.int .i64 0, .slice none 0 0] 120) = W0 at *
      refine F.mono ?_
      rintro r u1 ⟨rfl, b1⟩
      have x0 := (A1.on b1).cell 0 _ rfl
      have x1 := (A1.on b1).cell 1 _ rfl
      have x2 := (A1.on b1).cell 2 _ rfl
      have x3 := (A1.on b1).cell 3 _ rfl
      have x4 := (A1.on b1).cell 4 _ rfl
      go_wp2_with fail
      refine (F2 _).mono ?_
      rintro r u2 ⟨rfl, b2⟩
      have B0 := btr b0 (btr b1 b2)
      go_wp2_with fail
      refine (BN.out _ B0).mono ?_
      rintro r u3 ⟨rfl, M3, b3⟩
      have bb := btr b1 (btr b2 b3)
      have B3 := btr B0 b3
      have lk := LK.out _ _ M3
      have A13 := A1.on bb
      have A23 := A2.on bb
      have lt2 := (A2.on (btr b1 b2)).lt (by simp)
      have lt3 := M3.lt
      have ltp : w.heap.size < u3.heap.size := by omega
      have ltr : w.heap.size + 1 < u3.heap.size := by omega
      have y0 := A13.cell 0 _ rfl
      have y1 := A13.cell 1 _ rfl
      have y2 := A13.cell 2 _ rfl
      have y3 := A13.cell 3 _ rfl
      have y4 := A13.cell 4 _ rfl
      have q0 := A23.cell 0 _ rfl
      have q1 := A23.cell 1 _ rfl
      have z0 := A23.free 0 _ rfl
      have z1 := A23.free 1 _ rfl
      have B1 := B3
      clear x0 x1 x2 x3 x4 A1 A2 b0 b1 b2 b3 F F2 BN LK B0 bb
      have Mb := M3.alloc (.cells #[.string q.n, .int .i64 q.a, .int .i64 q.b, .int .i64 q.e, .int .i64 q.u] 31)
      obtain ⟨w4, hdel, M4', tn4⟩ := Mb.drop (s := p.n) hn 0
      have M4 : PMap w4 u2.heap.size (Others ps p) := M4'
      have B4 := turned_below tn4 (bal B3 _) (by omega)
      have A14 := (A13.alloc (.cells #[.string q.n, .int .i64 q.a, .int .i64 q.b, .int .i64 q.e, .int .i64 q.u] 31)).turned tn4 (by omega)
      have A24 := (A23.alloc (.cells #[.string q.n, .int .i64 q.a, .int .i64 q.b, .int .i64 q.e, .int .i64 q.u] 31)).turned tn4 (by omega)
      have hlen := fun ty => M4.len ty
      clear Mb M3 M4' A13 A23 B3 B1 tn4 q0 q1 z0 z1
      obtain ⟨w5, hst, M5, tn5⟩ := M4.store (p := p) (by omega) hn others_ne
      have B5 := turned_below tn5 B4 (by omega)
      have A25 := A24.turned tn5 (by omega)
      have lt5 := A25.lt (by simp)
      have x0 := A14.cell 0 _ rfl
      have x1 := A14.cell 1 _ rfl
      have x2 := A14.cell 2 _ rfl
      have x3 := A14.cell 3 _ rfl
      have x4 := A14.cell 4 _ rfl
      have RP := risingPins_any _ _ _ M5 (by simp; omega) (by simp)
      have hob : (((Others ps p).length : Int) == 4) = false := by simpa using ho4
      generalize (Others ps p).length = n4 at *
      clear A14 A24 M4 tn5 B4 M5
      go_wp2_with fail
      refine RP.mono ?_
      rintro r u6 ⟨g, c, ys, rfl, hp, hr, hO, b6⟩
      have hys := put_eq hrise hp hr
      have A26 := A25.on b6
      have q0 := A26.cell 0 _ rfl
      have q1 := A26.cell 1 _ rfl
      have z0 := A26.free 0 _ rfl
      have z1 := A26.free 1 _ rfl
      have hgl := (Own.lt hO g rfl)
      have B1 := btr B5 b6
      have O6 := Lib.hid (hO.less B5.size)
      have HY := Lib.hid hys
      have hne : w.heap.size + 1 ≠ g := by omega
      clear hO hp hr hys A25 A26 b6 B5 RP
      go_wp2_with fail
      refine bodyPost_ret (v := .agg #[.int .i64 0, .slice (some ⟨g, 0, none⟩) ys.length c]) (by simp [results, Tryz.results72, go_sem, q0, q1]) rfl ⟨_, _, c, rfl, ?_, (by (iterate 2 (refine bset ?_ (by dsimp only; omega) _)); exact B1)⟩
      rw [← HY.out]
      refine Own.setCell (Own.setCell O6.out (fun k hk e => ?_) _) (fun k hk e => ?_) _
      · simp [Value.ownBlock] at hk; dsimp only at e; omega
      · simp [Value.ownBlock] at hk; dsimp only at e; omega
end Go.Proofs.YtcolecidbalmhaaGreatDoor
namespace Go.Proofs.YtcolecidbalmhaaGreatDoor
open Go.RowKit
set_option maxRecDepth 100000
set_option linter.unusedVariables false

/-- The pin that is written at place i, the marks beginning at k. -/
def markP (k i : Nat) : PinD := ⟨markT (k + 5 * i), (k : Int) + 5 * i + 1, (k : Int) + 5 * i + 1 + 1, (k : Int) + 5 * i + 1 + 1 + 1, (k : Int) + 5 * i + 1 + 1 + 1 + 1⟩
def marksP (k n : Nat) : List PinD := (List.range n).map (markP k)
theorem marksP_length (k n : Nat) : (marksP k n).length = n := by simp [marksP]
theorem marksP_at (k n j : Nat) (h : j < n) : (marksP k n)[j]?.getD pin0 = markP k j := by simp [marksP, h]
theorem marks_next (k : Nat) (ps : List PinD) (j : Nat) (h : j < ps.length) : (marksP k j ++ ps.drop j).set j (markP k j) = marksP k (j + 1) ++ ps.drop (j + 1) := by
  have e : ps.drop j = ps[j] :: ps.drop (j + 1) := List.drop_eq_getElem_cons h
  rw [e, List.set_append_right _ _ (by rw [marksP_length]; omega), marksP_length, Nat.sub_self, List.set_cons_zero]
  simp [marksP, List.range_succ]
structure MarkR (w : World) (B g n c : Nat) (ps : List PinD) (k j : Nat) (wr : World) : Prop where
  own : OwnP wr B (.slice (some ⟨g, 0, none⟩) n c) (marksP k j ++ ps.drop j)
  grew : w.grownBy wr (some g)
def MarkedP (B k : Nat) (v : Value) (n : Nat) (w : World) (r : Ending) (w' : World) : Prop := r = .returned (.int .i64 ((k + 5 * n : Nat) : Int)) ∧ OwnP w' B v (marksP k n) ∧ w.grownBy w' v.ownBlock
set_option maxHeartbeats 1000000 in
theorem markPinS_any (a : Option Addr) (n cap B k : Nat) (ps : List PinD) (w : World) (ho : OwnP w B (.slice a n cap) ps) (k0 : 0 < k) (k1 : k ≤ 1000000) (hn : n ≤ 1048576) :
    Calls Tryz.prog 126 #[.slice a n cap, .int .i64 k] w (MarkedP B k (.slice a n cap) n w) := by
  rcases ho.2 with ⟨e, h0⟩ | ⟨g, c, e, -, -, h1, h2, -, -⟩
  · injection e with e1 e2 e3
    subst e1; subst e2; subst e3
    have F : MarkedP B k (.slice none 0 0) 0 w (.returned (.int .i64 k)) w := ⟨by simp, OwnP.nil _ _, World.grownBy.refl _ _⟩
    clear ho h0
    go_enter Tryz.func126, Tryz.ntmps126
    go_wp2_with fail
    refine wp_loop_rounds 1 ?_
    rw [rounds_succ]; go_wp2_with fail
    go_ret
    exact F
  · injection e with e1 e2 e3
    subst e1; subst e3
    have hl : ps.length = n := e2.symm
    have T0 : MarkR w B g n cap ps k 0 w := ⟨by simpa [marksP] using ho, World.grownBy.refl _ _⟩
    have hm := h2
    unfold maxLen at hm
    have HL := Lib.hid hl
    clear ho e2 hl
    rw [HL.out] at h1
    go_enter Tryz.func126, Tryz.ntmps126
    go_wp2_with fail
    go_loopw [1, 5] (fun q i wr => ∃ j : Nat, j ≤ n ∧ i = .int .i64 j ∧ q = .int .i64 ((k + 5 * j : Nat) : Int) ∧ MarkR w B g n cap ps k j wr) (fun _ i _ => n - (intOf i).toNat)
    case atStart => exact ⟨0, Nat.zero_le _, rfl, by go_num, T0⟩
    case round =>
      obtain ⟨j, hj, rfl, rfl, hT⟩ := hrel
      clear T0
      by_cases hlt : j < n
      · have MT := markText_any (k + 5 * j) wr (by omega) (by omega)
        have hjl : j < (marksP k j ++ ps.drop j).length := by simp [marksP_length]; have := HL.out; omega
        have hnx := marks_next k ps j (by rw [HL.out]; exact hlt)
        have P2 := Lib.hid (fun (u1 : World) (b1 : Below wr.heap.size wr u1) => (OwnP.below hT.own b1).put (p := markP k j) hjl)
        have C2 := Lib.hid (fun (u1 : World) (b1 : Below wr.heap.size wr u1) (i : Nat) (u : Value) hu => (OwnP.below hT.own b1).cell (k := j) (i := i) hjl (u := u) hu)
        have G2 := Lib.hid hT.grew
        have HNX := Lib.hid hnx
        clear hT hnx hjl
        go_wp2_with fail
        refine MT.mono ?_
        rintro r u1 ⟨rfl, b1⟩
        generalize (marksP k j ++ ps.drop j)[j]?.getD pin0 = q0 at C2
        obtain ⟨c0, f0⟩ := C2.out u1 b1 0 _ rfl
        obtain ⟨c1, f1⟩ := C2.out u1 b1 1 _ rfl
        obtain ⟨c2, f2⟩ := C2.out u1 b1 2 _ rfl
        obtain ⟨c3, f3⟩ := C2.out u1 b1 3 _ rfl
        obtain ⟨c4, f4⟩ := C2.out u1 b1 4 _ rfl
        rw [Nat.add_zero] at c0 f0
        have O3 := P2.out u1 b1
        rw [HNX.out] at O3
        have G3 := gset1 (gset1 (gset1 (gset1 (gset1 (gbe1 G2.out b1) (j * 5) (.string (markP k j).n)) (j * 5 + 1) (.int .i64 (markP k j).a)) (j * 5 + 2) (.int .i64 (markP k j).b)) (j * 5 + 3) (.int .i64 (markP k j).e)) (j * 5 + 4) (.int .i64 (markP k j).u)
        have HT := Lib.hid (MarkR.mk (n := n) (c := cap) (B := B) O3 G3)
        clear MT P2 C2 G2 HNX b1 O3 G3
        go_wp2_with fail
        go_roundw
        case rel => exact ⟨j + 1, by omega, by go_num, by congr 1, HT.out⟩
        case measure => simp [intOf]; omega
      · obtain rfl : j = n := by omega
        have e : ps.drop j = [] := List.drop_of_length_le (by rw [HL.out]; omega)
        have T2 := hT.own
        rw [e, List.append_nil] at T2
        have T3 := hT.grew
        clear hT
        go_wp2_with fail
        go_ret
        exact ⟨rfl, T2, T3⟩
theorem marksP_names (k n : Nat) (hk : k ≤ 1000000) (hn : n ≤ 1048576) : ∀ p ∈ marksP k n, p.n.size ≤ maxLen := by
  intro p hp
  simp only [marksP, List.mem_map, List.mem_range] at hp
  obtain ⟨i, hi, rfl⟩ := hp
  have := markT_size (k + 5 * i)
  show (markT (k + 5 * i)).size ≤ maxLen
  unfold maxLen
  omega

set_option maxHeartbeats 1000000 in
theorem heldPinS_any (a : Option Addr) (n cap B k : Nat) (w : World) (hR : PRow w B a n cap (marksP k n)) (hB : B ≤ w.heap.size) (k0 : 0 < k) (k1 : k ≤ 1000000) (hn : n ≤ 1048576) :
    Calls Tryz.prog 188 #[.slice a n cap, .int .i64 k] w fun r w' => r = .returned (.int .i64 ((k + 5 * n : Nat) : Int)) ∧ Below w.heap.size w w' := by
  go_enter Tryz.func188, Tryz.ntmps188
  go_wp2_with fail
  go_loopw [1, 5] (fun q i wr => ∃ j : Nat, j ≤ n ∧ i = .int .i64 j ∧ q = .int .i64 ((k + 5 * j : Nat) : Int) ∧ Below w.heap.size w wr) (fun _ i _ => n - (intOf i).toNat)
  case atStart => exact ⟨0, Nat.zero_le _, rfl, by go_num, Below.refl _ _⟩
  case round =>
    obtain ⟨j, hj, rfl, rfl, hb⟩ := hrel
    by_cases hlt : j < n
    · obtain ⟨b, off, ha, hbB, c0, c1, c2, c3, c4⟩ := (hR.below (hb.mono hB)).at' hlt
      simp only [marksP_at k n j hlt, markP] at c0 c1 c2 c3 c4
      have MT := markText_any (k + 5 * j) wr (by omega) (by omega)
      subst ha
      clear hR
      go_wp2_with fail
      have MT2 := fun (u : World) => markText_any (k + 5 * j) u (by omega) (by omega)
      have HB := Lib.hid hb
      clear MT hb
      refine wp_region_line (Bel wr) [(0, true), (1, true), (2, true), (3, true), (4, true), (5, true), (6, false), (7, true)] (by kernel_rfl) (by kernel_rfl) (fun _ _ d _ _ h => by cases d <;> exact h) (Bel.drew wr) ?_
      have hst := Bel.drew wr
      have inst : Nonempty (Of (Bel wr)) := ⟨⟨_, hst⟩⟩
      have q0 := bel_cell c0
      iterate 6 (refine line_read rfl (by kernel_rfl) (fun K hK => ?_); go_big_quiet_op; refine hK _ ?_; clear hK K)
      refine line_alone rfl (by kernel_rfl) (fun K hK => ?_)
      refine call_wp (args := #[.int .i64 ((k + 5 * j : Nat) : Int)]) rfl (by kernel_rfl) (by kernel_rfl) (MT2 _) (fun wn hbn => ?_)
      have hst2 := hst.on hbn
      refine hK _ _ hst2 ?_
      clear hK K hst hbn
      have hst := hst2
      clear hst2
      simp only [Act.put, List.setIfInBounds_toArray, List.set_cons_zero, List.set_cons_succ]
      iterate 1 (refine line_read rfl (by kernel_rfl) (fun K hK => ?_); go_big_quiet_op; refine hK _ ?_; clear hK K)
      refine line_nil ?_
      have d1 := cell_keep hst.out c1
      have d2 := cell_keep hst.out c2
      have d3 := cell_keep hst.out c3
      have d4 := cell_keep hst.out c4
      have bb := Lib.hid (btr HB.out hst.out)
      clear hst inst q0 c0 c1 c2 c3 c4 MT2 HB
      go_wp2_with fail
      go_roundw
      case rel => exact ⟨j + 1, by omega, by go_num, by congr 1, bb.out⟩
      case measure => simp [intOf]; omega
    · obtain rfl : j = n := by omega
      clear hR
      go_wp2_with fail
      go_ret
      exact ⟨rfl, hb⟩

/-- Pins that were answered lie in memory of their own, the answer in a block. -/
def PinsAt (V : World) (c : Int) (zs : List PinD) (v : Value) (wx : World) : Prop := ∃ g a cap, v = .pointer (some ⟨g, 0, none⟩) ∧ At g [.int .i64 c, .slice a zs.length cap] wx ∧ OwnP wx V.heap.size (.slice a zs.length cap) zs ∧ Below V.heap.size V wx ∧ V.heap.size ≤ g
/-- Two answers of pins, and the argument, lie in memory: the model's at block p1, below b; the argument's slice, and the program's, from b on, its answer at block p2; the argument's pins are xs by now, the program's ms. -/
structure TwoP (w : World) (c : Int) (ps : List PinD) (p1 b p2 : Nat) (a1 a2 a3 : Option Addr) (n c1 c2 m c3 : Nat) (xs ms : List PinD) (cur : World) : Prop where
  bel : Below w.heap.size w cur
  x0 : cur.cell? ⟨p1, 0, none⟩ = some (.int .i64 c)
  x1 : cur.cell? ⟨p1, 1, none⟩ = some (.slice a1 n c1)
  row : PRow cur b a1 n c1 ps
  y0 : cur.cell? ⟨p2, 0, none⟩ = some (.int .i64 c)
  y1 : cur.cell? ⟨p2, 1, none⟩ = some (.slice a2 n c2)
  own : OwnP cur b (.slice a2 n c2) ms
  arg : OwnP cur b (.slice a3 m c3) xs
  old : w.heap.size ≤ b
  hi : p1 < b
  sep : ∀ k, Value.ownBlock (.slice a2 n c2) = some k → k < p2
  sepA : ∀ k, Value.ownBlock (.slice a3 m c3) = some k → k < p2
  apart : ∀ k, Value.ownBlock (.slice a2 n c2) = some k → Value.ownBlock (.slice a3 m c3) ≠ some k
  ahead : b ≤ p2
section
variable {w : World} {c : Int} {ps : List PinD} {p1 b p2 : Nat} {a1 a2 a3 : Option Addr} {n c1 c2 m c3 : Nat} {xs ms : List PinD} {cur cur' : World}
theorem TwoP.lt1 (h : TwoP w c ps p1 b p2 a1 a2 a3 n c1 c2 m c3 xs ms cur) : b ≤ cur.heap.size := by
  have := cell_lt h.y0
  have := h.ahead
  simp at *
  omega
theorem TwoP.on (h : TwoP w c ps p1 b p2 a1 a2 a3 n c1 c2 m c3 xs ms cur) (hb : Below cur.heap.size cur cur') : TwoP w c ps p1 b p2 a1 a2 a3 n c1 c2 m c3 xs ms cur' :=
  ⟨btr h.bel hb, cell_keep hb h.x0, cell_keep hb h.x1, h.row.below (hb.mono h.lt1), cell_keep hb h.y0, cell_keep hb h.y1, h.own.below hb, h.arg.below hb, h.old, h.hi, h.sep, h.sepA, h.apart, h.ahead⟩
theorem OwnP.grown {B : Nat} {v : Value} {qs : List PinD} {g : Option Nat} (h : OwnP cur B v qs) (hg : cur.grownBy cur' g) (hne : ∀ k, v.ownBlock = some k → some k ≠ g) : OwnP cur' B v qs := Own.keep h hg.size fun k hk => hg.block k (Own.lt h k hk).2 (hne k hk)
theorem OwnP.lt {B : Nat} {v : Value} {qs : List PinD} (h : OwnP cur B v qs) : ∀ k, v.ownBlock = some k → B ≤ k ∧ k < cur.heap.size := Own.lt h
/-- The model's answer lies there; the argument, and then the program's answer are stored. -/
theorem TwoP.new {v1 u2 u3 : World} {t : TypeId} (b1 : Below w.heap.size w v1) (hX : At p1 [.int .i64 c, .slice a1 n c1] v1) (R1 : PRow v1 v1.heap.size a1 n c1 ps)
    (b2 : Below v1.heap.size v1 u2) (O2 : OwnP u2 v1.heap.size (.slice a3 m c3) xs) (b3 : Below u2.heap.size u2 u3) (O3 : OwnP u3 u2.heap.size (.slice a2 n c2) ps) :
    TwoP w c ps p1 v1.heap.size u3.heap.size a1 a2 a3 n c1 c2 m c3 xs ps (u3.alloc (.cells #[.int .i64 c, .slice a2 n c2] t)) := by
  have hs := b2.size
  have hs3 := b3.size
  have hlt : p1 < v1.heap.size := hX.lt (by simp)
  have b4 := btr b2 (bal b3 (.cells #[.int .i64 c, .slice a2 n c2] t))
  have X4 := hX.on b4
  have O4 := (O2.below b3).alloc (.cells #[.int .i64 c, .slice a2 n c2] t)
  have x0 := X4.cell 0 _ rfl
  have x1 := X4.cell 1 _ rfl
  exact ⟨btr b1 b4, x0, x1, R1.below b4, by simp, by simp, (O3.alloc _).less (by omega), O4, b1.size, hlt, fun k hk => (O3.lt k hk).2, fun k hk => Nat.lt_of_lt_of_le (O2.lt k hk).2 hs3, fun k hk e => by have := (O3.lt k hk).1; have := (O2.lt k e).2; omega, by omega⟩
end
theorem OwnP.len {w : World} {B : Nat} {a : Option Addr} {len cap : Nat} {ps : List PinD} (h : OwnP w B (.slice a len cap) ps) : len = ps.length := by
  obtain ⟨a', c', e, -⟩ := h.form
  injection e
end Go.Proofs.YtcolecidbalmhaaGreatDoor
namespace Go.Proofs.YtcolecidbalmhaaGreatDoor
open Go.RowKit
set_option maxRecDepth 100000
set_option linter.unusedVariables false

theorem long_no {rs : List (List Int)} (h : rs.any longR = false) {k : Nat} (hk : k < rs.length) : (rs[k]?.getD []).length ≤ 40 :=
  long_of h _ (by rw [List.getElem?_eq_getElem hk]; exact List.getElem_mem hk)
theorem any_next {rs : List (List Int)} {k : Nat} (hk : k < rs.length) (h : (rs.take k).any longR = false) (hl : ¬ 40 < (rs[k]?.getD []).length) : (rs.take (k + 1)).any longR = false :=
  M.any_take longR rs [] k hk h (by simpa [longR] using hl)

set_option maxHeartbeats 1000000 in
theorem implDiskFault_any (a : Option Addr) (n c B : Nat) (rs : List (List Int)) (s : Int) (w : World) (hG : Grid w B a n c rs) (hB : B ≤ w.heap.size) :
    Calls Tryz.prog 28 #[.agg #[.slice a n c, .int .i64 s]] w fun r w' => r = .returned (.int .i64 (diskF ⟨rs, s⟩)) ∧ Below w.heap.size w w' := by
  have hlen := hG.fits
  have hmost := hG.most
  unfold maxLen at hmost
  have hL := Lib.hid hG.length
  have b0 := bal (Below.refl _ w) (.cells #[.slice a n c, .int .i64 s] 27)
  by_cases h : 12 < n
  · have E : diskF ⟨rs, s⟩ = 2 := diskF_many (by show 12 < rs.length; rw [hL.out]; exact h)
    rw [E]; clear E hG
    have h' : (12 : Int) < n := by omega
    go_enter Tryz.func28, Tryz.ntmps28
    go_wp2_with fail
    go_ret
    exact ⟨rfl, b0⟩
  have h' : ¬ (12 : Int) < n := by omega
  have hG1 := hG.below (b0.mono hB)
  clear hG
  cases hA : rs.any longR
  · have E0 : ¬ (0 ≤ s ∧ s ≤ n) → diskF ⟨rs, s⟩ = 3 := fun q => diskF_safe (by show ¬ 12 < rs.length; rw [hL.out]; omega) hA (by show ¬ (0 ≤ s ∧ s ≤ rs.length); rw [hL.out]; exact q)
    have E1 : 0 ≤ s ∧ s ≤ n → diskF ⟨rs, s⟩ = 0 := fun q => diskF_yes (by show ¬ 12 < rs.length; rw [hL.out]; omega) hA (by show 0 ≤ s ∧ s ≤ rs.length; rw [hL.out]; exact q)
    have HA := Lib.hid hA
    have H0 := Lib.hid E0
    have H1 := Lib.hid E1
    clear hA E0 E1
    generalize diskF ⟨rs, s⟩ = D at *
    go_enter Tryz.func28, Tryz.ntmps28
    go_wp2_with fail
    go_loop [12] (fun i => ∃ k : Nat, k ≤ n ∧ i = .int .i64 k) (fun i => n - (intOf i).toNat)
    case atStart => exact ⟨0, Nat.zero_le _, rfl⟩
    case round =>
      obtain ⟨k, hk, rfl⟩ := hrel
      by_cases hlt : k < n
      · obtain ⟨b, off, ha, hb, hc⟩ := hG1.cells (by omega)
        obtain ⟨a', n', c', hcell, hrow⟩ := hc k hlt
        have hle : ¬ (40 : Int) < n' := by
          have := long_no HA.out (k := k) (by rw [hL.out]; exact hlt)
          rw [hrow.length] at this
          omega
        clear hc hrow hG1
        subst ha
        go_wp2_with fail
        go_round
        case rel => exact ⟨k + 1, by omega, by go_num⟩
        case measure => simp [intOf]; omega
      · have hkn : ¬ (k : Int) < n := by omega
        by_cases q0 : s < 0
        · have e := H0.out (by omega)
          subst e
          clear hG1
          go_wp2_with fail
          go_ret
          exact ⟨rfl, b0⟩
        · by_cases q1 : (n : Int) < s
          · have e := H0.out (by omega)
            subst e
            clear hG1
            go_wp2_with fail
            go_ret
            exact ⟨rfl, b0⟩
          · have e := H1.out (by omega)
            subst e
            clear hG1
            go_wp2_with fail
            go_ret
            exact ⟨rfl, b0⟩
  · have E : diskF ⟨rs, s⟩ = 2 := diskF_long (by show ¬ 12 < rs.length; rw [hL.out]; omega) hA
    rw [E]; clear E
    have HA := Lib.hid hA
    clear hA
    go_enter Tryz.func28, Tryz.ntmps28
    go_wp2_with fail
    go_loop [12] (fun i => ∃ k : Nat, k ≤ n ∧ i = .int .i64 k ∧ Hid ((rs.take k).any longR = false)) (fun i => n - (intOf i).toNat)
    case atStart => exact ⟨0, Nat.zero_le _, rfl, Lib.hid (by simp)⟩
    case round =>
      obtain ⟨k, hk, rfl, hT⟩ := hrel
      by_cases hlt : k < n
      · obtain ⟨b, off, ha, hb, hc⟩ := hG1.cells (by omega)
        obtain ⟨a', n', c', hcell, hrow⟩ := hc k hlt
        have hrl := Lib.hid hrow.length
        clear hc hrow
        subst ha
        by_cases hle : (40 : Int) < n'
        · go_wp2_with fail
          go_ret
          exact ⟨rfl, b0⟩
        · have T2 := Lib.hid (any_next (by rw [hL.out]; exact hlt) hT.out (by rw [hrl.out]; omega))
          clear hT
          go_wp2_with fail
          go_round
          case rel => exact ⟨k + 1, by omega, by go_num, T2⟩
          case measure => simp [intOf]; omega
      · exfalso
        have e := hT.out
        rw [List.take_of_length_le (by rw [hL.out]; omega), HA.out] at e
        cases e
set_option maxHeartbeats 1000000 in
theorem l9Disk_any (g : Nat) (a : Option Addr) (n c B : Nat) (rs : List (List Int)) (s : Int) (o : Nat) (w : World) (c0 : w.cell? ⟨g, o, none⟩ = some (.slice a n c)) (c1 : w.cell? ⟨g, o + 1, none⟩ = some (.int .i64 s)) (hG : Grid w B a n c rs) (hB : B ≤ w.heap.size) :
    Calls Tryz.prog 93 #[.pointer (some ⟨g, o, none⟩)] w fun r w' => r = .returned (.int .i64 (diskF ⟨rs, s⟩)) ∧ Below w.heap.size w w' := by
  have hlen := hG.fits
  have hmost := hG.most
  unfold maxLen at hmost
  have hL := Lib.hid hG.length
  by_cases h : 12 < n
  · have E : diskF ⟨rs, s⟩ = 2 := diskF_many (by show 12 < rs.length; rw [hL.out]; exact h)
    rw [E]; clear E hG
    have h' : (12 : Int) < n := by omega
    go_enter Tryz.func93, Tryz.ntmps93
    go_wp2_with fail
    go_ret
    exact ⟨rfl, Below.refl _ _⟩
  have h' : ¬ (12 : Int) < n := by omega
  cases hA : rs.any longR
  · have EE : diskF ⟨rs, s⟩ = if inB s 0 n then 0 else 3 := by
      by_cases q : 0 ≤ s ∧ s ≤ n
      · rw [show inB s 0 n = true by simp [inB, q], if_pos rfl]
        exact diskF_yes (by show ¬ 12 < rs.length; rw [hL.out]; omega) hA (by show 0 ≤ s ∧ s ≤ rs.length; rw [hL.out]; exact q)
      · rw [show inB s 0 n = false by simp only [inB, decide_eq_false_iff_not]; exact q]
        exact diskF_safe (by show ¬ 12 < rs.length; rw [hL.out]; omega) hA (by show ¬ (0 ≤ s ∧ s ≤ rs.length); rw [hL.out]; exact q)
    rw [EE]
    have HA := Lib.hid hA
    have LI := fun w => (l1In_any s 0 n w).mono (R' := fun e w' => e = .returned (.bool (inB s 0 n)) ∧ ∃ m, w' = w.drewN m) (by rintro e w' ⟨h, rfl⟩; exact ⟨h, 0, rfl⟩)
    generalize inB s 0 n = q at *
    clear hA EE
    go_enter Tryz.func93, Tryz.ntmps93
    go_wp2_with fail
    go_loop [3] (fun i => ∃ k : Nat, k ≤ n ∧ i = .int .i64 k) (fun i => n - (intOf i).toNat)
    case atStart => exact ⟨0, Nat.zero_le _, rfl⟩
    case round =>
      obtain ⟨k, hk, rfl⟩ := hrel
      by_cases hlt : k < n
      · obtain ⟨b, off, ha, hb, hc⟩ := hG.cells (by omega)
        obtain ⟨a', n', c', hcell, hrow⟩ := hc k hlt
        have hle : ¬ (40 : Int) < n' := by
          have := long_no HA.out (k := k) (by rw [hL.out]; exact hlt)
          rw [hrow.length] at this
          omega
        clear hc hrow hG
        subst ha
        go_wp2_with fail
        go_round
        case rel => exact ⟨k + 1, by omega, by go_num⟩
        case measure => simp [intOf]; omega
      · have hkn : ¬ (k : Int) < n := by omega
        clear hG
        cases q
        · go_wp2_with fail
          go_quiet ((go_at_call 108; exact Calls.quiet_of (LI _)))
          go_wp2_with fail
          go_ret
          exact ⟨rfl, bdrewN (Below.refl _ _) _⟩
        · go_wp2_with fail
          go_quiet ((go_at_call 108; exact Calls.quiet_of (LI _)))
          go_wp2_with fail
          go_ret
          exact ⟨rfl, bdrewN (Below.refl _ _) _⟩
  · have E : diskF ⟨rs, s⟩ = 2 := diskF_long (by show ¬ 12 < rs.length; rw [hL.out]; omega) hA
    rw [E]; clear E
    have HA := Lib.hid hA
    clear hA
    go_enter Tryz.func93, Tryz.ntmps93
    go_wp2_with fail
    go_loop [3] (fun i => ∃ k : Nat, k ≤ n ∧ i = .int .i64 k ∧ Hid ((rs.take k).any longR = false)) (fun i => n - (intOf i).toNat)
    case atStart => exact ⟨0, Nat.zero_le _, rfl, Lib.hid (by simp)⟩
    case round =>
      obtain ⟨k, hk, rfl, hT⟩ := hrel
      by_cases hlt : k < n
      · obtain ⟨b, off, ha, hb, hc⟩ := hG.cells (by omega)
        obtain ⟨a', n', c', hcell, hrow⟩ := hc k hlt
        have hrl := Lib.hid hrow.length
        clear hc hrow
        subst ha
        by_cases hle : (40 : Int) < n'
        · go_wp2_with fail
          go_ret
          exact ⟨rfl, Below.refl _ _⟩
        · have T2 := Lib.hid (any_next (by rw [hL.out]; exact hlt) hT.out (by rw [hrl.out]; omega))
          clear hT
          go_wp2_with fail
          go_round
          case rel => exact ⟨k + 1, by omega, by go_num, T2⟩
          case measure => simp [intOf]; omega
      · exfalso
        have e := hT.out
        rw [List.take_of_length_le (by rw [hL.out]; omega), HA.out] at e
        cases e
end Go.Proofs.YtcolecidbalmhaaGreatDoor
namespace Go.Proofs.YtcolecidbalmhaaGreatDoor.M

def kindB (v : Int) : Bool := decide (1 ≤ v ∧ v ≤ 9)
def recB (s k t : Int) : Bool := sumB s && kindB k && sumB t
/-- What is wrong with a record whose data has n bytes. -/
def recF (s k t : Int) (n : Nat) : Int := if recB s k t then (if 60 < n then 2 else 0) else 3
/-- A record's bytes. -/
def packR (s k : Int) (zs : List Int) (t : Int) : List Int := two s ++ [k, (zs.length : Int)] ++ zs ++ two t
def packRL (s k : Int) (zs : List Int) (t : Int) : List Int := if recF s k t zs.length = 0 then packR s k zs t else []
/-- The number at place i. -/
def at2 (zs : List Int) (i : Nat) : Int := 256 * zs.getD i 0 + zs.getD (i + 1) 0
def rdD (zs : List Int) : List Int := (zs.drop 4).take (zs.length - 6)
def rdL (zs : List Int) : Bool := decide (6 ≤ zs.length) && decide ((zs.length : Int) = 6 + zs.getD 3 0)
/-- These are the bytes of a record. -/
def rdB (zs : List Int) : Bool := rdL zs && decide (recF (at2 zs 0) (zs.getD 2 0) (at2 zs (zs.length - 2)) (zs.length - 6) = 0)
/-- Two records are one. -/
def sameR (s k : Int) (zs : List Int) (t : Int) (s' k' : Int) (zs' : List Int) (t' : Int) : Bool := (s == s') && (k == k') && (t == t') && decide (zs = zs')
end Go.Proofs.YtcolecidbalmhaaGreatDoor.M
namespace Go.Proofs.YtcolecidbalmhaaGreatDoor
open Go.RowKit
set_option maxRecDepth 100000
set_option linter.unusedVariables false

abbrev R4 (s k : Int) (a : Option Addr) (n c : Nat) (t : Int) : Value := .agg #[.int .i64 s, .int .i64 k, .slice a n c, .int .i64 t]
abbrev R5 (e s k : Int) (a : Option Addr) (n c : Nat) (t : Int) : Value := .agg #[.int .i64 e, .int .i64 s, .int .i64 k, .slice a n c, .int .i64 t]
abbrev L4 (s k : Int) (a : Option Addr) (n c : Nat) (t : Int) : List Value := [.int .i64 s, .int .i64 k, .slice a n c, .int .i64 t]
abbrev L5 (e s k : Int) (a : Option Addr) (n c : Nat) (t : Int) : List Value := [.int .i64 e, .int .i64 s, .int .i64 k, .slice a n c, .int .i64 t]

/-- A record whose data lies in new memory. -/
def RecMade (s k : Int) (n : Nat) (zs : List Int) (t : Int) (w : World) (r : Ending) (w' : World) : Prop :=
  ∃ a c, r = .returned (R4 s k a n c t) ∧ OwnK .u8 w' w.heap.size (.slice a n c) zs ∧ Below w.heap.size w w'

end Go.Proofs.YtcolecidbalmhaaGreatDoor
namespace Go.Proofs.YtcolecidbalmhaaGreatDoor
open Go.RowKit
set_option maxRecDepth 100000
set_option linter.unusedVariables false

theorem u8_size : (Tryz.prog.info? 5).map (·.size) = some 1 := by kernel_rfl
theorem copyBytes_any (a : Option Addr) (len cap B : Nat) (zs : List Int) (w : World) (hR : Row .u8 w B a len cap zs) (hB : B ≤ w.heap.size) (hl : len ≤ 1048576) :
    Calls Tryz.prog 138 #[.slice a len cap] w (Copied .u8 len zs w) := by
  obtain ⟨i0, hi0, hz0, hz1, hz2⟩ := info_parts u8_info
  have hmk : ∀ W : World, (Instr.makeSlice 22 (.int .i64 (len : Int)) (.int .i64 (len : Int))).run Tryz.prog W = .ok (.slice (some ⟨W.heap.size, 0, none⟩) len len) (W.alloc (.cells (madeCells #[.int .u8 0] len) 5)) := by
    intro W
    have := run_make (P := Tryz.prog) W 22 5 i0 (.int .u8 0) Tryz.underlying22 hi0 hz0 .i64 .i64 len len (by omega) (by omega) (by rw [hz2]; omega) (by omega)
    simpa [hz1, Value.cells] using this
  have hL := Lib.hid hR.length
  clear hi0 hz0 hz1 hz2
  have b0 := bal (Below.refl _ w) (.cells (madeCells #[.int .u8 0] len) 5)
  have R1 := hR.below (b0.mono hB)
  have eM : madeCells #[Value.int .u8 0] len = (List.replicate len (Value.int .u8 0)).toArray := by
    apply Array.ext'
    rw [toList_madeCells_one]
  have hg : (w.alloc (.cells (madeCells #[.int .u8 0] len) 5)).heap[w.heap.size]? = some (.cells (List.replicate len (Value.int .u8 0)).toArray 5 (0, 0)) := by
    rw [eM]; exact (MapKept.heap_alloc w _).1
  obtain ⟨X, hX⟩ : ∃ X, X = zs.map (Value.int .u8) := ⟨_, rfl⟩
  have hXl : X.length = len := by rw [hX]; simpa using hR.length
  have h1 : ∀ v ∈ X, v.oneCell' = true := by rw [hX]; exact ints_oneCell .u8 zs
  have hsrc : 0 < X.length → (some ⟨w.heap.size, 0, none⟩ : Option Addr) = some ⟨w.heap.size, 0, none⟩ ∧ ∃ ad, a = some ad ∧ ∀ j v, X[j]? = some v → (w.alloc (.cells (madeCells #[.int .u8 0] len) 5)).cell? (ad.add j) = some v := by
    intro hp
    obtain ⟨b, off, rfl, hb, hc⟩ := R1.cells (by omega)
    refine ⟨rfl, _, rfl, fun j v hv => ?_⟩
    have hj := (List.getElem?_eq_some_iff.1 hv).1
    rw [hXl] at hj
    rw [Addr.add_lit, hc j hj, ← hv, hX]
    simp [List.getD, show j < zs.length by rw [hR.length]; exact hj]
  have HX := Lib.hid hX
  have HXl := Lib.hid hXl
  have HG := Lib.hid hg
  have HS := Lib.hid hsrc
  clear hX hXl hg hsrc eM R1 hR
  go_enter Tryz.func138, Tryz.ntmps138
  go_wp2_with (with_reducible refine wpList_copy_splice rfl (.tmp 7) (.tmp 8) 22 22 rfl 5 Tryz.underlying22 u8_size _ _ len len len cap rfl rfl w.heap.size 0 (List.replicate len (Value.int .u8 0)) 5 HG.out X (by rw [HXl.out]; simp) HS.out (by rw [HXl.out]; simp) h1 w.heap.size w b0 (Nat.le_refl _) ?_; intro w2 HG2 b2)
  have hG2 := HG2.out
  have eS : splice (List.replicate len (Value.int .u8 0)) 0 X = zs.map (Value.int .u8) := by
    rw [← HX.out]
    simp [splice, HXl.out]
  rw [eS] at hG2
  have F := Lib.hid (And.intro (own_blk (B := w.heap.size) hG2 (Nat.le_refl _) hL.out (by simp only [maxLen]; omega)) b2)
  clear HG2 hG2 eS b2
  go_ret
  exact ⟨rfl, F.out.1, F.out.2⟩

theorem l1Copy_any (a : Option Addr) (len cap B : Nat) (zs : List Int) (w : World) (hR : Row .u8 w B a len cap zs) (hB : B ≤ w.heap.size) (hl : len ≤ 1048576) :
    Calls Tryz.prog 161 #[.slice a len cap] w (Made zs w) := by
  obtain ⟨i0, hi0, hz0, hz1, hz2⟩ := info_parts u8_info
  have R1 := hR.alloc hB (.cells #[] 5)
  have hs := R1.src (P := Tryz.prog) (tx := 22) Tryz.underlying22
  have b0 := bal (Below.refl _ w) (.cells #[] 5)
  have hL := Lib.hid hR.length
  clear hR R1
  go_enter Tryz.func161, Tryz.ntmps161
  go_wp2_with (at_builtin; refine wpList_append_src _ rfl (.tmp 3) (.tmp 4) 22 22 rfl w.heap.size 5 i0 (.int .u8 0) 1 1 Tryz.underlying22 hi0 hz0 hz1 hz2 rfl _ 0 [] rfl (own_empty w 5) _ len _ rfl hs (by simp only [maxLen]; omega) (by omega) (by simp) ?_; intro v w2 hown hgrow hat)
  have O2 : OwnK .u8 w2 w.heap.size v zs := by
    unfold OwnK
    rw [hL.out]
    simpa using hown
  have b2 : Below w.heap.size w w2 := (own_empty w 5).grown b0 (by simp) hgrow
  obtain ⟨a', cap', hv, -⟩ := O2.form
  have F := Lib.hid (And.intro O2 b2)
  clear hown hgrow hat O2 b2 hs b0
  subst hv
  go_wp2_with fail
  go_ret
  exact ⟨_, _, _, rfl, F.out.1, F.out.2⟩

end Go.Proofs.YtcolecidbalmhaaGreatDoor
namespace Go.Proofs.YtcolecidbalmhaaGreatDoor
open Go.RowKit
set_option maxRecDepth 100000
set_option linter.unusedVariables false

/-- A journal's cells: twelve records of at most forty bytes, how long each is; how many they are; how many are safe. -/
def jget (rs : List (List Int)) (n s : Int) (i : Nat) : Value :=
  if i = 492 then .int .i64 n else if i = 493 then .int .i64 s else if i % 41 = 40 then .int .i64 (((rs[i / 41]?.getD []).length : Nat) : Int) else .int .u8 ((rs[i / 41]?.getD []).getD (i % 41) 0)
def jour (rs : List (List Int)) (n s : Int) : List Value := (List.range 494).map (jget rs n s)
section
variable (rs : List (List Int)) (n s : Int)
theorem jour_len : (jour rs n s).length = 494 := by simp [jour]
theorem jour_at {i : Nat} (h : i < 494) : (jour rs n s)[i]? = some (jget rs n s i) := by simp [jour, h]
theorem jget_one (i : Nat) : (jget rs n s i).oneCell' = true := by
  unfold jget
  repeat' split
  all_goals rfl
theorem jour_one : ∀ v ∈ jour rs n s, v.oneCell' = true := by
  intro v hv
  simp only [jour, List.mem_map] at hv
  obtain ⟨i, _, rfl⟩ := hv
  exact jget_one rs n s i
theorem jour_all : (jour rs n s).toArray.all (·.oneCell') = true := all_oneCell_toArray (jour_one rs n s)
theorem jour_count : (jour rs n s)[492]? = some (.int .i64 n) := by rw [jour_at rs n s (by omega)]; rfl
theorem jour_safe : (jour rs n s)[493]? = some (.int .i64 s) := by rw [jour_at rs n s (by omega)]; rfl
theorem jour_size {k : Nat} (hk : k < 12) : (jour rs n s)[41 * k + 40]? = some (.int .i64 (((rs[k]?.getD []).length : Nat) : Int)) := by
  rw [jour_at rs n s (by omega), jget, if_neg (by omega), if_neg (by omega), if_pos (by omega), show (41 * k + 40) / 41 = k by omega]
theorem jour_byte {k i : Nat} (hk : k < 12) (hi : i < 40) : (jour rs n s)[41 * k + i]? = some (.int .u8 ((rs[k]?.getD []).getD i 0)) := by
  rw [jour_at rs n s (by omega), jget, if_neg (by omega), if_neg (by omega), if_neg (by omega), show (41 * k + i) / 41 = k by omega, show (41 * k + i) % 41 = i by omega]
theorem list_ext {xs ys : List Value} (hl : xs.length = ys.length) (h : ∀ i, i < xs.length → xs[i]? = ys[i]?) : xs = ys := by
  apply List.ext_getElem? 
  intro i
  rcases Nat.lt_or_ge i xs.length with hi | hi
  · exact h i hi
  · rw [List.getElem?_eq_none hi, List.getElem?_eq_none (by omega)]
theorem jour_mark (k : Int) : (jour rs n s).set 493 (.int .i64 k) = jour rs n k := by
  refine list_ext (by simp [jour]) fun i hi => ?_
  have hi' : i < 494 := by simpa [jour] using hi
  rw [jour_at rs n k hi']
  by_cases h1 : i = 493
  · subst h1; simp [jour, jget]
  · rw [List.getElem?_set_ne (by omega), jour_at rs n s hi']
    unfold jget
    rw [if_neg h1, if_neg h1]
theorem jour_with (zs : List Int) (hk : rs.length < 12) (hz : zs.length ≤ 40) :
    ((splice (jour rs n s) (41 * rs.length) (zs.map (Value.int .u8))).set (41 * rs.length + 40) (.int .i64 (zs.length : Int))).set 492 (.int .i64 (n + 1)) = jour (rs ++ [zs]) (n + 1) s := by
  have hsl : (splice (jour rs n s) (41 * rs.length) (zs.map (Value.int .u8))).length = 494 := by
    rw [length_splice _ _ _ (by rw [jour_len]; simp; omega), jour_len]
  refine list_ext (by rw [List.length_set, List.length_set, hsl, jour_len]) fun i hi => ?_
  have hi' : i < 494 := by rwa [List.length_set, List.length_set, hsl] at hi
  rw [jour_at _ _ _ hi']
  by_cases h1 : i = 492
  · subst h1
    rw [List.getElem?_set_self (by simp [hsl])]
    rfl
  rw [List.getElem?_set_ne (by omega)]
  by_cases h2 : i = 41 * rs.length + 40
  · subst h2
    rw [List.getElem?_set_self (by rw [hsl]; omega), jget, if_neg (by omega), if_neg (by omega), if_pos (by omega), show (41 * rs.length + 40) / 41 = rs.length by omega]
    simp
  rw [List.getElem?_set_ne (by omega)]
  unfold splice
  by_cases h3 : i < 41 * rs.length
  · rw [List.getElem?_append_left (by simp [jour]; omega), List.getElem?_take_of_lt h3, jour_at rs n s hi']
    unfold jget
    have hd : i / 41 < rs.length := by omega
    rw [if_neg h1, if_neg h1]
    by_cases h4 : i = 493
    · omega
    rw [if_neg h4, if_neg h4, List.getElem?_append_left hd]
  · have hlt : ((jour rs n s).take (41 * rs.length)).length = 41 * rs.length := by simp [jour]; omega
    rw [List.getElem?_append_right (by omega), hlt]
    by_cases h5 : i < 41 * rs.length + zs.length
    · rw [List.getElem?_append_left (by simp; omega)]
      have e1 : i / 41 = rs.length := by omega
      have e2 : i % 41 = i - 41 * rs.length := by omega
      have h40 : i - 41 * rs.length < 40 := by omega
      rw [jget, if_neg h1, if_neg (by omega), if_neg (by omega), e1, e2]
      simp [show i - 41 * rs.length < zs.length by omega]
    · rw [List.getElem?_append_right (by simp; omega), List.getElem?_drop]
      simp only [List.length_map]
      rw [show 41 * rs.length + zs.length + (i - 41 * rs.length - zs.length) = i by omega, jour_at rs n s hi']
      unfold jget
      rw [if_neg h1, if_neg h1]
      by_cases h4 : i = 493
      · rw [if_pos h4, if_pos h4]
      rw [if_neg h4, if_neg h4]
      by_cases h6 : i / 41 = rs.length
      · rw [h6]
        have e2 : i % 41 = i - 41 * rs.length := by omega
        rw [List.getElem?_append_right (Nat.le_refl _), Nat.sub_self, List.getElem?_eq_none (Nat.le_refl _)]
        rw [if_neg (by omega), if_neg (by omega), e2]
        simp [show zs.length ≤ i - 41 * rs.length by omega]
      · rw [List.getElem?_eq_none (by omega), List.getElem?_eq_none (by simp; omega)]
end
/-- Block g is a journal's. -/
def JB (g : Nat) (cs : List Value) (w : World) : Prop := w.heap[g]? = some (.cells cs.toArray 114)
section
variable {g : Nat} {cs : List Value} {w w' : World}
theorem JB.new (w : World) (cs : List Value) : JB w.heap.size cs (w.alloc (.cells cs.toArray 114)) := (MapKept.heap_alloc w _).1
theorem JB.lt (h : JB g cs w) : g < w.heap.size := (Array.getElem?_eq_some_iff.1 h).1
theorem JB.on (h : JB g cs w) (hb : Below w.heap.size w w') : JB g cs w' := (hb.block g h.lt).trans h
theorem JB.cell (h : JB g cs w) (i : Nat) : w.cell? ⟨g, i, none⟩ = cs[i]? := by
  have := blk_cell h i
  simpa using this
theorem JB.free (h : JB g cs w) (i : Nat) : w.frozen? ⟨g, i, none⟩ = false := blk_free h i
theorem JB.set (h : JB g cs w) (i : Nat) (v : Value) : JB g (cs.set i v) (w.setCell ⟨g, i, none⟩ v) := by
  unfold JB at *
  rw [setCell_eq_setRow w g i _ _ _ v h, setRow_heap w g _ _ _ _ h]
  simp
theorem JB.setB (h : JB g cs w) {p : Addr} (hp : g ≠ p.block) (v : Value) : JB g cs (w.setCell p v) := (Below.heap_setCell w p v g hp).trans h
theorem JB.row (h : JB g cs w) (cs' : List Value) : JB g cs' (w.setRow g cs'.toArray) := setRow_heap w g _ _ _ _ h
theorem JB.rowB (h : JB g cs w) {g' : Nat} (hp : g ≠ g') (cs' : Array Value) : JB g cs (w.setRow g' cs') := (setRow_other w g' g cs' hp).trans h
theorem brow {W w1 : World} (h : Below W.heap.size W w1) {g : Nat} (hg : W.heap.size ≤ g) (cs : Array Value) : Below W.heap.size W (w1.setRow g cs) :=
  h.trans ⟨rfl, rfl, rfl, by simp, fun k hk => setRow_other w1 g k cs (by omega)⟩
end
theorem jour_info : (Tryz.prog.info? 114).map (fun i => (i.zero, i.size)) = some (some (.agg (jour [] 0 0).toArray), 494) := by kernel_rfl
theorem jour_built : Tryz.prog.built 114 [] = some (jour [] 0 0).toArray := by kernel_rfl
theorem JB.at {g : Nat} {cs : List Value} {w : World} (h : JB g cs w) {i : Nat} {v : Value} (hv : cs[i]? = some v) : w.cell? ⟨g, i, none⟩ = some v := (h.cell i).trans hv
theorem jour_fit (rs : List (List Int)) (n s : Int) : (Tryz.prog.info? 114).map (·.size) = some (jour rs n s).toArray.size := by
  rw [(zero_of_info jour_info).2]
  simp [jour]
section
variable {ops : Array Oper} {rest : List Oper} {o : Oper} {a : Act} {w : World} {Q : Exit → Act → World → Prop}
theorem load_jour (cs : List Value) (hgd : o.guard = none) (x : Operand) (ho : o.op = .load 114 x) (g : Nat) (hx : a.eval x = .pointer (some ⟨g, 0, none⟩)) (hg : JB g cs w)
    (hi : (Tryz.prog.info? 114).map (·.size) = some cs.toArray.size) (h : wpList Tryz.prog ops Q rest (a.put o.dst (.agg cs.toArray)) w) : wpList Tryz.prog ops Q (o :: rest) a w :=
  wpList_load_row hgd 114 x ho g hx 114 cs.toArray (0, 0) _ hg Tryz.underlying114 rfl hi h
theorem store_jour (cs old : List Value) (hgd : o.guard = none) (x y : Operand) (ho : o.op = .store 114 x y) (g : Nat) (hx : a.eval x = .pointer (some ⟨g, 0, none⟩)) (hy : a.eval y = .agg cs.toArray) (hg : JB g old w)
    (hi : (Tryz.prog.info? 114).map (·.size) = some cs.toArray.size) (hold : old.toArray.size = cs.toArray.size) (h1 : cs.toArray.all (·.oneCell') = true)
    (h : wpList Tryz.prog ops Q rest (a.put o.dst undef) (w.setRow g cs.toArray)) : wpList Tryz.prog ops Q (o :: rest) a w :=
  wpList_store_row hgd 114 x y ho g cs.toArray hx hy 114 old.toArray hg hi hold h1 h
end
theorem jour_old (rs qs : List (List Int)) (n s m t : Int) : (jour rs n s).toArray.size = (jour qs m t).toArray.size := by simp [jour]
theorem jour_with' (rs : List (List Int)) (n s : Int) (zs : List Int) (hk : rs.length < 12) (hz : zs.length ≤ 40) :
    ((splice (jour rs n s) (rs.length * 41) (zs.map (Value.int .u8))).set (rs.length * 41 + 40) (.int .i64 (zs.length : Int))).set 492 (.int .i64 (n + 1)) = jour (rs ++ [zs]) (n + 1) s := by
  rw [Nat.mul_comm]; exact jour_with rs n s zs hk hz
attribute [irreducible] jour
theorem only_row (w : World) (g : Nat) (cs : Array Value) : Only g w (w.setRow g cs) := ⟨rfl, rfl, rfl, by simp, fun k hk => setRow_other w g k cs hk⟩
/-- A copy turns one block alone. -/
theorem wpList_copy_only {P : Program} {w : World} {ops : Array Oper} {rest : List Oper} {o : Oper} {a : Act} {Q : Exit → Act → World → Prop} (hgd : o.guard = none) (d s : Operand) (dT sT : TypeId)
    (ho : o.op = .call { callee := .builtin .copy, args := #[d, s], argTypes := #[dT, sT] }) (elem : TypeId) (hu : P.underlying dT = some (.slice elem)) (hsz : (P.info? elem).map (·.size) = some 1)
    (dp sp : Option Addr) (dLen dCap sLen sCap : Nat) (hd : a.eval d = .slice dp dLen dCap) (hs : a.eval s = .slice sp sLen sCap)
    (g off : Nat) (cur : List Value) (t : TypeId) (hg : w.heap[g]? = some (.cells cur.toArray t (0, 0))) (cs : List Value) (hn : cs.length = Nat.min sLen dLen)
    (hpos : 0 < cs.length → dp = some ⟨g, off, none⟩ ∧ ∃ ad, sp = some ad ∧ ∀ j v, cs[j]? = some v → w.cell? (ad.add j) = some v)
    (hfit : off + cs.length ≤ cur.length) (h1 : ∀ v ∈ cs, v.oneCell' = true)
    (h : ∀ w', w'.heap[g]? = some (.cells (splice cur off cs).toArray t (0, 0)) → Only g w w' → wpList P ops Q rest (a.put o.dst (goInt cs.length)) w') :
    wpList P ops Q (o :: rest) a w := by
  by_cases h0 : cs.length = 0
  · obtain rfl : cs = [] := List.eq_nil_of_length_eq_zero h0
    refine wpList_copy_nothing hgd d s dT sT ho elem hu hsz dp sp dLen dCap sLen sCap hd hs (by simpa using hn.symm) ?_
    exact h w (by simpa [splice] using hg) (Only.refl _ _)
  · obtain ⟨rfl, ad, rfl, hsrc⟩ := hpos (by omega)
    refine wpList_copy_own hgd d s dT sT ho elem hu hsz g off dLen dCap ad sLen sCap hd hs cur.toArray t hg cs hn hsrc (by simpa using hfit) h1 ?_
    refine h _ ?_ (only_row w g _)
    rw [setRow_heap w g _ _ _ _ hg]
    rfl
theorem splice_at {α : Type} (L : List α) (off : Nat) (cs : List α) {i : Nat} (h : off + cs.length ≤ i) (hf : off ≤ L.length) : (splice L off cs)[i]? = L[i]? := by
  unfold splice
  rw [List.getElem?_append_right (by simp; omega), List.getElem?_append_right (by simp; omega), List.getElem?_drop]
  congr 1
  simp
  omega
theorem JB.only {g g' : Nat} {cs : List Value} {w w' : World} (h : JB g cs w) (ho : Only g' w w') (hg : g ≠ g') : JB g cs w' := (ho.block g hg).trans h
theorem bonly {W w w' : World} {g : Nat} (h : Below W.heap.size W w) (ho : Only g w w') (hg : W.heap.size ≤ g) : Below W.heap.size W w' :=
  h.trans (ho.below hg)
theorem with_any (rs : List (List Int)) (s : Int) (zs : List Int) (a : Option Addr) (len cap B : Nat) (w : World) (hR : Row .u8 w B a len cap zs) (hB : B ≤ w.heap.size) (hn : rs.length < 12) (hl : len ≤ 40) :
    Calls Tryz.prog 69 #[.agg (jour rs rs.length s).toArray, .slice a len cap] w fun r w' => r = .returned (.agg (jour (rs ++ [zs]) (rs.length + 1) s).toArray) ∧ Below w.heap.size w w' := by
  have hz := (zero_of_info jour_info).1
  have hzl := hR.length
  have HI := Lib.hid (jour_fit (rs ++ [zs]) (rs.length + 1) s)
  have HE := Lib.hid (jour_with' rs rs.length s zs hn (by omega))
  have HS := Lib.hid (jour_old [] (rs ++ [zs]) 0 0 (rs.length + 1) s)
  have HA := Lib.hid (jour_all (rs ++ [zs]) (rs.length + 1) s)
  have c0 := jour_count rs rs.length s
  have c1 := jour_byte rs rs.length s (k := rs.length) (i := 0) hn (by omega)
  rw [Nat.add_zero, Nat.mul_comm] at c1
  have c2 := jour_size rs rs.length s (k := rs.length) hn
  rw [Nat.mul_comm] at c2
  have HJL := Lib.hid (jour_len rs rs.length s)
  have b0 := bal (bal (Below.refl _ w) (.cells (jour rs rs.length s).toArray 114)) (.cells (jour [] 0 0).toArray 114)
  have Q0 := (JB.new w (jour rs rs.length s)).on (bal (Below.refl _ _) (.cells (jour [] 0 0).toArray 114))
  have R0 := JB.new (w.alloc (.cells (jour rs rs.length s).toArray 114)) (jour [] 0 0)
  rw [World.size_alloc] at R0
  have d0 := Q0.at c0
  have f0 := Q0.free 492
  have e0 := Q0.at c1
  have R1 := hR.below (b0.mono hB)
  obtain ⟨X, hX⟩ : ∃ X, X = zs.map (Value.int .u8) := ⟨_, rfl⟩
  have hXl : X.length = len := by rw [hX]; simpa using hR.length
  have h1 : ∀ v ∈ X, v.oneCell' = true := by rw [hX]; exact ints_oneCell .u8 zs
  rw [← hX] at HE
  generalize (rs[rs.length]?.getD []).getD 0 0 = v0 at *
  generalize ((rs[rs.length]?.getD []).length : Nat) = v4 at *
  generalize rs.length = n at *
  clear c1
  generalize jour [] 0 0 = J0 at *
  generalize jour rs n s = J at *
  generalize jour (rs ++ [zs]) (n + 1) s = K at *
  have hsrc : 0 < X.length → (some ⟨w.heap.size, n * 41, none⟩ : Option Addr) = some ⟨w.heap.size, n * 41, none⟩ ∧ ∃ ad, a = some ad ∧ ∀ j v, X[j]? = some v → ((w.alloc (.cells J.toArray 114)).alloc (.cells J0.toArray 114)).cell? (ad.add j) = some v := by
    intro hp
    obtain ⟨b, off, rfl, hb, hc⟩ := R1.cells (by omega)
    refine ⟨rfl, _, rfl, fun j v hv => ?_⟩
    have hj := (List.getElem?_eq_some_iff.1 hv).1
    rw [hXl] at hj
    rw [Addr.add_lit, hc j hj, ← hv, hX]
    simp [List.getD, show j < zs.length by rw [hzl]; exact hj]
  obtain ⟨v1, hv1⟩ : ∃ v, (splice J (n * 41) X)[n * 41]? = some v := ⟨_, List.getElem?_eq_getElem (by rw [length_splice _ _ _ (by rw [HJL.out]; omega), HJL.out]; omega)⟩
  have hv2 := (splice_at J (n * 41) X (i := 492) (by omega) (by rw [HJL.out]; omega)).trans c0
  have hv3 := (splice_at J (n * 41) X (i := n * 41 + 40) (by omega) (by rw [HJL.out]; omega)).trans c2
  have HV2 := Lib.hid hv2
  have AT := Lib.hid (fun (w2 : World) (h : JB w.heap.size (splice J (n * 41) X) w2) => And.intro (h.at hv1) (And.intro (h.at hv2) (And.intro (h.at hv3) (And.intro (h.free 492) (h.free (n * 41 + 40))))))
  clear hv1 hv2 hv3
  have HSR := Lib.hid hsrc
  have HXl := Lib.hid hXl
  have H1 := Lib.hid h1
  have HQ := Lib.hid Q0
  have HR := Lib.hid R0
  have HB := Lib.hid b0
  have HZ := Lib.hid hzl
  clear Q0 R0 b0 R1 hR c0 c2 hzl hX hXl h1 hsrc
  go_enter Tryz.func69, Tryz.ntmps69
  go_upto_region 1 with fail
  generalize (w.alloc (.cells J.toArray 114)).alloc (.cells J0.toArray 114) = W0 at *
  go_upto_region 2 with fail
  go_upto_region 3 with (refine wpList_copy_only rfl (.tmp 14) (.tmp 15) 22 22 rfl 5 Tryz.underlying22 u8_size _ _ 40 40 len cap rfl rfl w.heap.size (n * 41) J 114 HQ.out X (by rw [HXl.out]; exact (Nat.min_eq_left hl).symm) HSR.out (by rw [HXl.out, HJL.out]; omega) H1.out ?_; intro w2 HG2 b2; obtain ⟨g1, g2, g3, g4, g5⟩ := AT.out w2 HG2; have HG := Lib.hid HG2; have HO := Lib.hid b2; clear HG2 b2 d0 f0 e0)
  rw [HXl.out]
  have HE2 := HE.out
  rw [HZ.out] at HE2
  have Q3 := JB.set HG.out (n * 41 + 40) (.int .i64 len)
  have R3 := (HR.out.only HO.out (by omega)).setB (p := ⟨w.heap.size, n * 41 + 40, none⟩) (by simp) (.int .i64 len)
  have B3 : Below w.heap.size w (w2.setCell ⟨w.heap.size, n * 41 + 40, none⟩ (.int .i64 len)) := (by (iterate 1 (refine bset ?_ (by dsimp only; omega) _)); exact (bonly HB.out HO.out (Nat.le_refl _)))
  generalize w2.setCell ⟨w.heap.size, n * 41 + 40, none⟩ (.int .i64 len) = W3 at *
  have d0 := Q3.at (i := 492) (by rw [List.getElem?_set_ne (by omega)]; exact HV2.out)
  have f0 := Q3.free 492
  have HQ3 := Lib.hid Q3
  have HR3 := Lib.hid R3
  have HB3 := Lib.hid B3
  have HE3 := Lib.hid HE2
  clear Q3 R3 B3 HE2 HE HG HO g1 g2 g3 g4 g5 AT HSR HQ HR HB HV2
  go_upto_region 4 with fail
  have Q4 := HQ3.out.set 492 (.int .i64 (n + 1))
  rw [HE3.out] at Q4
  have R4 := HR3.out.setB (p := ⟨w.heap.size, 492, none⟩) (by simp) (.int .i64 (n + 1))
  have B4 : Below w.heap.size w (W3.setCell ⟨w.heap.size, 492, none⟩ (.int .i64 (n + 1))) := (by (iterate 1 (refine bset ?_ (by dsimp only; omega) _)); exact HB3.out)
  have HQ4 := Lib.hid Q4
  have HR4 := Lib.hid R4
  have HB4 := Lib.hid B4
  clear Q4 R4 B4 HQ3 HR3 HB3 HE3 d0 f0 hz
  generalize W3.setCell ⟨w.heap.size, 492, none⟩ (.int .i64 (n + 1)) = W4 at *
  go_wp2_with (first | (refine load_jour K rfl (.tmp 2) rfl w.heap.size rfl HQ4.out HI.out ?_) | (refine store_jour K J0 rfl (.tmp 4) (.tmp 23) rfl (w.heap.size + 1) rfl rfl HR4.out HI.out HS.out HA.out ?_))
  simp only [Act.put, List.setIfInBounds_toArray, List.set_cons_zero, List.set_cons_succ]
  exact bodyPost_ret (v := .agg K.toArray) (results_cell_row Tryz.results69 _ _ (w.heap.size + 1) 114 K.toArray (0, 0) _ rfl (HR4.out.row K) Tryz.underlying114 rfl HI.out) rfl ⟨rfl, brow HB4.out (by omega) _⟩
end Go.Proofs.YtcolecidbalmhaaGreatDoor
