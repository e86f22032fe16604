/- Contracts of how the pins of a map are sorted. Conditions: as each theorem states. -/
import Derived.Test.YtcnpocppgghejaaDoorC7g
import Derived.Test.YtcnpocppgghejaaDoorShelf7
import Derived.Sort.LotA
namespace Go.Proofs.YtcnpocppgghejaaDoor
open Go.RowKit Go.Maps Go.Sort Go.Shelf
set_option maxRecDepth 100000
set_option linter.unusedVariables false

theorem flatK_get (ps : List PinD) (t : Nat) (h : t < ps.length * 5) : (flatK PinD.vals 5 ps.toArray)[t]! = ((ps[t / 5]?.getD pin0).vals)[t % 5]! := by
  rw [get_flatK _ _ _ _ (by simpa using h)]
  have h5 : t / 5 < ps.length := by omega
  congr 2
  simp [h5]
theorem vals_get (p : PinD) {i : Nat} (hi : i < 5) : p.vals[i]? = some p.vals[i]! := by
  rw [List.getElem?_eq_getElem (by rw [PinD.vals_length]; exact hi), List.getElem!_eq_getElem?_getD, List.getElem?_eq_getElem (by rw [PinD.vals_length]; exact hi)]
  rfl
theorem OwnP.holds {w : World} {B g n c : Nat} {ps : List PinD} (h : OwnP w B (.slice (some ⟨g, 0, none⟩) n c) ps) : HoldsK PinD.vals 5 w g 0 ps.toArray := by
  intro j hj
  rw [size_flatK] at hj
  have hj' : j < ps.length * 5 := by simpa using hj
  have h5 : j / 5 < ps.length := by omega
  have hm : j % 5 < 5 := Nat.mod_lt _ (by omega)
  have hjj : j / 5 * 5 + j % 5 = j := by omega
  rw [flatK_get ps j hj']
  have := h.cell h5 (vals_get (ps[j / 5]?.getD pin0) hm)
  rw [hjj] at this
  rw [Nat.zero_add]
  exact this
theorem grownBy_sortK {w : World} {g m : Nat} {os : Array Obj} (d : Array PinD) : w.grownBy (sortWorldK PinD.vals 5 w g 0 m d os) (some g) := by
  refine ⟨rfl, rfl, rfl, by simp [sortWorldK, putRowK], fun k hk hne => ?_⟩
  unfold sortWorldK putRowK putRow mapBlock
  rw [heap_grow_old _ _ (by simpa using hk)]
  have : g ≠ k := fun e => hne (by rw [e])
  simp [Array.getElem?_modify, this]
theorem OwnP.sorted {w : World} {B g n c m : Nat} {xs ys : List PinD} {os : Array Obj} (h : OwnP w B (.slice (some ⟨g, 0, none⟩) n c) xs) (hl : ys.length = xs.length) :
    OwnP (sortWorldK PinD.vals 5 w g 0 m ys.toArray os) B (.slice (some ⟨g, 0, none⟩) n c) ys := by
  have hH := h.holds
  rcases h.2 with ⟨e, h0⟩ | ⟨g', c', e, hB, hg, hn, hm, hcell, hroom⟩
  · cases e
  injection e with e1 e2 e3
  injection e1 with e1
  injection e1 with e1 _ _
  subst e1
  subst e3
  have hK : HoldsK PinD.vals 5 (sortWorldK PinD.vals 5 w g 0 m ys.toArray os) g 0 ys.toArray :=
    holdsK_grow _ _ _ _ _ _ _ (by simp [putRowK]; exact hg) (holdsK_putRowK _ _ _ _ _ xs.toArray _ (holdsK_ahead _ _ _ _ _ _ _ hH) (by simpa using hl))
  refine ⟨by rw [flat_length], .inr ⟨g, c, by rw [e2, hl], hB, ?_, by omega, hm, fun j u hu => ?_, fun j hj => ?_⟩⟩
  · simp [sortWorldK, putRowK]; omega
  · have hj := (List.getElem?_eq_some_iff.1 hu).1
    rw [flat_length] at hj
    have h5 : j / 5 < ys.length := by omega
    have hm5 : j % 5 < 5 := Nat.mod_lt _ (by omega)
    have hjj : j / 5 * 5 + j % 5 = j := by omega
    have q1 := flat_get ys (j / 5) (j % 5) _ h5 (vals_get _ hm5)
    rw [hjj, hu] at q1
    injection q1 with q1
    have := (hK j (by rw [size_flatK]; simpa using hj)).1
    rw [flatK_get ys j hj, Nat.zero_add] at this
    rw [q1]
    exact this
  · by_cases hj5 : j < ys.length * 5
    · have := hK j (by rw [size_flatK]; simpa using hj5)
      rw [Nat.zero_add] at this
      exact ⟨by rw [this.1]; rfl, this.2⟩
    · obtain ⟨q1, q2⟩ := hroom j hj
      have hgw : g < (putRowK PinD.vals 5 (Sort.ahead w m) g 0 ys.toArray).heap.size := by simp [putRowK]; exact hg
      unfold sortWorldK
      rw [cell?_grow _ _ ⟨g, j, none⟩ hgw, frozen?_grow _ _ ⟨g, j, none⟩ hgw]
      unfold putRowK
      rw [frozen?_putRow, cell?_putRow_other _ _ _ _ _ ⟨g, j, none⟩ (.inr (.inr (by rw [size_flatK]; simp; omega)))]
      exact ⟨q1, q2⟩

theorem cmpPin_any (p q : PinD) (W : World) : Calls Tryd.prog 76 #[P5 p, P5 q] W fun e w' => e = .returned (.int .i64 (Lib.compareBytes p.nm q.nm)) ∧ ∃ n os', w' = grow (W.drewN n) os' := by
  have hcon : ∀ W', Calls Tryd.prog 77 #[.string p.n, .string q.n] W' fun e w' => e = .returned (.int .i64 (Lib.compareBytes p.nm q.nm)) ∧ w' = W' := fun W' => Any.strings_Compare lays106 p.n q.n W'
  generalize Lib.compareBytes p.nm q.nm = r at hcon ⊢
  go_enter Tryd.func76, Tryd.ntmps76
  go_wp2_with fail
  refine (hcon _).mono ?_
  rintro e w' ⟨rfl, rfl⟩
  go_wp2_with fail
  go_ret
  exact ⟨rfl, 0, _, by rw [alloc_eq_grow, alloc_eq_grow, grow_grow]; rfl⟩
def cfP (p q : PinD) : Int := Lib.compareBytes p.nm q.nm
theorem ltOf_cfP (p q : PinD) : ltOf cfP p q = nlt p.nm q.nm := cmp_lt p.nm q.nm
theorem swo_cfP : SWO (ltOf cfP) where
  irrefl x := by rw [ltOf_cfP]; exact nlt_irrefl _
  trans x y z h1 h2 := by rw [ltOf_cfP] at *; exact nlt_trans h1 h2
  ntrans x y z h1 h2 := by
    rw [ltOf_cfP] at *
    cases h : nlt x.nm z.nm
    · rfl
    · by_cases e : x.nm = y.nm
      · rw [e, h2] at h; cases h
      · have h3 := nlt_trans (nlt_total h1 e) h
        rw [h2] at h3
        cases h3
theorem sortFunc_any (blk cap : Nat) (xs : List PinD) (w : World) (hH : HoldsK PinD.vals 5 w blk 0 xs.toArray) (hb : blk < w.heap.size) (h12 : xs.length ≤ 12) :
    Calls Tryd.prog 92 #[.slice (some ⟨blk, 0, none⟩) xs.length cap, .func (.func 76) #[] #[]] w fun e w' =>
      e = .returned (.tuple #[]) ∧ ∃ (ys : List PinD) (n : Nat) (os : Array Obj), ys.Perm xs ∧ ys.Pairwise (fun p q => nlt q.nm p.nm = false) ∧ w' = sortWorldK PinD.vals 5 w blk 0 n ys.toArray os := by
  have eg : ∀ args w, (callFunc 76 args).run Tryd.prog w = .ok (.enter 76 args) w := enters_of Tryd.func76 (by kernel_rfl) rfl
  have hlen : ∀ (n : Nat) (W : World), n ≤ 12 → Calls Tryd.prog 106 #[.int .u64 n] W fun e w' => (∃ l : Int, e = .returned (.int .i64 l)) ∧ w' = W := fun n W h => (Any.bits_Len lays125 n W (by omega) (by omega)).mono fun _ _ ⟨he, hw⟩ => ⟨⟨_, he⟩, hw⟩
  have hcon := AnyQ.slices_SortFunc_small_sorted laysSort 5 Tryd.isAgg26 Tryd.sizeOf26 PinD.vals (fun _ => rfl) pin_oneCell cfP 76 #[] swo_cfP blk 0 cap xs.toArray w eg (fun _ _ _ _ x y => cmpPin_any x y _) hH hb (by simpa using h12) hlen
  simp only [List.size_toArray] at hcon
  refine Calls.mono (show Calls Tryd.prog 92 _ _ _ from hcon) ?_
  rintro e w' ⟨rfl, d', n, os, ⟨p1, p2, p3⟩, hs, rfl⟩
  refine ⟨rfl, d'.toList, n, os, ?_, ?_, by simp⟩
  · have e1 : d'.extract 0 xs.length = d' := by rw [Array.extract_eq_self_iff]; right; exact ⟨rfl, by simp at p1; omega⟩
    rw [e1] at p3
    simpa using p3
  · rw [List.pairwise_iff_getElem]
    intro i j hi hj hij
    have := hs i j (Nat.zero_le _) hij (by simp at p1 hj; omega)
    rw [ltOf_cfP] at this
    simp at hi hj
    simpa [hi, hj] using this

theorem OwnP.some' {w : World} {B : Nat} {v : Value} {xs : List PinD} (h : OwnP w B v xs) (hx : 0 < xs.length) : ∃ g c, v = .slice (some ⟨g, 0, none⟩) xs.length c ∧ B ≤ g ∧ g < w.heap.size := by
  rcases h.2 with ⟨e, h0⟩ | ⟨g, c, e, hB, hg, _⟩
  · omega
  · exact ⟨g, c, e, hB, hg⟩
theorem rise_of {xs ys ps : List PinD} (hp : ys.Perm ps) (ha : Apart ps) (h : ys.Pairwise (fun p q => nlt q.nm p.nm = false)) : Rise ys := by
  have ha' : Apart ys := (hp.symm.pairwise_iff (fun {a b} (h : a.nm ≠ b.nm) => h.symm)).1 ha
  exact (ha'.and h).imp fun ⟨h1, h2⟩ => nlt_total h2 (fun e => h1 e.symm)
/-- A new slice of the pins of ps in rising order was answered. -/
def Sorted (ps : List PinD) (w : World) (e : Ending) (w' : World) : Prop := ∃ g c ys, e = .returned (.slice (some ⟨g, 0, none⟩) ys.length c) ∧ ys.Perm ps ∧ Rise ys ∧ OwnP w' w.heap.size (.slice (some ⟨g, 0, none⟩) ys.length c) ys ∧ Below w.heap.size w w'
theorem sortedFunc_any (b Bm : Nat) (ps : List PinD) (w : World) (hBm : Bm < w.heap.size) (cm : w.cell? ⟨Bm, 0, none⟩ = some (.map (some b))) (hM : PMap w b ps) (hl : ps.length ≤ 12) (h0 : 0 < ps.length) :
    Calls Tryd.prog 74 #[.func (.func 93) #[] #[.pointer (some ⟨Bm, 0, none⟩)], .func (.func 76) #[] #[]] w (Sorted ps w) := by
  have ha := hM.apart
  have S := collect_any b Bm ps w hBm cm hM (by omega)
  clear hM cm
  go_enter Tryd.func74, Tryd.ntmps74
  go_wp2_with fail
  refine S.mono ?_
  rintro r u1 ⟨v, xs, rfl, hp, hO, b1⟩
  have hlx := hp.length_eq
  obtain ⟨g, c, rfl, hg0, hg1⟩ := hO.some' (by omega)
  have T := sortFunc_any g c xs u1 hO.holds hg1 (by omega)
  have HO := Lib.hid hO
  have HP := Lib.hid hp
  clear hO S hlx hp
  go_wp2_with fail
  refine T.mono ?_
  rintro r u2 ⟨rfl, ys, n, os, hq, hs, hw⟩
  have hl2 : xs.length = ys.length := hq.length_eq.symm
  have O2 : OwnP u2 w.heap.size (.slice (some ⟨g, 0, none⟩) xs.length c) ys := by
    rw [hw]
    exact HO.out.sorted (m := n) (os := os) (ys := ys) hq.length_eq
  have b2 : RowKit.Below w.heap.size w u2 := by
    rw [hw]
    exact b1.grown (grownBy_sortK (w := u1) (g := g) (m := n) (os := os) ys.toArray) b1.size (fun k e => by injection e with e; subst e; exact hg0)
  have H : Sorted ps w (.returned (.slice (some ⟨g, 0, none⟩) xs.length c)) u2 := ⟨g, c, ys, by rw [hl2], hq.trans HP.out, rise_of (xs := xs) (hq.trans HP.out) ha hs, by rw [← hl2]; exact O2, b2⟩
  have HH := Lib.hid H
  clear O2 b2 hs T HO hw H hq hl2
  go_wp2_with fail
  go_ret
  exact HH.out
theorem risingPins_any (b : Nat) (ps : List PinD) (w : World) (hM : PMap w b ps) (hl : ps.length ≤ 12) (h0 : 0 < ps.length) :
    Calls Tryd.prog 54 #[.map (some b)] w (Sorted ps w) := by
  have b0 := bal (Below.refl _ w) (.cells #[.map (some b)] 68)
  have X0 := (At.new w [.map (some b)] 68).cell 0 _ rfl
  have S := sortedFunc_any b w.heap.size ps _ (by simp) X0 (hM.alloc _) hl h0
  clear X0 hM
  go_enter Tryd.func54, Tryd.ntmps54
  go_wp2_with fail
  refine (values_any b _).mono ?_
  rintro r u1 ⟨rfl, rfl⟩
  go_wp2_with fail
  refine S.mono ?_
  rintro r u2 ⟨g, c, ys, rfl, hp, hr, hO, b2⟩
  have bb := btr b0 b2
  have hO2 := hO.less b0.size
  have H := Lib.hid (show Sorted ps w (.returned (.slice (some ⟨g, 0, none⟩) ys.length c)) u2 from ⟨g, c, ys, rfl, hp, hr, hO2, bb⟩)
  clear hO hO2 hr b2 bb
  go_wp2_with fail
  go_ret
  exact H.out
end Go.Proofs.YtcnpocppgghejaaDoor
