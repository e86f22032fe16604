/- Contracts of the library functions that tell the pins of a map and collect them. Conditions: as each theorem states. -/
import Derived.Test.YtcnpocppgghejaaDoorC7d
import Derived.Maps.OwnIn
import Derived.Sort.MapsRangeIn
import Derived.Sort.KeysCollected
import Derived.RangeFuncMany
import Derived.RangeFuncWrites
import Derived.RangeFuncNested
import Derived.TacticsInMore
import Derived.OwnWalkIn
import Derived.RegionIn
import Derived.LoopNIn
import Derived.LoopIn
namespace Go.Proofs.YtcnpocppgghejaaDoor
open Go.RowKit Go.Maps Go.Sort
set_option maxRecDepth 100000
set_option linter.unusedVariables false

/-- The pins that have been told: those that are no longer to come. -/
def CollP (ps : List PinD) (left : Lit → Bool) (xs : List PinD) : Prop := xs.Nodup ∧ ∀ x, x ∈ xs ↔ (x ∈ ps ∧ left (.string x.nm) = false)
theorem CollP.start {D : DataW PinD} {ps : List PinD} (hm : MapIs D ps) (ha : Apart ps) : CollP ps (Maps.has D) [] := by
  refine ⟨List.nodup_nil, fun x => ⟨fun h => absurd h (by simp), fun ⟨h1, h2⟩ => ?_⟩⟩
  rw [hm.has] at h2
  cases hf : findP ps x.nm with
  | none => exact absurd rfl (findP_none hf x h1)
  | some q => rw [hf] at h2; cases h2
theorem CollP.step {ps : List PinD} {left : Lit → Bool} {xs : List PinD} {c : PinD} {l : List UInt8} (h : CollP ps left xs) (ha : Apart ps) (hlk : left (.string l) = true) (hf : findP ps l = some c) : CollP ps (fun z => left z && !z.sameKey (.string l)) (xs ++ [c]) := by
  obtain ⟨hc, hl⟩ := findP_mem hf
  have hnew : c ∉ xs := fun hx => by
    have := ((h.2 c).1 hx).2
    rw [hl, hlk] at this
    cases this
  refine ⟨List.nodup_append.2 ⟨h.1, by simp, fun a ha' b hb => by simp at hb; subst hb; exact fun e => hnew (e ▸ ha')⟩, fun x => ?_⟩
  rw [List.mem_append, h.2 x]
  constructor
  · rintro (⟨h1, h2⟩ | hx)
    · exact ⟨h1, by simp [h2]⟩
    · simp at hx
      subst hx
      exact ⟨hc, by simp [hl, same_str]⟩
  · rintro ⟨h1, h2⟩
    by_cases e : x.nm = l
    · refine .inr ?_
      rw [apart_inj ha h1 hc (e.trans hl.symm)]
      simp
    · refine .inl ⟨h1, ?_⟩
      simpa [same_str, e] using h2
theorem Apart.nodup {ps : List PinD} (h : Apart ps) : ps.Nodup := h.imp fun h e => h (by rw [e])
theorem CollP.done {ps : List PinD} {left : Lit → Bool} {xs : List PinD} (h : CollP ps left xs) (ha : Apart ps) (hl : ∀ k, left k = false) : xs.Perm ps :=
  (List.perm_ext_iff_of_nodup h.1 ha.nodup).2 fun x => by rw [h.2 x, hl]; simp

set_option maxHeartbeats 2000000 in
theorem values_stops (m : Nat) (hm1 : 1 ≤ m) (Bm b : Nat) (ps : List PinD) (w : World) (hBm : Bm < w.heap.size) (cm : w.cell? ⟨Bm, 0, none⟩ = some (.map (some b))) (hM : PMap w b ps) :
    SeqStopsK Fence.wide m Tryd.prog 93 #[.pointer (some ⟨Bm, 0, none⟩)] (fun p : PinD => #[P5 p]) KeepsWalks (fun xs => xs.Perm ps) (fun _ => True) ps.length w := fun l J Jx W hW hJ hJx hY h0 => by
  have ap := hM.apart
  obtain ⟨D, ho, hm⟩ := (hM.on hW).own
  have cm1 := cell_keep hW cm
  have hz := hm.size
  have HJ := Lib.hid hJ
  have HY := Lib.hid hY
  clear hJ hJx hY hM cm
  refine callsIn_of_wp Tryd.func93 rfl trivial ?_ rfl
  simp only [Tryd.ntmps93, List.size_toArray, List.length_cons, List.length_nil, Nat.reduceAdd, Nat.reduceSub, Array.replicate_succ, Array.replicate_zero, List.push_toArray, List.append_toArray, List.nil_append, List.cons_append]
  gi_wp2_with (first
    | (gi_at_range; refine wpListIn_range_own _ rfl _ 68 rfl 9 26 str_law Tryd.underlying68 _ b ps.length _ rfl ho ?_; intro w0 hrg0 hg0 hs0)
    | gi_in)
  gi_loopw [4] (fun _ wr => ∃ (left : Lit → Bool) (cnt : Nat) (xs : List PinD), wr.ranges Tryd.prog 9 pinR b W.heap.size ps.length D left cnt ∧ xs.length + cnt ≤ ps.length ∧ CollP ps left xs ∧ J xs wr) (fun _ wr => wr.rangeLeft b W.heap.size)
  case atStart =>
    exact ⟨_, _, [], hrg0, by simp [hz], CollP.start hm ap, HJ.out [] W w0 none h0 hg0 (fun r e => by cases e)⟩
  case round =>
    obtain ⟨left, cnt, xs, hrg, hcs, hC, hJs⟩ := hrel
    gi_wp2_with (first
      | (gi_at_next; refine wpListIn_next_ranges _ rfl _ rfl 9 str_law pinR encStr (fun p : PinD => P5 p) (fun key kl hk => by obtain ⟨x, hx, _⟩ := Maps.keyOf_str Tryd.underlying9 hk; exact ⟨x, hx⟩) (fun v y hv => by obtain ⟨c, rfl, _⟩ := pinR_inv hv; exact ⟨c, rfl⟩) b W.heap.size ps.length _ _ _ rfl hrg ?_ ?_)
      | gi_in)
    · intro hc0 hl0
      gi_wp2
      go_end0
      exact ⟨⟨_, rfl⟩, .inl ⟨xs, hC.done ap hl0, hJs⟩⟩
    · intro x c kl yd yp w2 cnt2 hkey hlk hv hat hrg2 hlt hg2 hs2 hen
      obtain ⟨x', ex, rfl, _⟩ := Maps.keyOf_str Tryd.underlying9 hkey
      obtain rfl : x = x' := encStr_inj ex
      have hyd : yd = .held c := by
        rw [pinR_mk] at hv
        injection hv with hv
        injection hv with h1 _
        exact h1.symm
      have hf : findP ps x = some c := by
        have h1 := Maps.has_true_of_atKey hat
        have h2 := hat (.held pin0)
        rw [hm.at' ap, hyd] at h2
        rw [hm.has] at h1
        cases h3 : findP ps x with
        | none => rw [h3] at h1; cases h1
        | some q =>
          rw [h3] at h2
          injection h2 with h2
          exact congrArg some h2
      have hJ2 := HJ.out _ wr w2 (some W.heap.size) hJs hg2 (fun r e => by cases e; exact ⟨Nat.le_refl _, hrg.iter_walk⟩)
      have hJ3 := HJ.out _ w2 (w2.alloc (.cells #[.string c.n, .int .i64 c.a, .int .i64 c.b, .int .i64 c.e, .int .i64 c.u] 26)) none hJ2 (World.grownBy_alloc w2 _ none) (fun r e => by cases e)
      obtain ⟨fn, tmps, assign, body, hy, hR⟩ := HY.out xs c _ hJ3 (by omega)
      have hrg3 := hrg2.alloc (.cells #[.string c.n, .int .i64 c.a, .int .i64 c.b, .int .i64 c.e, .int .i64 c.u] 26)
      have hC2 := Lib.hid (hC.step ap hlk hf)
      have HR3 := Lib.hid hrg3
      have HLT := Lib.hid hlt
      have HRG := Lib.hid hrg
      clear hs2 hat hv hkey hJ2 hJ3 hrg2 hrg3 hg2 hC hJs hlt hf hyd
      gi_wp2
      refine hR.mono ?_
      rintro e W3 (⟨rfl, hJ4, hk4⟩ | ⟨rfl, hJx4⟩)
      · have hrg4 := HR3.out.of_walks hk4
        gi_wp2
        go_roundw
        case rel => exact ⟨_, cnt2, xs ++ [c], hrg4, by have := HLT.out; simp; omega, hC2.out, hJ4⟩
        case measure => rw [hrg4.left_eq, HRG.out.left_eq]; exact HLT.out
      · gi_wp2
        refine bodyPost_ret (results_none rfl _ _ _) rfl ?_
        exact ⟨⟨_, rfl⟩, .inr ⟨_, trivial, hJx4⟩⟩
end Go.Proofs.YtcnpocppgghejaaDoor
