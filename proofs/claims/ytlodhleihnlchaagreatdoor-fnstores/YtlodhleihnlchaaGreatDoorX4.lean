/- Texts of this seat that several laws rest on, laid into one. Conditions: as each theorem states. -/
import Derived.Test.YtlodhleihnlchaaGreatDoorX0
import Derived.Test.YtlodhleihnlchaaGreatDoorX1
import Derived.Test.YtlodhleihnlchaaGreatDoorX3
namespace Go.Proofs.YtlodhleihnlchaaGreatDoor
open Go.RowKit
set_option maxRecDepth 100000

theorem Own.only {g : Nat} {w w' : World} {B size : Nat} {v : Value} {n : Nat} {xs : List Value} (h : Own w B size v n xs) (hO : Only g w w') (hg : g < B) : Own w' B size v n xs :=
  h.keep (by rw [hO.size]; exact Nat.le_refl _) fun k hk => hO.block k (by have := (h.lt k hk).1; omega)
theorem Only.grown {g : Nat} {w w' : World} (h : Only g w w') : w.grownBy w' (some g) := ⟨h.os, h.tape, h.output, by rw [h.size]; exact Nat.le_refl _, fun k _ hne => h.block k (fun e => hne (by rw [e]))⟩
section
variable {w0 : World} {a : Option Addr} {len cap : Nat} {zs : List Int} {p : Nat} {w w' : World}
theorem Draw.lt (h : Draw w0 a len cap zs p w) : w0.heap.size < w.heap.size := h.src.lt
theorem Draw.grown {row : Option Nat} (h : Draw w0 a len cap zs p w) (hg : w.grownBy w' row) (hr : ∀ k, row = some k → w0.heap.size < k) : Draw w0 a len cap zs p w' :=
  ⟨h.src.keep (hg.block _ h.lt (fun e => by have := hr _ e.symm; omega)),
   h.row.keep (fun i hi => hg.block i (by have := h.lt; omega) (fun e => by have := hr _ e.symm; omega)),
   h.bel.grown hg h.bel.size (fun k hk => by have := hr k hk; omega)⟩
end

def DSome (w0 : World) (a : Option Addr) (len cap : Nat) (zs : List Int) (p n : Nat) (w : World) (r : Ending) (w' : World) : Prop :=
  ∃ a' c' zs', r = .returned (.slice a' n c') ∧ OwnK .u8 w' w.heap.size (.slice a' n c') zs' ∧ (∀ z ∈ zs', (Lit.int .u8 z).wf = true) ∧ Draw w0 a len cap zs (p + n) w' ∧ w.grownBy w' (some w0.heap.size)
structure SomeRel (w0 : World) (a : Option Addr) (len cap : Nat) (zs : List Int) (p : Nat) (w : World) (k : Nat) (v : Value) (wr : World) : Prop where
  own : ∃ zs', zs'.length = k ∧ OwnK .u8 wr w.heap.size v zs' ∧ ∀ z ∈ zs', (Lit.int .u8 z).wf = true
  draw : Draw w0 a len cap zs (p + k) wr
  grew : w.grownBy wr (some w0.heap.size)
theorem u8_wf {x : Int} (h0 : 0 ≤ x) (h1 : x < 256) : (Lit.int .u8 x).wf = true := byte_wf ⟨h0, by omega⟩

theorem dsome {w0 : World} {a : Option Addr} {len cap : Nat} {zs : List Int} {p : Nat} (n : Nat) {w : World} (D : Draw w0 a len cap zs p w) (hp : p ≤ 1000) (hn : n ≤ 2000) :
    Calls Tryz.prog 207 #[.pointer (some ⟨w0.heap.size, 0, none⟩), .int .i64 n] w (DSome w0 a len cap zs p n w) := by
  obtain ⟨i0, hi0, hz0, hz1, hz2⟩ := info_parts u8_info
  have hlt0 := D.lt
  have T0 : SomeRel w0 a len cap zs p w 0 (.slice (some ⟨w.heap.size, 0, none⟩) 0 0) (w.alloc (.cells #[] 5)) :=
    ⟨⟨[], rfl, own_empty w 5, (fun _ h => by cases h)⟩, D.alloc _, World.grownBy_alloc w _ _⟩
  clear D
  go_enter Tryz.func207, Tryz.ntmps207
  go_wp2_with fail
  generalize w.alloc (.cells #[] 5) = W1 at *
  go_loopw [1, 5] (fun q v wr => ∃ k : Nat, k ≤ n ∧ q = .int .i64 ((n : Int) - k) ∧ SomeRel w0 a len cap zs p w k v wr) (fun q _ _ => (intOf q).toNat)
  case atStart => exact ⟨0, Nat.zero_le _, by go_num, T0⟩
  case round =>
    obtain ⟨k, hk, rfl, hT⟩ := hrel
    obtain ⟨zs', hzl, hO, hwf⟩ := hT.own
    have HT := Lib.hid hT
    have HZ := Lib.hid hzl
    have HWF := Lib.hid hwf
    have D := hT.draw
    clear hT hzl hwf
    by_cases hlt : k < n
    · have hpos : 0 < (n : Int) - k := by omega
      have hszr := HT.out.grew.size
      go_wp2_with fail
      refine (dnext _ D (by omega)).mono ?_
      rintro r w2 ⟨x, x0, x1, rfl, D2, O2⟩
      have x2 : x < 256 := by omega
      have hO2 := hO.only O2 hlt0
      have hs2 := O2.size
      have HS2 := Lib.hid hs2
      have hle2 : w.heap.size ≤ w2.heap.size := by omega
      have hlen : zs'.length ≤ 2000 := by have := HZ.out; omega
      have HG2 := Lib.hid (grown_trans HT.out.grew O2.grown (row := some w0.heap.size) (fun g hg => .inr hg) (fun g hg => .inr hg))
      clear x1 D O2 hs2 hO
      go_wp2_with (at_builtin; refine wpList_append_src _ rfl (.tmp 11) (.tmp 15) 22 22 rfl w.heap.size 5 i0 (.int .u8 0) 1 1 Tryz.underlying22 hi0 hz0 hz1 hz2 rfl _ _ _ rfl (hO2.alloc _) _ 1 [.int .u8 x] rfl (src_new w2 _ 1 1 _ _ _ Tryz.underlying22 rfl (ints_oneCell .u8 [x])) (by simp only [maxLen]; omega) (by omega) (by simp; omega) ?_; intro v3 w3 hown hgrow hat)
      have T2 : SomeRel w0 a len cap zs p w (k + 1) v3 w3 := by
        refine ⟨⟨zs' ++ [x], by simp [HZ.out], by unfold OwnK; simpa using hown, fun z hz => ?_⟩, ?_, ?_⟩
        · rcases List.mem_append.1 hz with hz | hz
          · exact HWF.out z hz
          · simp at hz; subst hz; exact u8_wf x0 x2
        · exact (D2.alloc _).grown hgrow (fun g hg => by have := (hO2.lt g hg).1; omega)
        · exact grown_trans HG2.out (grown_alloc hgrow) (row := some w0.heap.size) (fun g hg => .inr hg) (fun g hg => .inl (hO2.lt g hg).1)
      clear hown hgrow hat hO2 D2 hlen
      go_wp2_with fail
      go_roundw
      case rel => exact ⟨k + 1, by omega, by go_num, T2⟩
      case measure => simp [intOf]; omega
    · obtain rfl : k = n := by omega
      obtain ⟨a', c', hv, -⟩ := hO.form
      rw [HZ.out] at hv
      have HO := Lib.hid hO
      clear hO D
      subst hv
      go_wp2_with fail
      go_ret
      exact ⟨a', c', zs', rfl, HO.out, HWF.out, HT.out.draw, HT.out.grew⟩

end Go.Proofs.YtlodhleihnlchaaGreatDoor
namespace Go.Proofs.YtlodhleihnlchaaGreatDoor
open Go.RowKit
set_option maxRecDepth 100000
set_option linter.unusedVariables false

abbrev bentN : List ByteArray := [{ data := #[97, 46, 98] }, { data := #[65, 46, 66, 46] }, { data := #[109, 97, 105, 108, 46, 120] }, { data := #[45, 97] }, { data := #[97, 45] }, { data := #[97, 46, 46, 98] }, { data := #[46] }, { data := #[] }, { data := #[97, 95, 98] }, { data := #[97, 98, 99, 100, 101, 102, 103, 104, 105, 106, 46, 97, 98, 99, 100, 101, 102, 103, 104, 105] }, { data := #[97, 98, 99, 100, 101, 102, 103, 104, 105, 106, 46, 97, 98, 99, 100, 101, 102, 103, 104, 105, 106] }, { data := #[122, 46] }]
abbrev drawN : List ByteArray := [{ data := #[97, 46, 98] }, { data := #[109, 97, 105, 108, 46, 120] }, { data := #[104, 111, 115, 116, 45, 49] }, { data := #[122] }]
theorem bentN_size (k : Nat) : ((bentN.getD k ByteArray.empty).size) ≤ 21 := by
  rcases Nat.lt_or_ge k 12 with h | h
  · have : ∀ j : Fin 12, ((bentN.getD j.val ByteArray.empty).size) ≤ 21 := by decide
    exact this ⟨k, h⟩
  · have : bentN.getD k ByteArray.empty = ByteArray.empty := by simp [List.getD, h]
    rw [this]; decide
theorem drawN_size (k : Nat) : ((drawN.getD k ByteArray.empty).size) ≤ 20 := by
  rcases Nat.lt_or_ge k 4 with h | h
  · have : ∀ j : Fin 4, ((drawN.getD j.val ByteArray.empty).size) ≤ 20 := by decide
    exact this ⟨k, h⟩
  · have : drawN.getD k ByteArray.empty = ByteArray.empty := by simp [List.getD, h]
    rw [this]; decide
theorem drawN_norm (k : Nat) (h : k < 4) : M.normF (drawN.getD k ByteArray.empty).data.toList = 0 := by
  have : ∀ j : Fin 4, M.normF (drawN.getD j.val ByteArray.empty).data.toList = 0 := by decide +kernel
  exact this ⟨k, h⟩

theorem gtr {w w1 w2 : World} {g : Nat} (h : w.grownBy w1 (some g)) (k : w1.grownBy w2 (some g)) : w.grownBy w2 (some g) := grown_trans h k (fun _ e => .inr e) (fun _ e => .inr e)
theorem gal {w w1 : World} {g : Nat} (h : w.grownBy w1 (some g)) (o : Obj) : w.grownBy (w1.alloc o) (some g) :=
  ⟨h.os, h.tape, h.output, Nat.le_trans h.size (by simp), fun k hk hne => (Below.heap_alloc w1 o k (Nat.lt_of_lt_of_le hk h.size)).trans (h.block k hk hne)⟩
theorem gbe {w w1 w2 : World} {g : Nat} (h : w.grownBy w1 (some g)) (k : Below w1.heap.size w1 w2) : w.grownBy w2 (some g) :=
  ⟨k.os.trans h.os, k.tape.trans h.tape, k.output.trans h.output, Nat.le_trans h.size k.size, fun i hi hne => (k.block i (Nat.lt_of_lt_of_le hi h.size)).trans (h.block i hi hne)⟩
theorem gset {w w1 : World} {g : Nat} (h : w.grownBy w1 (some g)) {p : Addr} (hp : w.heap.size ≤ p.block) (v : Value) : w.grownBy (w1.setCell p v) (some g) :=
  ⟨h.os, h.tape, h.output, by simpa [World.setCell] using h.size, fun k hk hne => (Below.heap_setCell w1 p v k (by omega)).trans (h.block k hk hne)⟩

theorem Draw.put {w0 : World} {a : Option Addr} {len cap : Nat} {zs : List Int} {p : Nat} {w : World} {x : Addr} (h : Draw w0 a len cap zs p w) (hx : w0.heap.size < x.block) (u : Value) : Draw w0 a len cap zs p (w.setCell x u) :=
  h.grown (row := some x.block) ⟨rfl, rfl, rfl, by simp [World.setCell], fun k hk hne => Below.heap_setCell w x u k (fun e => hne (by rw [e]))⟩ (fun k e => by injection e with e; omega)
theorem At.only5 {g g0 : Nat} {cs : List Value} {w w' : World} (h : At g cs w) (hO : Only g0 w w') (hg : g ≠ g0) : At g cs w' := h.keep fun _ => hO.block g hg
def DText (Q : ByteArray → Prop) (w0 : World) (a : Option Addr) (len cap : Nat) (zs : List Int) (p : Nat) (w : World) (r : Ending) (w' : World) : Prop :=
  ∃ s : ByteArray, Q s ∧ r = .returned (.string s) ∧ Draw w0 a len cap zs (p + 1) w' ∧ w.grownBy w' (some w0.heap.size)
theorem dl5Bent {w0 : World} {a : Option Addr} {len cap : Nat} {zs : List Int} {p : Nat} {w : World} (D : Draw w0 a len cap zs p w) (hp : p ≤ 1000000) :
    Calls Tryz.prog 145 #[.pointer (some ⟨w0.heap.size, 0, none⟩)] w (DText (fun s => s.size ≤ 21) w0 a len cap zs p w) := by
  have hlt := D.lt
  have D1 := D.alloc (.cells (bentN.map Value.string).toArray 9)
  go_enter Tryz.func145, Tryz.ntmps145
  go_wp2_with fail
  refine (dnext _ D1 hp).mono ?_
  rintro r w2 ⟨x, x0, x1, rfl, D2, O2⟩
  obtain ⟨k, rfl⟩ := Int.eq_ofNat_of_zero_le x0
  have hk : k < 12 := by omega
  have hcell : w2.cell? ⟨w.heap.size, k, none⟩ = some (.string (bentN.getD k ByteArray.empty)) := by
    have e1 : (w.alloc (.cells (bentN.map Value.string).toArray 9)).heap[w.heap.size]? = some (.cells (bentN.map Value.string).toArray 9) := (MapKept.heap_alloc w _).1
    have e2 := O2.block w.heap.size (by omega)
    unfold World.cell?
    rw [e2, e1]
    have : k < bentN.length := hk
    simp only [Option.isSome_none, Bool.false_eq_true, if_false, List.getElem?_toArray, List.getElem?_map]
    rw [List.getElem?_eq_getElem this]
    simp [List.getD, List.getElem?_eq_getElem this]
  have hsz := bentN_size k
  generalize bentN.getD k ByteArray.empty = s at hcell hsz
  have HF := Lib.hid (And.intro D2 (grown_alloc O2.grown))
  have HS := Lib.hid hsz
  clear D D1 D2 O2 x0 x1 hsz
  go_wp2_with fail
  go_ret
  exact ⟨s, HS.out, rfl, HF.out.1, HF.out.2⟩

theorem dl5DrawName {w0 : World} {a : Option Addr} {len cap : Nat} {zs : List Int} {p : Nat} {w : World} (D : Draw w0 a len cap zs p w) (hp : p ≤ 1000000) :
    Calls Tryz.prog 146 #[.pointer (some ⟨w0.heap.size, 0, none⟩)] w (DText (fun s => s.size ≤ 20 ∧ M.normF s.data.toList = 0) w0 a len cap zs p w) := by
  have hlt := D.lt
  have D1 := D.alloc (.cells (drawN.map Value.string).toArray 9)
  go_enter Tryz.func146, Tryz.ntmps146
  go_wp2_with fail
  refine (dnext _ D1 hp).mono ?_
  rintro r w2 ⟨x, x0, x1, rfl, D2, O2⟩
  obtain ⟨k, rfl⟩ := Int.eq_ofNat_of_zero_le x0
  have hk : k < 4 := by omega
  have hcell : w2.cell? ⟨w.heap.size, k, none⟩ = some (.string (drawN.getD k ByteArray.empty)) := by
    have e1 : (w.alloc (.cells (drawN.map Value.string).toArray 9)).heap[w.heap.size]? = some (.cells (drawN.map Value.string).toArray 9) := (MapKept.heap_alloc w _).1
    have e2 := O2.block w.heap.size (by omega)
    unfold World.cell?
    rw [e2, e1]
    have : k < drawN.length := hk
    simp only [Option.isSome_none, Bool.false_eq_true, if_false, List.getElem?_toArray, List.getElem?_map]
    rw [List.getElem?_eq_getElem this]
    simp [List.getD, List.getElem?_eq_getElem this]
  have hsz := And.intro (drawN_size k) (drawN_norm k hk)
  generalize drawN.getD k ByteArray.empty = s at hcell hsz
  have HF := Lib.hid (And.intro D2 (grown_alloc O2.grown))
  have HS := Lib.hid hsz
  clear D D1 D2 O2 x0 x1 hsz
  go_wp2_with fail
  go_ret
  exact ⟨s, HS.out, rfl, HF.out.1, HF.out.2⟩

theorem key1 (a b : Int) (w : World) : Sem.run Tryz.prog (Instr.field 119 (.agg #[.int .i64 a, .int .i64 b]) 1) w = .ok (.int .i64 b) w := by kernel_rfl
end Go.Proofs.YtlodhleihnlchaaGreatDoor
namespace Go.Proofs.YtlodhleihnlchaaGreatDoor
open Go.RowKit
set_option maxRecDepth 100000
set_option linter.unusedVariables false

section
variable {w0 : World} {a : Option Addr} {len cap : Nat} {zs : List Int} {p p' : Nat} {w : World} {rb tb : Nat} {n : ByteArray} {u m v : Int} {cur cur' : World}
end
end Go.Proofs.YtlodhleihnlchaaGreatDoor
namespace Go.Proofs.YtlodhleihnlchaaGreatDoor
open Go.RowKit

theorem OwnK.len {k : IntKind} {w : World} {B : Nat} {a : Option Addr} {len cap : Nat} {zs : List Int} (h : OwnK k w B (.slice a len cap) zs) : len = zs.length := by
  rcases h.2 with ⟨e, h0⟩ | ⟨g, c, e, _⟩
  · injection e with e1 e2 e3
    omega
  · injection e with e1 e2 e3

section
variable {w : World} {c : Int} {zs : List Int} {p1 p2 : Nat} {a1 a2 : Option Addr} {n c1 c2 : Nat} {ms : List Int} {cur cur' : World}
end

end Go.Proofs.YtlodhleihnlchaaGreatDoor
namespace Go.Proofs.YtlodhleihnlchaaGreatDoor
open Go.RowKit
set_option maxRecDepth 100000
set_option linter.unusedVariables false

theorem Row.upto {k : IntKind} {w : World} {B : Nat} {a : Option Addr} {len cap : Nat} {zs : List Int} (h : Row k w B a len cap zs) (n : Nat) (hn : n ≤ len) : Row k w B a n cap (zs.take n) :=
  ⟨by simp [h.length]; omega, fun z hz => h.wf z (List.mem_of_mem_take hz), Nat.le_trans hn h.fits, h.most, fun hp => by
    obtain ⟨b, off, e, hb, hc⟩ := h.cells (by omega)
    refine ⟨b, off, e, hb, fun j hj => ?_⟩
    rw [hc j (by omega)]
    simp [List.getD, hj]⟩
theorem l1Chance_any {w0 : World} {a : Option Addr} {len cap : Nat} {zs : List Int} {p : Nat} {w : World} (n : Int) (D : Draw w0 a len cap zs p w) (hp : p ≤ 1000000) :
    Calls Tryz.prog 144 #[.pointer (some ⟨w0.heap.size, 0, none⟩), .int .i64 n] w fun r w' => ∃ b : Bool, r = .returned (.bool b) ∧ Draw w0 a len cap zs (p + 1) w' ∧ Only w0.heap.size w w' := by
  go_enter Tryz.func144, Tryz.ntmps144
  go_wp2_with fail
  refine (dnext n D hp).mono ?_
  rintro r w1 ⟨x, x0, x1, rfl, D1, O1⟩
  have HD := Lib.hid (And.intro D1 O1)
  clear D D1 O1 x0 x1
  go_wp2_with fail
  go_ret
  exact ⟨_, rfl, HD.out.1, HD.out.2⟩

end Go.Proofs.YtlodhleihnlchaaGreatDoor
namespace Go.Proofs.YtlodhleihnlchaaGreatDoor.M

def allB (f : Nat → Bool) : Nat → Bool
  | 0 => true
  | n + 1 => f n && allB f n
theorem allB_out {f : Nat → Bool} {n : Nat} (h : allB f n = true) {k : Nat} (hk : k < n) : f k = true := by
  induction n with
  | zero => omega
  | succ n ih =>
    simp only [allB, Bool.and_eq_true] at h
    rcases Nat.lt_or_ge k n with h1 | h1
    · exact ih h.2 h1
    · obtain rfl : k = n := by omega
      exact h.1

theorem pw_nat (v e m : Nat) : pw v e m = ((v ^ e % m : Nat) : Int) := by
  unfold pw; rw [← Int.natCast_pow, ← Int.natCast_emod]

theorem base_order : pw 4 1439 2879 = 1 := by
  have := pw_nat 4 1439 2879
  have e : 4 ^ 1439 % 2879 = 1 := by decide +kernel
  rw [e] at this; exact this
theorem base_all : allB (fun a => a == 0 || (2 ≤ 4 ^ a % 2879 && 4 ^ a % 2879 ≤ 2878)) 1439 = true := by decide +kernel
theorem base_pub (a : Nat) (h0 : 1 ≤ a) (h1 : a ≤ 1438) : 2 ≤ pw 4 a 2879 ∧ pw 4 a 2879 ≤ 2878 := by
  have h := allB_out base_all (k := a) (by omega)
  simp only [Bool.or_eq_true, beq_iff_eq, Bool.and_eq_true, decide_eq_true_eq] at h
  have := pw_nat 4 a 2879
  rw [show ((4 : Nat) : Int) = 4 from rfl, show ((2879 : Nat) : Int) = 2879 from rfl] at this
  rw [this]
  omega
theorem base_mod (n : Nat) : pw 4 n 2879 = pw 4 (n % 1439) 2879 := by
  have e : n = 1439 * (n / 1439) + n % 1439 := by omega
  have h : pw 4 (1439 * (n / 1439)) 2879 = 1 := by rw [← pw_pw, base_order, pw_one_base]; rfl
  have h2 := pw_add 4 (1439 * (n / 1439)) (n % 1439) 2879
  rw [h, ← e, Int.one_mul] at h2
  rw [← h2]
  have b := pw_bd 4 (n % 1439) (m := 2879) (by omega)
  exact Int.emod_eq_of_lt b.1 b.2
theorem base_raised (n : Nat) : pw (pw 4 n 2879) 1439 2879 = 1 := by
  rw [pw_pw, Nat.mul_comm, ← pw_pw, base_order, pw_one_base]; rfl
end Go.Proofs.YtlodhleihnlchaaGreatDoor.M
namespace Go.Proofs.YtlodhleihnlchaaGreatDoor
open Go.RowKit

theorem pub_base {a : Int} (a0 : 1 ≤ a) (a1 : a ≤ 1438) : pubB (M.pw 4 a.toNat 2879) = true := by
  have h := M.base_pub a.toNat (by omega) (by omega)
  simp only [pubB, inB, Bool.and_eq_true, decide_eq_true_eq, beq_iff_eq]
  exact ⟨h, M.base_raised _⟩
end Go.Proofs.YtlodhleihnlchaaGreatDoor
namespace Go.Proofs.YtlodhleihnlchaaGreatDoor.M
open Go.Proofs.YtlodhleihnlchaaGreatDoor (inB pubB)

def nonceN (s t : Int) : Int := 1 + tagL nonceS [s, t] % 1438
def chalN (p q t : Int) : Int := tagL signS [p, q, t] % 1439
def pubN (s : Int) : Int := pw 4 s.toNat 2879
def sigPt (s t : Int) : Int := pw 4 (nonceN s t).toNat 2879
def sigPr (s t : Int) : Int := (nonceN s t + chalN (pubN s) (sigPt s t) t * s) % 1439
def sigB (p q : Int) : Bool := pubB p && inB q 0 1438
def sigF (p q : Int) : Int := if sigB p q then 0 else 3
def checkB (u t p q : Int) : Bool := pubB u && sumB t && sigB p q && (pw 4 q.toNat 2879 == p * pw u (chalN u p t).toNat 2879 % 2879)
def readP (zs : List Int) : Int := 256 * zs.getD 0 0 + zs.getD 1 0
def readQ (zs : List Int) : Int := 256 * zs.getD 2 0 + zs.getD 3 0
def readB (zs : List Int) : Bool := decide (zs.length = 4) && sigB (readP zs) (readQ zs)
def readR (zs : List Int) : Int × Int × Int := if readB zs then (0, readP zs, readQ zs) else (5, 0, 0)

theorem nonceN_bd (s t : Int) : 1 ≤ nonceN s t ∧ nonceN s t ≤ 1438 := by unfold nonceN; omega
theorem chalN_bd (p q t : Int) : 0 ≤ chalN p q t ∧ chalN p q t ≤ 1438 := by unfold chalN; omega
theorem sigPr_bd (s t : Int) : 0 ≤ sigPr s t ∧ sigPr s t ≤ 1438 := by unfold sigPr; omega
theorem pub_pow {a : Int} (a0 : 1 ≤ a) (a1 : a ≤ 1438) : pubB (pw 4 a.toNat 2879) = true := by
  have h := base_pub a.toNat (by omega) (by omega)
  simp only [pubB, inB, Bool.and_eq_true, decide_eq_true_eq, beq_iff_eq]
  exact ⟨h, base_raised _⟩
theorem sigPt_pub (s t : Int) : pubB (sigPt s t) = true := pub_pow (nonceN_bd s t).1 (nonceN_bd s t).2
theorem sigB_signed (s t : Int) : sigB (sigPt s t) (sigPr s t) = true := by
  have h := sigPr_bd s t
  simp only [sigB, sigPt_pub, inB, Bool.true_and, decide_eq_true_eq]
  exact h
theorem sum_of_pub {p : Int} (h : pubB p = true) : sumB p = true := by
  have := Go.Proofs.YtlodhleihnlchaaGreatDoor.pubB_bd h
  simp only [sumB, decide_eq_true_eq]; omega
theorem sum_of_sec {p : Int} (h : inB p 1 1438 = true) : sumB p = true := by
  simp only [inB, decide_eq_true_eq] at h
  simp only [sumB, decide_eq_true_eq]; omega
theorem pow_sum {a : Int} (e : Nat) : sumB (pw a e 2879) = true := by
  have := pw_bd a e (m := 2879) (by omega)
  simp only [sumB, decide_eq_true_eq]; omega

theorem sign_eq {s t : Int} (s0 : 1 ≤ s) : pw 4 (sigPr s t).toNat 2879 = sigPt s t * pw (pubN s) (chalN (pubN s) (sigPt s t) t).toNat 2879 % 2879 := by
  have hh := nonceN_bd s t
  have he := chalN_bd (pubN s) (sigPt s t) t
  unfold sigPr
  generalize chalN (pubN s) (sigPt s t) t = e at *
  unfold sigPt pubN
  generalize nonceN s t = h at *
  rw [pw_pw, pw_add]
  rw [base_mod (h.toNat + s.toNat * e.toNat)]
  congr 1
  obtain ⟨h, rfl⟩ := Int.eq_ofNat_of_zero_le (show 0 ≤ h by omega)
  obtain ⟨e, rfl⟩ := Int.eq_ofNat_of_zero_le he.1
  obtain ⟨s, rfl⟩ := Int.eq_ofNat_of_zero_le (show 0 ≤ s by omega)
  have q : ((h : Int) + (e : Int) * (s : Int)) % 1439 = ((h + e * s) % 1439 : Nat) := by simp
  rw [q]
  show (h + e * s) % 1439 = (h + s * e) % 1439
  rw [Nat.mul_comm s e]
theorem checked {s t : Int} (hs : inB s 1 1438 = true) (ht : sumB t = true) : checkB (pubN s) t (sigPt s t) (sigPr s t) = true := by
  have hs' := hs
  simp only [inB, decide_eq_true_eq] at hs'
  have hp : pubB (pubN s) = true := pub_pow hs'.1 hs'.2
  have he := sign_eq (t := t) hs'.1
  simp only [checkB, hp, ht, sigB_signed, Bool.and_self, Bool.true_and, beq_iff_eq]
  exact he
theorem four_moves {q : Int} (q0 : 0 ≤ q) (q1 : q ≤ 1438) : pw 4 ((q + 1) % 1439).toNat 2879 ≠ pw 4 q.toNat 2879 := by
  obtain ⟨q, rfl⟩ := Int.eq_ofNat_of_zero_le q0
  have e : (((q : Int) + 1) % 1439).toNat = (q + 1) % 1439 := by
    have : ((q : Int) + 1) % 1439 = ((q + 1) % 1439 : Nat) := by simp
    rw [this]; rfl
  have e2 : ((q : Int)).toNat = q := rfl
  rw [e, e2, ← base_mod, ← pw_add]
  have h1 : pw 4 1 2879 = 4 := pw_one (by omega) (by omega)
  rw [h1]
  have b := pw_bd 4 q (m := 2879) (by omega)
  have hpos : 1 ≤ pw 4 q 2879 := by
    rcases Nat.eq_zero_or_pos q with h | h
    · subst h; rw [pw_zero]; decide
    · have := (base_pub q h (by omega)).1; omega
  omega
theorem turned {s t : Int} (hs : inB s 1 1438 = true) : checkB (pubN s) t (sigPt s t) ((sigPr s t + 1) % 1439) = false := by
  have hs' := hs
  simp only [inB, decide_eq_true_eq] at hs'
  have he := sign_eq (t := t) hs'.1
  have hq := sigPr_bd s t
  have hm := four_moves hq.1 hq.2
  have : (pw 4 ((sigPr s t + 1) % 1439).toNat 2879 == sigPt s t * pw (pubN s) (chalN (pubN s) (sigPt s t) t).toNat 2879 % 2879) = false := by
    rw [← he, beq_eq_false_iff_ne]; exact hm
  simp only [checkB, this, Bool.and_false]

theorem sigB_bd {p q : Int} (h : sigB p q = true) : 2 ≤ p ∧ p ≤ 2878 ∧ 0 ≤ q ∧ q ≤ 1438 := by
  simp only [sigB, Bool.and_eq_true] at h
  have := Go.Proofs.YtlodhleihnlchaaGreatDoor.pubB_bd h.1
  have h2 := h.2
  simp only [inB, decide_eq_true_eq] at h2
  omega
end Go.Proofs.YtlodhleihnlchaaGreatDoor.M
