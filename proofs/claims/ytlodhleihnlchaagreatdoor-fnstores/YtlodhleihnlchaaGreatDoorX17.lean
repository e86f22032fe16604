/- Texts of this seat that several laws rest on, laid into one. Conditions: as each theorem states. -/
import Derived.Test.YtlodhleihnlchaaGreatDoorX7
import Derived.Test.YtlodhleihnlchaaGreatDoorX9
import Derived.Test.YtlodhleihnlchaaGreatDoorX10
import Derived.Test.YtlodhleihnlchaaGreatDoorX16
import Derived.Test.YtlodhleihnlchaaGreatDoorRows
import Derived.ProofKit
import Derived.JoinedCond
import Derived.Test.YtlodhleihnlchaaGreatDoorTie
import Derived.Test.YtlodhleihnlchaaGreatDoorCards
import Derived.LaidHandle
import Derived.LaidLaws
import Derived.OpenShut
import Derived.WalkSmall
import Derived.Carry
import Derived.Below
import Derived.Deep.DeepHandedRow
import Derived.Lib.LaidTab
import Derived.Lay
import Derived.MakeChecks
import Derived.LaidMore
import Derived.Stop.Joined
namespace Go.Proofs.YtlodhleihnlchaaGreatDoor
open Go.RowKit
set_option maxRecDepth 100000
set_option linter.unusedVariables false

def DrawnRol (w : World) (e : Ending) (w' : World) : Prop := ∃ (a1 : Option Addr) (n1 c1 : Nat) (a2 : Option Addr) (n2 c2 : Nat) (s : StoreD) (r : RollD) (t : Int), e = .returned (.tuple #[S3 a1 n1 c1 a2 n2 c2 s.d.s, R8 r, .int .i64 t]) ∧ r.p.n.size ≤ 21 ∧ (-1 ≤ t ∧ t ≤ 51) ∧ SRow w' w'.heap.size a1 n1 c1 a2 n2 c2 s ∧ Below w.heap.size w w'
structure XQ (xb : Nat) (cs : List Value) (pb : Nat) (qv : List Value) (cur : World) : Prop where
  A : At xb cs cur
  P : At pb qv cur
theorem XQ.on {xb pb : Nat} {cs qv : List Value} {cur cur' : World} (h : XQ xb cs pb qv cur) (hb : Below cur.heap.size cur cur') : XQ xb cs pb qv cur' := ⟨h.A.on hb, h.P.on hb⟩
theorem XQ.kept {xb pb g : Nat} {cs qv : List Value} {cur cur' : World} (h : XQ xb cs pb qv cur) (hg : cur.grownBy cur' (some g)) (h1 : xb ≠ g) (h2 : pb ≠ g) : XQ xb cs pb qv cur' :=
  ⟨h.A.kept hg (fun e => by injection e with e; omega), h.P.kept hg (fun e => by injection e with e; omega)⟩
theorem XQ.set {xb pb : Nat} {cs qv : List Value} {cur : World} (h : XQ xb cs pb qv cur) {p : Addr} (h1 : xb ≠ p.block) (h2 : pb ≠ p.block) (u : Value) : XQ xb cs pb qv (cur.setCell p u) := ⟨h.A.setB h1 u, h.P.setB h2 u⟩
def BOwnB (w : World) (lo tb : Nat) (v1 v2 : Value) (s : StoreD) : Prop := ∃ hi xs, hi ≤ tb ∧ (∀ k, v1.ownBlock = some k → k < tb) ∧ OwnP w lo v1 s.ps ∧ OwnG w lo hi v2 s.d.rs xs ∧ (∀ p ∈ s.ps, p.n.size ≤ 21) ∧ ∀ zs ∈ s.d.rs, ∀ z ∈ zs, (Lit.int .u8 z).wf = true
section
variable {w w' : World} {lo tb : Nat} {v1 v2 : Value} {s : StoreD}
theorem BOwn.bound (h : BOwn w lo v1 v2 s) : BOwnB w lo w.heap.size v1 v2 s := by
  obtain ⟨hi, xs, h1, h2, h3, h4⟩ := h
  exact ⟨hi, xs, h2.top, fun k e => (Own.lt h1 k e).2, h1, h2, h3, h4⟩
theorem BOwnB.own (h : BOwnB w lo tb v1 v2 s) : BOwn w lo v1 v2 s := by
  obtain ⟨hi, xs, -, -, h1, h2, h3, h4⟩ := h
  exact ⟨hi, xs, h1, h2, h3, h4⟩
theorem BOwnB.keep (h : BOwnB w lo tb v1 v2 s) (hs : w.heap.size ≤ w'.heap.size) (hk : ∀ k, lo ≤ k → k < tb → k < w.heap.size → w'.heap[k]? = w.heap[k]?) : BOwnB w' lo tb v1 v2 s := by
  obtain ⟨hi, xs, q1, q2, h1, h2, h3, h4⟩ := h
  exact ⟨hi, xs, q1, q2, Own.keep h1 hs (fun k e => hk k (Own.lt h1 k e).1 (q2 k e) (Own.lt h1 k e).2), h2.keep hs (fun k e1 e2 => hk k e1 (by omega) (by have := h2.top; omega)), h3, h4⟩
theorem BOwnB.on (h : BOwnB w lo tb v1 v2 s) (hb : Below w.heap.size w w') : BOwnB w' lo tb v1 v2 s := h.keep hb.size fun k _ _ h2 => hb.block k h2
theorem BOwnB.kept {g : Nat} (h : BOwnB w lo tb v1 v2 s) (hO : w.grownBy w' (some g)) (hg : g < lo) : BOwnB w' lo tb v1 v2 s := h.keep hO.size fun k h1 _ h2 => hO.block k h2 (fun e => by injection e with e; omega)
theorem BOwnB.set (h : BOwnB w lo tb v1 v2 s) {p : Addr} (hp : tb ≤ p.block) (u : Value) : BOwnB (w.setCell p u) lo tb v1 v2 s := h.keep (by simp [World.setCell]) fun k _ h1 _ => Below.heap_setCell w p u k (by omega)
end
structure XO (xb : Nat) (cs : List Value) (lo tb : Nat) (v1 v2 : Value) (s : StoreD) (cur : World) : Prop where
  A : At xb cs cur
  O : BOwnB cur lo tb v1 v2 s
theorem PRow.cellsAt {w : World} {B b off n c : Nat} {ps : List PinD} (h : PRow w B (some ⟨b, off, none⟩) n c ps) {k : Nat} (hk : k < n) :
    w.cell? ⟨b, off + k * 5, none⟩ = some (.string (ps[k]?.getD pin0).n) ∧ w.cell? ⟨b, off + k * 5 + 1, none⟩ = some (.int .i64 (ps[k]?.getD pin0).a) ∧ w.cell? ⟨b, off + k * 5 + 2, none⟩ = some (.int .i64 (ps[k]?.getD pin0).b) ∧
    w.cell? ⟨b, off + k * 5 + 3, none⟩ = some (.int .i64 (ps[k]?.getD pin0).e) ∧ w.cell? ⟨b, off + k * 5 + 4, none⟩ = some (.int .i64 (ps[k]?.getD pin0).u) := by
  obtain ⟨b', off', e, hb, hc⟩ := h.at' hk
  injection e with e
  injection e with e1 e2 _
  subst e1
  subst e2
  exact hc
set_option maxHeartbeats 4000000 in
theorem DrawRollStore_any {a : Option Addr} {len cap : Nat} {zs : List Int} {w : World} (hR : Row .u8 w w.heap.size a len cap zs) :
    Calls Tryz.prog 33 #[.slice a len cap] w (DrawnRol w) := by
  have A0 := (At.new w zero3 57).alloc (.cells #[.string { data := #[] }, .int .i64 0, .int .i64 0, .int .i64 0, .int .i64 0, .int .i64 0, .int .i64 0, .int .i64 0] 66)
  have P0 : At (w.heap.size + 1) zer8 ((w.alloc (.cells #[.slice none 0 0, .slice none 0 0, .int .i64 0] 57)).alloc (.cells #[.string { data := #[] }, .int .i64 0, .int .i64 0, .int .i64 0, .int .i64 0, .int .i64 0, .int .i64 0, .int .i64 0] 66)) := by
    have h := At.new (w.alloc (.cells #[.slice none 0 0, .slice none 0 0, .int .i64 0] 57)) zer8 66
    rw [show (w.alloc (.cells #[.slice none 0 0, .slice none 0 0, .int .i64 0] 57)).heap.size = w.heap.size + 1 by simp] at h
    exact h
  have b0 := bal (bal (Below.refl _ w) (.cells #[.slice none 0 0, .slice none 0 0, .int .i64 0] 57)) (.cells #[.string { data := #[] }, .int .i64 0, .int .i64 0, .int .i64 0, .int .i64 0, .int .i64 0, .int .i64 0, .int .i64 0] 66)
  have R0 := hR.on b0
  have A0 : At w.heap.size zero3 ((w.alloc (.cells #[.slice none 0 0, .slice none 0 0, .int .i64 0] 57)).alloc (.cells #[.string { data := #[] }, .int .i64 0, .int .i64 0, .int .i64 0, .int .i64 0, .int .i64 0, .int .i64 0, .int .i64 0] 66)) := A0
  clear hR
  go_enter Tryz.func33, Tryz.ntmps33
  go_wp2_with fail
  generalize (w.alloc (.cells #[.slice none 0 0, .slice none 0 0, .int .i64 0] 57)).alloc (.cells #[.string { data := #[] }, .int .i64 0, .int .i64 0, .int .i64 0, .int .i64 0, .int .i64 0, .int .i64 0, .int .i64 0] 66) = W0 at *
  refine (dsource R0).mono ?_
  rintro e w1 ⟨rfl, D1⟩
  have lt1 := D1.lt
  have lt0 : w.heap.size + 1 < W0.heap.size := P0.lt (by simp [zer8])
  go_wp2_with fail
  refine (dl9Bent D1 (by omega)).mono ?_
  rintro e w2 ⟨a1, n1, c1, a2, n2, c2, s, p, hp, rfl, O2, D2, g2⟩
  have lt2 : w1.heap.size ≤ w2.heap.size := g2.size
  have X3 : At w2.heap.size (S3L a1 n1 c1 a2 n2 c2 s.d.s) (w2.alloc (.cells #[.slice a1 n1 c1, .slice a2 n2 c2, .int .i64 s.d.s] 57)) := At.new w2 (S3L a1 n1 c1 a2 n2 c2 s.d.s) 57
  have D3 := D2.alloc (.cells #[.slice a1 n1 c1, .slice a2 n2 c2, .int .i64 s.d.s] 57)
  have O3 := O2.alloc (.cells #[.slice a1 n1 c1, .slice a2 n2 c2, .int .i64 s.d.s] 57)
  have lx : w2.heap.size < (w2.alloc (.cells #[.slice a1 n1 c1, .slice a2 n2 c2, .int .i64 s.d.s] 57)).heap.size := by simp
  have htop : (∀ k, (Value.slice a1 n1 c1).ownBlock = some k → k < w2.heap.size) := fun k e => by
    obtain ⟨hi, xs, q1, -⟩ := O2
    exact (Own.lt q1 k e).2
  clear g2 D1 R0 O2 D2
  go_wp2_with fail
  generalize w2.alloc (.cells #[.slice a1 n1 c1, .slice a2 n2 c2, .int .i64 s.d.s] 57) = W3 at *
  generalize w2.heap.size = xb at *
  refine (dl7Draw D3 (by omega)).mono ?_
  rintro e w4 ⟨q, p3, hqf, hp3, rfl, D4, g4⟩
  have hq : q.n.size ≤ 21 := by have := pin_size hqf; omega
  have X4 := X3.kept g4 (fun e => by injection e with e; omega)
  have O4 := O3.kept g4 (by omega)
  have lx4 : xb < w4.heap.size := Nat.lt_of_lt_of_le lx g4.size
  have X5 := X4.alloc (.cells #[.string q.n, .int .i64 q.a, .int .i64 q.b, .int .i64 q.e, .int .i64 q.u] 59)
  have OB := O4.bound.on (bal (Below.refl _ _) (.cells #[.string q.n, .int .i64 q.a, .int .i64 q.b, .int .i64 q.e, .int .i64 q.u] 59))
  have O5 := O4.alloc (.cells #[.string q.n, .int .i64 q.a, .int .i64 q.b, .int .i64 q.e, .int .i64 q.u] 59)
  have D5 := D4.alloc (.cells #[.string q.n, .int .i64 q.a, .int .i64 q.b, .int .i64 q.e, .int .i64 q.u] 59)
  have P5' : At w4.heap.size q.vals (w4.alloc (.cells #[.string q.n, .int .i64 q.a, .int .i64 q.b, .int .i64 q.e, .int .i64 q.u] 59)) := At.new w4 q.vals 59
  have hnf := O4.row.ps.fits
  have hnm := O4.row.ps.most
  unfold maxLen at hnm
  clear D3 X3 O3 D4 X4 O4 g4 hqf
  by_cases h0 : n1 = 0
  · subst h0
    have hn0 : ¬ (0 : Int) < (0 : Nat) := by omega
    have xx0 := X5.cell 0 _ rfl
    have xx1 := X5.cell 1 _ rfl
    have xx2 := X5.cell 2 _ rfl
    go_wp2_with fail
    clear xx0 xx1 xx2
    generalize w4.alloc (.cells #[.string q.n, .int .i64 q.a, .int .i64 q.b, .int .i64 q.e, .int .i64 q.u] 59) = W5 at *
    generalize w4.heap.size = pb at *
    clear OB
    have H0 := Lib.hid (show XQ xb (S3L a1 0 c1 a2 n2 c2 s.d.s) pb (q).vals (W5).drew from ⟨(X5).on (bdrew _), (P5').on (bdrew _)⟩)
    have DC := (D5).below (bdrew _)
    have OC := (O5).on (bdrew _)
    have HQ := Lib.hid (show (q).n.size ≤ 21 from hq)
    clear D5 X5 P5' O5
    refine wp_region_fork (XQ xb (S3L a1 0 c1 a2 n2 c2 s.d.s) pb (q).vals) (by kernel_rfl) (H0.out) ?_
    have hst : (XQ xb (S3L a1 0 c1 a2 n2 c2 s.d.s) pb (q).vals) _ := (H0.out)
    have inst : Nonempty (Of (XQ xb (S3L a1 0 c1 a2 n2 c2 s.d.s) pb (q).vals)) := ⟨⟨_, hst⟩⟩
    have u0 : ∀ z : Of (XQ xb (S3L a1 0 c1 a2 n2 c2 s.d.s) pb (q).vals), z.val.cell? ⟨xb, 0, none⟩ = some (.slice a1 0 c1) := fun z => z.prop.A.cell 0 _ rfl
    have u1 : ∀ z : Of (XQ xb (S3L a1 0 c1 a2 n2 c2 s.d.s) pb (q).vals), z.val.cell? ⟨xb, 1, none⟩ = some (.slice a2 n2 c2) := fun z => z.prop.A.cell 1 _ rfl
    have u2 : ∀ z : Of (XQ xb (S3L a1 0 c1 a2 n2 c2 s.d.s) pb (q).vals), z.val.cell? ⟨xb, 2, none⟩ = some (.int .i64 s.d.s) := fun z => z.prop.A.cell 2 _ rfl
    have v0 : ∀ z : Of (XQ xb (S3L a1 0 c1 a2 n2 c2 s.d.s) pb (q).vals), z.val.cell? ⟨pb, 0, none⟩ = some (.string (q).n) := fun z => z.prop.P.cell 0 _ rfl
    have v1 : ∀ z : Of (XQ xb (S3L a1 0 c1 a2 n2 c2 s.d.s) pb (q).vals), z.val.cell? ⟨pb, 1, none⟩ = some (.int .i64 (q).a) := fun z => z.prop.P.cell 1 _ rfl
    have v2 : ∀ z : Of (XQ xb (S3L a1 0 c1 a2 n2 c2 s.d.s) pb (q).vals), z.val.cell? ⟨pb, 2, none⟩ = some (.int .i64 (q).b) := fun z => z.prop.P.cell 2 _ rfl
    have v3 : ∀ z : Of (XQ xb (S3L a1 0 c1 a2 n2 c2 s.d.s) pb (q).vals), z.val.cell? ⟨pb, 3, none⟩ = some (.int .i64 (q).e) := fun z => z.prop.P.cell 3 _ rfl
    have v4 : ∀ z : Of (XQ xb (S3L a1 0 c1 a2 n2 c2 s.d.s) pb (q).vals), z.val.cell? ⟨pb, 4, none⟩ = some (.int .i64 (q).u) := fun z => z.prop.P.cell 4 _ rfl
    clear H0
    generalize (W5).drew = V1 at *
    refine any_seg 6 [(0, true), (1, true), (2, true), (4, true)] (by kernel_rfl) (fun _ _ d _ _ h => by cases d <;> exact h) ?_
    iterate 4 (refine line_read rfl (by kernel_rfl) (fun K hK => ?_); go_big_quiet_op; refine hK _ ?_; clear hK K)
    refine line_nil ?_
    clear u0 u1 u2 v0 v1 v2 v3 v4
    refine any_fork 3 5 (by kernel_rfl) rfl rfl (by kernel_rfl) (by kernel_rfl) (fun K hK => ?_) (fun K hK => ?_)
    · refine call_any (args := #[.pointer (some ⟨W0.heap.size, 0, none⟩), P5 (q)]) rfl (by kernel_rfl) (by kernel_rfl) (dl8Draw DC (by omega) (q) HQ.out) ?_
      rintro e w7 ⟨r, pr, hr, hpr, rfl, D7, g7⟩
      have O7 := OC.kept g7 (by omega)
      have hstN := hst.kept g7 (by omega) (by omega)
      clear OC DC
      have OC := O7
      have DC := D7
      skip
      clear O7 D7 g7
      refine ⟨_, rfl, hK _ _ hstN ?_⟩
      clear hK K hst
      have hst := hstN
      clear hstN
      simp only [Act.put, List.setIfInBounds_toArray, List.set_cons_zero, List.set_cons_succ]
      refine any_rest [(5, false), (6, false), (7, false), (8, false), (9, true)] (by kernel_rfl) (fun _ _ d _ _ h => by cases d <;> exact h) ?_
      refine line_alone rfl (by kernel_rfl) (fun K hK => ?_)
      go_big_op
      have GA := At.new w7 [.int .i64 0, .int .i64 40, .int .i64 51, .int .i64 (-1)] 2
      have b8 := bal (Below.refl _ w7) (.cells #[.int .i64 0, .int .i64 40, .int .i64 51, .int .i64 (-1)] 2)
      have D8 := DC.alloc (.cells #[.int .i64 0, .int .i64 40, .int .i64 51, .int .i64 (-1)] 2)
      have O8 := OC.alloc (.cells #[.int .i64 0, .int .i64 40, .int .i64 51, .int .i64 (-1)] 2)
      have hstN := hst.on b8
      have hga : W0.heap.size < (w7).heap.size := DC.lt
      clear DC OC b8
      have DC := D8
      have OC := O8
      clear D8 O8
      refine hK _ _ hstN ?_
      clear hK K hst
      have hst := hstN
      clear hstN
      generalize (w7).alloc (.cells #[.int .i64 0, .int .i64 40, .int .i64 51, .int .i64 (-1)] 2) = x8 at *
      generalize (w7).heap.size = ga at *
      refine line_alone rfl (by kernel_rfl) (fun K hK => ?_)
      refine call_any (args := #[.pointer (some ⟨W0.heap.size, 0, none⟩), .slice (some ⟨ga, 0, none⟩) 4 4]) rfl (by kernel_rfl) (by kernel_rfl) (l1Pick_any W0.heap.size ga 4 [0, 40, 51, -1] a len cap _ W0.heap.size zs _ DC.src DC.row (Nat.le_refl _) (by omega) (by omega) rfl (by omega) (by omega) (fun j hj => by
        match j, hj with
        | 0, _ => exact GA.cell 0 _ rfl
        | 1, _ => exact GA.cell 1 _ rfl
        | 2, _ => exact GA.cell 2 _ rfl
        | 3, _ => exact GA.cell 3 _ rfl)) ?_
      rintro e w9 ⟨t, ht, rfl, SN, O9⟩
      have D9 := DC.only SN O9
      have OO9 := OC.kept O9.grown (by omega)
      have hstN := hst.kept O9.grown (by omega) (by omega)
      have ht2 : -1 ≤ t ∧ t ≤ 51 := by simp at ht; omega
      clear DC OC GA SN O9 ht
      refine ⟨_, rfl, hK _ _ hstN ?_⟩
      clear hK K hst
      have hst := hstN
      clear hstN
      simp only [Act.put, List.setIfInBounds_toArray, List.set_cons_zero, List.set_cons_succ]
      have ZC := A0.on D9.bel
      have RC := P0.on D9.bel
      have BC := btr b0 D9.bel
      have XC := hst.A
      have PC := hst.P
      clear hst
      have zz0 := ZC.cell 0 _ rfl
      have zz1 := ZC.cell 1 _ rfl
      have zz2 := ZC.cell 2 _ rfl
      have zh0 := ZC.free 0 _ rfl
      have zh1 := ZC.free 1 _ rfl
      have zh2 := ZC.free 2 _ rfl
      have Z9 : At w.heap.size (S3L a1 0 c1 a2 n2 c2 s.d.s) (((w9.setCell ⟨w.heap.size, 0, none⟩ (.slice a1 0 c1)).setCell ⟨w.heap.size, 1, none⟩ (.slice a2 n2 c2)).setCell ⟨w.heap.size, 2, none⟩ (.int .i64 s.d.s)) := ((ZC.set 0 (.slice a1 0 c1)).set 1 (.slice a2 n2 c2)).set 2 (.int .i64 s.d.s)
      have R9 : At (w.heap.size + 1) zer8 (((w9.setCell ⟨w.heap.size, 0, none⟩ (.slice a1 0 c1)).setCell ⟨w.heap.size, 1, none⟩ (.slice a2 n2 c2)).setCell ⟨w.heap.size, 2, none⟩ (.int .i64 s.d.s)) := by
        iterate 3 (refine At.setB ?_ (by dsimp only; omega) _)
        exact RC
      have O9' : BOwn (((w9.setCell ⟨w.heap.size, 0, none⟩ (.slice a1 0 c1)).setCell ⟨w.heap.size, 1, none⟩ (.slice a2 n2 c2)).setCell ⟨w.heap.size, 2, none⟩ (.int .i64 s.d.s)) (w1.heap.size + 1) (.slice a1 0 c1) (.slice a2 n2 c2) s := by
        iterate 3 (refine BOwn.set ?_ (by dsimp only; omega) _)
        exact OO9
      have B9 : Below w.heap.size w (((w9.setCell ⟨w.heap.size, 0, none⟩ (.slice a1 0 c1)).setCell ⟨w.heap.size, 1, none⟩ (.slice a2 n2 c2)).setCell ⟨w.heap.size, 2, none⟩ (.int .i64 s.d.s)) := (by (iterate 3 (refine bset ?_ (by dsimp only; omega) _)); exact BC)
      have hstN : XQ xb (S3L a1 0 c1 a2 n2 c2 s.d.s) pb (q).vals (((w9.setCell ⟨w.heap.size, 0, none⟩ (.slice a1 0 c1)).setCell ⟨w.heap.size, 1, none⟩ (.slice a2 n2 c2)).setCell ⟨w.heap.size, 2, none⟩ (.int .i64 s.d.s)) := by
        iterate 3 (refine XQ.set ?_ (by dsimp only; omega) (by dsimp only; omega) _)
        exact ⟨XC, PC⟩
      clear ZC RC BC XC PC OO9 D9
      refine line_alone rfl (by kernel_rfl) (fun K hK => ?_)
      go_big_op
      refine hK _ _ (hstN) ?_
      clear hK K
      clear zz0 zz1 zz2 zh0 zh1 zh2
      generalize (((w9.setCell ⟨w.heap.size, 0, none⟩ (.slice a1 0 c1)).setCell ⟨w.heap.size, 1, none⟩ (.slice a2 n2 c2)).setCell ⟨w.heap.size, 2, none⟩ (.int .i64 s.d.s)) = w10 at *
      have rr0 := R9.cell 0 _ rfl
      have rr1 := R9.cell 1 _ rfl
      have rr2 := R9.cell 2 _ rfl
      have rr3 := R9.cell 3 _ rfl
      have rr4 := R9.cell 4 _ rfl
      have rr5 := R9.cell 5 _ rfl
      have rr6 := R9.cell 6 _ rfl
      have rr7 := R9.cell 7 _ rfl
      have rh0 := R9.free 0 _ rfl
      have rh1 := R9.free 1 _ rfl
      have rh2 := R9.free 2 _ rfl
      have rh3 := R9.free 3 _ rfl
      have rh4 := R9.free 4 _ rfl
      have rh5 := R9.free 5 _ rfl
      have rh6 := R9.free 6 _ rfl
      have rh7 := R9.free 7 _ rfl
      have hstM : XQ xb (S3L a1 0 c1 a2 n2 c2 s.d.s) pb (q).vals ((((((((w10.setCell ⟨w.heap.size + 1, 0, none⟩ (.string r.p.n)).setCell ⟨w.heap.size + 1, 1, none⟩ (.int .i64 r.p.a)).setCell ⟨w.heap.size + 1, 2, none⟩ (.int .i64 r.p.b)).setCell ⟨w.heap.size + 1, 3, none⟩ (.int .i64 r.p.e)).setCell ⟨w.heap.size + 1, 4, none⟩ (.int .i64 r.p.u)).setCell ⟨w.heap.size + 1, 5, none⟩ (.int .i64 r.b)).setCell ⟨w.heap.size + 1, 6, none⟩ (.int .i64 r.x)).setCell ⟨w.heap.size + 1, 7, none⟩ (.int .i64 r.y)) := by
        iterate 8 (refine XQ.set ?_ (by dsimp only; omega) (by dsimp only; omega) _)
        exact hstN
      have HF := Lib.hid (And.intro O9' (And.intro B9 (And.intro Z9 R9)))
      clear O9' B9 hstN Z9 R9
      refine line_alone rfl (by kernel_rfl) (fun K hK => ?_)
      go_big_op
      refine hK _ _ (hstM) ?_
      clear hK K
      clear hstM
      iterate 1 (refine line_read rfl (by kernel_rfl) (fun K hK => ?_); go_big_quiet_op; refine hK _ ?_; clear hK K)
      refine line_nil ?_
      have hne : w.heap.size ≠ w.heap.size + 1 := by omega
      have zz0 := HF.out.2.2.1.cell 0 _ rfl
      have zz1 := HF.out.2.2.1.cell 1 _ rfl
      have zz2 := HF.out.2.2.1.cell 2 _ rfl
      go_wp2_with fail
      refine bodyPost_ret (v := .tuple #[S3 a1 0 c1 a2 n2 c2 s.d.s, R8 r, .int .i64 t]) (by simp [results, Tryz.results33, go_sem, zz0, zz1, zz2, rr0, rr1, rr2, rr3, rr4, rr5, rr6, rr7]) rfl ⟨a1, 0, c1, a2, n2, c2, s, r, t, rfl, hr, ht2, ?_, (by (iterate 8 (refine bset ?_ (by dsimp only; omega) _)); exact HF.out.2.1)⟩
      refine BOwn.row (lo := w1.heap.size + 1) ?_
      iterate 8 (refine BOwn.set ?_ (by dsimp only; omega) _)
      exact HF.out.1
    · go_big_op
      have GA := At.new V1 [.int .i64 0, .int .i64 40, .int .i64 51, .int .i64 (-1)] 2
      have b8 := bal (Below.refl _ V1) (.cells #[.int .i64 0, .int .i64 40, .int .i64 51, .int .i64 (-1)] 2)
      have D8 := DC.alloc (.cells #[.int .i64 0, .int .i64 40, .int .i64 51, .int .i64 (-1)] 2)
      have O8 := OC.alloc (.cells #[.int .i64 0, .int .i64 40, .int .i64 51, .int .i64 (-1)] 2)
      have hstN := hst.on b8
      have hga : W0.heap.size < (V1).heap.size := DC.lt
      clear DC OC b8
      have DC := D8
      have OC := O8
      clear D8 O8
      refine hK _ _ hstN ?_
      clear hK K hst
      have hst := hstN
      clear hstN
      generalize (V1).alloc (.cells #[.int .i64 0, .int .i64 40, .int .i64 51, .int .i64 (-1)] 2) = x8 at *
      generalize (V1).heap.size = ga at *
      refine any_rest [(3, false), (6, false), (7, false), (8, false), (9, true)] (by kernel_rfl) (fun _ _ d _ _ h => by cases d <;> exact h) ?_
      refine line_alone rfl (by kernel_rfl) (fun K hK => ?_)
      refine call_any (args := #[.pointer (some ⟨W0.heap.size, 0, none⟩), P5 (q)]) rfl (by kernel_rfl) (by kernel_rfl) (dl8Draw DC (by omega) (q) HQ.out) ?_
      rintro e w7 ⟨r, pr, hr, hpr, rfl, D7, g7⟩
      have O7 := OC.kept g7 (by omega)
      have hstN := hst.kept g7 (by omega) (by omega)
      clear OC DC
      have OC := O7
      have DC := D7
      have GA := GA.kept g7 (fun e => by injection e with e; omega)
      clear O7 D7 g7
      refine ⟨_, rfl, hK _ _ hstN ?_⟩
      clear hK K hst
      have hst := hstN
      clear hstN
      simp only [Act.put, List.setIfInBounds_toArray, List.set_cons_zero, List.set_cons_succ]
      refine line_alone rfl (by kernel_rfl) (fun K hK => ?_)
      refine call_any (args := #[.pointer (some ⟨W0.heap.size, 0, none⟩), .slice (some ⟨ga, 0, none⟩) 4 4]) rfl (by kernel_rfl) (by kernel_rfl) (l1Pick_any W0.heap.size ga 4 [0, 40, 51, -1] a len cap _ W0.heap.size zs _ DC.src DC.row (Nat.le_refl _) (by omega) (by omega) rfl (by omega) (by omega) (fun j hj => by
        match j, hj with
        | 0, _ => exact GA.cell 0 _ rfl
        | 1, _ => exact GA.cell 1 _ rfl
        | 2, _ => exact GA.cell 2 _ rfl
        | 3, _ => exact GA.cell 3 _ rfl)) ?_
      rintro e w9 ⟨t, ht, rfl, SN, O9⟩
      have D9 := DC.only SN O9
      have OO9 := OC.kept O9.grown (by omega)
      have hstN := hst.kept O9.grown (by omega) (by omega)
      have ht2 : -1 ≤ t ∧ t ≤ 51 := by simp at ht; omega
      clear DC OC GA SN O9 ht
      refine ⟨_, rfl, hK _ _ hstN ?_⟩
      clear hK K hst
      have hst := hstN
      clear hstN
      simp only [Act.put, List.setIfInBounds_toArray, List.set_cons_zero, List.set_cons_succ]
      have ZC := A0.on D9.bel
      have RC := P0.on D9.bel
      have BC := btr b0 D9.bel
      have XC := hst.A
      have PC := hst.P
      clear hst
      have zz0 := ZC.cell 0 _ rfl
      have zz1 := ZC.cell 1 _ rfl
      have zz2 := ZC.cell 2 _ rfl
      have zh0 := ZC.free 0 _ rfl
      have zh1 := ZC.free 1 _ rfl
      have zh2 := ZC.free 2 _ rfl
      have Z9 : At w.heap.size (S3L a1 0 c1 a2 n2 c2 s.d.s) (((w9.setCell ⟨w.heap.size, 0, none⟩ (.slice a1 0 c1)).setCell ⟨w.heap.size, 1, none⟩ (.slice a2 n2 c2)).setCell ⟨w.heap.size, 2, none⟩ (.int .i64 s.d.s)) := ((ZC.set 0 (.slice a1 0 c1)).set 1 (.slice a2 n2 c2)).set 2 (.int .i64 s.d.s)
      have R9 : At (w.heap.size + 1) zer8 (((w9.setCell ⟨w.heap.size, 0, none⟩ (.slice a1 0 c1)).setCell ⟨w.heap.size, 1, none⟩ (.slice a2 n2 c2)).setCell ⟨w.heap.size, 2, none⟩ (.int .i64 s.d.s)) := by
        iterate 3 (refine At.setB ?_ (by dsimp only; omega) _)
        exact RC
      have O9' : BOwn (((w9.setCell ⟨w.heap.size, 0, none⟩ (.slice a1 0 c1)).setCell ⟨w.heap.size, 1, none⟩ (.slice a2 n2 c2)).setCell ⟨w.heap.size, 2, none⟩ (.int .i64 s.d.s)) (w1.heap.size + 1) (.slice a1 0 c1) (.slice a2 n2 c2) s := by
        iterate 3 (refine BOwn.set ?_ (by dsimp only; omega) _)
        exact OO9
      have B9 : Below w.heap.size w (((w9.setCell ⟨w.heap.size, 0, none⟩ (.slice a1 0 c1)).setCell ⟨w.heap.size, 1, none⟩ (.slice a2 n2 c2)).setCell ⟨w.heap.size, 2, none⟩ (.int .i64 s.d.s)) := (by (iterate 3 (refine bset ?_ (by dsimp only; omega) _)); exact BC)
      have hstN : XQ xb (S3L a1 0 c1 a2 n2 c2 s.d.s) pb (q).vals (((w9.setCell ⟨w.heap.size, 0, none⟩ (.slice a1 0 c1)).setCell ⟨w.heap.size, 1, none⟩ (.slice a2 n2 c2)).setCell ⟨w.heap.size, 2, none⟩ (.int .i64 s.d.s)) := by
        iterate 3 (refine XQ.set ?_ (by dsimp only; omega) (by dsimp only; omega) _)
        exact ⟨XC, PC⟩
      clear ZC RC BC XC PC OO9 D9
      refine line_alone rfl (by kernel_rfl) (fun K hK => ?_)
      go_big_op
      refine hK _ _ (hstN) ?_
      clear hK K
      clear zz0 zz1 zz2 zh0 zh1 zh2
      generalize (((w9.setCell ⟨w.heap.size, 0, none⟩ (.slice a1 0 c1)).setCell ⟨w.heap.size, 1, none⟩ (.slice a2 n2 c2)).setCell ⟨w.heap.size, 2, none⟩ (.int .i64 s.d.s)) = w10 at *
      have rr0 := R9.cell 0 _ rfl
      have rr1 := R9.cell 1 _ rfl
      have rr2 := R9.cell 2 _ rfl
      have rr3 := R9.cell 3 _ rfl
      have rr4 := R9.cell 4 _ rfl
      have rr5 := R9.cell 5 _ rfl
      have rr6 := R9.cell 6 _ rfl
      have rr7 := R9.cell 7 _ rfl
      have rh0 := R9.free 0 _ rfl
      have rh1 := R9.free 1 _ rfl
      have rh2 := R9.free 2 _ rfl
      have rh3 := R9.free 3 _ rfl
      have rh4 := R9.free 4 _ rfl
      have rh5 := R9.free 5 _ rfl
      have rh6 := R9.free 6 _ rfl
      have rh7 := R9.free 7 _ rfl
      have hstM : XQ xb (S3L a1 0 c1 a2 n2 c2 s.d.s) pb (q).vals ((((((((w10.setCell ⟨w.heap.size + 1, 0, none⟩ (.string r.p.n)).setCell ⟨w.heap.size + 1, 1, none⟩ (.int .i64 r.p.a)).setCell ⟨w.heap.size + 1, 2, none⟩ (.int .i64 r.p.b)).setCell ⟨w.heap.size + 1, 3, none⟩ (.int .i64 r.p.e)).setCell ⟨w.heap.size + 1, 4, none⟩ (.int .i64 r.p.u)).setCell ⟨w.heap.size + 1, 5, none⟩ (.int .i64 r.b)).setCell ⟨w.heap.size + 1, 6, none⟩ (.int .i64 r.x)).setCell ⟨w.heap.size + 1, 7, none⟩ (.int .i64 r.y)) := by
        iterate 8 (refine XQ.set ?_ (by dsimp only; omega) (by dsimp only; omega) _)
        exact hstN
      have HF := Lib.hid (And.intro O9' (And.intro B9 (And.intro Z9 R9)))
      clear O9' B9 hstN Z9 R9
      refine line_alone rfl (by kernel_rfl) (fun K hK => ?_)
      go_big_op
      refine hK _ _ (hstM) ?_
      clear hK K
      clear hstM
      iterate 1 (refine line_read rfl (by kernel_rfl) (fun K hK => ?_); go_big_quiet_op; refine hK _ ?_; clear hK K)
      refine line_nil ?_
      have hne : w.heap.size ≠ w.heap.size + 1 := by omega
      have zz0 := HF.out.2.2.1.cell 0 _ rfl
      have zz1 := HF.out.2.2.1.cell 1 _ rfl
      have zz2 := HF.out.2.2.1.cell 2 _ rfl
      go_wp2_with fail
      refine bodyPost_ret (v := .tuple #[S3 a1 0 c1 a2 n2 c2 s.d.s, R8 r, .int .i64 t]) (by simp [results, Tryz.results33, go_sem, zz0, zz1, zz2, rr0, rr1, rr2, rr3, rr4, rr5, rr6, rr7]) rfl ⟨a1, 0, c1, a2, n2, c2, s, r, t, rfl, hr, ht2, ?_, (by (iterate 8 (refine bset ?_ (by dsimp only; omega) _)); exact HF.out.2.1)⟩
      refine BOwn.row (lo := w1.heap.size + 1) ?_
      iterate 8 (refine BOwn.set ?_ (by dsimp only; omega) _)
      exact HF.out.1
  have hn0 : (0 : Int) < n1 := by omega
  obtain ⟨eb, eo, rfl, -⟩ := O5.row.ps.at' (k := 0) (by omega)
  have xx0 := X5.cell 0 _ rfl
  have xx1 := X5.cell 1 _ rfl
  have xx2 := X5.cell 2 _ rfl
  go_wp2_with fail
  clear xx0 xx1 xx2
  generalize hW5 : w4.alloc (.cells #[.string q.n, .int .i64 q.a, .int .i64 q.b, .int .i64 q.e, .int .i64 q.u] 59) = W5 at *
  generalize hpb : w4.heap.size = pb at *
  clear hW5 hpb
  have H0 := Lib.hid (show XO xb (S3L (some ⟨eb, eo, none⟩) n1 c1 a2 n2 c2 s.d.s) (w1.heap.size + 1) pb (.slice (some ⟨eb, eo, none⟩) n1 c1) (.slice a2 n2 c2) s W5.drew from ⟨X5.on (bdrew _), OB.on (bdrew _)⟩)
  have PC := P5'.on (bdrew _)
  have DC := D5.below (bdrew _)
  clear X5 O5 D5 P5' OB
  refine wp_region_line (XO xb (S3L (some ⟨eb, eo, none⟩) n1 c1 a2 n2 c2 s.d.s) (w1.heap.size + 1) pb (.slice (some ⟨eb, eo, none⟩) n1 c1) (.slice a2 n2 c2) s) [(0, true), (1, true), (2, true), (3, true), (4, true), (5, true), (6, false), (7, true), (8, true), (9, false)] (by kernel_rfl) (by kernel_rfl) (fun _ _ d _ _ h => by cases d <;> exact h) H0.out ?_
  have hst := H0.out
  have inst : Nonempty (Of (XO xb (S3L (some ⟨eb, eo, none⟩) n1 c1 a2 n2 c2 s.d.s) (w1.heap.size + 1) pb (.slice (some ⟨eb, eo, none⟩) n1 c1) (.slice a2 n2 c2) s)) := ⟨⟨_, hst⟩⟩
  have u0 : ∀ z : Of (XO xb (S3L (some ⟨eb, eo, none⟩) n1 c1 a2 n2 c2 s.d.s) (w1.heap.size + 1) pb (.slice (some ⟨eb, eo, none⟩) n1 c1) (.slice a2 n2 c2) s), z.val.cell? ⟨xb, 0, none⟩ = some (.slice (some ⟨eb, eo, none⟩) n1 c1) := fun z => z.prop.A.cell 0 _ rfl
  clear H0
  generalize W5.drew = V1 at *
  iterate 6 (refine line_read rfl (by kernel_rfl) (fun K hK => ?_); go_big_quiet_op; refine hK _ ?_; clear hK K)
  clear u0
  refine line_alone rfl (by kernel_rfl) (fun K hK => ?_)
  refine call_any (args := #[.pointer (some ⟨W0.heap.size, 0, none⟩), .int .i64 n1]) rfl (by kernel_rfl) (by kernel_rfl) (dnext n1 DC (by omega)) ?_
  rintro e w6 ⟨k, k0, k1, rfl, D6, O6⟩
  obtain ⟨k, rfl⟩ := Int.eq_ofNat_of_zero_le k0
  have hk : k < n1 := by omega
  have hstN : XO xb (S3L (some ⟨eb, eo, none⟩) n1 c1 a2 n2 c2 s.d.s) (w1.heap.size + 1) pb (.slice (some ⟨eb, eo, none⟩) n1 c1) (.slice a2 n2 c2) s w6 := ⟨hst.A.only5 O6 (by omega), hst.O.kept O6.grown (by omega)⟩
  have P6 := PC.only5 O6 (by omega)
  clear DC PC O6 k1
  refine ⟨_, rfl, hK _ _ hstN ?_⟩
  clear hK K hst
  have hst := hstN
  clear hstN
  simp only [Act.put, List.setIfInBounds_toArray, List.set_cons_zero, List.set_cons_succ]
  have hqk : (s.ps[k]?.getD pin0).n.size ≤ 21 := by
    obtain ⟨hi, xs, -, -, q3, -⟩ := hst.O.own
    exact q3 _ (hst.O.own.row.ps.mem hk)
  have y0 : ∀ z : Of (XO xb (S3L (some ⟨eb, eo, none⟩) n1 c1 a2 n2 c2 s.d.s) (w1.heap.size + 1) pb (.slice (some ⟨eb, eo, none⟩) n1 c1) (.slice a2 n2 c2) s), z.val.cell? ⟨eb, eo + k * 5, none⟩ = some (.string (s.ps[k]?.getD pin0).n) := fun z => (z.prop.O.own.row.ps.cellsAt hk).1
  have y1 : ∀ z : Of (XO xb (S3L (some ⟨eb, eo, none⟩) n1 c1 a2 n2 c2 s.d.s) (w1.heap.size + 1) pb (.slice (some ⟨eb, eo, none⟩) n1 c1) (.slice a2 n2 c2) s), z.val.cell? ⟨eb, eo + k * 5 + 1, none⟩ = some (.int .i64 (s.ps[k]?.getD pin0).a) := fun z => (z.prop.O.own.row.ps.cellsAt hk).2.1
  have y2 : ∀ z : Of (XO xb (S3L (some ⟨eb, eo, none⟩) n1 c1 a2 n2 c2 s.d.s) (w1.heap.size + 1) pb (.slice (some ⟨eb, eo, none⟩) n1 c1) (.slice a2 n2 c2) s), z.val.cell? ⟨eb, eo + k * 5 + 2, none⟩ = some (.int .i64 (s.ps[k]?.getD pin0).b) := fun z => (z.prop.O.own.row.ps.cellsAt hk).2.2.1
  have y3 : ∀ z : Of (XO xb (S3L (some ⟨eb, eo, none⟩) n1 c1 a2 n2 c2 s.d.s) (w1.heap.size + 1) pb (.slice (some ⟨eb, eo, none⟩) n1 c1) (.slice a2 n2 c2) s), z.val.cell? ⟨eb, eo + k * 5 + 3, none⟩ = some (.int .i64 (s.ps[k]?.getD pin0).e) := fun z => (z.prop.O.own.row.ps.cellsAt hk).2.2.2.1
  have y4 : ∀ z : Of (XO xb (S3L (some ⟨eb, eo, none⟩) n1 c1 a2 n2 c2 s.d.s) (w1.heap.size + 1) pb (.slice (some ⟨eb, eo, none⟩) n1 c1) (.slice a2 n2 c2) s), z.val.cell? ⟨eb, eo + k * 5 + 4, none⟩ = some (.int .i64 (s.ps[k]?.getD pin0).u) := fun z => (z.prop.O.own.row.ps.cellsAt hk).2.2.2.2
  generalize s.ps[k]?.getD pin0 = qk at *
  have hk1 : (k : Int) < n1 := by omega
  have hk2 : ¬ (k : Int) < 0 := by omega
  iterate 2 (refine line_read rfl (by kernel_rfl) (fun K hK => ?_); go_big_quiet_op; refine hK _ ?_; clear hK K)
  clear y0 y1 y2 y3 y4
  have xx0 := P6.cell 0 _ rfl
  have xx1 := P6.cell 1 _ rfl
  have xx2 := P6.cell 2 _ rfl
  have xx3 := P6.cell 3 _ rfl
  have xx4 := P6.cell 4 _ rfl
  have ff0 := P6.free 0 _ rfl
  have ff1 := P6.free 1 _ rfl
  have ff2 := P6.free 2 _ rfl
  have ff3 := P6.free 3 _ rfl
  have ff4 := P6.free 4 _ rfl
  have O7 : BOwnB (((((w6.setCell ⟨pb, 0, none⟩ (.string qk.n)).setCell ⟨pb, 1, none⟩ (.int .i64 qk.a)).setCell ⟨pb, 2, none⟩ (.int .i64 qk.b)).setCell ⟨pb, 3, none⟩ (.int .i64 qk.e)).setCell ⟨pb, 4, none⟩ (.int .i64 qk.u)) (w1.heap.size + 1) pb (.slice (some ⟨eb, eo, none⟩) n1 c1) (.slice a2 n2 c2) s := by
    iterate 5 (refine BOwnB.set ?_ (Nat.le_refl pb) _)
    exact hst.O
  have X7 : At xb (S3L (some ⟨eb, eo, none⟩) n1 c1 a2 n2 c2 s.d.s) (((((w6.setCell ⟨pb, 0, none⟩ (.string qk.n)).setCell ⟨pb, 1, none⟩ (.int .i64 qk.a)).setCell ⟨pb, 2, none⟩ (.int .i64 qk.b)).setCell ⟨pb, 3, none⟩ (.int .i64 qk.e)).setCell ⟨pb, 4, none⟩ (.int .i64 qk.u)) := by
    iterate 5 (refine At.setB ?_ (by dsimp only; omega) _)
    exact hst.A
  have D7 : Draw W0 a len cap zs (p3 + 1) (((((w6.setCell ⟨pb, 0, none⟩ (.string qk.n)).setCell ⟨pb, 1, none⟩ (.int .i64 qk.a)).setCell ⟨pb, 2, none⟩ (.int .i64 qk.b)).setCell ⟨pb, 3, none⟩ (.int .i64 qk.e)).setCell ⟨pb, 4, none⟩ (.int .i64 qk.u)) := by
    iterate 5 (refine Draw.put ?_ (by dsimp only; omega) _)
    exact D6
  have P7 : At pb qk.vals (((((w6.setCell ⟨pb, 0, none⟩ (.string qk.n)).setCell ⟨pb, 1, none⟩ (.int .i64 qk.a)).setCell ⟨pb, 2, none⟩ (.int .i64 qk.b)).setCell ⟨pb, 3, none⟩ (.int .i64 qk.e)).setCell ⟨pb, 4, none⟩ (.int .i64 qk.u)) := ((((P6.set 0 (.string qk.n)).set 1 (.int .i64 qk.a)).set 2 (.int .i64 qk.b)).set 3 (.int .i64 qk.e)).set 4 (.int .i64 qk.u)
  have HX := Lib.hid (And.intro X7 O7)
  have HP := Lib.hid (And.intro D7 P7)
  clear X7 O7 D7 P7 D6 P6 hst
  refine line_alone rfl (by kernel_rfl) (fun K hK => ?_)
  go_big_op
  refine hK _ _ (⟨HX.out.1, HX.out.2⟩) ?_
  clear hK K
  refine line_nil ?_
  clear xx0 xx1 xx2 xx3 xx4 ff0 ff1 ff2 ff3 ff4 inst
  generalize (((((w6.setCell ⟨pb, 0, none⟩ (.string qk.n)).setCell ⟨pb, 1, none⟩ (.int .i64 qk.a)).setCell ⟨pb, 2, none⟩ (.int .i64 qk.b)).setCell ⟨pb, 3, none⟩ (.int .i64 qk.e)).setCell ⟨pb, 4, none⟩ (.int .i64 qk.u)) = W6 at *
  have X7 := HX.out.1
  have O7 := HX.out.2.own
  have D7 := HP.out.1
  have P7 := HP.out.2
  clear HX HP
  go_wp2_with fail
  generalize hA1 : (some ⟨eb, eo, none⟩ : Option Addr) = a1 at *
  have H0 := Lib.hid (show XQ xb (S3L a1 n1 c1 a2 n2 c2 s.d.s) pb (qk).vals (W6).drew from ⟨(X7).on (bdrew _), (P7).on (bdrew _)⟩)
  have DC := (D7).below (bdrew _)
  have OC := (O7).on (bdrew _)
  have HQ := Lib.hid (show (qk).n.size ≤ 21 from hqk)
  clear D7 X7 P7 O7
  refine wp_region_fork (XQ xb (S3L a1 n1 c1 a2 n2 c2 s.d.s) pb (qk).vals) (by kernel_rfl) (H0.out) ?_
  have hst : (XQ xb (S3L a1 n1 c1 a2 n2 c2 s.d.s) pb (qk).vals) _ := (H0.out)
  have inst : Nonempty (Of (XQ xb (S3L a1 n1 c1 a2 n2 c2 s.d.s) pb (qk).vals)) := ⟨⟨_, hst⟩⟩
  have u0 : ∀ z : Of (XQ xb (S3L a1 n1 c1 a2 n2 c2 s.d.s) pb (qk).vals), z.val.cell? ⟨xb, 0, none⟩ = some (.slice a1 n1 c1) := fun z => z.prop.A.cell 0 _ rfl
  have u1 : ∀ z : Of (XQ xb (S3L a1 n1 c1 a2 n2 c2 s.d.s) pb (qk).vals), z.val.cell? ⟨xb, 1, none⟩ = some (.slice a2 n2 c2) := fun z => z.prop.A.cell 1 _ rfl
  have u2 : ∀ z : Of (XQ xb (S3L a1 n1 c1 a2 n2 c2 s.d.s) pb (qk).vals), z.val.cell? ⟨xb, 2, none⟩ = some (.int .i64 s.d.s) := fun z => z.prop.A.cell 2 _ rfl
  have v0 : ∀ z : Of (XQ xb (S3L a1 n1 c1 a2 n2 c2 s.d.s) pb (qk).vals), z.val.cell? ⟨pb, 0, none⟩ = some (.string (qk).n) := fun z => z.prop.P.cell 0 _ rfl
  have v1 : ∀ z : Of (XQ xb (S3L a1 n1 c1 a2 n2 c2 s.d.s) pb (qk).vals), z.val.cell? ⟨pb, 1, none⟩ = some (.int .i64 (qk).a) := fun z => z.prop.P.cell 1 _ rfl
  have v2 : ∀ z : Of (XQ xb (S3L a1 n1 c1 a2 n2 c2 s.d.s) pb (qk).vals), z.val.cell? ⟨pb, 2, none⟩ = some (.int .i64 (qk).b) := fun z => z.prop.P.cell 2 _ rfl
  have v3 : ∀ z : Of (XQ xb (S3L a1 n1 c1 a2 n2 c2 s.d.s) pb (qk).vals), z.val.cell? ⟨pb, 3, none⟩ = some (.int .i64 (qk).e) := fun z => z.prop.P.cell 3 _ rfl
  have v4 : ∀ z : Of (XQ xb (S3L a1 n1 c1 a2 n2 c2 s.d.s) pb (qk).vals), z.val.cell? ⟨pb, 4, none⟩ = some (.int .i64 (qk).u) := fun z => z.prop.P.cell 4 _ rfl
  clear H0
  generalize (W6).drew = V1 at *
  refine any_seg 6 [(0, true), (1, true), (2, true), (4, true)] (by kernel_rfl) (fun _ _ d _ _ h => by cases d <;> exact h) ?_
  iterate 4 (refine line_read rfl (by kernel_rfl) (fun K hK => ?_); go_big_quiet_op; refine hK _ ?_; clear hK K)
  refine line_nil ?_
  clear u0 u1 u2 v0 v1 v2 v3 v4
  refine any_fork 3 5 (by kernel_rfl) rfl rfl (by kernel_rfl) (by kernel_rfl) (fun K hK => ?_) (fun K hK => ?_)
  · refine call_any (args := #[.pointer (some ⟨W0.heap.size, 0, none⟩), P5 (qk)]) rfl (by kernel_rfl) (by kernel_rfl) (dl8Draw DC (by omega) (qk) HQ.out) ?_
    rintro e w7 ⟨r, pr, hr, hpr, rfl, D7, g7⟩
    have O7 := OC.kept g7 (by omega)
    have hstN := hst.kept g7 (by omega) (by omega)
    clear OC DC
    have OC := O7
    have DC := D7
    skip
    clear O7 D7 g7
    refine ⟨_, rfl, hK _ _ hstN ?_⟩
    clear hK K hst
    have hst := hstN
    clear hstN
    simp only [Act.put, List.setIfInBounds_toArray, List.set_cons_zero, List.set_cons_succ]
    refine any_rest [(5, false), (6, false), (7, false), (8, false), (9, true)] (by kernel_rfl) (fun _ _ d _ _ h => by cases d <;> exact h) ?_
    refine line_alone rfl (by kernel_rfl) (fun K hK => ?_)
    go_big_op
    have GA := At.new w7 [.int .i64 0, .int .i64 40, .int .i64 51, .int .i64 (-1)] 2
    have b8 := bal (Below.refl _ w7) (.cells #[.int .i64 0, .int .i64 40, .int .i64 51, .int .i64 (-1)] 2)
    have D8 := DC.alloc (.cells #[.int .i64 0, .int .i64 40, .int .i64 51, .int .i64 (-1)] 2)
    have O8 := OC.alloc (.cells #[.int .i64 0, .int .i64 40, .int .i64 51, .int .i64 (-1)] 2)
    have hstN := hst.on b8
    have hga : W0.heap.size < (w7).heap.size := DC.lt
    clear DC OC b8
    have DC := D8
    have OC := O8
    clear D8 O8
    refine hK _ _ hstN ?_
    clear hK K hst
    have hst := hstN
    clear hstN
    generalize (w7).alloc (.cells #[.int .i64 0, .int .i64 40, .int .i64 51, .int .i64 (-1)] 2) = x8 at *
    generalize (w7).heap.size = ga at *
    refine line_alone rfl (by kernel_rfl) (fun K hK => ?_)
    refine call_any (args := #[.pointer (some ⟨W0.heap.size, 0, none⟩), .slice (some ⟨ga, 0, none⟩) 4 4]) rfl (by kernel_rfl) (by kernel_rfl) (l1Pick_any W0.heap.size ga 4 [0, 40, 51, -1] a len cap _ W0.heap.size zs _ DC.src DC.row (Nat.le_refl _) (by omega) (by omega) rfl (by omega) (by omega) (fun j hj => by
      match j, hj with
      | 0, _ => exact GA.cell 0 _ rfl
      | 1, _ => exact GA.cell 1 _ rfl
      | 2, _ => exact GA.cell 2 _ rfl
      | 3, _ => exact GA.cell 3 _ rfl)) ?_
    rintro e w9 ⟨t, ht, rfl, SN, O9⟩
    have D9 := DC.only SN O9
    have OO9 := OC.kept O9.grown (by omega)
    have hstN := hst.kept O9.grown (by omega) (by omega)
    have ht2 : -1 ≤ t ∧ t ≤ 51 := by simp at ht; omega
    clear DC OC GA SN O9 ht
    refine ⟨_, rfl, hK _ _ hstN ?_⟩
    clear hK K hst
    have hst := hstN
    clear hstN
    simp only [Act.put, List.setIfInBounds_toArray, List.set_cons_zero, List.set_cons_succ]
    have ZC := A0.on D9.bel
    have RC := P0.on D9.bel
    have BC := btr b0 D9.bel
    have XC := hst.A
    have PC := hst.P
    clear hst
    have zz0 := ZC.cell 0 _ rfl
    have zz1 := ZC.cell 1 _ rfl
    have zz2 := ZC.cell 2 _ rfl
    have zh0 := ZC.free 0 _ rfl
    have zh1 := ZC.free 1 _ rfl
    have zh2 := ZC.free 2 _ rfl
    have Z9 : At w.heap.size (S3L a1 n1 c1 a2 n2 c2 s.d.s) (((w9.setCell ⟨w.heap.size, 0, none⟩ (.slice a1 n1 c1)).setCell ⟨w.heap.size, 1, none⟩ (.slice a2 n2 c2)).setCell ⟨w.heap.size, 2, none⟩ (.int .i64 s.d.s)) := ((ZC.set 0 (.slice a1 n1 c1)).set 1 (.slice a2 n2 c2)).set 2 (.int .i64 s.d.s)
    have R9 : At (w.heap.size + 1) zer8 (((w9.setCell ⟨w.heap.size, 0, none⟩ (.slice a1 n1 c1)).setCell ⟨w.heap.size, 1, none⟩ (.slice a2 n2 c2)).setCell ⟨w.heap.size, 2, none⟩ (.int .i64 s.d.s)) := by
      iterate 3 (refine At.setB ?_ (by dsimp only; omega) _)
      exact RC
    have O9' : BOwn (((w9.setCell ⟨w.heap.size, 0, none⟩ (.slice a1 n1 c1)).setCell ⟨w.heap.size, 1, none⟩ (.slice a2 n2 c2)).setCell ⟨w.heap.size, 2, none⟩ (.int .i64 s.d.s)) (w1.heap.size + 1) (.slice a1 n1 c1) (.slice a2 n2 c2) s := by
      iterate 3 (refine BOwn.set ?_ (by dsimp only; omega) _)
      exact OO9
    have B9 : Below w.heap.size w (((w9.setCell ⟨w.heap.size, 0, none⟩ (.slice a1 n1 c1)).setCell ⟨w.heap.size, 1, none⟩ (.slice a2 n2 c2)).setCell ⟨w.heap.size, 2, none⟩ (.int .i64 s.d.s)) := (by (iterate 3 (refine bset ?_ (by dsimp only; omega) _)); exact BC)
    have hstN : XQ xb (S3L a1 n1 c1 a2 n2 c2 s.d.s) pb (qk).vals (((w9.setCell ⟨w.heap.size, 0, none⟩ (.slice a1 n1 c1)).setCell ⟨w.heap.size, 1, none⟩ (.slice a2 n2 c2)).setCell ⟨w.heap.size, 2, none⟩ (.int .i64 s.d.s)) := by
      iterate 3 (refine XQ.set ?_ (by dsimp only; omega) (by dsimp only; omega) _)
      exact ⟨XC, PC⟩
    clear ZC RC BC XC PC OO9 D9
    refine line_alone rfl (by kernel_rfl) (fun K hK => ?_)
    go_big_op
    refine hK _ _ (hstN) ?_
    clear hK K
    clear zz0 zz1 zz2 zh0 zh1 zh2
    generalize (((w9.setCell ⟨w.heap.size, 0, none⟩ (.slice a1 n1 c1)).setCell ⟨w.heap.size, 1, none⟩ (.slice a2 n2 c2)).setCell ⟨w.heap.size, 2, none⟩ (.int .i64 s.d.s)) = w10 at *
    have rr0 := R9.cell 0 _ rfl
    have rr1 := R9.cell 1 _ rfl
    have rr2 := R9.cell 2 _ rfl
    have rr3 := R9.cell 3 _ rfl
    have rr4 := R9.cell 4 _ rfl
    have rr5 := R9.cell 5 _ rfl
    have rr6 := R9.cell 6 _ rfl
    have rr7 := R9.cell 7 _ rfl
    have rh0 := R9.free 0 _ rfl
    have rh1 := R9.free 1 _ rfl
    have rh2 := R9.free 2 _ rfl
    have rh3 := R9.free 3 _ rfl
    have rh4 := R9.free 4 _ rfl
    have rh5 := R9.free 5 _ rfl
    have rh6 := R9.free 6 _ rfl
    have rh7 := R9.free 7 _ rfl
    have hstM : XQ xb (S3L a1 n1 c1 a2 n2 c2 s.d.s) pb (qk).vals ((((((((w10.setCell ⟨w.heap.size + 1, 0, none⟩ (.string r.p.n)).setCell ⟨w.heap.size + 1, 1, none⟩ (.int .i64 r.p.a)).setCell ⟨w.heap.size + 1, 2, none⟩ (.int .i64 r.p.b)).setCell ⟨w.heap.size + 1, 3, none⟩ (.int .i64 r.p.e)).setCell ⟨w.heap.size + 1, 4, none⟩ (.int .i64 r.p.u)).setCell ⟨w.heap.size + 1, 5, none⟩ (.int .i64 r.b)).setCell ⟨w.heap.size + 1, 6, none⟩ (.int .i64 r.x)).setCell ⟨w.heap.size + 1, 7, none⟩ (.int .i64 r.y)) := by
      iterate 8 (refine XQ.set ?_ (by dsimp only; omega) (by dsimp only; omega) _)
      exact hstN
    have HF := Lib.hid (And.intro O9' (And.intro B9 (And.intro Z9 R9)))
    clear O9' B9 hstN Z9 R9
    refine line_alone rfl (by kernel_rfl) (fun K hK => ?_)
    go_big_op
    refine hK _ _ (hstM) ?_
    clear hK K
    clear hstM
    iterate 1 (refine line_read rfl (by kernel_rfl) (fun K hK => ?_); go_big_quiet_op; refine hK _ ?_; clear hK K)
    refine line_nil ?_
    have hne : w.heap.size ≠ w.heap.size + 1 := by omega
    have zz0 := HF.out.2.2.1.cell 0 _ rfl
    have zz1 := HF.out.2.2.1.cell 1 _ rfl
    have zz2 := HF.out.2.2.1.cell 2 _ rfl
    go_wp2_with fail
    refine bodyPost_ret (v := .tuple #[S3 a1 n1 c1 a2 n2 c2 s.d.s, R8 r, .int .i64 t]) (by simp [results, Tryz.results33, go_sem, zz0, zz1, zz2, rr0, rr1, rr2, rr3, rr4, rr5, rr6, rr7]) rfl ⟨a1, n1, c1, a2, n2, c2, s, r, t, rfl, hr, ht2, ?_, (by (iterate 8 (refine bset ?_ (by dsimp only; omega) _)); exact HF.out.2.1)⟩
    refine BOwn.row (lo := w1.heap.size + 1) ?_
    iterate 8 (refine BOwn.set ?_ (by dsimp only; omega) _)
    exact HF.out.1
  · go_big_op
    have GA := At.new V1 [.int .i64 0, .int .i64 40, .int .i64 51, .int .i64 (-1)] 2
    have b8 := bal (Below.refl _ V1) (.cells #[.int .i64 0, .int .i64 40, .int .i64 51, .int .i64 (-1)] 2)
    have D8 := DC.alloc (.cells #[.int .i64 0, .int .i64 40, .int .i64 51, .int .i64 (-1)] 2)
    have O8 := OC.alloc (.cells #[.int .i64 0, .int .i64 40, .int .i64 51, .int .i64 (-1)] 2)
    have hstN := hst.on b8
    have hga : W0.heap.size < (V1).heap.size := DC.lt
    clear DC OC b8
    have DC := D8
    have OC := O8
    clear D8 O8
    refine hK _ _ hstN ?_
    clear hK K hst
    have hst := hstN
    clear hstN
    generalize (V1).alloc (.cells #[.int .i64 0, .int .i64 40, .int .i64 51, .int .i64 (-1)] 2) = x8 at *
    generalize (V1).heap.size = ga at *
    refine any_rest [(3, false), (6, false), (7, false), (8, false), (9, true)] (by kernel_rfl) (fun _ _ d _ _ h => by cases d <;> exact h) ?_
    refine line_alone rfl (by kernel_rfl) (fun K hK => ?_)
    refine call_any (args := #[.pointer (some ⟨W0.heap.size, 0, none⟩), P5 (qk)]) rfl (by kernel_rfl) (by kernel_rfl) (dl8Draw DC (by omega) (qk) HQ.out) ?_
    rintro e w7 ⟨r, pr, hr, hpr, rfl, D7, g7⟩
    have O7 := OC.kept g7 (by omega)
    have hstN := hst.kept g7 (by omega) (by omega)
    clear OC DC
    have OC := O7
    have DC := D7
    have GA := GA.kept g7 (fun e => by injection e with e; omega)
    clear O7 D7 g7
    refine ⟨_, rfl, hK _ _ hstN ?_⟩
    clear hK K hst
    have hst := hstN
    clear hstN
    simp only [Act.put, List.setIfInBounds_toArray, List.set_cons_zero, List.set_cons_succ]
    refine line_alone rfl (by kernel_rfl) (fun K hK => ?_)
    refine call_any (args := #[.pointer (some ⟨W0.heap.size, 0, none⟩), .slice (some ⟨ga, 0, none⟩) 4 4]) rfl (by kernel_rfl) (by kernel_rfl) (l1Pick_any W0.heap.size ga 4 [0, 40, 51, -1] a len cap _ W0.heap.size zs _ DC.src DC.row (Nat.le_refl _) (by omega) (by omega) rfl (by omega) (by omega) (fun j hj => by
      match j, hj with
      | 0, _ => exact GA.cell 0 _ rfl
      | 1, _ => exact GA.cell 1 _ rfl
      | 2, _ => exact GA.cell 2 _ rfl
      | 3, _ => exact GA.cell 3 _ rfl)) ?_
    rintro e w9 ⟨t, ht, rfl, SN, O9⟩
    have D9 := DC.only SN O9
    have OO9 := OC.kept O9.grown (by omega)
    have hstN := hst.kept O9.grown (by omega) (by omega)
    have ht2 : -1 ≤ t ∧ t ≤ 51 := by simp at ht; omega
    clear DC OC GA SN O9 ht
    refine ⟨_, rfl, hK _ _ hstN ?_⟩
    clear hK K hst
    have hst := hstN
    clear hstN
    simp only [Act.put, List.setIfInBounds_toArray, List.set_cons_zero, List.set_cons_succ]
    have ZC := A0.on D9.bel
    have RC := P0.on D9.bel
    have BC := btr b0 D9.bel
    have XC := hst.A
    have PC := hst.P
    clear hst
    have zz0 := ZC.cell 0 _ rfl
    have zz1 := ZC.cell 1 _ rfl
    have zz2 := ZC.cell 2 _ rfl
    have zh0 := ZC.free 0 _ rfl
    have zh1 := ZC.free 1 _ rfl
    have zh2 := ZC.free 2 _ rfl
    have Z9 : At w.heap.size (S3L a1 n1 c1 a2 n2 c2 s.d.s) (((w9.setCell ⟨w.heap.size, 0, none⟩ (.slice a1 n1 c1)).setCell ⟨w.heap.size, 1, none⟩ (.slice a2 n2 c2)).setCell ⟨w.heap.size, 2, none⟩ (.int .i64 s.d.s)) := ((ZC.set 0 (.slice a1 n1 c1)).set 1 (.slice a2 n2 c2)).set 2 (.int .i64 s.d.s)
    have R9 : At (w.heap.size + 1) zer8 (((w9.setCell ⟨w.heap.size, 0, none⟩ (.slice a1 n1 c1)).setCell ⟨w.heap.size, 1, none⟩ (.slice a2 n2 c2)).setCell ⟨w.heap.size, 2, none⟩ (.int .i64 s.d.s)) := by
      iterate 3 (refine At.setB ?_ (by dsimp only; omega) _)
      exact RC
    have O9' : BOwn (((w9.setCell ⟨w.heap.size, 0, none⟩ (.slice a1 n1 c1)).setCell ⟨w.heap.size, 1, none⟩ (.slice a2 n2 c2)).setCell ⟨w.heap.size, 2, none⟩ (.int .i64 s.d.s)) (w1.heap.size + 1) (.slice a1 n1 c1) (.slice a2 n2 c2) s := by
      iterate 3 (refine BOwn.set ?_ (by dsimp only; omega) _)
      exact OO9
    have B9 : Below w.heap.size w (((w9.setCell ⟨w.heap.size, 0, none⟩ (.slice a1 n1 c1)).setCell ⟨w.heap.size, 1, none⟩ (.slice a2 n2 c2)).setCell ⟨w.heap.size, 2, none⟩ (.int .i64 s.d.s)) := (by (iterate 3 (refine bset ?_ (by dsimp only; omega) _)); exact BC)
    have hstN : XQ xb (S3L a1 n1 c1 a2 n2 c2 s.d.s) pb (qk).vals (((w9.setCell ⟨w.heap.size, 0, none⟩ (.slice a1 n1 c1)).setCell ⟨w.heap.size, 1, none⟩ (.slice a2 n2 c2)).setCell ⟨w.heap.size, 2, none⟩ (.int .i64 s.d.s)) := by
      iterate 3 (refine XQ.set ?_ (by dsimp only; omega) (by dsimp only; omega) _)
      exact ⟨XC, PC⟩
    clear ZC RC BC XC PC OO9 D9
    refine line_alone rfl (by kernel_rfl) (fun K hK => ?_)
    go_big_op
    refine hK _ _ (hstN) ?_
    clear hK K
    clear zz0 zz1 zz2 zh0 zh1 zh2
    generalize (((w9.setCell ⟨w.heap.size, 0, none⟩ (.slice a1 n1 c1)).setCell ⟨w.heap.size, 1, none⟩ (.slice a2 n2 c2)).setCell ⟨w.heap.size, 2, none⟩ (.int .i64 s.d.s)) = w10 at *
    have rr0 := R9.cell 0 _ rfl
    have rr1 := R9.cell 1 _ rfl
    have rr2 := R9.cell 2 _ rfl
    have rr3 := R9.cell 3 _ rfl
    have rr4 := R9.cell 4 _ rfl
    have rr5 := R9.cell 5 _ rfl
    have rr6 := R9.cell 6 _ rfl
    have rr7 := R9.cell 7 _ rfl
    have rh0 := R9.free 0 _ rfl
    have rh1 := R9.free 1 _ rfl
    have rh2 := R9.free 2 _ rfl
    have rh3 := R9.free 3 _ rfl
    have rh4 := R9.free 4 _ rfl
    have rh5 := R9.free 5 _ rfl
    have rh6 := R9.free 6 _ rfl
    have rh7 := R9.free 7 _ rfl
    have hstM : XQ xb (S3L a1 n1 c1 a2 n2 c2 s.d.s) pb (qk).vals ((((((((w10.setCell ⟨w.heap.size + 1, 0, none⟩ (.string r.p.n)).setCell ⟨w.heap.size + 1, 1, none⟩ (.int .i64 r.p.a)).setCell ⟨w.heap.size + 1, 2, none⟩ (.int .i64 r.p.b)).setCell ⟨w.heap.size + 1, 3, none⟩ (.int .i64 r.p.e)).setCell ⟨w.heap.size + 1, 4, none⟩ (.int .i64 r.p.u)).setCell ⟨w.heap.size + 1, 5, none⟩ (.int .i64 r.b)).setCell ⟨w.heap.size + 1, 6, none⟩ (.int .i64 r.x)).setCell ⟨w.heap.size + 1, 7, none⟩ (.int .i64 r.y)) := by
      iterate 8 (refine XQ.set ?_ (by dsimp only; omega) (by dsimp only; omega) _)
      exact hstN
    have HF := Lib.hid (And.intro O9' (And.intro B9 (And.intro Z9 R9)))
    clear O9' B9 hstN Z9 R9
    refine line_alone rfl (by kernel_rfl) (fun K hK => ?_)
    go_big_op
    refine hK _ _ (hstM) ?_
    clear hK K
    clear hstM
    iterate 1 (refine line_read rfl (by kernel_rfl) (fun K hK => ?_); go_big_quiet_op; refine hK _ ?_; clear hK K)
    refine line_nil ?_
    have hne : w.heap.size ≠ w.heap.size + 1 := by omega
    have zz0 := HF.out.2.2.1.cell 0 _ rfl
    have zz1 := HF.out.2.2.1.cell 1 _ rfl
    have zz2 := HF.out.2.2.1.cell 2 _ rfl
    go_wp2_with fail
    refine bodyPost_ret (v := .tuple #[S3 a1 n1 c1 a2 n2 c2 s.d.s, R8 r, .int .i64 t]) (by simp [results, Tryz.results33, go_sem, zz0, zz1, zz2, rr0, rr1, rr2, rr3, rr4, rr5, rr6, rr7]) rfl ⟨a1, n1, c1, a2, n2, c2, s, r, t, rfl, hr, ht2, ?_, (by (iterate 8 (refine bset ?_ (by dsimp only; omega) _)); exact HF.out.2.1)⟩
    refine BOwn.row (lo := w1.heap.size + 1) ?_
    iterate 8 (refine BOwn.set ?_ (by dsimp only; omega) _)
    exact HF.out.1
end Go.Proofs.YtlodhleihnlchaaGreatDoor
namespace Go.Proofs.YtlodhleihnlchaaGreatDoor
open Go.RowKit
set_option maxRecDepth 100000
set_option linter.unusedVariables false

theorem take_eq_all {rs qs : List (List Int)} (hl : rs.length = qs.length) (h : rs.take rs.length = qs.take rs.length) : rs = qs := by
  rw [List.take_length, hl, List.take_length] at h
  exact h
theorem take_eq_next {rs qs : List (List Int)} {k : Nat} (h1 : k < rs.length) (h2 : k < qs.length) (h : rs.take k = qs.take k) (he : rs[k]?.getD [] = qs[k]?.getD []) : rs.take (k + 1) = qs.take (k + 1) := by
  rw [M.take_snoc rs [] k h1, M.take_snoc qs [] k h2, h, he]
theorem equalFunc_any (a1 : Option Addr) (n1 c1 : Nat) (a2 : Option Addr) (n2 c2 B : Nat) (rs qs : List (List Int)) (w : World) (hG : Grid w B a1 n1 c1 rs) (hH : Grid w B a2 n2 c2 qs) :
    Calls Tryz.prog 139 #[.slice a1 n1 c1, .slice a2 n2 c2, .func (.func 140) #[] #[]] w fun r w' => r = .returned (.bool (decide (rs = qs))) ∧ w = w' := by
  have hl1 := hG.length
  have hl2 := hH.length
  have hf1 := hG.fits
  have hm1 := hG.most
  have hf2 := hH.fits
  have hm2 := hH.most
  unfold maxLen at hm1 hm2
  by_cases hn : n1 = n2
  case neg =>
    have e : decide (rs = qs) = false := decide_eq_false fun e => hn (by rw [← hl1, ← hl2, e])
    rw [e]
    have hn2 : ¬ ((n1 : Int) = n2) := by omega
    clear e
    go_enter Tryz.func139, Tryz.ntmps139
    go_wp2_with fail
    go_ret
    exact ⟨rfl, rfl⟩
  subst hn
  generalize hd : decide (rs = qs) = d at *
  have HD := Lib.hid hd
  clear hd
  go_enter Tryz.func139, Tryz.ntmps139
  go_wp2_with fail
  go_loopw [17] (fun i wr => ∃ k : Nat, k ≤ n1 ∧ i = .int .i64 k ∧ rs.take k = qs.take k ∧ wr = w) (fun i _ => n1 - (intOf i).toNat)
  case atStart => exact ⟨0, Nat.zero_le _, rfl, rfl, rfl⟩
  case round =>
    obtain ⟨k, hk, rfl, he, rfl⟩ := hrel
    by_cases hlt : k < n1
    · obtain ⟨b, off, ha, hb, hc⟩ := hG.cells (by omega)
      obtain ⟨b', off', ha', hb', hc'⟩ := hH.cells (by omega)
      obtain ⟨x1, m1, d1, g1, r1⟩ := hc k hlt
      obtain ⟨x2, m2, d2, g2, r2⟩ := hc' k hlt
      subst ha
      subst ha'
      have BE := bytesEqual_any r1 r2
      by_cases hq : rs[k]?.getD [] = qs[k]?.getD []
      · rw [decide_eq_true hq] at BE
        have HN := Lib.hid (take_eq_next (by omega) (by omega) he hq)
        clear hc hc' r1 r2 he hq
        go_wp2_with fail
        refine BE.mono ?_
        rintro e w' ⟨rfl, rfl⟩
        go_wp2_with fail
        go_roundw
        case rel => exact ⟨k + 1, by omega, by go_num, HN.out, trivial⟩
        case measure => simp [intOf]; omega
      · rw [decide_eq_false hq] at BE
        have e : d = false := by rw [← HD.out]; exact decide_eq_false fun e => hq (by rw [e])
        subst e
        clear hc hc' r1 r2 he hq
        go_wp2_with fail
        refine BE.mono ?_
        rintro e w' ⟨rfl, rfl⟩
        go_wp2_with fail
        go_ret
        exact ⟨rfl, rfl⟩
    · obtain rfl : k = n1 := by omega
      have e : d = true := by rw [← HD.out]; exact decide_eq_true (take_eq_all (by omega) (by rw [hl1]; exact he))
      subst e
      clear he
      go_wp2_with fail
      go_ret
      exact ⟨rfl, rfl⟩
def sameSt (a b : StoreD) : Bool := sameL a.ps b.ps && decide (a.d.s = b.d.s) && decide (a.d.rs = b.d.rs)
set_option maxHeartbeats 1000000 in
theorem implSameStores_any (a1 : Option Addr) (n1 c1 : Nat) (a2 : Option Addr) (n2 c2 : Nat) (b1 : Option Addr) (m1 k1 : Nat) (b2 : Option Addr) (m2 k2 B : Nat) (s t : StoreD) (w : World) (hR : SRow w B a1 n1 c1 a2 n2 c2 s) (hQ : SRow w B b1 m1 k1 b2 m2 k2 t) (hB : B ≤ w.heap.size) :
    Calls Tryz.prog 44 #[.agg #[.slice a1 n1 c1, .slice a2 n2 c2, .int .i64 s.d.s], .agg #[.slice b1 m1 k1, .slice b2 m2 k2, .int .i64 t.d.s]] w fun r w' => r = .returned (.bool (sameSt s t)) ∧ Below w.heap.size w w' := by
  have b0 := bal (bal (Below.refl _ w) (.cells #[.slice a1 n1 c1, .slice a2 n2 c2, .int .i64 s.d.s] 57)) (.cells #[.slice b1 m1 k1, .slice b2 m2 k2, .int .i64 t.d.s] 57)
  have A0 : At w.heap.size [.slice a1 n1 c1, .slice a2 n2 c2, .int .i64 s.d.s] ((w.alloc (.cells #[.slice a1 n1 c1, .slice a2 n2 c2, .int .i64 s.d.s] 57)).alloc (.cells #[.slice b1 m1 k1, .slice b2 m2 k2, .int .i64 t.d.s] 57)) := (At.new w [.slice a1 n1 c1, .slice a2 n2 c2, .int .i64 s.d.s] 57).alloc _
  have C0 := At.new (w.alloc (.cells #[.slice a1 n1 c1, .slice a2 n2 c2, .int .i64 s.d.s] 57)) [.slice b1 m1 k1, .slice b2 m2 k2, .int .i64 t.d.s] 57
  rw [World.size_alloc] at C0
  have SP := implSamePins_any a1 b1 n1 m1 c1 k1 B s.ps t.ps _ (hR.ps.below (b0.mono hB)) (hQ.ps.below (b0.mono hB)) (Nat.le_trans hB b0.size)
  have EF := Lib.hid (fun (w' : World) (h : Below w.heap.size w w') => equalFunc_any a2 n2 c2 b2 m2 k2 B s.d.rs t.d.rs w' (hR.rs.below (h.mono hB)) (hQ.rs.below (h.mono hB)))
  have HA0 := Lib.hid A0
  have HC0 := Lib.hid (show At (w.heap.size + 1) [.slice b1 m1 k1, .slice b2 m2 k2, .int .i64 t.d.s] ((w.alloc (.cells #[.slice a1 n1 c1, .slice a2 n2 c2, .int .i64 s.d.s] 57)).alloc (.cells #[.slice b1 m1 k1, .slice b2 m2 k2, .int .i64 t.d.s] 57)) from C0)
  have HB0 := Lib.hid b0
  unfold sameSt
  clear hR hQ A0 C0 b0
  generalize sameL s.ps t.ps = x at *
  generalize decide (s.d.rs = t.d.rs) = z at *
  generalize s.d.s = y1 at *
  generalize t.d.s = y2 at *
  cases x
  · have E : (false && decide (y1 = y2) && z) = false := by simp
    rw [E]; clear E EF
    have d0 := HA0.out.cell 0 _ rfl
    have d1 := HA0.out.cell 1 _ rfl
    have d2 := HA0.out.cell 2 _ rfl
    have e0 := HC0.out.cell 0 _ rfl
    have e1 := HC0.out.cell 1 _ rfl
    have e2 := HC0.out.cell 2 _ rfl
    go_enter Tryz.func44, Tryz.ntmps44
    go_wp2_with fail
    generalize (w.alloc (.cells #[.slice a1 n1 c1, .slice a2 n2 c2, .int .i64 y1] 57)).alloc (.cells #[.slice b1 m1 k1, .slice b2 m2 k2, .int .i64 y2] 57) = W0 at *
    refine SP.mono ?_
    rintro r u1 ⟨rfl, b1'⟩
    have B1 := Lib.hid (btr HB0.out b1')
    have A1 := HA0.out.on b1'
    have C1 := HC0.out.on b1'
    clear d0 d1 d2 e0 e1 e2 b1' SP HA0 HC0 HB0
    have d0 := A1.cell 0 _ rfl
    have d1 := A1.cell 1 _ rfl
    have d2 := A1.cell 2 _ rfl
    have e0 := C1.cell 0 _ rfl
    have e1 := C1.cell 1 _ rfl
    have e2 := C1.cell 2 _ rfl
    go_wp2_with fail
    go_ret
    exact ⟨rfl, B1.out⟩
  by_cases hy : y1 = y2
  · have E : (true && decide (y1 = y2) && z) = z := by simp [hy]
    rw [E]; clear E
    have q8 : decide (y1 = y2) = true := decide_eq_true hy
    have q7 : (y1 == y2) = true := by simpa using hy
    clear hy
    have d0 := HA0.out.cell 0 _ rfl
    have d1 := HA0.out.cell 1 _ rfl
    have d2 := HA0.out.cell 2 _ rfl
    have e0 := HC0.out.cell 0 _ rfl
    have e1 := HC0.out.cell 1 _ rfl
    have e2 := HC0.out.cell 2 _ rfl
    go_enter Tryz.func44, Tryz.ntmps44
    go_wp2_with fail
    generalize (w.alloc (.cells #[.slice a1 n1 c1, .slice a2 n2 c2, .int .i64 y1] 57)).alloc (.cells #[.slice b1 m1 k1, .slice b2 m2 k2, .int .i64 y2] 57) = W0 at *
    refine SP.mono ?_
    rintro r u1 ⟨rfl, b1'⟩
    have B1 := Lib.hid (btr HB0.out b1')
    have A1 := HA0.out.on b1'
    have C1 := HC0.out.on b1'
    clear d0 d1 d2 e0 e1 e2 b1' SP HA0 HC0 HB0
    have d0 := A1.cell 0 _ rfl
    have d1 := A1.cell 1 _ rfl
    have d2 := A1.cell 2 _ rfl
    have e0 := C1.cell 0 _ rfl
    have e1 := C1.cell 1 _ rfl
    have e2 := C1.cell 2 _ rfl
    go_wp2_with fail
    refine (EF.out _ B1.out).mono ?_
    rintro r u2 ⟨rfl, rfl⟩
    go_wp2_with fail
    go_ret
    exact ⟨rfl, B1.out⟩
  · have E : (true && decide (y1 = y2) && z) = false := by simp [hy]
    rw [E]; clear E EF
    have q8 : decide (y1 = y2) = false := decide_eq_false hy
    have d0 := HA0.out.cell 0 _ rfl
    have d1 := HA0.out.cell 1 _ rfl
    have d2 := HA0.out.cell 2 _ rfl
    have e0 := HC0.out.cell 0 _ rfl
    have e1 := HC0.out.cell 1 _ rfl
    have e2 := HC0.out.cell 2 _ rfl
    go_enter Tryz.func44, Tryz.ntmps44
    go_wp2_with fail
    generalize (w.alloc (.cells #[.slice a1 n1 c1, .slice a2 n2 c2, .int .i64 y1] 57)).alloc (.cells #[.slice b1 m1 k1, .slice b2 m2 k2, .int .i64 y2] 57) = W0 at *
    refine SP.mono ?_
    rintro r u1 ⟨rfl, b1'⟩
    have B1 := Lib.hid (btr HB0.out b1')
    have A1 := HA0.out.on b1'
    have C1 := HC0.out.on b1'
    clear d0 d1 d2 e0 e1 e2 b1' SP HA0 HC0 HB0
    have d0 := A1.cell 0 _ rfl
    have d1 := A1.cell 1 _ rfl
    have d2 := A1.cell 2 _ rfl
    have e0 := C1.cell 0 _ rfl
    have e1 := C1.cell 1 _ rfl
    have e2 := C1.cell 2 _ rfl
    go_wp2_with fail
    go_ret
    exact ⟨rfl, B1.out⟩
end Go.Proofs.YtlodhleihnlchaaGreatDoor
namespace Go.Proofs.YtlodhleihnlchaaGreatDoor.Facts
set_option maxRecDepth 100000

theorem laidOut : laidOutB Tryz.prog = true := by kernel_rfl
theorem mapsRowed : mapsRowed Tryz.prog = true := by kernel_rfl
theorem stopsHeard : Tryz.prog.stopsHeard = true := by kernel_rfl
theorem mayEnter : Tryz.prog.mayEnter = true := by kernel_rfl
theorem plainKeys : (false == Tryz.prog.plainKeys) = true := by kernel_rfl
theorem liftsFinal : (false == Tryz.prog.liftsFinal) = true := by kernel_rfl
theorem make : (Tryz.prog.make == some Make.cut) = true := by kernel_rfl

theorem joined_of {P : Program} {f : FuncId} {fn : Func} {s : ChangeSpec} {c : OpenClaim}
    (g2 : laidOutB P = true) (g3 : Go.mapsRowed P = true) (g4 : P.stopsHeard = true) (g5 : P.mayEnter = true)
    (h1 : c.wf (OpenSpec.ofChange s) = true) (h4 : fn.params.all (P.readableRec ·) = true) (h5 : namedTie P c.named s.vars = true)
    (h6 : (c.stops == []) = true) (h7 : (P.stops == []) = true) (h8 : (c.knobs == []) = true) (h9 : (P.stopKnobs == []) = true)
    (h10 : c.inPlace = P.inPlace f) (h11 : c.unfollowed = P.unfollowed f) (h12 : c.recurses = P.recurses f) (h13 : c.named = P.varsNamed f)
    (h14 : (c.maps == (fn.params.toList ++ s.plain.varTypes P).any (P.mapsRec ·)) = true) (h15 : (c.ifaces == (fn.params.toList ++ s.plain.varTypes P).any (P.ifacesRec ·)) = true) (h16 : (c.mapsOut == P.mapsAmong fn.resultTypes.toList) = true)
    (h17 : (c.loops == (fn.params.toList ++ s.plain.varTypes P).any (P.loopsFrom ·)) = true) (h18 : (c.wideKeys == (fn.params.toList ++ s.plain.varTypes P ++ fn.resultTypes.toList).any (P.wideKeysFrom ·)) = true)
    (h19 : s.vars.all (P.varReadable ·) = true) (h20 : fn.resultTypes.all (fun t => P.readableRec t && decide (t < P.types.size)) = true) (h21 : (c.ifacesOut == fn.resultTypes.toList.any (P.ifacesRec ·)) = true) (h22 : (c.loopsOut == fn.resultTypes.toList.any (P.loopsFrom ·)) = true)
    (h23 : (c.plainKeys == P.plainKeys) = true) (h24 : c.shortTexts.isNone = true) (h25 : (c.lifted == P.liftsFinal) = true) (h26 : (P.make == some c.make) = true)
    (h27 : (c.kinds == (if c.domain.isEmpty then [] else fn.params.toList.map fun t => match P.underlying t with | some (.int k) => some k | _ => none)) = true) (h28 : (c.pinned == c.pinnedBy) = true)
    (h29 : (c.veiled == (fn.params.toList ++ s.plain.varTypes P ++ fn.resultTypes.toList).any (P.veiledRec ·)) = true) (h30 : c.veiledFits P fn.params.toList (fn.params.toList ++ s.plain.varTypes P ++ fn.resultTypes.toList) = true) :
    joinedFacts P f fn s c = true := by
  have g10 : (c.inPlace == P.inPlace f) = true := by rw [h10]; simp
  have g11 : (c.unfollowed == P.unfollowed f) = true := by rw [h11]; simp
  have g12 : (c.recurses == P.recurses f) = true := by rw [h12]; simp
  have g13 : (c.named == P.varsNamed f) = true := by rw [h13]; simp
  unfold joinedFacts
  simp only [Bool.and_eq_true]
  exact ⟨⟨⟨⟨⟨⟨⟨⟨⟨⟨⟨⟨⟨⟨⟨⟨⟨⟨⟨⟨⟨⟨⟨⟨⟨⟨⟨⟨⟨⟨⟨h1, g2⟩, g3⟩, h4⟩, h5⟩, h6⟩, h7⟩, h8⟩, h9⟩, g10⟩, g11⟩, g12⟩, g13⟩, h14⟩, h15⟩, h16⟩, h17⟩, h18⟩, h19⟩, h20⟩, h21⟩, h22⟩, h23⟩, h24⟩, g4⟩, g5⟩, h25⟩, h26⟩, h27⟩, h28⟩, h29⟩, h30⟩
end Go.Proofs.YtlodhleihnlchaaGreatDoor.Facts
namespace Go.Proofs.YtlodhleihnlchaaGreatDoor
open Go.ChangeShapes Go.WideShapes Go.ChangeAt Go.RowKit

theorem own : ownKnob Tryz.prog.godebug = none := by kernel_rfl
theorem laidOut : laidOutB Tryz.prog = true := by kernel_rfl

def varsOk (P : Program) (names : List String) : Bool :=
  names.all fun n => match P.globalNamed n with
    | some g => match (P.globals[g]?).map (·.type) with
      | some t => P.readableRec t && decide (t < P.types.size)
      | Option.none => false
    | Option.none => false
theorem vars_keep {H : Type} {enc : TypeId × Value → H} {P : Program} (hl : laidOutB P = true) {W W' : World} (bel : Below W.heap.size W W') : ∀ (names : List String) (gs : List (DataW H)) (q : List MemPlace),
    varsOk P names = true → DataW.TrodVars enc P W (fun _ => true) names gs q → (∀ x ∈ q, x.block < W.heap.size) → DataW.TrodVars enc P W' (fun b => decide (b < W.heap.size)) names gs q
  | [], gs, q, _, h, _ => by
    obtain ⟨rfl, rfl⟩ := trodVars_none h
    exact rfl
  | n :: r, [], q, _, h, _ => by simp [DataW.TrodVars] at h
  | n :: r, d :: ds, q, hok, h, hlt => by
    obtain ⟨g, t, cs, fuel, p, q2, h1, h2, h3, h4, h5, rfl⟩ := h
    simp only [varsOk, List.all_cons, Bool.and_eq_true] at hok
    obtain ⟨ho, hor⟩ := hok
    simp only [h1, h2, Bool.and_eq_true, decide_eq_true_eq] at ho
    have hg : g < W.heap.size := by
      rcases Nat.lt_or_ge g W.heap.size with hlt | hge
      · exact hlt
      · simp [World.var?, h1, Array.getElem?_eq_none hge] at h3
    have hT : DataW.Trod enc P W 0 (fun _ => true) true t (.agg cs) d p := ⟨fuel, h4⟩
    obtain ⟨fuel', h4'⟩ := Below.trod hl ho.1 ho.2 hT bel (fun x hx => hlt x (by simp [hx]))
    exact ⟨g, t, cs, fuel', p, q2, h1, h2, var?_below bel h1 hg h3, h4', vars_keep hl bel r ds q2 hor h5 (fun x hx => hlt x (by simp [hx])), rfl⟩

theorem cells_of_words {H : Type} {enc : TypeId × Value → H} {P : Program} {w : World} {base : Nat} {sp : Nat → Bool} {held : Bool} {fuel : Nat} {t e : TypeId} {n : Nat} {cs : List Value} {ss : List (List UInt8)} {p : List MemPlace}
    (ht : P.underlying t = some (.array n e)) (he : P.underlying e = some .string) (hce : P.cellsOf e = 1) (hct : P.cellsOf t = n)
    (h : DataW.trod enc P w base sp held fuel t cs = some (.agg (ss.map fun s => .lit (.string s)), p)) : cs = ss.map fun s => Value.string ⟨s.toArray⟩ := by
  cases fuel with
  | zero => simp [DataW.trod] at h
  | succ fuel =>
    simp only [DataW.trod, ht, hce, hct, Nat.mul_one] at h
    split at h
    · rename_i hl
      obtain ⟨xs, hm, hx⟩ := Option.map_eq_some_iff.1 h
      have hxs : xs.map (·.1) = ss.map fun s => (DataW.lit (.string s) : DataW H) := by
        have := congrArg Prod.fst hx
        simpa using this
      have hxl : xs.length = n := by simpa using Lib.mapM_length hm
      have hzl : ss.length = n := by
        have := congrArg List.length hxs
        simp at this
        omega
      apply List.ext_getElem?
      intro i
      by_cases hi : i < n
      · obtain ⟨b, hb, hf⟩ := Lib.mapM_at hm i i (by simp [hi])
        obtain ⟨s, hc, rfl, _⟩ := DataW.trod_string he hf
        have h1 : cs[i]? = some (.string s) := by
          have := congrArg (·[0]?) hc
          simpa [List.getElem?_take, List.getElem?_drop] using this
        have h2 : (xs.map (·.1))[i]? = some (DataW.lit (.string s.data.toList) : DataW H) := by simp [hb]
        rw [hxs] at h2
        simp only [List.getElem?_map, Option.map_eq_some_iff, DataW.lit.injEq, Lit.string.injEq] at h2
        obtain ⟨z', hz', e'⟩ := h2
        rw [h1]
        simp [hz', e']
      · rw [List.getElem?_eq_none (by omega), List.getElem?_eq_none (by simp; omega)]
    · cases h

theorem gLabels : Tryz.prog.globalNamed "loop.example/g00618/impl.labels" = some 1 := by kernel_rfl
theorem gLabelsType : (Tryz.prog.globals[1]?).map (·.type) = some 178 := by kernel_rfl
theorem cLabels : Tryz.prog.cellsOf 178 = 13 := by kernel_rfl
theorem cWord : Tryz.prog.cellsOf 9 = 1 := by kernel_rfl
theorem gErrT : Tryz.prog.globalNamed "errors.errorType" = some 3 := by kernel_rfl
theorem rtErrT : (Tryz.prog.cutTypes.find? (·.1 == "internal/reflectlite.rtype")).map (·.2) = some 384 := by kernel_rfl
theorem rowErrT : ((List.range 466).filter fun t => Tryz.prog.rowNamed t [101, 114, 114, 111, 114]) = [160] := by kernel_rfl
theorem sizeErrT : Tryz.prog.types.size = 466 := by kernel_rfl
theorem ErrT_of {W : World} (h : handlesMet Tryz.prog [("errors.errorType", Rows.laid_errors_errorType)] W) : ErrT W := by
  obtain ⟨name, u, ty, e1, e2, e3, e4, e5⟩ := h _ (List.mem_singleton.2 rfl)
  have en : name = [101, 114, 114, 111, 114] := (Option.some.inj e1).symm
  subst en
  obtain rfl := Option.some.inj (rtErrT.symm.trans e2)
  have hm : ty ∈ (List.range 466).filter fun t => Tryz.prog.rowNamed t [101, 114, 114, 111, 114] := List.mem_filter.2 ⟨List.mem_range.2 (by rw [← sizeErrT]; exact e3), e4⟩
  rw [rowErrT] at hm
  obtain rfl := List.mem_singleton.1 hm
  have hh : typeHandle Tryz.prog 160 = .pointer (some ⟨8, 160, none⟩) := by kernel_rfl
  rw [hh] at e5
  exact ⟨by simpa using World.var?_cell gErrT e5 0⟩
noncomputable def laidWorld (os : Os) : World :=
  { World.holding Tryz.prog os ⟨#[], #[], []⟩ with heap := ((World.holding Tryz.prog os ⟨#[], #[], []⟩).heap
       |>.modify 1 (fun | .cells _ t frozen => .cells #[.string M.streamS, .string M.heardS, .string M.nonceS, .string M.signS, .string M.macS, .string M.sealS, .string M.spkiS, .string M.rollS, .string M.masterS, .string M.verifyS, .string M.finishS, .string M.upS, .string M.downS] t frozen | o => o)
       |>.modify 3 (fun | .cells _ t frozen => .cells #[.iface 384 (.agg #[.pointer (some ⟨8, 160, none⟩)])] t frozen | o => o)
    ) }
end Go.Proofs.YtlodhleihnlchaaGreatDoor
namespace Go.Proofs.YtlodhleihnlchaaGreatDoor
open Go.ChangeShapes Go.WideShapes Go.ChangeAt Go.RowKit

def listL : List (String × DataW Unit) := [("unicode/utf8.acceptRanges", Rows.laid_unicode_utf8_acceptRanges), ("loop.example/g00618/impl.labels", Rows.laid_loop_example_g00618_impl_labels), ("unicode.CaseRanges", Rows.laid_unicode_CaseRanges), ("unicode/utf8.first", Rows.laid_unicode_utf8_first)]
def listN : List (String × DataW Unit) := [("unicode/utf8.acceptRanges", Rows.laid_unicode_utf8_acceptRanges), ("unicode.CaseRanges", Rows.laid_unicode_CaseRanges), ("unicode/utf8.first", Rows.laid_unicode_utf8_first)]

theorem laid_mem {P : Program} {w : World} : ∀ (l : List (String × DataW Unit)) (ps : List MemPlace), DataW.LaidVars P w l ps → ∀ n d, (n, d) ∈ l →
    ∃ g t cs fuel p, P.globalNamed n = some g ∧ (P.globals[g]?).map (·.type) = some t ∧ w.var? P n = some cs ∧ DataW.trod (fun _ => ()) P w 0 (fun _ => true) false fuel t cs.toList = some (d, p)
  | [], _, _, n, d, h => by cases h
  | (n', d') :: r, ps, ⟨g, t, cs, fuel, p, q, h1, h2, h3, h4, h5, _⟩, n, d, h => by
    rcases List.mem_cons.1 h with e | h
    · injection e with e1 e2
      subst e1
      subst e2
      exact ⟨g, t, cs, fuel, p, h1, h2, h3, h4⟩
    · exact laid_mem r q h5 n d h
theorem witness_tabs {H : Type} {enc : TypeId × Value → H} {C : Checked} {os : Os} {f : FuncId} {fn : Func} {s : OpenSpec} {conds : List PathCond} {apart : Bool} {laid : List (String × DataW Unit)} (modest : Bool) (w0 : World) (args : Array Value) (hos : w0.os = os)
    (hsh : (w0.forCall (fun _ _ => 0) ⟨#[], args, []⟩).Shaped C.prog)
    (hok : Input.okWideB C.prog (w0.forCall (fun _ _ => 0) ⟨#[], args, []⟩) f ⟨#[], args, []⟩ = true)
    (hrow : s.preRow enc C.prog fn conds apart laid (w0.forCall (fun _ _ => 0) ⟨#[], args, []⟩).memory args) :
    ∃ (w : World) (tape : Tape) (i : Input), w.os = os ∧ (w.forCall tape i).Shaped C.prog ∧ i.vars = [] ∧ Input.okWide C.prog (w.forCall tape i) .any w.heap.size f i ∧
      s.preRow enc C.prog fn conds apart laid (w.forCall tape i).memory i.args ∧ ({ modest := modest } : Assume).holds C.prog (lone (Frame.enter C.prog f i.args .normal) [] (w.forCall tape i)) :=
  ⟨w0, fun _ _ => 0, ⟨#[], args, []⟩, hos, hsh, (Input.okWide_of_okWideB (base := 0) hok).1, (Input.okWide_of_okWideB hok).2, hrow, by
    simp only [Assume.holds]
    exact ⟨by simp, by simp, fun _ => Modest.zero, by simp, by simp⟩⟩

end Go.Proofs.YtlodhleihnlchaaGreatDoor
namespace Go.Proofs.YtlodhleihnlchaaGreatDoor
open Go.ChangeShapes Go.WideShapes Go.ChangeAt Go.RowKit

def listP : List (String × DataW Unit) := [("unicode/utf8.acceptRanges", Rows.laid_unicode_utf8_acceptRanges), ("errors.errorType", Rows.laid_errors_errorType), ("loop.example/g00618/impl.labels", Rows.laid_loop_example_g00618_impl_labels), ("unicode.CaseRanges", Rows.laid_unicode_CaseRanges), ("unicode/utf8.first", Rows.laid_unicode_utf8_first)]
noncomputable def heldW (os : Os) : World :=
  { World.holding Tryz.prog os ⟨#[], #[], []⟩ with heap := (World.holding Tryz.prog os ⟨#[], #[], []⟩).heap.modify 3 (fun | .cells _ t frozen => .cells #[.iface 384 (.agg #[.pointer (some ⟨8, 160, none⟩)])] t frozen | o => o) }
theorem laidMet_on {P : Program} {w0 : World} {laid : List (String × DataW Unit)} (args : Array Value) (hf : w0.layFits P laid [] = true) (hi : w0.layIfaces P laid (w0.layVars P laid) = true) :
    laidMet P laid ((w0.layVars P laid).forCall (fun _ _ => 0) ⟨#[], args, []⟩).memory := by
  have e1 : (laid.filter fun x => (laid.map (·.1)).contains x.1) = laid := List.filter_eq_self.2 fun x hx => List.contains_iff_mem.2 (List.mem_map.2 ⟨x, hx, rfl⟩)
  have e2 : (laid.filter fun x => !(laid.map (·.1)).contains x.1) = [] := List.filter_eq_nil_iff.2 fun x hx => by rw [List.contains_iff_mem.2 (List.mem_map.2 ⟨x, hx, rfl⟩)]; simp
  have h : laidMet P laid (w0.layVars P laid) := laidMet_layVars (w0 := w0) (laid.map (·.1)) [] (by rw [e1]) (by rw [e1]; exact hf) (by rw [e1]; exact hi) (by rw [e2]; exact LaidIn.none)
  exact h.of_heap (by simp [World.memory, World.forCall, Input.heap])
theorem listP_handle : (listP.filter fun x => x.2.handleName?.isSome) = [("errors.errorType", Rows.laid_errors_errorType)] := by kernel_rfl
theorem listP_plain : (listP.filter fun x => x.2.handleName?.isNone) = listL := by kernel_rfl
theorem all_P {W : World} (h : laidMetH Tryz.prog listP W) : laidMet Tryz.prog listL W ∧ handlesMet Tryz.prog [("errors.errorType", Rows.laid_errors_errorType)] W := by
  unfold laidMetH at h
  rw [listP_handle, listP_plain] at h
  exact h
theorem ErrT_P {W : World} (h : laidMetH Tryz.prog listP W) : ErrT W := ErrT_of (all_P h).2
noncomputable def laidP (os : Os) : World := (heldW os).layVars Tryz.prog listL
theorem laidP_os (os : Os) : (laidP os).os = os := World.layVars_os _ _ _
theorem shapedP (os : Os) (args : Array Value) : ((laidP os).forCall (fun _ _ => 0) ⟨#[], args, []⟩).Shaped Tryz.prog := World.shaped_of_ZipB (by kernel_rfl) (by kernel_rfl)
theorem metP (os : Os) (args : Array Value) : laidMetH Tryz.prog listP ((laidP os).forCall (fun _ _ => 0) ⟨#[], args, []⟩).memory :=
  laidMetH_of_parts (by rw [listP_plain]; exact laidMet_on args (by kernel_rfl) (by kernel_rfl)) (by rw [listP_handle]; kernel_rfl)

noncomputable def laidE (os : Os) : World := (heldW os).layVars Tryz.prog listN
theorem Labels_P {W : World} (h : laidMetH Tryz.prog listP W) : Labels W := by
  obtain ⟨ps, hv, _⟩ := (all_P h).1
  obtain ⟨g, t, cs, fuel, p, hg, ht, hvar, hd⟩ := laid_mem _ _ hv "loop.example/g00618/impl.labels" Rows.laid_loop_example_g00618_impl_labels (List.mem_cons_of_mem _ (List.mem_cons_self ..))
  obtain rfl := Option.some.inj (gLabels.symm.trans hg)
  obtain rfl := Option.some.inj (gLabelsType.symm.trans ht)
  have e := cells_of_words (ss := [[115, 116, 114, 101, 97, 109], [104, 101, 97, 114, 100], [110, 111, 110, 99, 101], [115, 105, 103, 110], [109, 97, 99], [115, 101, 97, 108], [115, 112, 107, 105], [114, 111, 108, 108], [109, 97, 115, 116, 101, 114], [118, 101, 114, 105, 102, 121], [102, 105, 110, 105, 115, 104], [117, 112], [100, 111, 119, 110]]) Tryz.underlying178 Tryz.underlying9 cWord cLabels hd
  have c := fun i => World.var?_cell hg hvar i
  have a0 : cs[0]? = some (.string M.streamS) := by rw [← Array.getElem?_toList, e]; rfl
  have a1 : cs[1]? = some (.string M.heardS) := by rw [← Array.getElem?_toList, e]; rfl
  have a2 : cs[2]? = some (.string M.nonceS) := by rw [← Array.getElem?_toList, e]; rfl
  have a3 : cs[3]? = some (.string M.signS) := by rw [← Array.getElem?_toList, e]; rfl
  have a4 : cs[4]? = some (.string M.macS) := by rw [← Array.getElem?_toList, e]; rfl
  have a5 : cs[5]? = some (.string M.sealS) := by rw [← Array.getElem?_toList, e]; rfl
  have a6 : cs[6]? = some (.string M.spkiS) := by rw [← Array.getElem?_toList, e]; rfl
  have a7 : cs[7]? = some (.string M.rollS) := by rw [← Array.getElem?_toList, e]; rfl
  have a8 : cs[8]? = some (.string M.masterS) := by rw [← Array.getElem?_toList, e]; rfl
  have a9 : cs[9]? = some (.string M.verifyS) := by rw [← Array.getElem?_toList, e]; rfl
  have a10 : cs[10]? = some (.string M.finishS) := by rw [← Array.getElem?_toList, e]; rfl
  have a11 : cs[11]? = some (.string M.upS) := by rw [← Array.getElem?_toList, e]; rfl
  have a12 : cs[12]? = some (.string M.downS) := by rw [← Array.getElem?_toList, e]; rfl
  exact ⟨(c 0).trans a0, (c 1).trans a1, (c 2).trans a2, (c 3).trans a3, (c 4).trans a4, (c 5).trans a5, (c 6).trans a6, (c 7).trans a7, (c 8).trans a8, (c 9).trans a9, (c 10).trans a10, (c 11).trans a11, (c 12).trans a12⟩
end Go.Proofs.YtlodhleihnlchaaGreatDoor
