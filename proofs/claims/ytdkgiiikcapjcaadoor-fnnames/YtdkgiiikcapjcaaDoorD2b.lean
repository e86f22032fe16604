/- Contracts of the draws of lists of numbers and of lists of pieces, and of the comparison of bytes as texts. Conditions: as each theorem states. -/
import Derived.Test.YtdkgiiikcapjcaaDoorD2
import Derived.Test.YtdkgiiikcapjcaaDoorG2
namespace Go.Proofs.YtdkgiiikcapjcaaDoor
open Go.RowKit
set_option maxRecDepth 100000

/-- A list of numbers that was drawn so far. -/
structure LRel (w0 : World) (a : Option Addr) (len cap : Nat) (zs : List Int) (p b : Nat) (v : Value) (wr : World) : Prop where
  own : ∃ zs', zs'.length ≤ b ∧ OwnK .i64 wr (w0.heap.size + 1) v zs' ∧ ∀ z ∈ zs', (Lit.int .i64 z).wf = true
  draw : Draw w0 a len cap zs p wr
section
variable {w0 : World} {a : Option Addr} {len cap : Nat} {zs : List Int} {p p' b : Nat} {v : Value} {w w' : World}
theorem LRel.only (h : LRel w0 a len cap zs p b v w) (hO : Only w0.heap.size w w') (D : Draw w0 a len cap zs p' w') : LRel w0 a len cap zs p' b v w' := by
  obtain ⟨zs', h1, h2, h3⟩ := h.own
  exact ⟨⟨zs', h1, h2.only hO (by omega), h3⟩, D⟩
theorem LRel.alloc (h : LRel w0 a len cap zs p b v w) (o : Obj) : LRel w0 a len cap zs p b v (w.alloc o) := by
  obtain ⟨zs', h1, h2, h3⟩ := h.own
  exact ⟨⟨zs', h1, h2.alloc o, h3⟩, h.draw.alloc o⟩
theorem LRel.kept (h : LRel w0 a len cap zs p b v w) (hg : w.grownBy w' (some w0.heap.size)) (D : Draw w0 a len cap zs p' w') : LRel w0 a len cap zs p' b v w' := by
  obtain ⟨zs', h1, h2, h3⟩ := h.own
  exact ⟨⟨zs', h1, h2.kept hg (.inr (fun e => by have := (h2.lt _ e).1; omega)), h3⟩, D⟩
end
theorem i64_wf {x : Int} (h0 : -9223372036854775808 ≤ x) (h1 : x ≤ 9223372036854775807) : (Lit.int .i64 x).wf = true := by
  simp [Lit.wf, IntKind.min, IntKind.max, IntKind.signed, IntKind.bits]; omega

theorem rows_info2 : (Tryd.prog.info? 22).map (fun i => (i.zero, i.size, i.bytes)) = some (some (.slice none 0 0), 1, 24) := by kernel_rfl
/-- A list of pieces that was drawn so far. -/
structure GRel (w0 : World) (a : Option Addr) (len cap : Nat) (zs : List Int) (p b : Nat) (v : Value) (wr : World) : Prop where
  own : ∃ rows, rows.length ≤ b ∧ Own2 wr (w0.heap.size + 1) v rows
  draw : Draw w0 a len cap zs p wr
section
variable {w0 : World} {a : Option Addr} {len cap : Nat} {zs : List Int} {p p' b : Nat} {v : Value} {w w' : World}
theorem GRel.only (h : GRel w0 a len cap zs p b v w) (hO : Only w0.heap.size w w') (D : Draw w0 a len cap zs p' w') : GRel w0 a len cap zs p' b v w' := by
  obtain ⟨rows, h1, h2⟩ := h.own
  exact ⟨⟨rows, h1, h2.only hO (by omega)⟩, D⟩
theorem GRel.alloc (h : GRel w0 a len cap zs p b v w) (o : Obj) : GRel w0 a len cap zs p b v (w.alloc o) := by
  obtain ⟨rows, h1, h2⟩ := h.own
  exact ⟨⟨rows, h1, h2.alloc o⟩, h.draw.alloc o⟩
theorem GRel.kept (h : GRel w0 a len cap zs p b v w) (hg : w.grownBy w' (some w0.heap.size)) (D : Draw w0 a len cap zs p' w') : GRel w0 a len cap zs p' b v w' := by
  obtain ⟨rows, h1, h2⟩ := h.own
  exact ⟨⟨rows, h1, h2.kept hg (by omega)⟩, D⟩
end
theorem slice_oneCell (a : Option Addr) (n c : Nat) : ∀ u ∈ [Value.slice a n c], u.oneCell' = true := by
  intro u hu
  simp at hu
  subst hu
  rfl
theorem step_row {w0 w1 w2 wb : World} {a : Option Addr} {len cap : Nat} {zs : List Int} {p b : Nat} {v v' : Value} {rows : List (Value × List Int)} {a' : Option Addr} {n' c' : Nat} {zs' : List Int}
    (h : Own2 w1 (w0.heap.size + 1) v rows) (hb : rows.length ≤ b) (hlt : ∀ k, v.ownBlock = some k → k < wb.heap.size) (hB : w0.heap.size < wb.heap.size) (ho : OwnK .u8 w1 wb.heap.size (.slice a' n' c') zs') (hz : ∀ z ∈ zs', (Lit.int .u8 z).wf = true)
    (hn : Own w2 (w0.heap.size + 1) 1 v' (rows.length + 1) (rows.map (·.1) ++ [.slice a' n' c'])) (hg : w1.grownBy w2 v.ownBlock) (hat : v'.ownBlock = v.ownBlock ∨ v'.ownBlock = some w1.heap.size) (D : Draw w0 a len cap zs p w1) :
    GRel w0 a len cap zs p (b + 1) v' w2 := by
  refine ⟨⟨rows ++ [(.slice a' n' c', zs')], by simp; omega, h.more (ho.less (by omega)) hz (fun k hk e => ?_) hn hg hat⟩, D.grown hg (fun k hk => by have := (h.own.lt k hk).1; omega)⟩
  have h1 := (ho.lt k hk).1
  have h2 := hlt k e
  omega

/-- Two slices of bytes that read alike. -/
theorem lwBytes_any {B : Nat} {a b : Option Addr} {n1 n2 c1 c2 : Nat} {zs : List Int} {w : World} (hR : Row .u8 w B a n1 c1 zs) (hQ : Row .u8 w B b n2 c2 zs) :
    Calls Tryd.prog 22 #[.slice a n1 c1, .slice b n2 c2] w fun r w' => r = .returned (.bool true) ∧ w = w' := by
  have k1 := conv_row hR
  have k2 := conv_row hQ
  clear hR hQ
  generalize strOf zs = S at k1 k2
  go_enter Tryd.func22, Tryd.ntmps22
  go_wp2_with fail
  go_ret
  simp

end Go.Proofs.YtdkgiiikcapjcaaDoor
