/- Two answers of supplied keys, and an argument, side by side. No condition beside what each theorem states. -/
import Derived.Test.YtcolecidbalmhaaDoorL10b
namespace Go.Proofs.YtcolecidbalmhaaDoor
open Go.RowKit
set_option maxRecDepth 100000
set_option linter.unusedVariables false

/-- Two answers of supplied keys, and the argument, lie in memory: the model's at block p1, below b; the argument's slice, and the program's, from b on, its answer at block p2; the argument's keys are xs by now, the program's ms. -/
structure TwoT (w : World) (c : Int) (ps : List TlsaD) (p1 b p2 : Nat) (a1 a2 a3 : Option Addr) (n c1 c2 m c3 : Nat) (xs ms : List TlsaD) (cur : World) : Prop where
  bel : Below w.heap.size w cur
  x0 : cur.cell? ⟨p1, 0, none⟩ = some (.int .i64 c)
  x1 : cur.cell? ⟨p1, 1, none⟩ = some (.slice a1 n c1)
  row : TRow cur b a1 n c1 ps
  y0 : cur.cell? ⟨p2, 0, none⟩ = some (.int .i64 c)
  y1 : cur.cell? ⟨p2, 1, none⟩ = some (.slice a2 n c2)
  own : OwnT cur b (.slice a2 n c2) ms
  arg : OwnT cur b (.slice a3 m c3) xs
  old : w.heap.size ≤ b
  hi : p1 < b
  sep : ∀ k, Value.ownBlock (.slice a2 n c2) = some k → k < p2
  sepA : ∀ k, Value.ownBlock (.slice a3 m c3) = some k → k < p2
  apart : ∀ k, Value.ownBlock (.slice a2 n c2) = some k → Value.ownBlock (.slice a3 m c3) ≠ some k
  ahead : b ≤ p2
section
variable {w : World} {c : Int} {ps : List TlsaD} {p1 b p2 : Nat} {a1 a2 a3 : Option Addr} {n c1 c2 m c3 : Nat} {xs ms : List TlsaD} {cur cur' : World}
theorem TwoT.lt1 (h : TwoT w c ps p1 b p2 a1 a2 a3 n c1 c2 m c3 xs ms cur) : b ≤ cur.heap.size := by
  have := cell_lt h.y0
  have := h.ahead
  simp at *
  omega
theorem TwoT.on (h : TwoT w c ps p1 b p2 a1 a2 a3 n c1 c2 m c3 xs ms cur) (hb : Below cur.heap.size cur cur') : TwoT w c ps p1 b p2 a1 a2 a3 n c1 c2 m c3 xs ms cur' :=
  ⟨btr h.bel hb, cell_keep hb h.x0, cell_keep hb h.x1, h.row.below (hb.mono h.lt1), cell_keep hb h.y0, cell_keep hb h.y1, h.own.below hb, h.arg.below hb, h.old, h.hi, h.sep, h.sepA, h.apart, h.ahead⟩
theorem TwoT.grew (h : TwoT w c ps p1 b p2 a1 a2 a3 n c1 c2 m c3 xs ms cur) {ms' : List TlsaD} (ho : OwnT cur' b (.slice a2 n c2) ms') (hg : cur.grownBy cur' (Value.ownBlock (.slice a2 n c2))) : TwoT w c ps p1 b p2 a1 a2 a3 n c1 c2 m c3 xs ms' cur' := by
  have hlo := fun k hk => (h.own.lt k hk).1
  have hhi := h.hi
  have hp1 : some p1 ≠ Value.ownBlock (.slice a2 n c2) := fun e => by have := hlo p1 e.symm; omega
  have hp2 : some p2 ≠ Value.ownBlock (.slice a2 n c2) := fun e => by have := h.sep p2 e.symm; omega
  have l1 := h.lt1
  have hold := h.old
  exact ⟨h.bel.grown hg h.bel.size (fun k hk => by have := hlo k hk; omega), hg.cell h.x0 hp1, hg.cell h.x1 hp1, h.row.keep (fun i hi => hg.block i (by omega) (fun e => by have := hlo i e.symm; omega)), hg.cell h.y0 hp2, hg.cell h.y1 hp2, ho, h.arg.grown hg (fun k hk e => h.apart k e.symm hk), h.old, h.hi, h.sep, h.sepA, h.apart, h.ahead⟩
theorem TwoT.grewA (h : TwoT w c ps p1 b p2 a1 a2 a3 n c1 c2 m c3 xs ms cur) {xs' : List TlsaD} (ho : OwnT cur' b (.slice a3 m c3) xs') (hg : cur.grownBy cur' (Value.ownBlock (.slice a3 m c3))) : TwoT w c ps p1 b p2 a1 a2 a3 n c1 c2 m c3 xs' ms cur' := by
  have hlo := fun k hk => (h.arg.lt k hk).1
  have hhi := h.hi
  have hp1 : some p1 ≠ Value.ownBlock (.slice a3 m c3) := fun e => by have := hlo p1 e.symm; omega
  have hp2 : some p2 ≠ Value.ownBlock (.slice a3 m c3) := fun e => by have := h.sepA p2 e.symm; omega
  have l1 := h.lt1
  have hold := h.old
  exact ⟨h.bel.grown hg h.bel.size (fun k hk => by have := hlo k hk; omega), hg.cell h.x0 hp1, hg.cell h.x1 hp1, h.row.keep (fun i hi => hg.block i (by omega) (fun e => by have := hlo i e.symm; omega)), hg.cell h.y0 hp2, hg.cell h.y1 hp2, h.own.grown hg (fun k hk e => h.apart k hk e.symm), ho, h.old, h.hi, h.sep, h.sepA, h.apart, h.ahead⟩
/-- The model's answer lies there; the argument, and then the program's answer are stored. -/
theorem TwoT.new {v1 u2 u3 : World} {t : TypeId} (b1 : Below w.heap.size w v1) (hX : At p1 [.int .i64 c, .slice a1 n c1] v1) (R1 : TRow v1 v1.heap.size a1 n c1 ps)
    (b2 : Below v1.heap.size v1 u2) (O2 : OwnT u2 v1.heap.size (.slice a3 m c3) xs) (b3 : Below u2.heap.size u2 u3) (O3 : OwnT u3 u2.heap.size (.slice a2 n c2) ps) :
    TwoT w c ps p1 v1.heap.size u3.heap.size a1 a2 a3 n c1 c2 m c3 xs ps (u3.alloc (.cells #[.int .i64 c, .slice a2 n c2] t)) := by
  have hs := b2.size
  have hs3 := b3.size
  have hlt : p1 < v1.heap.size := hX.lt (by simp)
  have b4 := btr b2 (bal b3 (.cells #[.int .i64 c, .slice a2 n c2] t))
  have X4 := hX.on b4
  have O4 := (O2.below b3).alloc (.cells #[.int .i64 c, .slice a2 n c2] t)
  have x0 := X4.cell 0 _ rfl
  have x1 := X4.cell 1 _ rfl
  exact ⟨btr b1 b4, x0, x1, R1.below b4, by simp, by simp, (O3.alloc _).less (by omega), O4, b1.size, hlt, fun k hk => (O3.lt k hk).2, fun k hk => Nat.lt_of_lt_of_le (O2.lt k hk).2 hs3, fun k hk e => by have := (O3.lt k hk).1; have := (O2.lt k e).2; omega, by omega⟩
end
theorem usableR_names {ts : List TlsaD} {l : List UInt8} (h : ∀ q ∈ ts, q.n.size ≤ maxLen) : ∀ q ∈ usableR ts l, q.n.size ≤ maxLen := fun q hq => h q (usableR_mem hq)
end Go.Proofs.YtcolecidbalmhaaDoor
