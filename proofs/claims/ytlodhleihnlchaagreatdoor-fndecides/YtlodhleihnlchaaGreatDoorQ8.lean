/- Texts of this seat that several laws rest on, laid into one. Conditions: as each theorem states. -/
import Derived.Test.YtlodhleihnlchaaGreatDoorQ0
import Derived.Test.YtlodhleihnlchaaGreatDoorQ4
import Derived.Test.YtlodhleihnlchaaGreatDoorQ5
import Derived.Test.YtlodhleihnlchaaGreatDoorQ7
import Derived.Lib.SmallJoins
import Derived.OpenShut
import Derived.Deep.Slices
namespace Go.Proofs.YtlodhleihnlchaaGreatDoor
open Go.Joins Go.ChangeShapes Go.WideShapes Go.RowKit Go.Deep

end Go.Proofs.YtlodhleihnlchaaGreatDoor
namespace Go.Proofs.YtlodhleihnlchaaGreatDoor
open Go.Joins Go.ChangeShapes Go.WideShapes Go.RowKit Go.Deep

end Go.Proofs.YtlodhleihnlchaaGreatDoor
namespace Go.Proofs.YtlodhleihnlchaaGreatDoor
open Go.Joins Go.ChangeShapes Go.WideShapes Go.RowKit Go.Deep
set_option maxRecDepth 100000

structure ARow (w : World) (B : Nat) (a1 : Option Addr) (n1 c1 : Nat) (a2 : Option Addr) (n2 c2 : Nat) (q : AskD) : Prop where
  ps : PRow w B a1 n1 c1 q.ps
  ts : TRow w B a2 n2 c2 q.ts
  nm : q.n.size ≤ maxLen
section
variable {w w' : World} {B B' : Nat} {a1 a2 : Option Addr} {n1 c1 n2 c2 : Nat} {q : AskD}
theorem ARow.below (h : ARow w B a1 n1 c1 a2 n2 c2 q) (hb : Below B w w') : ARow w' B a1 n1 c1 a2 n2 c2 q := ⟨h.ps.below hb, h.ts.below hb, h.nm⟩
theorem ARow.more (h : ARow w B a1 n1 c1 a2 n2 c2 q) (hB : B ≤ B') : ARow w B' a1 n1 c1 a2 n2 c2 q := ⟨h.ps.more hB, h.ts.more hB, h.nm⟩
theorem ARow.on (h : ARow w w.heap.size a1 n1 c1 a2 n2 c2 q) (hb : Below w.heap.size w w') : ARow w' w'.heap.size a1 n1 c1 a2 n2 c2 q := (h.below hb).more hb.size
end
abbrev A6 (a1 : Option Addr) (n1 c1 : Nat) (a2 : Option Addr) (n2 c2 : Nat) (q : AskD) : Value := .agg #[.bool q.first, .slice a1 n1 c1, .slice a2 n2 c2, .string q.n, .int .i64 q.p, .int .i64 q.t]
def A6L (a1 : Option Addr) (n1 c1 : Nat) (a2 : Option Addr) (n2 c2 : Nat) (q : AskD) : List Value := [.bool q.first, .slice a1 n1 c1, .slice a2 n2 c2, .string q.n, .int .i64 q.p, .int .i64 q.t]
end Go.Proofs.YtlodhleihnlchaaGreatDoor
namespace Go.Proofs.YtlodhleihnlchaaGreatDoor
open Go.RowKit
set_option maxRecDepth 100000
set_option linter.unusedVariables false

theorem m21 {ps : List PinD} (h : ∀ p ∈ ps, p.n.size ≤ 21) : ∀ p ∈ ps, p.n.size ≤ maxLen := fun p hp => by have := h p hp; simp only [maxLen]; omega

end Go.Proofs.YtlodhleihnlchaaGreatDoor
namespace Go.Proofs.YtlodhleihnlchaaGreatDoor
open Go.RowKit
set_option maxRecDepth 100000
set_option linter.unusedVariables false

abbrev AZ : List Value := [.bool false, .slice none 0 0, .slice none 0 0, .string { data := #[] }, .int .i64 0, .int .i64 0]
structure PX (w0 : World) (a : Option Addr) (len cap : Nat) (zs : List Int) (p : Nat) (w : World) (vp : Value) (ps : List PinD) (vt : Value) (ts : List TlsaD) (cur : World) : Prop where
  draw : Draw w0 a len cap zs p cur
  grew : w.grownBy cur (some w0.heap.size)
  res : At w.heap.size AZ cur
  pins : OwnP cur (w.heap.size + 1) vp ps
  tls : OwnT cur (w.heap.size + 1) vt ts
  lt : w0.heap.size < w.heap.size
structure AskX (w0 : World) (a : Option Addr) (len cap : Nat) (zs : List Int) (p : Nat) (w : World) (tb : Nat) (cs : List Value) (vp : Value) (ps : List PinD) (vt : Value) (ts : List TlsaD) (cur : World) : Prop where
  px : PX w0 a len cap zs p w vp ps vt ts cur
  one : At tb cs cur
  pn : ∀ k, vp.ownBlock = some k → k ≠ tb
  tn : ∀ k, vt.ownBlock = some k → k ≠ tb
  lb : w.heap.size < tb
section
variable {w0 : World} {a : Option Addr} {len cap : Nat} {zs : List Int} {p p' : Nat} {w : World} {tb : Nat} {cs : List Value} {vp vp' : Value} {ps ps' : List PinD} {vt : Value} {ts : List TlsaD} {cur cur' : World}
theorem PX.kept (h : PX w0 a len cap zs p w vp ps vt ts cur) (g : cur.grownBy cur' (some w0.heap.size)) (D : Draw w0 a len cap zs p' cur') : PX w0 a len cap zs p' w vp ps vt ts cur' :=
  ⟨D, gtr h.grew g, h.res.kept g (fun e => by injection e with e; have := h.lt; omega),
   Own.keep h.pins g.size fun k hk => g.block k (Own.lt h.pins k hk).2 (fun e => by injection e with e; have := (Own.lt h.pins k hk).1; have := h.lt; omega),
   Own.keep h.tls g.size fun k hk => g.block k (Own.lt h.tls k hk).2 (fun e => by injection e with e; have := (Own.lt h.tls k hk).1; have := h.lt; omega), h.lt⟩
theorem PX.alloc (h : PX w0 a len cap zs p w vp ps vt ts cur) (o : Obj) : PX w0 a len cap zs p w vp ps vt ts (cur.alloc o) := h.kept (gal (World.grownBy.refl cur _) o) (h.draw.alloc o)
theorem PX.put (h : PX w0 a len cap zs p w vp ps vt ts cur) (hp : ∀ k, vp.ownBlock = some k → k ≠ tb) (ht : ∀ k, vt.ownBlock = some k → k ≠ tb) (hb : w.heap.size < tb) (i : Nat) (x : Value) : PX w0 a len cap zs p w vp ps vt ts (cur.setCell ⟨tb, i, none⟩ x) :=
  ⟨h.draw.put (by have := h.lt; dsimp only; omega) x, gset h.grew (by dsimp only; omega) x, h.res.setB (p := ⟨tb, i, none⟩) (by dsimp only; omega) x,
   Own.keep h.pins (by simp [World.setCell]) fun k hk => Below.heap_setCell _ _ _ _ (hp k hk), Own.keep h.tls (by simp [World.setCell]) fun k hk => Below.heap_setCell _ _ _ _ (ht k hk), h.lt⟩
theorem AskX.kept (h : AskX w0 a len cap zs p w tb cs vp ps vt ts cur) (g : cur.grownBy cur' (some w0.heap.size)) (D : Draw w0 a len cap zs p' cur') : AskX w0 a len cap zs p' w tb cs vp ps vt ts cur' :=
  ⟨h.px.kept g D, h.one.kept g (fun e => by injection e with e; have := h.px.lt; have := h.lb; omega), h.pn, h.tn, h.lb⟩
theorem AskX.alloc (h : AskX w0 a len cap zs p w tb cs vp ps vt ts cur) (o : Obj) : AskX w0 a len cap zs p w tb cs vp ps vt ts (cur.alloc o) := h.kept (gal (World.grownBy.refl cur _) o) (h.px.draw.alloc o)
theorem AskX.put (i : Nat) (x : Value) (h : AskX w0 a len cap zs p w tb cs vp ps vt ts cur) : AskX w0 a len cap zs p w tb (cs.set i x) vp ps vt ts (cur.setCell ⟨tb, i, none⟩ x) :=
  ⟨h.px.put h.pn h.tn h.lb i x, h.one.set i x, h.pn, h.tn, h.lb⟩
theorem AskX.swap (h : AskX w0 a len cap zs p w tb cs vp ps vt ts cur) (O : OwnP cur (w.heap.size + 1) vp' ps') (hn : ∀ k, vp'.ownBlock = some k → k ≠ tb) : AskX w0 a len cap zs p w tb cs vp' ps' vt ts cur :=
  ⟨⟨h.px.draw, h.px.grew, h.px.res, O, h.px.tls, h.px.lt⟩, h.one, hn, h.tn, h.lb⟩
end
def DAsk (K : Nat) (w0 : World) (a : Option Addr) (len cap : Nat) (zs : List Int) (w : World) (e : Ending) (w' : World) : Prop :=
  ∃ (a1 : Option Addr) (n1 c1 : Nat) (a2 : Option Addr) (n2 c2 : Nat) (q : AskD) (p : Nat), (q.n.size ≤ 21 ∧ (∀ x ∈ q.ps, x.n.size ≤ 21) ∧ ∀ x ∈ q.ts, x.n.size ≤ 21) ∧ p ≤ K ∧ e = .returned (A6 a1 n1 c1 a2 n2 c2 q) ∧ (OwnP w' (w.heap.size + 1) (.slice a1 n1 c1) q.ps ∧ OwnT w' (w.heap.size + 1) (.slice a2 n2 c2) q.ts) ∧ Draw w0 a len cap zs p w' ∧ w.grownBy w' (some w0.heap.size)
set_option maxHeartbeats 2000000 in
theorem dl10Draw {w0 : World} {a : Option Addr} {len cap : Nat} {zs : List Int} {w : World} (D : Draw w0 a len cap zs 0 w) :
    Calls Tryz.prog 141 #[.pointer (some ⟨w0.heap.size, 0, none⟩)] w (DAsk 200 w0 a len cap zs w) := by
  have hlt := D.lt
  have D0 := D.alloc (.cells #[.bool false, .slice none 0 0, .slice none 0 0, .string { data := #[] }, .int .i64 0, .int .i64 0] 80)
  have A0 := At.new w AZ 80
  have G0 := gal (World.grownBy.refl w (some w0.heap.size)) (.cells #[.bool false, .slice none 0 0, .slice none 0 0, .string { data := #[] }, .int .i64 0, .int .i64 0] 80)
  have Z0 : (w.alloc (.cells #[.bool false, .slice none 0 0, .slice none 0 0, .string { data := #[] }, .int .i64 0, .int .i64 0] 80)).heap.size = w.heap.size + 1 := by simp
  have HZ0 := Lib.hid Z0
  clear D Z0
  go_enter Tryz.func141, Tryz.ntmps141
  go_wp2_with fail
  generalize w.alloc (.cells #[.bool false, .slice none 0 0, .slice none 0 0, .string { data := #[] }, .int .i64 0, .int .i64 0] 80) = W0 at *
  refine (l1Chance_any 2 D0 (by omega)).mono ?_
  rintro e w1 ⟨fb, rfl, D1, O1⟩
  have A1 := A0.only5 O1 (by omega)
  have G1 := gtr G0 O1.grown
  have s1 := O1.size
  clear A0 G0 D0 O1
  go_wp2_with fail
  refine (dl7DrawPins D1 (by omega)).mono ?_
  rintro e w2 ⟨x, n, c, ps, p, ⟨hok, hfew⟩, hp, rfl, O2, D2, g2⟩
  have hps : ∀ q ∈ ps, q.n.size ≤ 21 := fun q hq => by have := pin_size (hok q hq); omega
  have A2 := A1.kept g2 (fun e => by injection e with e; omega)
  have G2 := gtr G1 g2
  have s2 := g2.size
  clear A1 G1 D1 g2 hok hfew
  go_wp2_with fail
  refine (dl10Tlsas D2 (by omega)).mono ?_
  rintro e w3 ⟨y, m, d, ts, p3, hts, hp3, rfl, O3, D3, g3⟩
  have hz0 := HZ0.out
  have X3 : PX w0 a len cap zs p3 w (.slice x n c) ps (.slice y m d) ts w3 :=
    ⟨D3, gtr G2 g3, A2.kept g3 (fun e => by injection e with e; omega), (Own.keep O2 g3.size fun k hk => g3.block k (Own.lt O2 k hk).2 (fun e => by injection e with e; have := (Own.lt O2 k hk).1; omega)).less (by omega), O3.less (by omega), hlt⟩
  have HP := Lib.hid hps
  have HT := Lib.hid hts
  clear A2 G2 D2 D3 O2 O3 g3 hps hts s1 s2 hz0
  go_wp2_with fail
  refine (dl5DrawName X3.draw (by omega)).mono ?_
  rintro e w4 ⟨nm, hnm, rfl, D4, g4⟩
  have X4 := X3.kept g4 D4
  have HN := Lib.hid (show nm.size ≤ 21 by have := hnm.1; omega)
  clear X3 D4 g4 hnm
  go_wp2_with fail
  refine (dl7Public X4.draw (by omega)).mono ?_
  rintro e w5 ⟨pb, hpb, rfl, D5, g5⟩
  have X5 := X4.kept g5 D5
  clear X4 D5 g5 hpb
  go_wp2_with fail
  refine (dpick [0, 40, 51] 3 X5.draw (by omega) (by omega) (by omega) rfl 2).mono ?_
  rintro e w6 ⟨nw, hnw, rfl, D6, O6⟩
  have X6 := (X5.alloc (.cells #[.int .i64 0, .int .i64 40, .int .i64 51] 2)).kept O6.grown D6
  have lt6 : w.heap.size < w6.heap.size := X6.res.lt (by simp)
  have X7 : AskX w0 a len cap zs (p3 + 1 + 1 + 1) w w6.heap.size [.bool fb, .slice x n c, .slice y m d, .string nm, .int .i64 pb, .int .i64 nw] (.slice x n c) ps (.slice y m d) ts (w6.alloc (.cells #[.bool fb, .slice x n c, .slice y m d, .string nm, .int .i64 pb, .int .i64 nw] 80)) :=
    ⟨X6.alloc _, At.new w6 [.bool fb, .slice x n c, .slice y m d, .string nm, .int .i64 pb, .int .i64 nw] 80, fun k hk => by have := (Own.lt X6.pins k hk).2; omega, fun k hk => by have := (Own.lt X6.tls k hk).2; omega, lt6⟩
  clear X5 X6 D6 O6 hnw
  go_wp2_with fail
  generalize w6.alloc (.cells #[.bool fb, .slice x n c, .slice y m d, .string nm, .int .i64 pb, .int .i64 nw] 80) = W7 at *
  refine (dnext 14 X7.px.draw (by omega)).mono ?_
  rintro e w8 ⟨sw, t0, t1, rfl, D8, O8⟩
  have X8 := X7.kept O8.grown D8
  clear X7 D8 O8 t1
  by_cases e0 : sw = 0
  · subst e0
    go_wp2_with fail
    refine (dl7BentPins X8.px.draw (by omega)).mono ?_
    rintro e w9 ⟨x9, n9, c9, ps9, p9, ⟨hs9, hf9⟩, hp9, rfl, O9, D9, g9⟩
    have X9 := X8.kept g9 D9
    have lt9 : w6.heap.size < w8.heap.size := X8.one.lt (by simp)
    have O9' : OwnP w9 (w.heap.size + 1) (.slice x9 n9 c9) ps9 := O9.less (by omega)
    have X10 := (X9.swap O9' (fun k hk => by have := (Own.lt O9 k hk).1; omega)).put 1 (.slice x9 n9 c9)
    have HP9 := Lib.hid hs9
    have uu0 := X9.one.cell 0 _ rfl
    have uu1 := X9.one.cell 1 _ rfl
    have uu2 := X9.one.cell 2 _ rfl
    have uu3 := X9.one.cell 3 _ rfl
    have uu4 := X9.one.cell 4 _ rfl
    have uu5 := X9.one.cell 5 _ rfl
    have vv0 := X9.one.free 0 _ rfl
    have vv1 := X9.one.free 1 _ rfl
    have vv2 := X9.one.free 2 _ rfl
    have vv3 := X9.one.free 3 _ rfl
    have vv4 := X9.one.free 4 _ rfl
    have vv5 := X9.one.free 5 _ rfl
    clear X8 X9 O9 O9' D9 g9 hs9 hf9
    go_upto_region 11 with fail
    generalize w9.setCell ⟨w6.heap.size, 1, none⟩ (.slice x9 n9 c9) = W10 at *
    clear uu0 uu1 uu2 uu3 uu4 uu5 vv0 vv1 vv2 vv3 vv4 vv5
    have hrb : w.heap.size ≠ w6.heap.size := by omega
    have kk0 := X10.one.cell 0 _ rfl
    have kk1 := X10.one.cell 1 _ rfl
    have kk2 := X10.one.cell 2 _ rfl
    have kk3 := X10.one.cell 3 _ rfl
    have kk4 := X10.one.cell 4 _ rfl
    have kk5 := X10.one.cell 5 _ rfl
    have rr0 := X10.px.res.cell 0 _ rfl
    have rr1 := X10.px.res.cell 1 _ rfl
    have rr2 := X10.px.res.cell 2 _ rfl
    have rr3 := X10.px.res.cell 3 _ rfl
    have rr4 := X10.px.res.cell 4 _ rfl
    have rr5 := X10.px.res.cell 5 _ rfl
    have zz0 := X10.px.res.free 0 _ rfl
    have zz1 := X10.px.res.free 1 _ rfl
    have zz2 := X10.px.res.free 2 _ rfl
    have zz3 := X10.px.res.free 3 _ rfl
    have zz4 := X10.px.res.free 4 _ rfl
    have zz5 := X10.px.res.free 5 _ rfl
    have HX := Lib.hid X10
    clear X10
    go_wp2_with fail
    refine bodyPost_ret (v := .agg #[.bool fb, .slice x9 n9 c9, .slice y m d, .string nm, .int .i64 pb, .int .i64 nw]) (by simp [results, Tryz.results141, go_sem, rr0, rr1, rr2, rr3, rr4, rr5]) rfl ?_
    refine ⟨_, _, _, _, _, _, ⟨fb, ps9, ts, nm, pb, nw⟩, p9, ⟨HN.out, HP9.out, HT.out⟩, ?hpp, rfl, ⟨?ho, ?ht⟩, ?hd, ?hg⟩
    case hd =>
      iterate 6 (refine Draw.put ?_ (by dsimp only; omega) _)
      exact HX.out.px.draw
    case hg =>
      iterate 6 (refine gset ?_ (Nat.le_refl _) _)
      exact HX.out.px.grew
    case ho =>
      iterate 6 (refine Own.setCell ?_ (fun k hk => by have := (Own.lt HX.out.px.pins k hk).1; dsimp only; omega) _)
      exact HX.out.px.pins
    case ht =>
      iterate 6 (refine Own.setCell ?_ (fun k hk => by have := (Own.lt HX.out.px.tls k hk).1; dsimp only; omega) _)
      exact HX.out.px.tls
    case hpp => omega
  by_cases e1 : sw = 1
  · subst e1
    go_wp2_with fail
    refine (dl5Bent X8.px.draw (by omega)).mono ?_
    rintro e w9 ⟨s9, hs9, rfl, D9, g9⟩
    have X9 := X8.kept g9 D9
    have X10 := X9.put 3 (.string s9)
    have uu0 := X9.one.cell 0 _ rfl
    have uu1 := X9.one.cell 1 _ rfl
    have uu2 := X9.one.cell 2 _ rfl
    have uu3 := X9.one.cell 3 _ rfl
    have uu4 := X9.one.cell 4 _ rfl
    have uu5 := X9.one.cell 5 _ rfl
    have vv0 := X9.one.free 0 _ rfl
    have vv1 := X9.one.free 1 _ rfl
    have vv2 := X9.one.free 2 _ rfl
    have vv3 := X9.one.free 3 _ rfl
    have vv4 := X9.one.free 4 _ rfl
    have vv5 := X9.one.free 5 _ rfl
    clear X8 X9 D9 g9
    go_upto_region 11 with fail
    generalize w9.setCell ⟨w6.heap.size, 3, none⟩ (.string s9) = W10 at *
    clear uu0 uu1 uu2 uu3 uu4 uu5 vv0 vv1 vv2 vv3 vv4 vv5
    have hrb : w.heap.size ≠ w6.heap.size := by omega
    have kk0 := X10.one.cell 0 _ rfl
    have kk1 := X10.one.cell 1 _ rfl
    have kk2 := X10.one.cell 2 _ rfl
    have kk3 := X10.one.cell 3 _ rfl
    have kk4 := X10.one.cell 4 _ rfl
    have kk5 := X10.one.cell 5 _ rfl
    have rr0 := X10.px.res.cell 0 _ rfl
    have rr1 := X10.px.res.cell 1 _ rfl
    have rr2 := X10.px.res.cell 2 _ rfl
    have rr3 := X10.px.res.cell 3 _ rfl
    have rr4 := X10.px.res.cell 4 _ rfl
    have rr5 := X10.px.res.cell 5 _ rfl
    have zz0 := X10.px.res.free 0 _ rfl
    have zz1 := X10.px.res.free 1 _ rfl
    have zz2 := X10.px.res.free 2 _ rfl
    have zz3 := X10.px.res.free 3 _ rfl
    have zz4 := X10.px.res.free 4 _ rfl
    have zz5 := X10.px.res.free 5 _ rfl
    have HX := Lib.hid X10
    clear X10
    go_wp2_with fail
    refine bodyPost_ret (v := .agg #[.bool fb, .slice x n c, .slice y m d, .string s9, .int .i64 pb, .int .i64 nw]) (by simp [results, Tryz.results141, go_sem, rr0, rr1, rr2, rr3, rr4, rr5]) rfl ?_
    refine ⟨_, _, _, _, _, _, ⟨fb, ps, ts, s9, pb, nw⟩, p3 + 1 + 1 + 1 + 1 + 1, ⟨hs9, HP.out, HT.out⟩, ?hpp, rfl, ⟨?ho, ?ht⟩, ?hd, ?hg⟩
    case hd =>
      iterate 6 (refine Draw.put ?_ (by dsimp only; omega) _)
      exact HX.out.px.draw
    case hg =>
      iterate 6 (refine gset ?_ (Nat.le_refl _) _)
      exact HX.out.px.grew
    case ho =>
      iterate 6 (refine Own.setCell ?_ (fun k hk => by have := (Own.lt HX.out.px.pins k hk).1; dsimp only; omega) _)
      exact HX.out.px.pins
    case ht =>
      iterate 6 (refine Own.setCell ?_ (fun k hk => by have := (Own.lt HX.out.px.tls k hk).1; dsimp only; omega) _)
      exact HX.out.px.tls
    case hpp => omega
  by_cases e2 : sw = 2
  · subst e2
    go_wp2_with fail
    refine (dpick [1, 5] 2 X8.px.draw (by omega) (by omega) (by omega) rfl 2).mono ?_
    rintro e w9 ⟨u9, hu9, rfl, D9, O9⟩
    have X9 := (X8.alloc (.cells #[.int .i64 1, .int .i64 5] 2)).kept O9.grown D9
    have X10 := X9.put 4 (.int .i64 u9)
    have uu0 := X9.one.cell 0 _ rfl
    have uu1 := X9.one.cell 1 _ rfl
    have uu2 := X9.one.cell 2 _ rfl
    have uu3 := X9.one.cell 3 _ rfl
    have uu4 := X9.one.cell 4 _ rfl
    have uu5 := X9.one.cell 5 _ rfl
    have vv0 := X9.one.free 0 _ rfl
    have vv1 := X9.one.free 1 _ rfl
    have vv2 := X9.one.free 2 _ rfl
    have vv3 := X9.one.free 3 _ rfl
    have vv4 := X9.one.free 4 _ rfl
    have vv5 := X9.one.free 5 _ rfl
    clear X8 X9 D9 O9 hu9
    go_upto_region 11 with fail
    generalize w9.setCell ⟨w6.heap.size, 4, none⟩ (.int .i64 u9) = W10 at *
    clear uu0 uu1 uu2 uu3 uu4 uu5 vv0 vv1 vv2 vv3 vv4 vv5
    have hrb : w.heap.size ≠ w6.heap.size := by omega
    have kk0 := X10.one.cell 0 _ rfl
    have kk1 := X10.one.cell 1 _ rfl
    have kk2 := X10.one.cell 2 _ rfl
    have kk3 := X10.one.cell 3 _ rfl
    have kk4 := X10.one.cell 4 _ rfl
    have kk5 := X10.one.cell 5 _ rfl
    have rr0 := X10.px.res.cell 0 _ rfl
    have rr1 := X10.px.res.cell 1 _ rfl
    have rr2 := X10.px.res.cell 2 _ rfl
    have rr3 := X10.px.res.cell 3 _ rfl
    have rr4 := X10.px.res.cell 4 _ rfl
    have rr5 := X10.px.res.cell 5 _ rfl
    have zz0 := X10.px.res.free 0 _ rfl
    have zz1 := X10.px.res.free 1 _ rfl
    have zz2 := X10.px.res.free 2 _ rfl
    have zz3 := X10.px.res.free 3 _ rfl
    have zz4 := X10.px.res.free 4 _ rfl
    have zz5 := X10.px.res.free 5 _ rfl
    have HX := Lib.hid X10
    clear X10
    go_wp2_with fail
    refine bodyPost_ret (v := .agg #[.bool fb, .slice x n c, .slice y m d, .string nm, .int .i64 u9, .int .i64 nw]) (by simp [results, Tryz.results141, go_sem, rr0, rr1, rr2, rr3, rr4, rr5]) rfl ?_
    refine ⟨_, _, _, _, _, _, ⟨fb, ps, ts, nm, u9, nw⟩, p3 + 1 + 1 + 1 + 1 + 1, ⟨HN.out, HP.out, HT.out⟩, ?hpp, rfl, ⟨?ho, ?ht⟩, ?hd, ?hg⟩
    case hd =>
      iterate 6 (refine Draw.put ?_ (by dsimp only; omega) _)
      exact HX.out.px.draw
    case hg =>
      iterate 6 (refine gset ?_ (Nat.le_refl _) _)
      exact HX.out.px.grew
    case ho =>
      iterate 6 (refine Own.setCell ?_ (fun k hk => by have := (Own.lt HX.out.px.pins k hk).1; dsimp only; omega) _)
      exact HX.out.px.pins
    case ht =>
      iterate 6 (refine Own.setCell ?_ (fun k hk => by have := (Own.lt HX.out.px.tls k hk).1; dsimp only; omega) _)
      exact HX.out.px.tls
    case hpp => omega
  by_cases e3 : sw = 3
  · subst e3
    go_wp2_with fail
    refine (dpick [-1, 10000] 2 X8.px.draw (by omega) (by omega) (by omega) rfl 2).mono ?_
    rintro e w9 ⟨u9, hu9, rfl, D9, O9⟩
    have X9 := (X8.alloc (.cells #[.int .i64 (-1), .int .i64 10000] 2)).kept O9.grown D9
    have X10 := X9.put 5 (.int .i64 u9)
    have uu0 := X9.one.cell 0 _ rfl
    have uu1 := X9.one.cell 1 _ rfl
    have uu2 := X9.one.cell 2 _ rfl
    have uu3 := X9.one.cell 3 _ rfl
    have uu4 := X9.one.cell 4 _ rfl
    have uu5 := X9.one.cell 5 _ rfl
    have vv0 := X9.one.free 0 _ rfl
    have vv1 := X9.one.free 1 _ rfl
    have vv2 := X9.one.free 2 _ rfl
    have vv3 := X9.one.free 3 _ rfl
    have vv4 := X9.one.free 4 _ rfl
    have vv5 := X9.one.free 5 _ rfl
    clear X8 X9 D9 O9 hu9
    go_upto_region 11 with fail
    generalize w9.setCell ⟨w6.heap.size, 5, none⟩ (.int .i64 u9) = W10 at *
    clear uu0 uu1 uu2 uu3 uu4 uu5 vv0 vv1 vv2 vv3 vv4 vv5
    have hrb : w.heap.size ≠ w6.heap.size := by omega
    have kk0 := X10.one.cell 0 _ rfl
    have kk1 := X10.one.cell 1 _ rfl
    have kk2 := X10.one.cell 2 _ rfl
    have kk3 := X10.one.cell 3 _ rfl
    have kk4 := X10.one.cell 4 _ rfl
    have kk5 := X10.one.cell 5 _ rfl
    have rr0 := X10.px.res.cell 0 _ rfl
    have rr1 := X10.px.res.cell 1 _ rfl
    have rr2 := X10.px.res.cell 2 _ rfl
    have rr3 := X10.px.res.cell 3 _ rfl
    have rr4 := X10.px.res.cell 4 _ rfl
    have rr5 := X10.px.res.cell 5 _ rfl
    have zz0 := X10.px.res.free 0 _ rfl
    have zz1 := X10.px.res.free 1 _ rfl
    have zz2 := X10.px.res.free 2 _ rfl
    have zz3 := X10.px.res.free 3 _ rfl
    have zz4 := X10.px.res.free 4 _ rfl
    have zz5 := X10.px.res.free 5 _ rfl
    have HX := Lib.hid X10
    clear X10
    go_wp2_with fail
    refine bodyPost_ret (v := .agg #[.bool fb, .slice x n c, .slice y m d, .string nm, .int .i64 pb, .int .i64 u9]) (by simp [results, Tryz.results141, go_sem, rr0, rr1, rr2, rr3, rr4, rr5]) rfl ?_
    refine ⟨_, _, _, _, _, _, ⟨fb, ps, ts, nm, pb, u9⟩, p3 + 1 + 1 + 1 + 1 + 1, ⟨HN.out, HP.out, HT.out⟩, ?hpp, rfl, ⟨?ho, ?ht⟩, ?hd, ?hg⟩
    case hd =>
      iterate 6 (refine Draw.put ?_ (by dsimp only; omega) _)
      exact HX.out.px.draw
    case hg =>
      iterate 6 (refine gset ?_ (Nat.le_refl _) _)
      exact HX.out.px.grew
    case ho =>
      iterate 6 (refine Own.setCell ?_ (fun k hk => by have := (Own.lt HX.out.px.pins k hk).1; dsimp only; omega) _)
      exact HX.out.px.pins
    case ht =>
      iterate 6 (refine Own.setCell ?_ (fun k hk => by have := (Own.lt HX.out.px.tls k hk).1; dsimp only; omega) _)
      exact HX.out.px.tls
    case hpp => omega
  · have n0 : (sw == 0) = false := by rw [beq_eq_false_iff_ne]; exact e0
    have n1 : (sw == 1) = false := by rw [beq_eq_false_iff_ne]; exact e1
    have n2 : (sw == 2) = false := by rw [beq_eq_false_iff_ne]; exact e2
    have n3 : (sw == 3) = false := by rw [beq_eq_false_iff_ne]; exact e3
    have hrb : w.heap.size ≠ w6.heap.size := by omega
    have kk0 := X8.one.cell 0 _ rfl
    have kk1 := X8.one.cell 1 _ rfl
    have kk2 := X8.one.cell 2 _ rfl
    have kk3 := X8.one.cell 3 _ rfl
    have kk4 := X8.one.cell 4 _ rfl
    have kk5 := X8.one.cell 5 _ rfl
    have rr0 := X8.px.res.cell 0 _ rfl
    have rr1 := X8.px.res.cell 1 _ rfl
    have rr2 := X8.px.res.cell 2 _ rfl
    have rr3 := X8.px.res.cell 3 _ rfl
    have rr4 := X8.px.res.cell 4 _ rfl
    have rr5 := X8.px.res.cell 5 _ rfl
    have zz0 := X8.px.res.free 0 _ rfl
    have zz1 := X8.px.res.free 1 _ rfl
    have zz2 := X8.px.res.free 2 _ rfl
    have zz3 := X8.px.res.free 3 _ rfl
    have zz4 := X8.px.res.free 4 _ rfl
    have zz5 := X8.px.res.free 5 _ rfl
    have HX := Lib.hid X8
    clear X8
    go_wp2_with fail
    refine bodyPost_ret (v := .agg #[.bool fb, .slice x n c, .slice y m d, .string nm, .int .i64 pb, .int .i64 nw]) (by simp [results, Tryz.results141, go_sem, rr0, rr1, rr2, rr3, rr4, rr5]) rfl ?_
    refine ⟨_, _, _, _, _, _, ⟨fb, ps, ts, nm, pb, nw⟩, p3 + 1 + 1 + 1 + 1, ⟨HN.out, HP.out, HT.out⟩, ?hpp, rfl, ⟨?ho, ?ht⟩, ?hd, ?hg⟩
    case hd =>
      iterate 6 (refine Draw.put ?_ (by dsimp only; omega) _)
      exact HX.out.px.draw
    case hg =>
      iterate 6 (refine gset ?_ (Nat.le_refl _) _)
      exact HX.out.px.grew
    case ho =>
      iterate 6 (refine Own.setCell ?_ (fun k hk => by have := (Own.lt HX.out.px.pins k hk).1; dsimp only; omega) _)
      exact HX.out.px.pins
    case ht =>
      iterate 6 (refine Own.setCell ?_ (fun k hk => by have := (Own.lt HX.out.px.tls k hk).1; dsimp only; omega) _)
      exact HX.out.px.tls
    case hpp => omega

theorem m21T {ts : List TlsaD} (h : ∀ t ∈ ts, t.n.size ≤ 21) : ∀ t ∈ ts, t.n.size ≤ maxLen := fun t ht => by have := h t ht; simp only [maxLen]; omega
def DrawnAsk (w : World) (e : Ending) (w' : World) : Prop := ∃ (a1 : Option Addr) (n1 c1 : Nat) (a2 : Option Addr) (n2 c2 : Nat) (q : AskD), e = .returned (A6 a1 n1 c1 a2 n2 c2 q) ∧ ARow w' w'.heap.size a1 n1 c1 a2 n2 c2 q ∧ Below w.heap.size w w'
theorem DrawDecide_any {a : Option Addr} {len cap : Nat} {zs : List Int} {w : World} (hR : Row .u8 w w.heap.size a len cap zs) :
    Calls Tryz.prog 45 #[.slice a len cap] w (DrawnAsk w) := by
  have b0 := bal (Below.refl _ w) (.cells #[.bool false, .slice none 0 0, .slice none 0 0, .string { data := #[] }, .int .i64 0, .int .i64 0] 80)
  have A0 := At.new w AZ 80
  have R0 := hR.on b0
  have hz : (w.alloc (.cells #[.bool false, .slice none 0 0, .slice none 0 0, .string { data := #[] }, .int .i64 0, .int .i64 0] 80)).heap.size = w.heap.size + 1 := by simp
  have HZ := Lib.hid hz
  clear hR hz
  go_enter Tryz.func45, Tryz.ntmps45
  go_wp2_with fail
  generalize w.alloc (.cells #[.bool false, .slice none 0 0, .slice none 0 0, .string { data := #[] }, .int .i64 0, .int .i64 0] 80) = W0 at *
  refine (dsource R0).mono ?_
  rintro e w1 ⟨rfl, D⟩
  have lt1 := D.lt
  go_wp2_with fail
  refine (dl10Draw D).mono ?_
  rintro e w2 ⟨a1, n1, c1, a2, n2, c2, q, p, ⟨hn, hps, hts⟩, hp, rfl, ⟨OP, OT⟩, D2, g2⟩
  have rr0 := (A0.on D2.bel).cell 0 _ rfl
  have rr1 := (A0.on D2.bel).cell 1 _ rfl
  have rr2 := (A0.on D2.bel).cell 2 _ rfl
  have rr3 := (A0.on D2.bel).cell 3 _ rfl
  have rr4 := (A0.on D2.bel).cell 4 _ rfl
  have rr5 := (A0.on D2.bel).cell 5 _ rfl
  have zz0 := (A0.on D2.bel).free 0 _ rfl
  have zz1 := (A0.on D2.bel).free 1 _ rfl
  have zz2 := (A0.on D2.bel).free 2 _ rfl
  have zz3 := (A0.on D2.bel).free 3 _ rfl
  have zz4 := (A0.on D2.bel).free 4 _ rfl
  have zz5 := (A0.on D2.bel).free 5 _ rfl
  have HB := Lib.hid (btr b0 D2.bel)
  have HO := Lib.hid (And.intro OP OT)
  have HQ := Lib.hid (And.intro hn (And.intro hps hts))
  clear D D2 g2 OP OT hn hps hts A0 b0 R0
  go_wp2_with fail
  refine bodyPost_ret (v := A6 a1 n1 c1 a2 n2 c2 q) (by simp [results, Tryz.results45, go_sem, rr0, rr1, rr2, rr3, rr4, rr5]) rfl ?_
  have hz := HZ.out
  refine ⟨a1, n1, c1, a2, n2, c2, q, rfl, ⟨OwnP.row (B := w1.heap.size + 1) ?ho (m21 HQ.out.2.1), OwnT.row (B := w1.heap.size + 1) ?ht (m21T HQ.out.2.2), ?hn⟩, ?hb⟩
  case ho =>
    iterate 6 (refine Own.setCell ?_ (fun k hk => by have := (Own.lt HO.out.1 k hk).1; dsimp only; omega) _)
    exact HO.out.1
  case ht =>
    iterate 6 (refine Own.setCell ?_ (fun k hk => by have := (Own.lt HO.out.2 k hk).1; dsimp only; omega) _)
    exact HO.out.2
  case hn => have := HQ.out.1; simp only [maxLen]; omega
  case hb => exact (by (iterate 6 (refine bset ?_ (by dsimp only; omega) _)); exact HB.out)
def DrawnTlsas (w : World) (e : Ending) (w' : World) : Prop := ∃ (x : Option Addr) (n c : Nat) (ts : List TlsaD) (s : ByteArray), e = .returned (.tuple #[.slice x n c, .string s]) ∧ TRow w' w'.heap.size x n c ts ∧ s.size ≤ 21 ∧ Below w.heap.size w w'
theorem DrawUsableOf_any {a : Option Addr} {len cap : Nat} {zs : List Int} {w : World} (hR : Row .u8 w w.heap.size a len cap zs) :
    Calls Tryz.prog 47 #[.slice a len cap] w (DrawnTlsas w) := by
  go_enter Tryz.func47, Tryz.ntmps47
  go_wp2_with fail
  refine (dsource hR).mono ?_
  rintro e w1 ⟨rfl, D⟩
  have lt1 := D.lt
  go_wp2_with fail
  refine (dl10Tlsas D (by omega)).mono ?_
  rintro e w2 ⟨x, n, c, ts, p, hts, hp, rfl, O2, D2, g2⟩
  have HT := Lib.hid (m21T hts)
  clear D g2 hts
  go_wp2_with fail
  refine (l1Chance_any 4 D2 (by omega)).mono ?_
  rintro e w3 ⟨b, rfl, D3, O3⟩
  have P3 : OwnT w3 w1.heap.size (.slice x n c) ts := Own.keep O2 (Nat.le_of_eq O3.size.symm) fun k hk => O3.block k (fun e => by have := (Own.lt O2 k hk).1; omega)
  clear D2 O3 O2
  cases b
  · go_wp2_with fail
    refine (dl5DrawName D3 (by omega)).mono ?_
    rintro e w4 ⟨s, hs, rfl, D4, g4⟩
    have P4 : OwnT w4 w1.heap.size (.slice x n c) ts := Own.keep P3 g4.size fun k hk => g4.block k (Own.lt P3 k hk).2 (fun e => by injection e with e; have := (Own.lt P3 k hk).1; omega)
    have F : DrawnTlsas w (.returned (.tuple #[.slice x n c, .string s])) w4 := ⟨x, n, c, ts, s, rfl, OwnT.row P4 HT.out, by have := hs.1; omega, D4.bel⟩
    have HF := Lib.hid F
    clear F P4 P3 D3 D4 g4
    go_wp2_with fail
    go_ret2
    exact HF.out
  · go_wp2_with fail
    refine (dl5Bent D3 (by omega)).mono ?_
    rintro e w4 ⟨s, hs, rfl, D4, g4⟩
    have P4 : OwnT w4 w1.heap.size (.slice x n c) ts := Own.keep P3 g4.size fun k hk => g4.block k (Own.lt P3 k hk).2 (fun e => by injection e with e; have := (Own.lt P3 k hk).1; omega)
    have F : DrawnTlsas w (.returned (.tuple #[.slice x n c, .string s])) w4 := ⟨x, n, c, ts, s, rfl, OwnT.row P4 HT.out, hs, D4.bel⟩
    have HF := Lib.hid F
    clear F P4 P3 D3 D4 g4
    go_wp2_with fail
    go_ret2
    exact HF.out
theorem DrawReasonText_any {a : Option Addr} {len cap : Nat} {zs : List Int} {w : World} (hR : Row .u8 w w.heap.size a len cap zs) :
    Calls Tryz.prog 49 #[.slice a len cap] w fun e w' => ∃ r : Int, e = .returned (.int .i64 r) ∧ Below w.heap.size w w' := by
  go_enter Tryz.func49, Tryz.ntmps49
  go_wp2_with fail
  refine (dsource hR).mono ?_
  rintro e w1 ⟨rfl, D⟩
  go_wp2_with fail
  refine (dnext 11 D (by omega)).mono ?_
  rintro e w2 ⟨v, v0, v1, rfl, D2, O2⟩
  have hv : v < 11 := by omega
  have HB := Lib.hid D2.bel
  clear D D2 O2 v1
  go_wp2_with fail
  go_ret
  exact ⟨_, rfl, HB.out⟩
end Go.Proofs.YtlodhleihnlchaaGreatDoor
namespace Go.Proofs.YtlodhleihnlchaaGreatDoor
open Go.RowKit
set_option maxRecDepth 100000
set_option linter.unusedVariables false

theorem implAskFault_any (a1 : Option Addr) (n1 c1 : Nat) (a2 : Option Addr) (n2 c2 B : Nat) (q : AskD) (w : World) (hR : ARow w B a1 n1 c1 a2 n2 c2 q) (hB : B ≤ w.heap.size) :
    Calls Tryz.prog 56 #[A6 a1 n1 c1 a2 n2 c2 q] w fun r w' => r = .returned (.int .i64 (askF q)) ∧ Below w.heap.size w w' := by
  have b0 := bal (Below.refl _ w) (.cells #[.bool q.first, .slice a1 n1 c1, .slice a2 n2 c2, .string q.n, .int .i64 q.p, .int .i64 q.t] 80)
  have A0 : At w.heap.size (A6L a1 n1 c1 a2 n2 c2 q) (w.alloc (.cells #[.bool q.first, .slice a1 n1 c1, .slice a2 n2 c2, .string q.n, .int .i64 q.p, .int .i64 q.t] 80)) := At.new w (A6L a1 n1 c1 a2 n2 c2 q) 80
  have F := implPinsFault_any a1 n1 c1 B q.ps _ (hR.ps.below (b0.mono hB)) (Nat.le_trans hB b0.size)
  have G := fun w => implNameFault_any q.n w hR.nm
  have hl := hR.ts.length
  have hf := hR.ts.fits
  have hm := hR.ts.most
  unfold maxLen at hm
  have P := fun w => implIsPublic_any q.p w
  have Z := fun w => isTime_any q.t w
  clear hR
  obtain ⟨f, ps, ts, n, p, t⟩ := q
  unfold A6L at A0
  dsimp only at *
  by_cases h0 : pinsF ps = 0
  case neg =>
    rw [show askF ⟨f, ps, ts, n, p, t⟩ = pinsF ps from askF_pins h0]
    generalize pinsF ps = c at *
    clear G P Z hl
    have q0 : (c == 0) = false := by simpa using h0
    go_enter Tryz.func56, Tryz.ntmps56
    go_wp2_with fail
    generalize w.alloc (.cells #[.bool f, .slice a1 n1 c1, .slice a2 n2 c2, .string n, .int .i64 p, .int .i64 t] 80) = W0 at *
    refine F.mono ?_
    rintro r u1 ⟨rfl, b1⟩
    have A1 := A0.on b1
    have B1 := btr b0 b1
    have x0 := A1.cell 0 _ rfl
    have x1 := A1.cell 1 _ rfl
    have x2 := A1.cell 2 _ rfl
    have x3 := A1.cell 3 _ rfl
    have x4 := A1.cell 4 _ rfl
    have x5 := A1.cell 5 _ rfl
    clear A0 b0 b1 F
    go_wp2_with fail
    go_ret
    exact ⟨rfl, B1⟩
  rw [h0] at F
  by_cases h1 : 8 < n2
  · rw [show askF ⟨f, ps, ts, n, p, t⟩ = 2 from askF_many h0 (by show 8 < ts.length; omega)]
    have h1' : (8 : Int) < n2 := by omega
    clear G P Z hl h0
    go_enter Tryz.func56, Tryz.ntmps56
    go_wp2_with fail
    generalize w.alloc (.cells #[.bool f, .slice a1 n1 c1, .slice a2 n2 c2, .string n, .int .i64 p, .int .i64 t] 80) = W0 at *
    refine F.mono ?_
    rintro r u1 ⟨rfl, b1⟩
    have A1 := A0.on b1
    have B1 := btr b0 b1
    have x0 := A1.cell 0 _ rfl
    have x1 := A1.cell 1 _ rfl
    have x2 := A1.cell 2 _ rfl
    have x3 := A1.cell 3 _ rfl
    have x4 := A1.cell 4 _ rfl
    have x5 := A1.cell 5 _ rfl
    clear A0 b0 b1 F
    go_wp2_with fail
    go_ret
    exact ⟨rfl, B1⟩
  have h1' : ¬ (8 : Int) < n2 := by omega
  have h1t : ¬ 8 < ts.length := by omega
  by_cases h2 : M.nameF n.data.toList = 0
  case neg =>
    rw [show askF ⟨f, ps, ts, n, p, t⟩ = M.nameF n.data.toList from askF_name h0 h1t h2]
    generalize M.nameF n.data.toList = c at *
    have q0 : (c == 0) = false := by simpa using h2
    clear P Z hl h0 h1t
    go_enter Tryz.func56, Tryz.ntmps56
    go_wp2_with fail
    generalize w.alloc (.cells #[.bool f, .slice a1 n1 c1, .slice a2 n2 c2, .string n, .int .i64 p, .int .i64 t] 80) = W0 at *
    refine F.mono ?_
    rintro r u1 ⟨rfl, b1⟩
    have A1 := A0.on b1
    have B1 := btr b0 b1
    have x0 := A1.cell 0 _ rfl
    have x1 := A1.cell 1 _ rfl
    have x2 := A1.cell 2 _ rfl
    have x3 := A1.cell 3 _ rfl
    have x4 := A1.cell 4 _ rfl
    have x5 := A1.cell 5 _ rfl
    clear A0 b0 b1 F
    go_wp2_with fail
    refine (G _).mono ?_
    rintro r w' ⟨rfl, rfl⟩
    go_wp2_with fail
    go_ret
    exact ⟨rfl, B1⟩
  simp only [h2] at G
  cases h3 : pubB p
  · rw [show askF ⟨f, ps, ts, n, p, t⟩ = 3 from askF_range h0 h1t h2 (by show (pubB p && timB t) = false; rw [h3]; rfl)]
    rw [h3] at P
    clear Z hl h0 h1t h2
    go_enter Tryz.func56, Tryz.ntmps56
    go_wp2_with fail
    generalize w.alloc (.cells #[.bool f, .slice a1 n1 c1, .slice a2 n2 c2, .string n, .int .i64 p, .int .i64 t] 80) = W0 at *
    refine F.mono ?_
    rintro r u1 ⟨rfl, b1⟩
    have A1 := A0.on b1
    have B1 := btr b0 b1
    have x0 := A1.cell 0 _ rfl
    have x1 := A1.cell 1 _ rfl
    have x2 := A1.cell 2 _ rfl
    have x3 := A1.cell 3 _ rfl
    have x4 := A1.cell 4 _ rfl
    have x5 := A1.cell 5 _ rfl
    clear A0 b0 b1 F
    go_wp2_with fail
    refine (G _).mono ?_
    rintro r w' ⟨rfl, rfl⟩
    go_wp2_with fail
    refine (P _).mono ?_
    rintro r u2 ⟨rfl, b2⟩
    have B2 := btr B1 b2
    go_wp2_with fail
    go_ret
    exact ⟨rfl, B2⟩
  rw [h3] at P
  cases h4 : timB t
  · rw [show askF ⟨f, ps, ts, n, p, t⟩ = 3 from askF_range h0 h1t h2 (by show (pubB p && timB t) = false; rw [h4]; simp)]
    rw [h4] at Z
    clear hl h0 h1t h2
    go_enter Tryz.func56, Tryz.ntmps56
    go_wp2_with fail
    generalize w.alloc (.cells #[.bool f, .slice a1 n1 c1, .slice a2 n2 c2, .string n, .int .i64 p, .int .i64 t] 80) = W0 at *
    refine F.mono ?_
    rintro r u1 ⟨rfl, b1⟩
    have A1 := A0.on b1
    have B1 := btr b0 b1
    have x0 := A1.cell 0 _ rfl
    have x1 := A1.cell 1 _ rfl
    have x2 := A1.cell 2 _ rfl
    have x3 := A1.cell 3 _ rfl
    have x4 := A1.cell 4 _ rfl
    have x5 := A1.cell 5 _ rfl
    clear A0 b0 b1 F
    go_wp2_with fail
    refine (G _).mono ?_
    rintro r w' ⟨rfl, rfl⟩
    go_wp2_with fail
    refine (P _).mono ?_
    rintro r u2 ⟨rfl, b2⟩
    have B2 := btr B1 b2
    have A2 := A1.on b2
    clear x0 x1 x2 x3 x4 x5
    have x0 := A2.cell 0 _ rfl
    have x1 := A2.cell 1 _ rfl
    have x2 := A2.cell 2 _ rfl
    have x3 := A2.cell 3 _ rfl
    have x4 := A2.cell 4 _ rfl
    have x5 := A2.cell 5 _ rfl
    go_wp2_with fail
    refine (Z _).mono ?_
    rintro r w' ⟨rfl, rfl⟩
    go_wp2_with fail
    go_ret
    exact ⟨rfl, B2⟩
  · rw [show askF ⟨f, ps, ts, n, p, t⟩ = 0 from askF_yes h0 h1t h2 (by show (pubB p && timB t) = true; rw [h3, h4]; rfl)]
    rw [h4] at Z
    clear hl h0 h1t h2
    go_enter Tryz.func56, Tryz.ntmps56
    go_wp2_with fail
    generalize w.alloc (.cells #[.bool f, .slice a1 n1 c1, .slice a2 n2 c2, .string n, .int .i64 p, .int .i64 t] 80) = W0 at *
    refine F.mono ?_
    rintro r u1 ⟨rfl, b1⟩
    have A1 := A0.on b1
    have B1 := btr b0 b1
    have x0 := A1.cell 0 _ rfl
    have x1 := A1.cell 1 _ rfl
    have x2 := A1.cell 2 _ rfl
    have x3 := A1.cell 3 _ rfl
    have x4 := A1.cell 4 _ rfl
    have x5 := A1.cell 5 _ rfl
    clear A0 b0 b1 F
    go_wp2_with fail
    refine (G _).mono ?_
    rintro r w' ⟨rfl, rfl⟩
    go_wp2_with fail
    refine (P _).mono ?_
    rintro r u2 ⟨rfl, b2⟩
    have B2 := btr B1 b2
    have A2 := A1.on b2
    clear x0 x1 x2 x3 x4 x5
    have x0 := A2.cell 0 _ rfl
    have x1 := A2.cell 1 _ rfl
    have x2 := A2.cell 2 _ rfl
    have x3 := A2.cell 3 _ rfl
    have x4 := A2.cell 4 _ rfl
    have x5 := A2.cell 5 _ rfl
    go_wp2_with fail
    refine (Z _).mono ?_
    rintro r w' ⟨rfl, rfl⟩
    go_wp2_with fail
    go_ret
    exact ⟨rfl, B2⟩
theorem l10Fault_any (g : Nat) (a1 : Option Addr) (n1 c1 : Nat) (a2 : Option Addr) (n2 c2 B : Nat) (q : AskD) (w : World) (A0 : At g (A6L a1 n1 c1 a2 n2 c2 q) w) (hR : ARow w B a1 n1 c1 a2 n2 c2 q) (hB : B ≤ w.heap.size) :
    Calls Tryz.prog 154 #[.pointer (some ⟨g, 0, none⟩)] w fun r w' => r = .returned (.int .i64 (askF q)) ∧ Below w.heap.size w w' := by
  have F := l7Pins_any a1 n1 c1 B q.ps w hR.ps hB
  have G := fun w => l5Fault_any q.n w hR.nm
  have hl := hR.ts.length
  have hf := hR.ts.fits
  have hm := hR.ts.most
  unfold maxLen at hm
  have P := fun w => l1Public_any q.p w
  have Z := fun w => l7Time_any q.t w
  clear hR
  obtain ⟨f, ps, ts, n, p, t⟩ := q
  unfold A6L at A0
  dsimp only at *
  have y0 := A0.cell 0 _ rfl
  have y1 := A0.cell 1 _ rfl
  have y2 := A0.cell 2 _ rfl
  have y3 := A0.cell 3 _ rfl
  have y4 := A0.cell 4 _ rfl
  have y5 := A0.cell 5 _ rfl
  by_cases h0 : pinsF ps = 0
  case neg =>
    rw [show askF ⟨f, ps, ts, n, p, t⟩ = pinsF ps from askF_pins h0]
    generalize pinsF ps = c at *
    clear G P Z hl
    have q0 : (c == 0) = false := by simpa using h0
    have q1 : (c != 0) = true := by simp [h0]
    go_enter Tryz.func154, Tryz.ntmps154
    go_wp2_with fail
    refine F.mono ?_
    rintro r u1 ⟨rfl, b1⟩
    have A1 := A0.on b1
    have x0 := A1.cell 0 _ rfl
    have x1 := A1.cell 1 _ rfl
    have x2 := A1.cell 2 _ rfl
    have x3 := A1.cell 3 _ rfl
    have x4 := A1.cell 4 _ rfl
    have x5 := A1.cell 5 _ rfl
    clear A0 F y0 y1 y2 y3 y4 y5
    go_wp2_with fail
    go_ret
    exact ⟨rfl, b1⟩
  rw [h0] at F
  by_cases h1 : 8 < n2
  · rw [show askF ⟨f, ps, ts, n, p, t⟩ = 2 from askF_many h0 (by show 8 < ts.length; omega)]
    have h1' : (8 : Int) < n2 := by omega
    clear G P Z hl h0
    go_enter Tryz.func154, Tryz.ntmps154
    go_wp2_with fail
    refine F.mono ?_
    rintro r u1 ⟨rfl, b1⟩
    have A1 := A0.on b1
    have x0 := A1.cell 0 _ rfl
    have x1 := A1.cell 1 _ rfl
    have x2 := A1.cell 2 _ rfl
    have x3 := A1.cell 3 _ rfl
    have x4 := A1.cell 4 _ rfl
    have x5 := A1.cell 5 _ rfl
    clear A0 F y0 y1 y2 y3 y4 y5
    go_wp2_with fail
    go_ret
    exact ⟨rfl, b1⟩
  have h1' : ¬ (8 : Int) < n2 := by omega
  have h1t : ¬ 8 < ts.length := by omega
  by_cases h2 : M.nameF n.data.toList = 0
  case neg =>
    rw [show askF ⟨f, ps, ts, n, p, t⟩ = M.nameF n.data.toList from askF_name h0 h1t h2]
    generalize M.nameF n.data.toList = c at *
    have q0 : (c == 0) = false := by simpa using h2
    have q1 : (c != 0) = true := by simp [h2]
    clear P Z hl h0 h1t
    go_enter Tryz.func154, Tryz.ntmps154
    go_wp2_with fail
    refine F.mono ?_
    rintro r u1 ⟨rfl, b1⟩
    have A1 := A0.on b1
    have x0 := A1.cell 0 _ rfl
    have x1 := A1.cell 1 _ rfl
    have x2 := A1.cell 2 _ rfl
    have x3 := A1.cell 3 _ rfl
    have x4 := A1.cell 4 _ rfl
    have x5 := A1.cell 5 _ rfl
    clear A0 F y0 y1 y2 y3 y4 y5
    go_wp2_with fail
    refine (G _).mono ?_
    rintro r u2 ⟨rfl, b2⟩
    have A2 := A1.on b2
    have B2 := btr b1 b2
    clear A1 b1 b2 x0 x1 x2 x3 x4 x5
    have x0 := A2.cell 0 _ rfl
    have x1 := A2.cell 1 _ rfl
    have x2 := A2.cell 2 _ rfl
    have x3 := A2.cell 3 _ rfl
    have x4 := A2.cell 4 _ rfl
    have x5 := A2.cell 5 _ rfl
    go_wp2_with fail
    go_ret
    exact ⟨rfl, B2⟩
  simp only [h2] at G
  cases h3 : pubB p
  · rw [show askF ⟨f, ps, ts, n, p, t⟩ = 3 from askF_range h0 h1t h2 (by show (pubB p && timB t) = false; rw [h3]; rfl)]
    rw [h3] at P
    clear Z hl h0 h1t h2
    go_enter Tryz.func154, Tryz.ntmps154
    go_wp2_with fail
    refine F.mono ?_
    rintro r u1 ⟨rfl, b1⟩
    have A1 := A0.on b1
    have x0 := A1.cell 0 _ rfl
    have x1 := A1.cell 1 _ rfl
    have x2 := A1.cell 2 _ rfl
    have x3 := A1.cell 3 _ rfl
    have x4 := A1.cell 4 _ rfl
    have x5 := A1.cell 5 _ rfl
    clear A0 F y0 y1 y2 y3 y4 y5
    go_wp2_with fail
    refine (G _).mono ?_
    rintro r u2 ⟨rfl, b2⟩
    have A2 := A1.on b2
    have B2 := btr b1 b2
    clear A1 b1 b2 x0 x1 x2 x3 x4 x5
    have x0 := A2.cell 0 _ rfl
    have x1 := A2.cell 1 _ rfl
    have x2 := A2.cell 2 _ rfl
    have x3 := A2.cell 3 _ rfl
    have x4 := A2.cell 4 _ rfl
    have x5 := A2.cell 5 _ rfl
    go_wp2_with fail
    refine (P _).mono ?_
    rintro r w' ⟨rfl, rfl⟩
    go_wp2_with fail
    go_ret
    exact ⟨rfl, B2⟩
  rw [h3] at P
  cases h4 : timB t
  · rw [show askF ⟨f, ps, ts, n, p, t⟩ = 3 from askF_range h0 h1t h2 (by show (pubB p && timB t) = false; rw [h4]; simp)]
    rw [h4] at Z
    clear hl h0 h1t h2
    go_enter Tryz.func154, Tryz.ntmps154
    go_wp2_with fail
    refine F.mono ?_
    rintro r u1 ⟨rfl, b1⟩
    have A1 := A0.on b1
    have x0 := A1.cell 0 _ rfl
    have x1 := A1.cell 1 _ rfl
    have x2 := A1.cell 2 _ rfl
    have x3 := A1.cell 3 _ rfl
    have x4 := A1.cell 4 _ rfl
    have x5 := A1.cell 5 _ rfl
    clear A0 F y0 y1 y2 y3 y4 y5
    go_wp2_with fail
    refine (G _).mono ?_
    rintro r u2 ⟨rfl, b2⟩
    have A2 := A1.on b2
    have B2 := btr b1 b2
    clear A1 b1 b2 x0 x1 x2 x3 x4 x5
    have x0 := A2.cell 0 _ rfl
    have x1 := A2.cell 1 _ rfl
    have x2 := A2.cell 2 _ rfl
    have x3 := A2.cell 3 _ rfl
    have x4 := A2.cell 4 _ rfl
    have x5 := A2.cell 5 _ rfl
    go_wp2_with fail
    refine (P _).mono ?_
    rintro r w' ⟨rfl, rfl⟩
    go_wp2_with fail
    refine (Z _).mono ?_
    rintro r w' ⟨rfl, rfl⟩
    go_wp2_with fail
    go_ret
    exact ⟨rfl, B2⟩
  · rw [show askF ⟨f, ps, ts, n, p, t⟩ = 0 from askF_yes h0 h1t h2 (by show (pubB p && timB t) = true; rw [h3, h4]; rfl)]
    rw [h4] at Z
    clear hl h0 h1t h2
    go_enter Tryz.func154, Tryz.ntmps154
    go_wp2_with fail
    refine F.mono ?_
    rintro r u1 ⟨rfl, b1⟩
    have A1 := A0.on b1
    have x0 := A1.cell 0 _ rfl
    have x1 := A1.cell 1 _ rfl
    have x2 := A1.cell 2 _ rfl
    have x3 := A1.cell 3 _ rfl
    have x4 := A1.cell 4 _ rfl
    have x5 := A1.cell 5 _ rfl
    clear A0 F y0 y1 y2 y3 y4 y5
    go_wp2_with fail
    refine (G _).mono ?_
    rintro r u2 ⟨rfl, b2⟩
    have A2 := A1.on b2
    have B2 := btr b1 b2
    clear A1 b1 b2 x0 x1 x2 x3 x4 x5
    have x0 := A2.cell 0 _ rfl
    have x1 := A2.cell 1 _ rfl
    have x2 := A2.cell 2 _ rfl
    have x3 := A2.cell 3 _ rfl
    have x4 := A2.cell 4 _ rfl
    have x5 := A2.cell 5 _ rfl
    go_wp2_with fail
    refine (P _).mono ?_
    rintro r w' ⟨rfl, rfl⟩
    go_wp2_with fail
    refine (Z _).mono ?_
    rintro r w' ⟨rfl, rfl⟩
    go_wp2_with fail
    go_ret
    exact ⟨rfl, B2⟩
end Go.Proofs.YtlodhleihnlchaaGreatDoor
namespace Go.Proofs.YtlodhleihnlchaaGreatDoor
open Go.RowKit
set_option maxRecDepth 100000
set_option linter.unusedVariables false

theorem implIsAccept_any (r : Int) (w : World) : Calls Tryz.prog 53 #[.int .i64 r] w fun e w' => e = .returned (.bool (acceptB r)) ∧ w = w' := by
  by_cases h1 : r = 1
  · subst h1
    rw [show acceptB 1 = true from rfl]
    go_enter Tryz.func53, Tryz.ntmps53
    go_wp2_with fail
    go_ret
    simp
  by_cases h3 : r = 3
  · subst h3
    rw [show acceptB 3 = true from rfl]
    go_enter Tryz.func53, Tryz.ntmps53
    go_wp2_with fail
    go_ret
    simp
  by_cases h4 : r = 4
  · subst h4
    rw [show acceptB 4 = true from rfl]
    go_enter Tryz.func53, Tryz.ntmps53
    go_wp2_with fail
    go_ret
    simp
  by_cases h7 : r = 7
  · subst h7
    rw [show acceptB 7 = true from rfl]
    go_enter Tryz.func53, Tryz.ntmps53
    go_wp2_with fail
    go_ret
    simp
  · have e : acceptB r = false := by simp [acceptB, h1, h3, h4, h7]
    rw [e]
    have q1 : (r == 1) = false := by simpa using h1
    have q3 : (r == 3) = false := by simpa using h3
    have q4 : (r == 4) = false := by simpa using h4
    have q7 : (r == 7) = false := by simpa using h7
    go_enter Tryz.func53, Tryz.ntmps53
    go_wp2_with fail
    go_ret
    simp
theorem l10Accept_any (r : Int) (w : World) : Calls Tryz.prog 153 #[.int .i64 r] w fun e w' => e = .returned (.bool (acceptB r)) ∧ w = w' := by
  by_cases h1 : r = 1
  · subst h1
    rw [show acceptB 1 = true from rfl]
    go_enter Tryz.func153, Tryz.ntmps153
    go_wp2_with fail
    go_ret
    simp
  by_cases h3 : r = 3
  · subst h3
    rw [show acceptB 3 = true from rfl]
    go_enter Tryz.func153, Tryz.ntmps153
    go_wp2_with fail
    go_ret
    simp
  by_cases h4 : r = 4
  · subst h4
    rw [show acceptB 4 = true from rfl]
    go_enter Tryz.func153, Tryz.ntmps153
    go_wp2_with fail
    go_ret
    simp
  by_cases h7 : r = 7
  · subst h7
    rw [show acceptB 7 = true from rfl]
    go_enter Tryz.func153, Tryz.ntmps153
    go_wp2_with fail
    go_ret
    simp
  · have e : acceptB r = false := by simp [acceptB, h1, h3, h4, h7]
    rw [e]
    have q1 : (r == 1) = false := by simpa using h1
    have q3 : (r == 3) = false := by simpa using h3
    have q4 : (r == 4) = false := by simpa using h4
    have q7 : (r == 7) = false := by simpa using h7
    go_enter Tryz.func153, Tryz.ntmps153
    go_wp2_with fail
    go_ret
    simp
theorem specIsAccept_any (r : Int) (w : World) : Calls Tryz.prog 54 #[.int .i64 r] w fun e w' => e = .returned (.bool (acceptB r)) ∧ w = w' := by
  have L := fun w => l10Accept_any r w
  generalize acceptB r = b at *
  go_enter Tryz.func54, Tryz.ntmps54
  go_wp2_with fail
  refine (L _).mono ?_
  rintro r w' ⟨rfl, rfl⟩
  go_wp2_with fail
  go_ret
  simp
end Go.Proofs.YtlodhleihnlchaaGreatDoor
namespace Go.Proofs.YtlodhleihnlchaaGreatDoor
open Go.RowKit
set_option maxRecDepth 100000
set_option linter.unusedVariables false

def liveB (p : PinD) (t : Int) : Bool := decide (p.f = 0) && timB t && decide (t ≤ p.u)
theorem implIsLive_any (p : PinD) (t : Int) (w : World) (hn : p.n.size ≤ maxLen) :
    Calls Tryz.prog 58 #[P5 p, .int .i64 t] w fun e w' => e = .returned (.bool (liveB p t)) ∧ Below w.heap.size w w' := by
  have b0 := bal (Below.refl _ w) (.cells #[.string p.n, .int .i64 p.a, .int .i64 p.b, .int .i64 p.e, .int .i64 p.u] 59)
  have A0 : At w.heap.size p.vals (w.alloc (.cells #[.string p.n, .int .i64 p.a, .int .i64 p.b, .int .i64 p.e, .int .i64 p.u] 59)) := At.new w p.vals 59
  have F := fun w => implPinFault_any p w hn
  by_cases h0 : p.f = 0
  · rw [h0] at F
    cases ht : timB t
    · rw [show liveB p t = false by simp [liveB, ht]]
      go_enter Tryz.func58, Tryz.ntmps58
      go_wp2_with fail
      generalize w.alloc (.cells #[.string p.n, .int .i64 p.a, .int .i64 p.b, .int .i64 p.e, .int .i64 p.u] 59) = W0 at *
      refine (F _).mono ?_
      rintro r u1 ⟨rfl, b1⟩
      have c4 := (A0.on b1).cell 4 _ rfl
      have B1 := btr b0 b1
      clear A0 b0 b1 F
      go_wp2_with fail
      refine (isTime_any _ _).mono ?_
      rintro r w' ⟨rfl, rfl⟩
      go_wp2_with fail
      go_ret
      exact ⟨rfl, B1⟩
    by_cases hu : t ≤ p.u
    · rw [show liveB p t = true by simp [liveB, h0, ht, hu]]
      go_enter Tryz.func58, Tryz.ntmps58
      go_wp2_with fail
      generalize w.alloc (.cells #[.string p.n, .int .i64 p.a, .int .i64 p.b, .int .i64 p.e, .int .i64 p.u] 59) = W0 at *
      refine (F _).mono ?_
      rintro r u1 ⟨rfl, b1⟩
      have c4 := (A0.on b1).cell 4 _ rfl
      have B1 := btr b0 b1
      clear A0 b0 b1 F
      go_wp2_with fail
      refine (isTime_any _ _).mono ?_
      rintro r w' ⟨rfl, rfl⟩
      go_wp2_with fail
      go_ret
      exact ⟨rfl, B1⟩
    · rw [show liveB p t = false by simp [liveB, hu]]
      go_enter Tryz.func58, Tryz.ntmps58
      go_wp2_with fail
      generalize w.alloc (.cells #[.string p.n, .int .i64 p.a, .int .i64 p.b, .int .i64 p.e, .int .i64 p.u] 59) = W0 at *
      refine (F _).mono ?_
      rintro r u1 ⟨rfl, b1⟩
      have c4 := (A0.on b1).cell 4 _ rfl
      have B1 := btr b0 b1
      clear A0 b0 b1 F
      go_wp2_with fail
      refine (isTime_any _ _).mono ?_
      rintro r w' ⟨rfl, rfl⟩
      go_wp2_with fail
      go_ret
      exact ⟨by simpa using hu, B1⟩
  · rw [show liveB p t = false by simp [liveB, h0]]
    generalize p.f = c at *
    have q0 : (c == 0) = false := by simpa using h0
    go_enter Tryz.func58, Tryz.ntmps58
    go_wp2_with fail
    generalize w.alloc (.cells #[.string p.n, .int .i64 p.a, .int .i64 p.b, .int .i64 p.e, .int .i64 p.u] 59) = W0 at *
    refine (F _).mono ?_
    rintro r u1 ⟨rfl, b1⟩
    have c4 := (A0.on b1).cell 4 _ rfl
    have B1 := btr b0 b1
    clear A0 b0 b1 F
    go_wp2_with fail
    go_ret
    exact ⟨rfl, B1⟩
end Go.Proofs.YtlodhleihnlchaaGreatDoor
