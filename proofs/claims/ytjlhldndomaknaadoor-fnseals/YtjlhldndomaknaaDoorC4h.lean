/- Contracts of the stream that is told a byte at a time, and of the data that it turns, by the program. Conditions: as each theorem states. -/
import Derived.Test.YtjlhldndomaknaaDoorC4g
namespace Go.Proofs.YtjlhldndomaknaaDoor
open Go.RowKit
set_option maxRecDepth 100000
set_option linter.unusedVariables false
attribute [local go_sem] Oper.semAt_some

/-- What stays so while the rounds go on. -/
structure IterRel (n : Nat) (key seq : Int) (bk bs : Nat) (J : List { i : Nat // i < n } → World → Prop) (k : Nat) (wr : World) : Prop where
  went : ∃ pre : List { i : Nat // i < n }, pre.map (·.1) = List.range k ∧ J pre wr
  ck : wr.cell? ⟨bk, 0, none⟩ = some (.int .i64 key)
  cs : wr.cell? ⟨bs, 0, none⟩ = some (.int .i64 seq)
  lab : Labels wr
/-- Of what lies below n0 block g alone may have turned. -/
structure KeepBut (g n0 : Nat) (W W' : World) : Prop where
  size : W.heap.size ≤ W'.heap.size
  block : ∀ b, b < n0 → b ≠ g → W'.heap[b]? = W.heap[b]?
theorem KeepBut.t {g n0 : Nat} {A B C : World} (h : KeepBut g n0 A B) (k : KeepBut g n0 B C) : KeepBut g n0 A C := ⟨Nat.le_trans h.size k.size, fun b hb hg => (k.block b hb hg).trans (h.block b hb hg)⟩
theorem KeepBut.b {g n0 : Nat} {w : World} (hn : n0 ≤ w.heap.size) (W : World) (l : Nat) (o o' : Obj) (hl : w.heap.size ≤ l) (h : W.heap[l]? = some o) (_ : o.isCells = false) (_ : o.isWalk = false) : KeepBut g n0 W (W.putObj l o') :=
  ⟨(grownBy_putObj' W l o').size, fun b hb hg => by
    rcases Nat.lt_or_ge b W.heap.size with h1 | h1
    · exact (grownBy_putObj' W l o').block b h1 (fun e => by injection e with e; omega)
    · have := (Array.getElem?_eq_some_iff.1 h).1
      omega⟩
theorem KeepBut.cell {g n0 : Nat} {W W' : World} (h : KeepBut g n0 W W') {p : Addr} {v : Value} (hp : p.block < n0) (hg : p.block ≠ g) (hc : W.cell? p = some v) : W'.cell? p = some v := (World.cell?_of_block (h.block _ hp hg)).trans hc
theorem grown_below {w w' : World} (h : Below w.heap.size w w') : w.grownBy w' none := ⟨h.os, h.tape, h.output, h.size, fun k hk _ => h.block k hk⟩

abbrev Idx (n : Nat) : Type := { i : Nat // i < n }
abbrev encI (key seq : Int) (n : Nat) (i : Idx n) : Array Value := #[.int .i64 (i.1 : Int), .int .u8 (M.streamB key seq i.1)]

set_option maxHeartbeats 2000000 in
theorem bytes_stops (m : Nat) (hm : 1 ≤ m) (key seq : Int) (n bn bk bs g n0 : Nat) (w : World) (lab : Labels w) (hk : M.sumB key = true) (hs : M.sumB seq = true) (hn : n ≤ 200)
    (cn : w.cell? ⟨bn, 0, none⟩ = some (.int .i64 n)) (ck : w.cell? ⟨bk, 0, none⟩ = some (.int .i64 key)) (cs : w.cell? ⟨bs, 0, none⟩ = some (.int .i64 seq))
    (lk : bk < n0) (ls : bs < n0) (ll : 0 < n0) (gk : bk ≠ g) (gs : bs ≠ g) (gl : 0 ≠ g) :
    SeqStopsK Fence.wide m Tryd.prog 149 #[.pointer (some ⟨bn, 0, none⟩), .pointer (some ⟨bk, 0, none⟩), .pointer (some ⟨bs, 0, none⟩)] (encI key seq n) (KeepBut g n0) (fun xs => xs.map (·.1) = List.range n) (fun _ => True) n w := fun l J Jx W hW hJ hJx hY h0 => by
  have cn1 := cell_keep hW cn
  have ck1 := cell_keep hW ck
  have cs1 := cell_keep hW cs
  have lab1 := lab.on hW
  have HJ := Lib.hid hJ
  have HY := Lib.hid hY
  clear hJ hJx hY cn ck cs lab
  refine callsIn_of_wp Tryd.func149 rfl trivial ?_ rfl
  simp only [Tryd.ntmps149, List.size_toArray, List.length_cons, List.length_nil, Nat.reduceAdd, Nat.reduceSub, Array.replicate_succ, Array.replicate_zero, List.push_toArray, List.append_toArray, List.nil_append, List.cons_append]
  gi_wp2
  have T0 : IterRel n key seq bk bs J 0 W := ⟨⟨[], rfl, h0⟩, ck1, cs1, lab1⟩
  clear h0 ck1 cs1 lab1
  gi_loopw [7] (fun p wr => ∃ k : Nat, k ≤ n ∧ p = .int .i64 k ∧ IterRel n key seq bk bs J k wr) (fun p _ => n - (intOf p).toNat)
  case atStart => exact ⟨0, Nat.zero_le _, rfl, T0⟩
  case round =>
    obtain ⟨k, hkn, rfl, hT⟩ := hrel
    obtain ⟨⟨pre, hpre, hJp⟩, ck2, cs2, lab2⟩ := hT
    have HP := Lib.hid hpre
    have HJP := Lib.hid hJp
    have hlen : pre.length = k := by have := congrArg List.length hpre; simpa using this
    have HL := Lib.hid hlen
    clear hpre hJp hlen T0 cn1
    by_cases hlt : k < n
    · have S1 := streamByte_any key seq k wr lab2 hk hs (by omega)
      gi_wp2
      refine ⟨trivial, ?_⟩
      refine (callsIn_wide.2 S1).mono ?_
      rintro e w2 ⟨rfl, hb2⟩
      have hJ2 := HJ.out pre wr w2 none HJP.out (grown_below hb2) (fun r e => by cases e)
      obtain ⟨fn, tmps, assign, body, hy, hR⟩ := HY.out pre ⟨k, hlt⟩ w2 hJ2 (by rw [HL.out]; exact hlt)
      dsimp only [encI] at hy
      have ck3 := cell_keep hb2 ck2
      have cs3 := cell_keep hb2 cs2
      have lab3 := lab2.on hb2
      clear hJ2 S1 ck2 cs2 lab2 hb2
      gi_wp2
      refine hR.mono ?_
      rintro e W3 (⟨rfl, hJ3, hk3⟩ | ⟨rfl, hJx3⟩)
      · have T2 : IterRel n key seq bk bs J (k + 1) W3 := ⟨⟨pre ++ [⟨k, hlt⟩], by simp [HP.out, List.range_succ], hJ3⟩, hk3.cell lk gk ck3, hk3.cell ls gs cs3, lab3.keep (hk3.block _ ll gl)⟩
        clear hJ3 hk3 ck3 cs3 lab3 hR hy
        gi_wp2
        go_roundw
        case rel => exact ⟨k + 1, by omega, by go_num, T2⟩
        case measure => simp [intOf]; omega
      · gi_wp2
        refine bodyPost_ret (results_none rfl _ _ _) rfl ?_
        exact ⟨⟨_, rfl⟩, .inr ⟨_, trivial, hJx3⟩⟩
    · obtain rfl : k = n := by omega
      gi_wp2
      go_end0
      exact ⟨⟨_, rfl⟩, .inl ⟨pre, HP.out, HJP.out⟩⟩

/-- Between two rounds: the box holds the slice, and the bytes that were told are turned. -/
structure TurnI (w : World) (f : Nat → Int) (zs : List Int) (n bx g : Nat) (pre : List (Idx n)) (W : World) : Prop where
  box : W.cell? ⟨bx, 0, none⟩ = some (.slice (some ⟨g, 0, none⟩) n n)
  own : OwnK .u8 W w.heap.size (.slice (some ⟨g, 0, none⟩) n n) (M.xfold f zs (pre.map (·.1)))
  bel : Below w.heap.size w W
theorem TurnI.from {w : World} {f : Nat → Int} {zs : List Int} {n bx g B : Nat} (hx : bx < B) (hg : g < B) (hB : w.heap.size ≤ B) : OwnFrom B (TurnI w f zs n bx g) := fun s W W' row hs hgr hr =>
  ⟨hgr.cell hs.box (fun e => by have := (hr _ e.symm).1; dsimp only at this; omega),
   hs.own.keep hgr.size (fun k hk => hgr.block k (hs.own.lt k hk).2 (fun e => by have := (hr _ e.symm).1; simp [Value.ownBlock] at hk; omega)),
   hs.bel.grown hgr hs.bel.size (fun k e => by have := (hr k e).1; omega)⟩

set_option maxHeartbeats 4000000 in
theorem turnData_any (key seq : Int) (a : Option Addr) (n c B : Nat) (zs : List Int) (w : World) (lab : Labels w) (hR : Row .u8 w B a n c zs) (hB : B ≤ w.heap.size) (hk : M.sumB key = true) (hs : M.sumB seq = true) (hn : n ≤ 200) :
    Calls Tryd.prog 115 #[.int .i64 key, .int .i64 seq, .slice a n c] w (Made (M.turnL key seq zs) w) := by
  have hks := M.tag_sum M.streamS [key]
  have HL := Lib.hid hR.length
  have HBy := Lib.hid hR.bytes
  have T1 := copyBytes_any a n c B zs w hR hB (by omega)
  obtain ⟨k0, k1⟩ := M.tagL_bd M.streamS [key]
  clear hR
  refine (callsIn_wide (n := 5)).1 ?_
  refine callsIn_of_wp_marks Tryd.func115 rfl trivial ?_ rfl
  simp only [Tryd.ntmps115, List.size_toArray, List.length_cons, List.length_nil, Nat.reduceAdd, Nat.reduceSub, Array.replicate_succ, Array.replicate_zero, List.push_toArray, List.append_toArray, List.nil_append, List.cons_append]
  refine wpIn_wide.2 ?_
  go_wp2_with fail
  refine T1.mono ?_
  rintro r w1 ⟨rfl, O1, b1⟩
  have bb := bal b1 (.cells #[.slice (some ⟨w.heap.size, 0, none⟩) n n] 22)
  have X1 := At.new w1 [.slice (some ⟨w.heap.size, 0, none⟩) n n] 22
  have O1a := O1.alloc (.cells #[.slice (some ⟨w.heap.size, 0, none⟩) n n] 22)
  have lab1 := lab.on bb
  have lt1 : w.heap.size < w1.heap.size := (O1.lt _ rfl).2
  have llt := lab.lt
  have hstream := lab1.streamW
  have x0 := X1.cell 0 _ rfl
  have HZ := Lib.hid (show (w1.alloc (.cells #[.slice (some ⟨w.heap.size, 0, none⟩) n n] 22)).heap.size = w1.heap.size + 1 by simp)
  clear T1 O1 b1 lab
  go_wp2_with fail
  generalize w1.alloc (.cells #[.slice (some ⟨w.heap.size, 0, none⟩) n n] 22) = v1 at *
  refine wp_region_lineN (Bel v1) [(0, true), (1, true), (2, true), (6, true), (7, true), (8, true), (3, false), (4, false), (5, true), (9, false)] (by kernel_rfl) (by kernel_rfl) (Bel.drew v1) ?_
  have hst := Bel.drew v1
  have inst : Nonempty (Of (Bel v1)) := ⟨⟨_, hst⟩⟩
  have u0 := bel_cell hstream
  have u1 := bel_cell x0
  generalize v1.drew = V at *
  iterate 6 (refine line_read rfl (by kernel_rfl) (fun K hK => ?_); go_big_quiet_op; refine hK _ ?_; clear hK K)
  refine line_alone rfl (by kernel_rfl) (fun K hK => ?_)
  go_big_op
  refine hK _ _ (hst.on (bal (Below.refl _ V) _)) ?_
  clear hK K
  have st3 := hst.on (bal (Below.refl _ V) (.cells #[.int .i64 key] 2))
  have R3 := row_one0 (w := V) key 2 hk
  refine line_alone rfl (by kernel_rfl) (fun K hK => ?_)
  refine call_wp (args := #[.string M.streamS, .slice (some ⟨V.heap.size, 0, none⟩) 1 1]) rfl (by kernel_rfl) (by kernel_rfl) (sumTagged_any M.streamS _ _ _ _ [key] _ (by decide) R3 (by simp) (by simp [hk]) (by omega)) (fun w4 b4 => ?_)
  have st4 := st3.on b4
  refine hK _ _ st4 ?_
  clear hK K st3 b4 R3 hst
  simp only [Act.put, List.setIfInBounds_toArray, List.set_cons_zero, List.set_cons_succ]
  iterate 1 (refine line_read rfl (by kernel_rfl) (fun K hK => ?_); go_big_quiet_op; refine hK _ ?_; clear hK K)
  have HK := Lib.hid (show M.turnB key seq = M.streamB (M.tagL M.streamS [key]) seq from rfl)
  generalize M.tagL M.streamS [key] = K1 at *
  refine line_alone rfl (by kernel_rfl) (fun K hK => ?_)
  refine call_any (args := #[.int .i64 K1, .int .i64 seq, .int .i64 n]) rfl (by kernel_rfl) (by kernel_rfl) (streamBytes_any K1 seq n w4) ?_
  rintro e w5 ⟨rfl, hw5⟩
  have b5 : Below w4.heap.size w4 w5 := by rw [hw5]; exact bal (bal (bal (Below.refl _ w4) _) _) _
  have cK : w5.cell? ⟨w4.heap.size, 0, none⟩ = some (.int .i64 K1) := by rw [hw5]; go_simp
  have cS : w5.cell? ⟨w4.heap.size + 1, 0, none⟩ = some (.int .i64 seq) := by rw [hw5]; go_simp
  have cN : w5.cell? ⟨w4.heap.size + 1 + 1, 0, none⟩ = some (.int .i64 n) := by rw [hw5]; go_simp
  have hz5 : w5.heap.size = w4.heap.size + 1 + 1 + 1 := by rw [hw5]; simp
  have HZ5 := Lib.hid hz5
  have st5 := st4.on b5
  refine ⟨_, rfl, hK _ _ st5 ?_⟩
  have sz4 := st4.out.size
  clear hK K st4 hw5 hz5 b5
  simp only [Act.put, List.setIfInBounds_toArray, List.set_cons_zero, List.set_cons_succ]
  refine line_nil ?_
  have B5 := btr bb st5.out
  have lab5 := lab1.on st5.out
  have x5 := (X1.on st5.out).cell 0 _ rfl
  have O5 := Own.below O1a st5.out
  have hlt5 : w1.heap.size + 1 ≤ w4.heap.size := by have := HZ.out; omega
  have sz5 := HZ5.out
  clear bb lab1 X1 O1a st5 hstream x0 u0 u1 inst HZ
  go_wp2_with fail
  refine (wpIn_wide (n := 5)).1 ?_
  refine wpIn_rangeFunc_ownG rfl (by omega) (gf := 149) (lb := #[.pointer (some ⟨w4.heap.size + 1 + 1, 0, none⟩), .pointer (some ⟨w4.heap.size, 0, none⟩), .pointer (some ⟨w4.heap.size + 1, 0, none⟩)]) rfl trivial (enters_of Tryd.func149 (by kernel_rfl) rfl)
    (bytes_stops (5 - 1) (by omega) K1 seq n (w4.heap.size + 1 + 1) w4.heap.size (w4.heap.size + 1) w.heap.size w5.heap.size w5 lab5 hks hs hn cN cK cS (by omega) (by omega) (by omega) (by omega) (by omega) (by omega))
    (fun h k => h.t k) (KeepBut.b (Nat.le_refl _)) (Below.refl _ _) (fun _ => rfl)
    (TurnI w (M.turnB key seq) zs n w1.heap.size w.heap.size) (fun _ _ _ => False) (TurnI.from (by omega) (by omega) (by omega)) (fun _ _ _ _ _ hs _ _ => hs) ⟨x5, O5, B5⟩
    (fun x => { tmps := #[.int .i64 key, .int .i64 seq, .slice a n c, undef, undef, undef, .slice none 0 0, .pointer (some ⟨w1.heap.size, 0, none⟩), .int .i64 (x.1 : Int), .int .u8 (M.streamB K1 seq x.1), .slice a n c, .slice (some ⟨w.heap.size, 0, none⟩) n n, .pointer (some ⟨0, 0, none⟩), .string M.streamS, .int .i64 key, .slice (some ⟨V.heap.size, 0, none⟩) 1 1, .int .u32 K1, .int .i64 K1, .int .i64 seq, .slice (some ⟨w.heap.size, 0, none⟩) n n, .int .i64 n, .func (.func 149) #[] #[.pointer (some ⟨w4.heap.size + 1 + 1, 0, none⟩), .pointer (some ⟨w4.heap.size, 0, none⟩), .pointer (some ⟨w4.heap.size + 1, 0, none⟩)], .int .i64 (x.1 : Int), .int .u8 (M.streamB K1 seq x.1), undef, undef, undef, undef, undef, undef, undef, undef], defers := [] }) ?assign ?body ?done ?stop
  case assign =>
    intro l x W K hK
    gi_wp2
    exact hK
  case body =>
    rintro l pre ⟨i, hi⟩ W ⟨hbox, hown, hbel⟩ _
    clear sz5
    have hl : (M.xfold (M.turnB key seq) zs (pre.map (·.1))).length = n := (M.xfold_length _ _ _).trans HL.out
    have hby := M.getD_byte (M.xfold_byte (M.turnB_byte key seq) (pre.map (·.1)) zs HBy.out) i
    have hsn := M.xfold_snoc (M.turnB key seq) zs (pre.map (·.1)) i
    rcases hown.2 with ⟨e, hz⟩ | ⟨g', c', e, hBg, hg, hn1, hm1, hcell, hroom⟩
    · cases e
    injection e with ea eb ec
    injection ea with ea
    injection ea with ea
    subst ea
    subst ec
    have e2 := hcell i (.int .u8 ((M.xfold (M.turnB key seq) zs (pre.map (·.1))).getD i 0)) (by rw [List.getElem?_map, M.getD_nat (by rw [hl]; exact hi)]; rfl)
    have f2 := (hroom i (by omega)).2
    have hp := hown.put (i := i) (m := M.xorB ((M.xfold (M.turnB key seq) zs (pre.map (·.1))).getD i 0) (M.turnB key seq i)) (by rw [hl]; exact hi)
    rw [← hsn] at hp
    generalize (M.xfold (M.turnB key seq) zs (pre.map (·.1))).getD i 0 = y at *
    have hxor := xor_two hby (M.turnB_byte key seq i)
    have hbox2 : (W.setCell ⟨w.heap.size, i, none⟩ (.int .u8 (M.xorB y (M.turnB key seq i)))).cell? ⟨w1.heap.size, 0, none⟩ = some (.slice (some ⟨w.heap.size, 0, none⟩) n n) := by
      rw [World.cell?_setCell_other _ _ _ _ (fun e => by injection e with e1; omega)]
      exact hbox
    have hkb : KeepBut w.heap.size w5.heap.size W (W.setCell ⟨w.heap.size, i, none⟩ (.int .u8 (M.xorB y (M.turnB key seq i)))) := ⟨by simp [World.setCell], fun b _ hb => Below.heap_setCell W _ _ b hb⟩
    have F : ∀ act : Act, ownPostG w5.heap.size (KeepBut w.heap.size w5.heap.size) (TurnI w (M.turnB key seq) zs n w1.heap.size w.heap.size) (fun _ _ _ => False) (pre ++ [⟨i, hi⟩]) W .normal act (W.setCell ⟨w.heap.size, i, none⟩ (.int .u8 (M.xorB y (M.turnB key seq i)))) :=
      fun _ => ⟨(KeepsOthers.setCell _ _ _).from _, hkb, ⟨hbox2, by rw [List.map_append]; exact hp, hbel.setCell (p := ⟨w.heap.size, i, none⟩) (Nat.le_refl _) _⟩⟩
    have HF := Lib.hid F
    generalize M.xorB y (M.turnB key seq i) = x at *
    rw [HK.out] at hxor
    have hi' : (i : Int) < n := by omega
    clear hcell hroom hp hbox2 hbel hown hby eb hn1 hl hsn hkb F
    gi_wp2
    exact HF.out _
  case done =>
    rintro D ys W hD hys ⟨hbox, hown, hbel⟩ hdef
    clear sz5
    have eX : M.xfold (M.turnB key seq) zs (List.range n) = M.turnL key seq zs := by rw [← HL.out]; exact M.xfold_turn _ _ _
    rw [hys, eX] at hown
    clear eX
    have HO := Lib.hid hown
    have HB := Lib.hid hbel
    have hDD : w.heap.size < D := by have := HZ5.out; omega
    clear hown hbel hys hD
    gi_wp2
    go_wp2_with fail
    refine ⟨by simp, .inl ⟨_, _, rfl, run_takeDeferred hdef, ?_⟩⟩
    have hgr := grownBy_putObj' W D (.deferred none)
    refine ⟨_, results_tmp rfl _ _ _, ?_⟩
    exact ⟨_, _, _, rfl, HO.out.keep hgr.size (fun q hq => hgr.block q (HO.out.lt q hq).2 (fun e => by simp [Value.ownBlock] at hq; injection e with e; omega)), HB.out.trans (belowK_b (w := w) (Nat.le_refl _) W D _ _ (by omega) hdef rfl rfl)⟩
  case stop =>
    rintro D c' pre W _ _ h _
    exact h.elim
end Go.Proofs.YtjlhldndomaknaaDoor
