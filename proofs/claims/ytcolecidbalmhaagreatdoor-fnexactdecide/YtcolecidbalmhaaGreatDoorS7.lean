/- Texts of this seat that several laws rest on, laid into one. Conditions: as each theorem states. -/
import Derived.Test.YtcolecidbalmhaaGreatDoorS2
import Derived.Test.YtcolecidbalmhaaGreatDoorS6
import Derived.Test.YtcolecidbalmhaaGreatDoorRows
import Derived.ProofKit
import Derived.JoinedCond
import Derived.LaidEql
import Derived.Stop.Asserts
import Derived.RowKitTokens
import Derived.Laws.IdiomCopy
import Derived.Test.YtcolecidbalmhaaGreatDoorTie
import Derived.Test.YtcolecidbalmhaaGreatDoorCards
import Derived.LaidHandle
import Derived.LaidLaws
import Derived.OpenShut
import Derived.WalkSmall
import Derived.Carry
import Derived.Below
import Derived.Deep.DeepHandedRow
import Derived.Lib.LaidTab
import Derived.Lay
import Derived.MakeChecks
import Derived.LaidMore
import Derived.Stop.Joined
namespace Go.Proofs.YtcolecidbalmhaaGreatDoor
open Go.RowKit
set_option maxRecDepth 100000
set_option linter.unusedVariables false

theorem supplied1_any (bx : Nat) (a1 : Option Addr) (n1 c1 : Nat) (a2 : Option Addr) (n2 c2 : Nat) (q : AskD) (t : TlsaD) (w : World) (lab : Labels w) (A0 : At bx (A6L a1 n1 c1 a2 n2 c2 q) w) (hs : q.n.size ≤ maxLen) :
    Calls Tryz.prog 219 #[TV t, .pointer (some ⟨bx, 0, none⟩)] w fun e w' => e = .returned (.bool (M.matchB t.nm t.u t.m t.v q.nm (pubB q.p) q.p)) ∧ Below w.heap.size w w' := by
  have b0 := bal (Below.refl _ w) (.cells #[.string t.n, .int .i64 t.u, .int .i64 t.m, .int .i64 t.v] 78)
  have MT := implMatchesTlsa_any t.n t.u t.m t.v q.n q.p _ (lab.on b0) hs
  have A1 := A0.on b0
  have X1 : At w.heap.size t.vals (w.alloc (.cells #[.string t.n, .int .i64 t.u, .int .i64 t.m, .int .i64 t.v] 78)) := At.new w t.vals 78
  have lt := A0.lt (by simp [A6L])
  unfold A6L at A1
  rw [show M.matchB t.nm t.u t.m t.v q.nm (pubB q.p) q.p = M.matchB t.n.data.toList t.u t.m t.v q.n.data.toList (pubB q.p) q.p from rfl]
  generalize M.matchB t.n.data.toList t.u t.m t.v q.n.data.toList (pubB q.p) q.p = b at *
  unfold A6L at A0
  have y0 := A0.cell 0 _ rfl
  have y1 := A0.cell 1 _ rfl
  have y2 := A0.cell 2 _ rfl
  have y3 := A0.cell 3 _ rfl
  have y4 := A0.cell 4 _ rfl
  have y5 := A0.cell 5 _ rfl
  clear A0 A1 X1 lab
  go_enter Tryz.func219, Tryz.ntmps219
  go_wp2_with fail
  refine MT.mono ?_
  rintro r u1 ⟨rfl, b1⟩
  have hb := btr b0 b1
  go_wp2_with fail
  go_ret
  exact ⟨rfl, hb⟩
set_option maxHeartbeats 2000000 in
theorem indexFunc_any (bx : Nat) (pr : TlsaD → Bool) (a : Option Addr) (len cap B : Nat) (ts : List TlsaD) (w : World) (hR : TRow w B a len cap ts) (hB : B ≤ w.heap.size)
    (C : ∀ (w' : World) (t : TlsaD), Below w.heap.size w w' → Calls Tryz.prog 219 #[TV t, .pointer (some ⟨bx, 0, none⟩)] w' fun e w2 => e = .returned (.bool (pr t)) ∧ Below w'.heap.size w' w2) :
    Calls Tryz.prog 257 #[.slice a len cap, .func (.func 219) #[] #[.pointer (some ⟨bx, 0, none⟩)]] w fun e w' => ∃ i : Int, e = .returned (.int .i64 i) ∧ decide (0 ≤ i) = ts.any pr ∧ Below w.heap.size w w' := by
  have hL := Lib.hid hR.length
  have hm := hR.most
  have hfit := hR.fits
  unfold maxLen at hm
  have HR := Lib.hid hR
  have HC := Lib.hid C
  clear hR C
  generalize hd : ts.any pr = d
  have HD := Lib.hid hd
  clear hd
  go_enter Tryz.func257, Tryz.ntmps257
  go_wp2_with fail
  go_loopw [8] (fun i wr => ∃ k : Nat, k ≤ len ∧ i = .int .i64 k ∧ (ts.take k).any pr = false ∧ Below w.heap.size w wr) (fun i _ => len - (intOf i).toNat)
  case atStart => exact ⟨0, Nat.zero_le _, rfl, rfl, Below.refl _ _⟩
  case round =>
    obtain ⟨k, hk, rfl, hn, hb⟩ := hrel
    by_cases hlt : k < len
    · have hkt : k < ts.length := by rw [hL.out]; exact hlt
      obtain ⟨b, off, ha, hbB, c0, c1, c2, c3⟩ := (HR.out.below (hb.mono hB)).at' hlt
      subst ha
      have CC := HC.out wr (ts[k]?.getD tls0) hb
      have HB := Lib.hid hb
      cases hp : pr (ts[k]?.getD tls0)
      · have HN := Lib.hid (show (ts.take (k + 1)).any pr = false by
          rw [List.take_succ_eq_append_getElem hkt, List.any_append, hn]
          rw [List.getElem?_eq_getElem hkt] at hp
          simpa using hp)
        rw [hp] at CC
        clear hn hkt hb hp HC
        generalize ts[k]?.getD tls0 = q at *
        go_wp2_with fail
        refine CC.mono ?_
        rintro r u1 ⟨rfl, b1⟩
        have bb := Lib.hid (btr HB.out b1)
        clear c0 c1 c2 c3 HB b1
        go_wp2_with fail
        go_roundw
        case rel => exact ⟨k + 1, by omega, by go_num, HN.out, bb.out⟩
        case measure => simp [intOf]; omega
      · have HN := Lib.hid (show ts.any pr = true by
          refine List.any_eq_true.2 ⟨ts[k], List.getElem_mem _, ?_⟩
          rw [List.getElem?_eq_getElem hkt] at hp
          exact hp)
        rw [hp] at CC
        clear hn hkt hb hp HC
        generalize ts[k]?.getD tls0 = q at *
        go_wp2_with fail
        refine CC.mono ?_
        rintro r u1 ⟨rfl, b1⟩
        have bb := Lib.hid (btr HB.out b1)
        clear c0 c1 c2 c3 HB b1
        go_wp2_with fail
        go_ret
        exact ⟨k, rfl, by rw [← HD.out, HN.out]; simp, bb.out⟩
    · obtain rfl : k = len := by omega
      have e : ts.take k = ts := List.take_of_length_le (by rw [hL.out]; omega)
      rw [e, HD.out] at hn
      subst hn
      go_wp2_with fail
      go_ret
      exact ⟨-1, rfl, by simp, hb⟩
theorem containsFunc_any (bx : Nat) (pr : TlsaD → Bool) (a : Option Addr) (len cap B : Nat) (ts : List TlsaD) (w : World) (hR : TRow w B a len cap ts) (hB : B ≤ w.heap.size)
    (C : ∀ (w' : World) (t : TlsaD), Below w.heap.size w w' → Calls Tryz.prog 219 #[TV t, .pointer (some ⟨bx, 0, none⟩)] w' fun e w2 => e = .returned (.bool (pr t)) ∧ Below w'.heap.size w' w2) :
    Calls Tryz.prog 220 #[.slice a len cap, .func (.func 219) #[] #[.pointer (some ⟨bx, 0, none⟩)]] w fun e w' => e = .returned (.bool (ts.any pr)) ∧ Below w.heap.size w w' := by
  have I := indexFunc_any bx pr a len cap B ts w hR hB C
  generalize ts.any pr = d at *
  clear hR C
  go_enter Tryz.func220, Tryz.ntmps220
  go_wp2_with fail
  refine I.mono ?_
  rintro r u1 ⟨i, rfl, hi, b1⟩
  go_wp2_with fail
  go_ret
  exact ⟨by rw [← hi]; rfl, b1⟩
theorem any_dane {l : List UInt8} {ts : List TlsaD} {p : Int} {q : AskD} (hn : M.nameF l = 0) (hq : q.nm = l) (hp : q.p = p) (hb : pubB p = true) : (usable (M.nrm l) ts).any (fun t => M.matchB t.nm t.u t.m t.v q.nm (pubB q.p) q.p) = daneB (usable (M.nrm l) ts) p := by
  subst hq
  subst hp
  unfold daneB
  rw [Bool.eq_iff_iff, List.any_eq_true, List.any_eq_true]
  constructor
  · rintro ⟨t, ht, h⟩
    rw [hb, dane_match hn t ht] at h
    exact ⟨t, ht, h⟩
  · rintro ⟨t, ht, h⟩
    refine ⟨t, ht, ?_⟩
    rw [hb, dane_match hn t ht]
    exact h
theorem implSupplied_any (x : Option Addr) (n c : Nat) (us : List TlsaD) (a1 : Option Addr) (n1 c1 : Nat) (a2 : Option Addr) (n2 c2 B : Nat) (q : AskD) (w : World) (lab : Labels w) (hR : TRow w B x n c us) (hB : B ≤ w.heap.size) (hs : q.n.size ≤ maxLen) :
    Calls Tryz.prog 166 #[.slice x n c, A6 a1 n1 c1 a2 n2 c2 q] w fun e w' => e = .returned (.int .i64 (if us.any (fun t => M.matchB t.nm t.u t.m t.v q.nm (pubB q.p) q.p) then 1 else 2)) ∧ Below w.heap.size w w' := by
  have b0 := bal (Below.refl _ w) (.cells #[.bool q.first, .slice a1 n1 c1, .slice a2 n2 c2, .string q.n, .int .i64 q.p, .int .i64 q.t] 60)
  have A0 : At w.heap.size (A6L a1 n1 c1 a2 n2 c2 q) (w.alloc (.cells #[.bool q.first, .slice a1 n1 c1, .slice a2 n2 c2, .string q.n, .int .i64 q.p, .int .i64 q.t] 60)) := At.new w (A6L a1 n1 c1 a2 n2 c2 q) 60
  have hmf : ∀ (fn : Fn) (first cap : Array Value) (w : World), (Instr.makeFunc fn first cap).run Tryz.prog w = .ok (.func fn first cap) w := fun _ _ _ _ => rfl
  have CF := containsFunc_any w.heap.size (fun t => M.matchB t.nm t.u t.m t.v q.nm (pubB q.p) q.p) x n c B us _ (hR.below (b0.mono hB)) (Nat.le_trans hB b0.size) (fun w' t hb => supplied1_any w.heap.size a1 n1 c1 a2 n2 c2 q t w' ((lab.on b0).on hb) (A0.on hb) hs)
  generalize us.any (fun t => M.matchB t.nm t.u t.m t.v q.nm (pubB q.p) q.p) = d at *
  clear A0 lab hR
  cases d
  all_goals
    go_enter Tryz.func166, Tryz.ntmps166
    go_wp2_with fail
    refine CF.mono ?_
    rintro r u1 ⟨rfl, b1⟩
    have hb := btr b0 b1
    go_wp2_with fail
    go_ret
    exact ⟨rfl, hb⟩
set_option maxHeartbeats 2000000 in
theorem implPinned_any (pp : PinD) (a1 : Option Addr) (n1 c1 : Nat) (a2 : Option Addr) (n2 c2 B : Nat) (q : AskD) (w : World) (hR : ARow w B a1 n1 c1 a2 n2 c2 q) (hB : B ≤ w.heap.size) (h0 : askF q = 0) (hp : pp ∈ q.ps) :
    Calls Tryz.prog 167 #[P5 pp, A6 a1 n1 c1 a2 n2 c2 q] w fun e w' => e = .returned (.int .i64 (pinReason pp q.p q.t)) ∧ Below w.heap.size w w' := by
  obtain ⟨hpf, ht8, hnf, hpub, htim⟩ := askF_zero h0
  have hpp := (pinsF_zero hpf).2.1 pp hp
  have hri := (pinsF_zero hpf).2.2
  have hpn := hR.ps.names pp hp
  have b0 := bal (bal (Below.refl _ w) (.cells #[.string pp.n, .int .i64 pp.a, .int .i64 pp.b, .int .i64 pp.e, .int .i64 pp.u] 31)) (.cells #[.bool q.first, .slice a1 n1 c1, .slice a2 n2 c2, .string q.n, .int .i64 q.p, .int .i64 q.t] 60)
  have P0 : At w.heap.size pp.vals ((w.alloc (.cells #[.string pp.n, .int .i64 pp.a, .int .i64 pp.b, .int .i64 pp.e, .int .i64 pp.u] 31)).alloc (.cells #[.bool q.first, .slice a1 n1 c1, .slice a2 n2 c2, .string q.n, .int .i64 q.p, .int .i64 q.t] 60)) := (At.new w pp.vals 31).alloc _
  have A0 := At.new (w.alloc (.cells #[.string pp.n, .int .i64 pp.a, .int .i64 pp.b, .int .i64 pp.e, .int .i64 pp.u] 31)) (A6L a1 n1 c1 a2 n2 c2 q) 60
  rw [World.size_alloc] at A0
  have HA0 := Lib.hid (show At (w.heap.size + 1) (A6L a1 n1 c1 a2 n2 c2 q) ((w.alloc (.cells #[.string pp.n, .int .i64 pp.a, .int .i64 pp.b, .int .i64 pp.e, .int .i64 pp.u] 31)).alloc (.cells #[.bool q.first, .slice a1 n1 c1, .slice a2 n2 c2, .string q.n, .int .i64 q.p, .int .i64 q.t] 60)) from A0)
  have LV := fun w => implIsLive_any pp q.t w hpn
  have elv : liveB pp q.t = decide (q.t ≤ pp.u) := by simp [liveB, hpp, htim]
  rw [elv] at LV
  have CO := Lib.hid (fun (w1 : World) (h : Below w.heap.size w w1) => claimsOf_any a1 n1 c1 B q.ps w1 (hR.ps.below (h.mono hB)) (Nat.le_trans hB h.size) hpf)
  have LK := lookL_claims hri q.p hp
  have HK := Lib.hid (pub_key (n := pp.n) hpn hpub)
  unfold pinReason
  clear hR A0 h0 hpf ht8 hnf hpub htim hpp hri hp elv
  obtain ⟨f, ps, ts, n, p, t⟩ := q
  unfold A6L at HA0
  dsimp only at *
  by_cases h1 : t ≤ pp.u
  case neg =>
    rw [if_neg h1]
    rw [decide_eq_false h1] at LV
    clear LK CO
    have y0 := HA0.out.cell 0 _ rfl
    have y1 := HA0.out.cell 1 _ rfl
    have y2 := HA0.out.cell 2 _ rfl
    have y3 := HA0.out.cell 3 _ rfl
    have y4 := HA0.out.cell 4 _ rfl
    have y5 := HA0.out.cell 5 _ rfl
    go_enter Tryz.func167, Tryz.ntmps167
    go_wp2_with fail
    generalize (w.alloc (.cells #[.string pp.n, .int .i64 pp.a, .int .i64 pp.b, .int .i64 pp.e, .int .i64 pp.u] 31)).alloc (.cells #[.bool f, .slice a1 n1 c1, .slice a2 n2 c2, .string n, .int .i64 p, .int .i64 t] 60) = W0 at *
    refine (LV _).mono ?_
    rintro r u1 ⟨rfl, b1⟩
    have B1 := btr b0 b1
    have A1 := HA0.out.on b1
    have P1 := P0.on b1
    clear y0 y1 y2 y3 y4 y5 b0 b1 LV HA0 P0
    go_wp2_with fail
    go_ret
    exact ⟨rfl, B1⟩
  rw [if_pos h1]
  rw [decide_eq_true h1] at LV
  clear h1
  by_cases h2 : pp.a = p
  · rw [if_pos h2]
    rw [if_pos h2] at LK
    have LK := Lib.hid LK
    clear h2
    have y0 := HA0.out.cell 0 _ rfl
    have y1 := HA0.out.cell 1 _ rfl
    have y2 := HA0.out.cell 2 _ rfl
    have y3 := HA0.out.cell 3 _ rfl
    have y4 := HA0.out.cell 4 _ rfl
    have y5 := HA0.out.cell 5 _ rfl
    go_enter Tryz.func167, Tryz.ntmps167
    go_wp2_with fail
    generalize (w.alloc (.cells #[.string pp.n, .int .i64 pp.a, .int .i64 pp.b, .int .i64 pp.e, .int .i64 pp.u] 31)).alloc (.cells #[.bool f, .slice a1 n1 c1, .slice a2 n2 c2, .string n, .int .i64 p, .int .i64 t] 60) = W0 at *
    refine (LV _).mono ?_
    rintro r u1 ⟨rfl, b1⟩
    have B1 := btr b0 b1
    have A1 := HA0.out.on b1
    have P1 := P0.on b1
    clear y0 y1 y2 y3 y4 y5 b0 b1 LV HA0 P0
    go_wp2_with fail
    refine wp_region_line (Bel u1) [(0, true), (1, true), (3, true), (4, true), (5, true), (6, true), (7, true), (2, false), (8, false), (9, true), (10, true), (11, true), (12, true), (13, true)] (by kernel_rfl) (by kernel_rfl) (fun _ _ d _ _ h => by cases d <;> exact h) (Bel.drew u1) ?_
    have hst := Bel.drew u1
    have inst : Nonempty (Of (Bel u1)) := ⟨⟨_, hst⟩⟩
    have y1 := bel_cell (A1.cell 1 _ rfl)
    have y4 := bel_cell (A1.cell 4 _ rfl)
    have x0 := bel_cell (P1.cell 0 _ rfl)
    generalize u1.drew = V1 at *
    iterate 7 (refine line_read rfl (by kernel_rfl) (fun K hK => ?_); go_big_quiet_op; refine hK _ ?_; clear hK K)
    refine line_alone rfl (by kernel_rfl) (fun K hK => ?_)
    refine call_any (args := #[.slice a1 n1 c1]) rfl (by kernel_rfl) (by kernel_rfl) (CO.out _ (btr B1 hst.out)) ?_
    rintro e x1 ⟨rfl, M1, hbn⟩
    have hst2 := hst.on hbn
    have lk := M1.look HK.out
    rw [LK.out] at lk
    refine ⟨_, rfl, hK _ _ hst2 ?_⟩
    clear hK K hst hbn
    have hst := hst2
    clear hst2
    simp only [Act.put, List.setIfInBounds_toArray, List.set_cons_zero, List.set_cons_succ]
    dsimp only [Option.getD, Option.isSome] at lk
    refine line_alone rfl (by kernel_rfl) (fun K hK => ?_)
    go_big_op
    refine hK _ _ (hst) ?_
    clear hK K
    iterate 5 (refine line_read rfl (by kernel_rfl) (fun K hK => ?_); go_big_quiet_op; refine hK _ ?_; clear hK K)
    refine line_nil ?_
    have bb := btr B1 hst.out
    clear hst inst y1 y4 x0 A1 P1 M1 lk
    go_wp2_with fail
    go_ret
    exact ⟨rfl, bb⟩
  rw [if_neg h2]
  rw [if_neg h2] at LK
  by_cases h3 : pp.b = p
  · rw [if_pos h3]
    rw [if_pos h3] at LK
    have LK := Lib.hid LK
    clear h2 h3
    have y0 := HA0.out.cell 0 _ rfl
    have y1 := HA0.out.cell 1 _ rfl
    have y2 := HA0.out.cell 2 _ rfl
    have y3 := HA0.out.cell 3 _ rfl
    have y4 := HA0.out.cell 4 _ rfl
    have y5 := HA0.out.cell 5 _ rfl
    go_enter Tryz.func167, Tryz.ntmps167
    go_wp2_with fail
    generalize (w.alloc (.cells #[.string pp.n, .int .i64 pp.a, .int .i64 pp.b, .int .i64 pp.e, .int .i64 pp.u] 31)).alloc (.cells #[.bool f, .slice a1 n1 c1, .slice a2 n2 c2, .string n, .int .i64 p, .int .i64 t] 60) = W0 at *
    refine (LV _).mono ?_
    rintro r u1 ⟨rfl, b1⟩
    have B1 := btr b0 b1
    have A1 := HA0.out.on b1
    have P1 := P0.on b1
    clear y0 y1 y2 y3 y4 y5 b0 b1 LV HA0 P0
    go_wp2_with fail
    refine wp_region_line (Bel u1) [(0, true), (1, true), (3, true), (4, true), (5, true), (6, true), (7, true), (2, false), (8, false), (9, true), (10, true), (11, true), (12, true), (13, true)] (by kernel_rfl) (by kernel_rfl) (fun _ _ d _ _ h => by cases d <;> exact h) (Bel.drew u1) ?_
    have hst := Bel.drew u1
    have inst : Nonempty (Of (Bel u1)) := ⟨⟨_, hst⟩⟩
    have y1 := bel_cell (A1.cell 1 _ rfl)
    have y4 := bel_cell (A1.cell 4 _ rfl)
    have x0 := bel_cell (P1.cell 0 _ rfl)
    generalize u1.drew = V1 at *
    iterate 7 (refine line_read rfl (by kernel_rfl) (fun K hK => ?_); go_big_quiet_op; refine hK _ ?_; clear hK K)
    refine line_alone rfl (by kernel_rfl) (fun K hK => ?_)
    refine call_any (args := #[.slice a1 n1 c1]) rfl (by kernel_rfl) (by kernel_rfl) (CO.out _ (btr B1 hst.out)) ?_
    rintro e x1 ⟨rfl, M1, hbn⟩
    have hst2 := hst.on hbn
    have lk := M1.look HK.out
    rw [LK.out] at lk
    refine ⟨_, rfl, hK _ _ hst2 ?_⟩
    clear hK K hst hbn
    have hst := hst2
    clear hst2
    simp only [Act.put, List.setIfInBounds_toArray, List.set_cons_zero, List.set_cons_succ]
    dsimp only [Option.getD, Option.isSome] at lk
    refine line_alone rfl (by kernel_rfl) (fun K hK => ?_)
    go_big_op
    refine hK _ _ (hst) ?_
    clear hK K
    iterate 5 (refine line_read rfl (by kernel_rfl) (fun K hK => ?_); go_big_quiet_op; refine hK _ ?_; clear hK K)
    refine line_nil ?_
    have bb := btr B1 hst.out
    clear hst inst y1 y4 x0 A1 P1 M1 lk
    go_wp2_with fail
    go_ret
    exact ⟨rfl, bb⟩
  · rw [if_neg h3]
    rw [if_neg h3] at LK
    have LK := Lib.hid LK
    clear h2 h3
    have y0 := HA0.out.cell 0 _ rfl
    have y1 := HA0.out.cell 1 _ rfl
    have y2 := HA0.out.cell 2 _ rfl
    have y3 := HA0.out.cell 3 _ rfl
    have y4 := HA0.out.cell 4 _ rfl
    have y5 := HA0.out.cell 5 _ rfl
    go_enter Tryz.func167, Tryz.ntmps167
    go_wp2_with fail
    generalize (w.alloc (.cells #[.string pp.n, .int .i64 pp.a, .int .i64 pp.b, .int .i64 pp.e, .int .i64 pp.u] 31)).alloc (.cells #[.bool f, .slice a1 n1 c1, .slice a2 n2 c2, .string n, .int .i64 p, .int .i64 t] 60) = W0 at *
    refine (LV _).mono ?_
    rintro r u1 ⟨rfl, b1⟩
    have B1 := btr b0 b1
    have A1 := HA0.out.on b1
    have P1 := P0.on b1
    clear y0 y1 y2 y3 y4 y5 b0 b1 LV HA0 P0
    go_wp2_with fail
    refine wp_region_line (Bel u1) [(0, true), (1, true), (3, true), (4, true), (5, true), (6, true), (7, true), (2, false), (8, false), (9, true), (10, true), (11, true), (12, true), (13, true)] (by kernel_rfl) (by kernel_rfl) (fun _ _ d _ _ h => by cases d <;> exact h) (Bel.drew u1) ?_
    have hst := Bel.drew u1
    have inst : Nonempty (Of (Bel u1)) := ⟨⟨_, hst⟩⟩
    have y1 := bel_cell (A1.cell 1 _ rfl)
    have y4 := bel_cell (A1.cell 4 _ rfl)
    have x0 := bel_cell (P1.cell 0 _ rfl)
    generalize u1.drew = V1 at *
    iterate 7 (refine line_read rfl (by kernel_rfl) (fun K hK => ?_); go_big_quiet_op; refine hK _ ?_; clear hK K)
    refine line_alone rfl (by kernel_rfl) (fun K hK => ?_)
    refine call_any (args := #[.slice a1 n1 c1]) rfl (by kernel_rfl) (by kernel_rfl) (CO.out _ (btr B1 hst.out)) ?_
    rintro e x1 ⟨rfl, M1, hbn⟩
    have hst2 := hst.on hbn
    have lk := M1.look HK.out
    rw [LK.out] at lk
    refine ⟨_, rfl, hK _ _ hst2 ?_⟩
    clear hK K hst hbn
    have hst := hst2
    clear hst2
    simp only [Act.put, List.setIfInBounds_toArray, List.set_cons_zero, List.set_cons_succ]
    dsimp only [Option.getD, Option.isSome] at lk
    refine line_alone rfl (by kernel_rfl) (fun K hK => ?_)
    go_big_op
    refine hK _ _ (hst) ?_
    clear hK K
    iterate 5 (refine line_read rfl (by kernel_rfl) (fun K hK => ?_); go_big_quiet_op; refine hK _ ?_; clear hK K)
    refine line_nil ?_
    have bb := btr B1 hst.out
    clear hst inst y1 y4 x0 A1 P1 M1 lk
    go_wp2_with fail
    go_ret
    exact ⟨rfl, bb⟩
theorem tl1 (c : Int) (a : Option Addr) (n k : Nat) (w : World) : Sem.run Tryz.prog (Instr.field 68 (.agg #[.int .i64 c, .slice a n k]) 1) w = .ok (.slice a n k) w := by kernel_rfl
set_option maxHeartbeats 4000000 in
theorem reasonOf_any (a1 : Option Addr) (n1 c1 : Nat) (a2 : Option Addr) (n2 c2 B : Nat) (q : AskD) (w : World) (lab : Labels w) (hR : ARow w B a1 n1 c1 a2 n2 c2 q) (hB : B ≤ w.heap.size) (h0 : askF q = 0) :
    Calls Tryz.prog 100 #[A6 a1 n1 c1 a2 n2 c2 q] w fun e w' => e = .returned (.int .i64 (reason q)) ∧ Below w.heap.size w w' := by
  obtain ⟨hpf, ht8, hnf, hpub, htim⟩ := askF_zero h0
  have b0 := bal (Below.refl _ w) (.cells #[.bool q.first, .slice a1 n1 c1, .slice a2 n2 c2, .string q.n, .int .i64 q.p, .int .i64 q.t] 60)
  have A0 : At w.heap.size (A6L a1 n1 c1 a2 n2 c2 q) (w.alloc (.cells #[.bool q.first, .slice a1 n1 c1, .slice a2 n2 c2, .string q.n, .int .i64 q.p, .int .i64 q.t] 60)) := At.new w (A6L a1 n1 c1 a2 n2 c2 q) 60
  have e0 : usableC q.ts q.nm = 0 := by rw [usableC_name (by omega)]; exact hnf
  have US := implUsableOf_any a2 n2 c2 B q.ts q.n _ (hR.ts.below (b0.mono hB)) (Nat.le_trans hB b0.size) hR.nm
  rw [show q.n.data.toList = q.nm from rfl, usableR_yes e0, e0] at US
  have hun : ∀ x ∈ usable (M.nrm q.nm) q.ts, x.n.size ≤ maxLen := fun x hx => hR.ts.names x (usable_mem hx).1
  have HN := Lib.hid hun
  have ad := any_dane (l := q.nm) (ts := q.ts) (p := q.p) (q := q) hnf rfl rfl hpub
  have SU := Lib.hid (fun (x : Option Addr) (n c : Nat) (w' : World) (h : TRow w' w'.heap.size x n c (usable (M.nrm q.nm) q.ts)) (hb : Below w.heap.size w w') => implSupplied_any x n c _ a1 n1 c1 a2 n2 c2 w'.heap.size q w' (lab.on hb) h (Nat.le_refl _) hR.nm)
  rw [ad] at SU
  have FP := Lib.hid (fun (w' : World) (hb : Below w.heap.size w w') => implFindPin_any a1 n1 c1 B q.ps q.n w' (hR.ps.below (hb.mono hB)) (Nat.le_trans hB hb.size) hR.nm)
  rw [show q.n.data.toList = q.nm from rfl, findC_ok hpf hnf, show findR q.ps q.nm = (findP q.ps (M.nrm q.nm)).getD pin0 by simp [findR, hpf, hnf]] at FP
  have PI := Lib.hid (fun (pp : PinD) (hp : pp ∈ q.ps) (w' : World) (hb : Below w.heap.size w w') => implPinned_any pp a1 n1 c1 a2 n2 c2 B q w' (hR.below (hb.mono hB)) (Nat.le_trans hB hb.size) h0 hp)
  have FM := fun (x : PinD) (h : findP q.ps (M.nrm q.nm) = some x) => (findP_mem h).1
  have RD := reason_dane (a := q)
  have RP := fun (x : PinD) => reason_pin (a := q) (q := x)
  have RN := reason_none (a := q)
  have g1 := tl1
  generalize usable (M.nrm q.nm) q.ts = us at *
  generalize daneB us q.p = db at *
  generalize (if db = true then (1 : Int) else 2) = dv at *
  generalize findP q.ps (M.nrm q.nm) = fo at *
  clear hpf ht8 hnf hpub htim e0 hun ad hR h0 lab
  generalize hm : us.length = m at *
  have HM := Lib.hid hm
  clear hm
  unfold TlsasRes at US
  obtain ⟨f, ps, ts, n, p, t⟩ := q
  unfold A6L at A0
  dsimp only at *
  have y0 := A0.cell 0 _ rfl
  have y1 := A0.cell 1 _ rfl
  have y2 := A0.cell 2 _ rfl
  have y3 := A0.cell 3 _ rfl
  have y4 := A0.cell 4 _ rfl
  have y5 := A0.cell 5 _ rfl
  by_cases hu : m = 0
  case neg =>
    rw [RD hu]
    have hu' : (0 : Int) < m := by omega
    clear RD RP RN PI FP FM
    go_enter Tryz.func100, Tryz.ntmps100
    go_wp2_with fail
    generalize w.alloc (.cells #[.bool _, .slice a1 n1 c1, .slice a2 n2 c2, .string n, .int .i64 p, .int .i64 t] 60) = W0 at *
    refine US.mono ?_
    rintro r u1 ⟨xa, xn, xc, rfl, O1, b1⟩
    obtain rfl : xn = m := O1.len.trans HM.out
    have A1 := A0.on b1
    have B1 := btr b0 b1
    clear y0 y1 y2 y3 y4 y5 A0 b0 b1 US
    have y0 := A1.cell 0 _ rfl
    have y1 := A1.cell 1 _ rfl
    have y2 := A1.cell 2 _ rfl
    have y3 := A1.cell 3 _ rfl
    have y4 := A1.cell 4 _ rfl
    have y5 := A1.cell 5 _ rfl
    have R1 := O1.row HN.out
    clear O1
    go_wp2_with fail
    refine (SU.out _ _ _ _ R1 B1).mono ?_
    rintro r u2 ⟨rfl, b2⟩
    have bb := btr B1 b2
    clear b2 R1 A1 SU g1
    go_wp2_with fail
    go_ret
    exact ⟨rfl, bb⟩
  have hu' : ¬ (0 : Int) < m := by omega
  cases fo with
  | none =>
    rw [RN hu rfl]
    dsimp only [fndC, Option.getD] at FP
    clear RD RP RN PI FM SU
    cases f
    all_goals
      go_enter Tryz.func100, Tryz.ntmps100
      go_wp2_with fail
      generalize w.alloc (.cells #[.bool _, .slice a1 n1 c1, .slice a2 n2 c2, .string n, .int .i64 p, .int .i64 t] 60) = W0 at *
      refine US.mono ?_
      rintro r u1 ⟨xa, xn, xc, rfl, O1, b1⟩
      obtain rfl : xn = m := O1.len.trans HM.out
      have A1 := A0.on b1
      have B1 := btr b0 b1
      clear y0 y1 y2 y3 y4 y5 A0 b0 b1 US
      have y0 := A1.cell 0 _ rfl
      have y1 := A1.cell 1 _ rfl
      have y2 := A1.cell 2 _ rfl
      have y3 := A1.cell 3 _ rfl
      have y4 := A1.cell 4 _ rfl
      have y5 := A1.cell 5 _ rfl
      clear O1
      go_wp2_with fail
      refine (FP.out _ B1).mono ?_
      rintro r u2 ⟨rfl, b2⟩
      have B2 := bal (btr B1 b2) (.cells #[.int .i64 4, .string pin0.n, .int .i64 pin0.a, .int .i64 pin0.b, .int .i64 pin0.e, .int .i64 pin0.u] 48)
      have A2 := A1.on b2
      have lt2 := A2.lt (by simp)
      clear y0 y1 y2 y3 y4 y5 A1
      have y0 := A2.cell 0 _ rfl
      have y1 := A2.cell 1 _ rfl
      have y2 := A2.cell 2 _ rfl
      have y3 := A2.cell 3 _ rfl
      have y4 := A2.cell 4 _ rfl
      have y5 := A2.cell 5 _ rfl
      clear A2 b2 FP g1
      go_wp2_with fail
      go_ret
      exact ⟨rfl, B2⟩
  | some pp =>
    rw [RP pp hu rfl]
    have hpp := FM pp rfl
    dsimp only [fndC, Option.getD] at FP
    have PJ := PI.out pp hpp
    generalize pinReason pp p t = rs at *
    have HPJ := Lib.hid PJ
    clear RD RP RN FM SU PI PJ
    go_enter Tryz.func100, Tryz.ntmps100
    go_wp2_with fail
    generalize w.alloc (.cells #[.bool _, .slice a1 n1 c1, .slice a2 n2 c2, .string n, .int .i64 p, .int .i64 t] 60) = W0 at *
    refine US.mono ?_
    rintro r u1 ⟨xa, xn, xc, rfl, O1, b1⟩
    obtain rfl : xn = m := O1.len.trans HM.out
    have A1 := A0.on b1
    have B1 := btr b0 b1
    clear y0 y1 y2 y3 y4 y5 A0 b0 b1 US
    have y0 := A1.cell 0 _ rfl
    have y1 := A1.cell 1 _ rfl
    have y2 := A1.cell 2 _ rfl
    have y3 := A1.cell 3 _ rfl
    have y4 := A1.cell 4 _ rfl
    have y5 := A1.cell 5 _ rfl
    clear O1
    go_wp2_with fail
    refine (FP.out _ B1).mono ?_
    rintro r u2 ⟨rfl, b2⟩
    have B2 := bal (btr B1 b2) (.cells #[.int .i64 0, .string pp.n, .int .i64 pp.a, .int .i64 pp.b, .int .i64 pp.e, .int .i64 pp.u] 48)
    have A2 := A1.on b2
    have lt2 := A2.lt (by simp)
    clear y0 y1 y2 y3 y4 y5 A1
    have y0 := A2.cell 0 _ rfl
    have y1 := A2.cell 1 _ rfl
    have y2 := A2.cell 2 _ rfl
    have y3 := A2.cell 3 _ rfl
    have y4 := A2.cell 4 _ rfl
    have y5 := A2.cell 5 _ rfl
    clear A2 b2 FP g1
    go_wp2_with fail
    refine (HPJ.out _ B2).mono ?_
    rintro r u3 ⟨rfl, b3⟩
    have bb := btr B2 b3
    go_wp2_with fail
    go_ret
    exact ⟨rfl, bb⟩
set_option maxHeartbeats 2000000 in
theorem implDecide_any (a1 : Option Addr) (n1 c1 : Nat) (a2 : Option Addr) (n2 c2 B : Nat) (q : AskD) (w : World) (lab : Labels w) (hR : ARow w B a1 n1 c1 a2 n2 c2 q) (hB : B ≤ w.heap.size) :
    Calls Tryz.prog 37 #[A6 a1 n1 c1 a2 n2 c2 q] w fun r w' => r = .returned (Z3 (askF q) (decA q) (decR q)) ∧ Below w.heap.size w w' := by
  have b0 := bal (bal (Below.refl _ w) (.cells #[.bool q.first, .slice a1 n1 c1, .slice a2 n2 c2, .string q.n, .int .i64 q.p, .int .i64 q.t] 60)) (.cells #[.int .i64 0, .bool false, .int .i64 0] 63)
  have A0 : At w.heap.size (A6L a1 n1 c1 a2 n2 c2 q) ((w.alloc (.cells #[.bool q.first, .slice a1 n1 c1, .slice a2 n2 c2, .string q.n, .int .i64 q.p, .int .i64 q.t] 60)).alloc (.cells #[.int .i64 0, .bool false, .int .i64 0] 63)) := (At.new w (A6L a1 n1 c1 a2 n2 c2 q) 60).alloc _
  have R0 := At.new (w.alloc (.cells #[.bool q.first, .slice a1 n1 c1, .slice a2 n2 c2, .string q.n, .int .i64 q.p, .int .i64 q.t] 60)) [.int .i64 0, .bool false, .int .i64 0] 63
  rw [World.size_alloc] at R0
  have HR0 := Lib.hid (show At (w.heap.size + 1) [.int .i64 0, .bool false, .int .i64 0] ((w.alloc (.cells #[.bool q.first, .slice a1 n1 c1, .slice a2 n2 c2, .string q.n, .int .i64 q.p, .int .i64 q.t] 60)).alloc (.cells #[.int .i64 0, .bool false, .int .i64 0] 63)) from R0)
  have F := implAskFault_any a1 n1 c1 a2 n2 c2 B q _ (hR.below (b0.mono hB)) (Nat.le_trans hB b0.size)
  unfold A6L at A0
  have HA0 := Lib.hid A0
  have y0 := A0.cell 0 _ rfl
  have y1 := A0.cell 1 _ rfl
  have y2 := A0.cell 2 _ rfl
  have y3 := A0.cell 3 _ rfl
  have y4 := A0.cell 4 _ rfl
  have y5 := A0.cell 5 _ rfl
  clear R0 A0
  by_cases h0 : askF q = 0
  case neg =>
    rw [decA_no h0, decR_no h0]
    generalize askF q = c at *
    have g1 : (c != 0) = true := by simp [h0]
    have g0 : (c == 0) = false := by simpa using h0
    clear hR lab
    go_enter Tryz.func37, Tryz.ntmps37
    go_wp2_with fail
    generalize (w.alloc (.cells #[.bool q.first, .slice a1 n1 c1, .slice a2 n2 c2, .string q.n, .int .i64 q.p, .int .i64 q.t] 60)).alloc (.cells #[.int .i64 0, .bool false, .int .i64 0] 63) = W0 at *
    refine F.mono ?_
    rintro r u1 ⟨rfl, b1⟩
    have R1 := HR0.out.on b1
    have B1 := btr b0 b1
    have q0 := R1.cell 0 _ rfl
    have q1 := R1.cell 1 _ rfl
    have q2 := R1.cell 2 _ rfl
    have z0 := R1.free 0 _ rfl
    have z1 := R1.free 1 _ rfl
    have z2 := R1.free 2 _ rfl
    clear HA0 R1 HR0 y0 y1 y2 y3 y4 y5
    go_wp2_with fail
    refine bodyPost_ret (v := Z3 c false 0) (by simp [results, Tryz.results37, go_sem, q0, q1, q2]) rfl ⟨rfl, ?_⟩
    exact (by (iterate 3 (refine bset ?_ (by dsimp only; omega) _)); exact B1)
  rw [decA_yes h0, decR_yes h0]
  have RR := Lib.hid (fun (w1 : World) (h : Below w.heap.size w w1) => reasonOf_any a1 n1 c1 a2 n2 c2 B q w1 (lab.on h) (hR.below (h.mono hB)) (Nat.le_trans hB h.size) h0)
  rw [h0] at F ⊢
  generalize reason q = rs at *
  have AC := fun w => implIsAccept_any rs w
  generalize acceptB rs = ab at *
  clear hR h0 lab
  go_enter Tryz.func37, Tryz.ntmps37
  go_wp2_with fail
  generalize (w.alloc (.cells #[.bool q.first, .slice a1 n1 c1, .slice a2 n2 c2, .string q.n, .int .i64 q.p, .int .i64 q.t] 60)).alloc (.cells #[.int .i64 0, .bool false, .int .i64 0] 63) = W0 at *
  refine F.mono ?_
  rintro r u1 ⟨rfl, b1⟩
  have A1 := HA0.out.on b1
  clear y0 y1 y2 y3 y4 y5
  have y0 := A1.cell 0 _ rfl
  have y1 := A1.cell 1 _ rfl
  have y2 := A1.cell 2 _ rfl
  have y3 := A1.cell 3 _ rfl
  have y4 := A1.cell 4 _ rfl
  have y5 := A1.cell 5 _ rfl
  go_wp2_with fail
  refine (RR.out _ (btr b0 b1)).mono ?_
  rintro r u2 ⟨rfl, b2⟩
  clear y0 y1 y2 y3 y4 y5
  go_wp2_with fail
  refine (AC _).mono ?_
  rintro r u3 ⟨rfl, rfl⟩
  have R1 := HR0.out.on (btr b1 b2)
  have B1 := btr b0 (btr b1 b2)
  have q0 := R1.cell 0 _ rfl
  have q1 := R1.cell 1 _ rfl
  have q2 := R1.cell 2 _ rfl
  have z0 := R1.free 0 _ rfl
  have z1 := R1.free 1 _ rfl
  have z2 := R1.free 2 _ rfl
  clear HA0 R1 HR0 F RR AC A1
  go_wp2_with fail
  refine bodyPost_ret (v := Z3 0 ab rs) (by simp [results, Tryz.results37, go_sem, q0, q1, q2]) rfl ⟨rfl, ?_⟩
  exact (by (iterate 3 (refine bset ?_ (by dsimp only; omega) _)); exact B1)
end Go.Proofs.YtcolecidbalmhaaGreatDoor
namespace Go.Proofs.YtcolecidbalmhaaGreatDoor.Facts
set_option maxRecDepth 100000

theorem laidOut : laidOutB Tryz.prog = true := by kernel_rfl
theorem mapsRowed : mapsRowed Tryz.prog = true := by kernel_rfl
theorem stopsHeard : Tryz.prog.stopsHeard = true := by kernel_rfl
theorem mayEnter : Tryz.prog.mayEnter = true := by kernel_rfl
theorem plainKeys : (false == Tryz.prog.plainKeys) = true := by kernel_rfl
theorem liftsFinal : (false == Tryz.prog.liftsFinal) = true := by kernel_rfl
theorem make : (Tryz.prog.make == some Make.cut) = true := by kernel_rfl

theorem joined_of {P : Program} {f : FuncId} {fn : Func} {s : ChangeSpec} {c : OpenClaim}
    (g2 : laidOutB P = true) (g3 : Go.mapsRowed P = true) (g4 : P.stopsHeard = true) (g5 : P.mayEnter = true)
    (h1 : c.wf (OpenSpec.ofChange s) = true) (h4 : fn.params.all (P.readableRec ·) = true) (h5 : namedTie P c.named s.vars = true)
    (h6 : (c.stops == []) = true) (h7 : (P.stops == []) = true) (h8 : (c.knobs == []) = true) (h9 : (P.stopKnobs == []) = true)
    (h10 : c.inPlace = P.inPlace f) (h11 : c.unfollowed = P.unfollowed f) (h12 : c.recurses = P.recurses f) (h13 : c.named = P.varsNamed f)
    (h14 : (c.maps == (fn.params.toList ++ s.plain.varTypes P).any (P.mapsRec ·)) = true) (h15 : (c.ifaces == (fn.params.toList ++ s.plain.varTypes P).any (P.ifacesRec ·)) = true) (h16 : (c.mapsOut == P.mapsAmong fn.resultTypes.toList) = true)
    (h17 : (c.loops == (fn.params.toList ++ s.plain.varTypes P).any (P.loopsFrom ·)) = true) (h18 : (c.wideKeys == (fn.params.toList ++ s.plain.varTypes P ++ fn.resultTypes.toList).any (P.wideKeysFrom ·)) = true)
    (h19 : s.vars.all (P.varReadable ·) = true) (h20 : fn.resultTypes.all (fun t => P.readableRec t && decide (t < P.types.size)) = true) (h21 : (c.ifacesOut == fn.resultTypes.toList.any (P.ifacesRec ·)) = true) (h22 : (c.loopsOut == fn.resultTypes.toList.any (P.loopsFrom ·)) = true)
    (h23 : (c.plainKeys == P.plainKeys) = true) (h24 : c.shortTexts.isNone = true) (h25 : (c.lifted == P.liftsFinal) = true) (h26 : (P.make == some c.make) = true)
    (h27 : (c.kinds == (if c.domain.isEmpty then [] else fn.params.toList.map fun t => match P.underlying t with | some (.int k) => some k | _ => none)) = true) (h28 : (c.pinned == c.pinnedBy) = true)
    (h29 : (c.veiled == (fn.params.toList ++ s.plain.varTypes P ++ fn.resultTypes.toList).any (P.veiledRec ·)) = true) (h30 : c.veiledFits P fn.params.toList (fn.params.toList ++ s.plain.varTypes P ++ fn.resultTypes.toList) = true) :
    joinedFacts P f fn s c = true := by
  have g10 : (c.inPlace == P.inPlace f) = true := by rw [h10]; simp
  have g11 : (c.unfollowed == P.unfollowed f) = true := by rw [h11]; simp
  have g12 : (c.recurses == P.recurses f) = true := by rw [h12]; simp
  have g13 : (c.named == P.varsNamed f) = true := by rw [h13]; simp
  unfold joinedFacts
  simp only [Bool.and_eq_true]
  exact ⟨⟨⟨⟨⟨⟨⟨⟨⟨⟨⟨⟨⟨⟨⟨⟨⟨⟨⟨⟨⟨⟨⟨⟨⟨⟨⟨⟨⟨⟨⟨h1, g2⟩, g3⟩, h4⟩, h5⟩, h6⟩, h7⟩, h8⟩, h9⟩, g10⟩, g11⟩, g12⟩, g13⟩, h14⟩, h15⟩, h16⟩, h17⟩, h18⟩, h19⟩, h20⟩, h21⟩, h22⟩, h23⟩, h24⟩, g4⟩, g5⟩, h25⟩, h26⟩, h27⟩, h28⟩, h29⟩, h30⟩
end Go.Proofs.YtcolecidbalmhaaGreatDoor.Facts
namespace Go.Proofs.YtcolecidbalmhaaGreatDoor
open Go.RowKit Go.Extern.Stop Go.Stop Go.Extern

/-- The variable errors.errorType holds the handle of the type 'error'. -/
structure ErrT (w : World) : Prop where
  cell : w.cell? ⟨2, 0, none⟩ = some (.iface 320 (.agg #[.pointer (some ⟨7, 200, none⟩)]))
theorem ErrT.on {w w' : World} (h : ErrT w) (hb : Below w.heap.size w w') : ErrT w' := ⟨cell_keep hb h.cell⟩
theorem ErrT.lt {w : World} (h : ErrT w) : 2 < w.heap.size := cell_lt h.cell

/-- An error of what does not fit. -/
abbrev misV (c : Int) (s : ByteArray) : Value := .iface 249 (.agg #[.int .i64 c, .string s])
abbrev hdl (t : Nat) : Value := .pointer (some ⟨7, t, none⟩)
abbrev rval (t : Nat) (a : Addr) (f : Int) : Value := .agg #[hdl t, .pointer (some a), .int .u64 f]

end Go.Proofs.YtcolecidbalmhaaGreatDoor
namespace Go.Proofs.YtcolecidbalmhaaGreatDoor
open Go.ChangeShapes Go.WideShapes Go.ChangeAt Go.RowKit

theorem own : ownKnob Tryz.prog.godebug = none := by kernel_rfl
theorem laidOut : laidOutB Tryz.prog = true := by kernel_rfl

/-- Each named variable is there, and its type can be read. -/
def varsOk (P : Program) (names : List String) : Bool :=
  names.all fun n => match P.globalNamed n with
    | some g => match (P.globals[g]?).map (·.type) with
      | some t => P.readableRec t && decide (t < P.types.size)
      | Option.none => false
    | Option.none => false
theorem vars_keep {H : Type} {enc : TypeId × Value → H} {P : Program} (hl : laidOutB P = true) {W W' : World} (bel : Below W.heap.size W W') : ∀ (names : List String) (gs : List (DataW H)) (q : List MemPlace),
    varsOk P names = true → DataW.TrodVars enc P W (fun _ => true) names gs q → (∀ x ∈ q, x.block < W.heap.size) → DataW.TrodVars enc P W' (fun b => decide (b < W.heap.size)) names gs q
  | [], gs, q, _, h, _ => by
    obtain ⟨rfl, rfl⟩ := trodVars_none h
    exact rfl
  | n :: r, [], q, _, h, _ => by simp [DataW.TrodVars] at h
  | n :: r, d :: ds, q, hok, h, hlt => by
    obtain ⟨g, t, cs, fuel, p, q2, h1, h2, h3, h4, h5, rfl⟩ := h
    simp only [varsOk, List.all_cons, Bool.and_eq_true] at hok
    obtain ⟨ho, hor⟩ := hok
    simp only [h1, h2, Bool.and_eq_true, decide_eq_true_eq] at ho
    have hg : g < W.heap.size := by
      rcases Nat.lt_or_ge g W.heap.size with hlt | hge
      · exact hlt
      · simp [World.var?, h1, Array.getElem?_eq_none hge] at h3
    have hT : DataW.Trod enc P W 0 (fun _ => true) true t (.agg cs) d p := ⟨fuel, h4⟩
    obtain ⟨fuel', h4'⟩ := Below.trod hl ho.1 ho.2 hT bel (fun x hx => hlt x (by simp [hx]))
    exact ⟨g, t, cs, fuel', p, q2, h1, h2, var?_below bel h1 hg h3, h4', vars_keep hl bel r ds q2 hor h5 (fun x hx => hlt x (by simp [hx])), rfl⟩

/-- An array of words that reads as it is listed holds these words, cell for cell. -/
theorem cells_of_words {H : Type} {enc : TypeId × Value → H} {P : Program} {w : World} {base : Nat} {sp : Nat → Bool} {held : Bool} {fuel : Nat} {t e : TypeId} {n : Nat} {cs : List Value} {ss : List (List UInt8)} {p : List MemPlace}
    (ht : P.underlying t = some (.array n e)) (he : P.underlying e = some .string) (hce : P.cellsOf e = 1) (hct : P.cellsOf t = n)
    (h : DataW.trod enc P w base sp held fuel t cs = some (.agg (ss.map fun s => .lit (.string s)), p)) : cs = ss.map fun s => Value.string ⟨s.toArray⟩ := by
  cases fuel with
  | zero => simp [DataW.trod] at h
  | succ fuel =>
    simp only [DataW.trod, ht, hce, hct, Nat.mul_one] at h
    split at h
    · rename_i hl
      obtain ⟨xs, hm, hx⟩ := Option.map_eq_some_iff.1 h
      have hxs : xs.map (·.1) = ss.map fun s => (DataW.lit (.string s) : DataW H) := by
        have := congrArg Prod.fst hx
        simpa using this
      have hxl : xs.length = n := by simpa using Lib.mapM_length hm
      have hzl : ss.length = n := by
        have := congrArg List.length hxs
        simp at this
        omega
      apply List.ext_getElem?
      intro i
      by_cases hi : i < n
      · obtain ⟨b, hb, hf⟩ := Lib.mapM_at hm i i (by simp [hi])
        obtain ⟨s, hc, rfl, _⟩ := DataW.trod_string he hf
        have h1 : cs[i]? = some (.string s) := by
          have := congrArg (·[0]?) hc
          simpa [List.getElem?_take, List.getElem?_drop] using this
        have h2 : (xs.map (·.1))[i]? = some (DataW.lit (.string s.data.toList) : DataW H) := by simp [hb]
        rw [hxs] at h2
        simp only [List.getElem?_map, Option.map_eq_some_iff, DataW.lit.injEq, Lit.string.injEq] at h2
        obtain ⟨z', hz', e'⟩ := h2
        rw [h1]
        simp [hz', e']
      · rw [List.getElem?_eq_none (by omega), List.getElem?_eq_none (by simp; omega)]
    · cases h

theorem gLabels : Tryz.prog.globalNamed "loop.example/g00618/impl.labels" = some 1 := by kernel_rfl
theorem gLabelsType : (Tryz.prog.globals[1]?).map (·.type) = some 284 := by kernel_rfl
theorem cLabels : Tryz.prog.cellsOf 284 = 8 := by kernel_rfl
theorem cWord : Tryz.prog.cellsOf 9 = 1 := by kernel_rfl
/-- A world for the witness: the settled one, its tables holding what their initialisers lay. -/
noncomputable def laidWorld (os : Os) : World :=
  { World.holding Tryz.prog os ⟨#[], #[], []⟩ with heap := ((World.holding Tryz.prog os ⟨#[], #[], []⟩).heap
       |>.modify 1 (fun | .cells _ t frozen => .cells #[.string M.streamS, .string M.heardS, .string M.nonceS, .string M.signS, .string M.macS, .string M.sealS, .string M.spkiS, .string M.rollS] t frozen | o => o)
       |>.modify 2 (fun | .cells _ t frozen => .cells #[.iface 320 (.agg #[.pointer (some ⟨7, 200, none⟩)])] t frozen | o => o)
    ) }
end Go.Proofs.YtcolecidbalmhaaGreatDoor
namespace Go.Proofs.YtcolecidbalmhaaGreatDoor
open Go.ChangeShapes Go.WideShapes Go.ChangeAt Go.RowKit

/-- What the rows list: with the labels (the variable at block 1). -/
def listL : List (String × DataW Unit) := [("unicode/utf8.acceptRanges", Rows.laid_unicode_utf8_acceptRanges), ("loop.example/g00618/impl.labels", Rows.laid_loop_example_g00618_impl_labels), ("unicode.CaseRanges", Rows.laid_unicode_CaseRanges), ("unicode/utf8.first", Rows.laid_unicode_utf8_first)]
/-- Without them. -/
def listN : List (String × DataW Unit) := [("unicode/utf8.acceptRanges", Rows.laid_unicode_utf8_acceptRanges), ("unicode.CaseRanges", Rows.laid_unicode_CaseRanges), ("unicode/utf8.first", Rows.laid_unicode_utf8_first)]

theorem laid_mem {P : Program} {w : World} : ∀ (l : List (String × DataW Unit)) (ps : List MemPlace), DataW.LaidVars P w l ps → ∀ n d, (n, d) ∈ l →
    ∃ g t cs fuel p, P.globalNamed n = some g ∧ (P.globals[g]?).map (·.type) = some t ∧ w.var? P n = some cs ∧ DataW.trod (fun _ => ()) P w 0 (fun _ => true) false fuel t cs.toList = some (d, p)
  | [], _, _, n, d, h => by cases h
  | (n', d') :: r, ps, ⟨g, t, cs, fuel, p, q, h1, h2, h3, h4, h5, _⟩, n, d, h => by
    rcases List.mem_cons.1 h with e | h
    · injection e with e1 e2
      subst e1
      subst e2
      exact ⟨g, t, cs, fuel, p, h1, h2, h3, h4⟩
    · exact laid_mem r q h5 n d h
theorem Labels_tabs {W : World} (h : laidMetH Tryz.prog listL W) : Labels W := by
  rw [MakeChecks.laidMetH_plain _ _ _ (by kernel_rfl)] at h
  obtain ⟨ps, hv, _⟩ := h
  obtain ⟨g, t, cs, fuel, p, hg, ht, hvar, hd⟩ := laid_mem _ _ hv "loop.example/g00618/impl.labels" Rows.laid_loop_example_g00618_impl_labels (List.mem_cons_of_mem _ (List.mem_cons_self ..))
  obtain rfl := Option.some.inj (gLabels.symm.trans hg)
  obtain rfl := Option.some.inj (gLabelsType.symm.trans ht)
  have e := cells_of_words (ss := [[115, 116, 114, 101, 97, 109], [104, 101, 97, 114, 100], [110, 111, 110, 99, 101], [115, 105, 103, 110], [109, 97, 99], [115, 101, 97, 108], [115, 112, 107, 105], [114, 111, 108, 108]]) Tryz.underlying284 Tryz.underlying9 cWord cLabels hd
  have c := fun i => World.var?_cell hg hvar i
  have a0 : cs[0]? = some (.string M.streamS) := by rw [← Array.getElem?_toList, e]; rfl
  have a1 : cs[1]? = some (.string M.heardS) := by rw [← Array.getElem?_toList, e]; rfl
  have a2 : cs[2]? = some (.string M.nonceS) := by rw [← Array.getElem?_toList, e]; rfl
  have a3 : cs[3]? = some (.string M.signS) := by rw [← Array.getElem?_toList, e]; rfl
  have a4 : cs[4]? = some (.string M.macS) := by rw [← Array.getElem?_toList, e]; rfl
  have a5 : cs[5]? = some (.string M.sealS) := by rw [← Array.getElem?_toList, e]; rfl
  have a6 : cs[6]? = some (.string M.spkiS) := by rw [← Array.getElem?_toList, e]; rfl
  have a7 : cs[7]? = some (.string M.rollS) := by rw [← Array.getElem?_toList, e]; rfl
  exact ⟨(c 0).trans a0, (c 1).trans a1, (c 2).trans a2, (c 3).trans a3, (c 4).trans a4, (c 5).trans a5, (c 6).trans a6, (c 7).trans a7⟩

theorem witness_tabs {H : Type} {enc : TypeId × Value → H} {C : Checked} {os : Os} {f : FuncId} {fn : Func} {s : OpenSpec} {conds : List PathCond} {apart : Bool} {laid : List (String × DataW Unit)} (modest : Bool) (w0 : World) (args : Array Value) (hos : w0.os = os)
    (hsh : (w0.forCall (fun _ _ => 0) ⟨#[], args, []⟩).Shaped C.prog)
    (hok : Input.okWideB C.prog (w0.forCall (fun _ _ => 0) ⟨#[], args, []⟩) f ⟨#[], args, []⟩ = true)
    (hrow : s.preRow enc C.prog fn conds apart laid (w0.forCall (fun _ _ => 0) ⟨#[], args, []⟩).memory args) :
    ∃ (w : World) (tape : Tape) (i : Input), w.os = os ∧ (w.forCall tape i).Shaped C.prog ∧ i.vars = [] ∧ Input.okWide C.prog (w.forCall tape i) .any w.heap.size f i ∧
      s.preRow enc C.prog fn conds apart laid (w.forCall tape i).memory i.args ∧ ({ modest := modest } : Assume).holds C.prog (lone (Frame.enter C.prog f i.args .normal) [] (w.forCall tape i)) :=
  ⟨w0, fun _ _ => 0, ⟨#[], args, []⟩, hos, hsh, (Input.okWide_of_okWideB (base := 0) hok).1, (Input.okWide_of_okWideB hok).2, hrow, by
    simp only [Assume.holds]
    exact ⟨by simp, by simp, fun _ => Modest.zero, by simp, by simp⟩⟩

theorem shapedL (os : Os) (args : Array Value) : ((World.laidAll Tryz.prog os listL).forCall (fun _ _ => 0) ⟨#[], args, []⟩).Shaped Tryz.prog := World.shaped_of_ZipB (by kernel_rfl) (by kernel_rfl)
theorem metL (os : Os) (args : Array Value) : laidMetH Tryz.prog listL ((World.laidAll Tryz.prog os listL).forCall (fun _ _ => 0) ⟨#[], args, []⟩).memory := by
  rw [MakeChecks.laidMetH_plain _ _ _ (by kernel_rfl)]
  exact laidMet_laidAll _ (by kernel_rfl) (by kernel_rfl)

end Go.Proofs.YtcolecidbalmhaaGreatDoor
