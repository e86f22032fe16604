/- Texts of this seat that several laws rest on, laid into one. Conditions: as each theorem states. -/
import Derived.Test.YtcolecidbalmhaaGreatDoorS0
import Derived.Test.YtcolecidbalmhaaGreatDoorS2
import Derived.Test.YtcolecidbalmhaaGreatDoorS3
import Derived.Lib.IndexBytes
import Derived.Test.YtcolecidbalmhaaGreatDoorProg
import Derived.Shelf.Strings.OnBuilder
import Derived.Shelf.Strings.Prefix
namespace Go.Proofs.YtcolecidbalmhaaGreatDoor
open Go.RowKit
set_option maxRecDepth 100000
set_option linter.unusedVariables false

theorem str_info : (Tryz.prog.info? 9).map (fun i => (i.zero, i.size, i.bytes)) = some (some (.string ByteArray.empty), 1, 16) := by kernel_rfl

/-- A slice of texts that the call made. -/
def OwnS (w : World) (B : Nat) (v : Value) (ps : List (List UInt8)) : Prop := Own w B 1 v ps.length (ps.map fun p => Value.string (M.bs p))
/-- While a text is cut. -/
inductive CutRel (W : World) (s : ByteArray) (v fv : Value) (k : Nat) (wr : World) : Prop
  | on (done : List (List UInt8)) (f : Nat) : fv = .int .i64 f → M.CutAt s.data.toList done f k → OwnS wr W.heap.size v done → Below W.heap.size W wr → CutRel W s v fv k wr
  | off (f : Nat) : fv = .int .i64 f → k = s.size + 1 → OwnS wr W.heap.size v (M.cutL [] s.data.toList) → Below W.heap.size W wr → CutRel W s v fv k wr

theorem own_more {W wr w2 : World} {v v2 : Value} {done : List (List UInt8)} {p : List UInt8} {x : ByteArray} {o : Obj} (ho : OwnS wr W.heap.size v done) (hb : Below W.heap.size W wr) (hx : x = M.bs p)
    (hown : Own w2 W.heap.size 1 v2 (done.length + 1) (done.map (fun p => Value.string (M.bs p)) ++ [.string x])) (hg : (wr.alloc o).grownBy w2 v.ownBlock) : OwnS w2 W.heap.size v2 (done ++ [p]) ∧ Below W.heap.size W w2 := by
  have hsz := hb.size
  refine ⟨?_, (Own.alloc ho o).grown (bal hb o) (by simp; omega) hg⟩
  unfold OwnS
  rw [hx] at hown
  simpa using hown

def CutMade (s : ByteArray) (w : World) (r : Ending) (w' : World) : Prop := ∃ a n c, r = .returned (.slice a n c) ∧ OwnS w' w.heap.size (.slice a n c) (M.cutL [] s.data.toList) ∧ Below w.heap.size w w'

theorem l1Cut_any (s : ByteArray) (w : World) (hs : s.size ≤ 20) :
    Calls Tryz.prog 172 #[.string s, .int .u8 46] w (CutMade s w) := by
  obtain ⟨i0, hi0, hz0, hz1, hz2⟩ := info_parts str_info
  have hL : s.data.toList.length = s.size := by simp
  have T0 : CutRel w s (.slice (some ⟨w.heap.size, 0, none⟩) 0 0) (.int .i64 0) 0 (w.alloc (.cells #[] 9)) :=
    .on [] 0 rfl (M.CutAt.zero _) (own_empty w 9) (bal (Below.refl _ _) _)
  have h1 : ∀ x : ByteArray, ∀ u ∈ [Value.string x], u.oneCell' = true := fun x u hu => by simp at hu; subst hu; rfl
  go_enter Tryz.func172, Tryz.ntmps172
  go_wp2_with fail
  generalize w.alloc (.cells #[] 9) = W1 at *
  go_loopw [5, 6, 7] (fun v f i wr => ∃ k : Nat, k ≤ s.size + 1 ∧ i = .int .i64 k ∧ CutRel w s v f k wr) (fun _ _ i _ => s.size + 1 - (intOf i).toNat)
  case atStart => exact ⟨0, Nat.zero_le _, rfl, T0⟩
  case round =>
    obtain ⟨k, hk, rfl, hT⟩ := hrel
    rcases hT with ⟨done, f, rfl, hc, ho, hb⟩ | ⟨f, rfl, rfl, ho, hb⟩
    · have hfk := hc.1
      have hkl := hc.2.1
      rw [hL] at hkl
      have hdl := hc.done_le
      rw [hL] at hdl
      have hsz := hb.size
      by_cases hlt : k < s.size
      · have hbyte : s.data.toList[k]? = some s[k] := Lib.data_getElem? s k hlt
        have hne : ((k : Int) == (s.size : Int)) = false := by simp; omega
        cases hd : M.dotB s[k]
        · have hq := Lib.hid (hc.next hbyte hd)
          have hd' : ((s[k].toNat : Int) == 46) = false := by simpa [M.dotB] using hd
          clear hbyte hd hc hL
          have HO := Lib.hid (And.intro ho hb)
          clear ho hb
          go_wp2_with fail
          go_roundw
          case rel => exact ⟨k + 1, by omega, by go_num, .on done f rfl hq.out HO.out.1 HO.out.2⟩
          case measure => simp [intOf]; omega
        · have hq := Lib.hid (hc.cut hbyte hd)
          have hd' : ((s[k].toNat : Int) == 46) = true := by simpa [M.dotB] using hd
          clear hbyte hd hc hL
          go_wp2_with (at_builtin; refine wpList_append_src _ rfl (.tmp 26) (.tmp 31) 217 217 rfl w.heap.size 9 i0 (.string ByteArray.empty) 1 16 Tryz.underlying217 hi0 hz0 hz1 hz2 rfl _ _ _ rfl (Own.alloc ho _) _ 1 [.string (s.extract f k)] rfl (src_new wr _ 1 1 _ _ _ Tryz.underlying217 rfl (h1 _)) (by simp only [maxLen]; omega) (by omega) (by simp; omega) ?_; intro v2 w2 hown hgrow hat)
          have T3 := own_more ho hb (M.bs_extract s f k) hown hgrow
          clear hown hgrow hat ho hb
          go_wp2_with fail
          go_roundw
          case rel => exact ⟨k + 1, by omega, by go_num, .on _ (k + 1) (by go_num) hq.out T3.1 T3.2⟩
          case measure => simp [intOf]; omega
      · obtain rfl : k = s.size := by omega
        have hq := hc
        rw [← hL] at hq
        have HQ := Lib.hid hq.last
        clear hc hL hq
        go_wp2_with (at_builtin; refine wpList_append_src _ rfl (.tmp 26) (.tmp 31) 217 217 rfl w.heap.size 9 i0 (.string ByteArray.empty) 1 16 Tryz.underlying217 hi0 hz0 hz1 hz2 rfl _ _ _ rfl (Own.alloc ho _) _ 1 [.string (s.extract f s.size)] rfl (src_new wr _ 1 1 _ _ _ Tryz.underlying217 rfl (h1 _)) (by simp only [maxLen]; omega) (by omega) (by simp; omega) ?_; intro v2 w2 hown hgrow hat)
        have T3 := own_more ho hb (M.bs_extract s f s.size) hown hgrow
        clear hown hgrow hat ho hb
        go_wp2_with fail
        go_roundw
        case rel => exact ⟨s.size + 1, by omega, by go_num, .off (s.size + 1) (by go_num) rfl (by rw [HQ.out]; simpa using T3.1) T3.2⟩
        case measure => simp [intOf]
    · obtain ⟨a, c, hv, -⟩ := Own.form ho
      subst hv
      go_wp2_with fail
      go_ret
      exact ⟨_, _, _, rfl, ho, hb⟩

theorem OwnS.at {w : World} {B : Nat} {a : Option Addr} {n c : Nat} {ps : List (List UInt8)} (h : OwnS w B (.slice a n c) ps) {j : Nat} {p : List UInt8} (hp : ps[j]? = some p) :
    n = ps.length ∧ n ≤ c ∧ c ≤ maxLen ∧ ∃ g, a = some ⟨g, 0, none⟩ ∧ w.cell? ⟨g, j, none⟩ = some (.string (M.bs p)) := by
  have hj := (List.getElem?_eq_some_iff.1 hp).1
  rcases h.2 with ⟨e, h0⟩ | ⟨g, c', e, hB, hg, h1, h2, hc, hr⟩
  · omega
  · injection e with e1 e2 e3
    subst e1
    subst e3
    refine ⟨e2, by omega, h2, g, rfl, hc j _ ?_⟩
    rw [List.getElem?_map, hp]
    rfl
theorem OwnS.len {w : World} {B : Nat} {a : Option Addr} {n c : Nat} {ps : List (List UInt8)} (h : OwnS w B (.slice a n c) ps) : n = ps.length := by
  rcases h.2 with ⟨e, h0⟩ | ⟨g, c', e, _⟩
  · injection e with e1 e2 e3
    omega
  · injection e

theorem l5Fault_any (s : ByteArray) (w : World) (hs : s.size ≤ maxLen) :
    Calls Tryz.prog 105 #[.string s] w fun e w' => e = .returned (.int .i64 (M.nameF s.data.toList)) ∧ Below w.heap.size w w' := by
  have hL : s.data.toList.length = s.size := by simp
  have hm := hs
  unfold maxLen at hs
  by_cases h : 20 < s.size
  · have HE := Lib.hid (M.nameF_long (l := s.data.toList) (by omega))
    have h' : (20 : Int) < s.size := by omega
    go_enter Tryz.func105, Tryz.ntmps105
    go_wp2_with fail
    go_ret
    exact ⟨ret_int HE.out.symm, Below.refl _ _⟩
  have h' : ¬ (20 : Int) < s.size := by omega
  have hbl := M.bare_length s.data.toList
  have C1 : ∀ w, Calls Tryz.prog 172 #[.string (M.bs (M.bare s.data.toList)), .int .u8 46] w fun r w' => ∃ a n c, r = .returned (.slice a n c) ∧ OwnS w' w.heap.size (.slice a n c) (M.cutL [] (M.bare s.data.toList)) ∧ Below w.heap.size w w' :=
    fun w => (l1Cut_any (M.bs (M.bare s.data.toList)) w (by rw [M.bs_size]; omega)).mono fun r w' h => by
      unfold CutMade at h
      rwa [M.bs_list] at h
  have HE := Lib.hid (show M.nameF s.data.toList = if (M.cutL [] (M.bare s.data.toList)).all M.partB then 0 else 5 by
    unfold M.nameF
    rw [if_neg (by omega), M.hasP_eq])
  have HP := Lib.hid (M.cutL_part (M.bare s.data.toList) [])
  have hn0 := M.cutL_length (M.bare s.data.toList) []
  obtain ⟨ps, hps⟩ : ∃ ps, ps = M.cutL [] (M.bare s.data.toList) := ⟨_, rfl⟩
  simp only [← hps] at C1 HE HP hn0
  clear hps
  go_enter Tryz.func105, Tryz.ntmps105
  go_wp2_with fail
  refine (l5Bare_any s _ hm).mono ?_
  rintro r w' ⟨rfl, rfl⟩
  go_wp2_with fail
  refine (C1 _).mono ?_
  rintro r w1 ⟨a, n, c, rfl, ho, hb⟩
  clear C1
  obtain rfl := ho.len
  go_wp2_with fail
  go_loop [4] (fun i => ∃ k : Nat, k ≤ ps.length ∧ i = .int .i64 k ∧ Hid ((ps.take k).all M.partB = true)) (fun i => ps.length - (intOf i).toNat)
  case atStart => exact ⟨0, Nat.zero_le _, rfl, Lib.hid (by simp)⟩
  case round =>
    obtain ⟨k, hk, rfl, hall⟩ := hrel
    by_cases hlt : k < ps.length
    · obtain ⟨p, hp⟩ : ∃ p, ps[k]? = some p := ⟨ps[k], by simp [hlt]⟩
      obtain ⟨-, hnc, hcm, g, rfl, hcell⟩ := ho.at hp
      have hpl := HP.out p (List.mem_of_getElem? hp)
      have F := fun w => l5Part_any (M.bs p) w (by rw [M.bs_size]; simp only [maxLen]; simp at hpl; omega)
      simp only [M.bs_list] at F
      unfold maxLen at hcm
      cases hb2 : M.partB p
      · have HN : Hid (ps.all M.partB = false) := Lib.hid (by
          rw [List.all_eq_false]
          exact ⟨p, List.mem_of_getElem? hp, by simp [hb2]⟩)
        simp only [hb2] at F
        clear hp hpl
        go_wp2_with fail
        refine (F _).mono ?_
        rintro r w' ⟨rfl, rfl⟩
        go_wp2_with fail
        go_ret
        exact ⟨ret_int (by rw [HE.out, HN.out]; rfl), hb⟩
      · have HN : Hid ((ps.take (k + 1)).all M.partB = true) := Lib.hid (by
          rw [List.take_add_one, hp, List.all_append, hall.out]
          simp [hb2])
        simp only [hb2] at F
        clear hp hpl
        go_wp2_with fail
        refine (F _).mono ?_
        rintro r w' ⟨rfl, rfl⟩
        go_wp2_with fail
        go_round
        case rel => exact ⟨k + 1, by omega, by go_num, HN⟩
        case measure => simp [intOf]; omega
    · obtain rfl : k = ps.length := by omega
      go_wp2_with fail
      go_ret
      exact ⟨ret_int (by rw [HE.out, show ps.all M.partB = true by have := hall.out; rwa [List.take_length] at this]; rfl), hb⟩
end Go.Proofs.YtcolecidbalmhaaGreatDoor
namespace Go.Proofs.YtcolecidbalmhaaGreatDoor
open Go.Shelf
def lays159_ren : Go.Shelf.Ren := ⟨fun | 159 => 154 | 165 => 209 | 166 => 210 | 167 => 211 | 169 => 212 | 230 => 213 | 204 => 214 | 240 => 248 | 241 => 249 | 197 => 250 | 118 => 251 | 168 => 252 | 270 => 253 | 262 => 254 | 276 => 269 | 277 => 270 | 260 => 271 | 242 => 272 | 313 => 273 | 278 => 284 | 274 => 285 | 275 => 286 | n => n, fun | 9 => 9 | 4 => 4 | 3 => 3 | 5 => 5 | 72 => 264 | 0 => 0 | 76 => 266 | 75 => 200 | 107 => 271 | 70 => 262 | 20 => 20 | 37 => 22 | 127 => 307 | 21 => 21 | 105 => 308 | 164 => 291 | 162 => 337 | 203 => 335 | 119 => 349 | 46 => 234 | 139 => 352 | 138 => 351 | 51 => 188 | 160 => 353 | 208 => 365 | 206 => 363 | 80 => 269 | n => n, fun | 13 => 4 | 3 => 5 | 4 => 6 | n => n⟩
theorem lays159 : Go.Proofs.Lays.n159 Tryz.prog lays159_ren := {
  mixed := by kernel_rfl
  f118 := Tryz.func251.trans (congrArg some (by kernel_rfl))
  f159 := Tryz.func154.trans (congrArg some (by kernel_rfl))
  f165 := Tryz.func209.trans (congrArg some (by kernel_rfl))
  f166 := Tryz.func210.trans (congrArg some (by kernel_rfl))
  f167 := Tryz.func211.trans (congrArg some (by kernel_rfl))
  f168 := Tryz.func252.trans (congrArg some (by kernel_rfl))
  f169 := Tryz.func212.trans (congrArg some (by kernel_rfl))
  f197 := Tryz.func250.trans (congrArg some (by kernel_rfl))
  f204 := Tryz.func214.trans (congrArg some (by kernel_rfl))
  f230 := Tryz.func213.trans (congrArg some (by kernel_rfl))
  f240 := Tryz.func248.trans (congrArg some (by kernel_rfl))
  f241 := Tryz.func249.trans (congrArg some (by kernel_rfl))
  f242 := Tryz.func272.trans (congrArg some (by kernel_rfl))
  f260 := Tryz.func271.trans (congrArg some (by kernel_rfl))
  f262 := Tryz.func254.trans (congrArg some (by kernel_rfl))
  f270 := Tryz.func253.trans (congrArg some (by kernel_rfl))
  f274 := Tryz.func285.trans (congrArg some (by kernel_rfl))
  f275 := Tryz.func286.trans (congrArg some (by kernel_rfl))
  f276 := Tryz.func269.trans (congrArg some (by kernel_rfl))
  f277 := Tryz.func270.trans (congrArg some (by kernel_rfl))
  f278 := Tryz.func284.trans (congrArg some (by kernel_rfl))
  f313 := Tryz.func273.trans (congrArg some (by kernel_rfl))
  t0 := Tryz.underlying0
  a0 := Tryz.isAgg0
  z0 := Tryz.sizeOf0
  v0 := Tryz.zeroValue0
  t3 := Tryz.underlying3
  a3 := Tryz.isAgg3
  z3 := Tryz.sizeOf3
  v3 := Tryz.zeroValue3
  t4 := Tryz.underlying4
  a4 := Tryz.isAgg4
  z4 := Tryz.sizeOf4
  v4 := Tryz.zeroValue4
  t5 := Tryz.underlying5
  a5 := Tryz.isAgg5
  z5 := Tryz.sizeOf5
  v5 := Tryz.zeroValue5
  t9 := Tryz.underlying9
  a9 := Tryz.isAgg9
  z9 := Tryz.sizeOf9
  v9 := Tryz.zeroValue9
  t20 := Tryz.underlying20
  a20 := Tryz.isAgg20
  z20 := Tryz.sizeOf20
  v20 := Tryz.zeroValue20
  t21 := Tryz.underlying21
  a21 := Tryz.isAgg21
  z21 := Tryz.sizeOf21
  v21 := Tryz.zeroValue21
  t37 := Tryz.underlying22
  a37 := Tryz.isAgg22
  z37 := Tryz.sizeOf22
  v37 := Tryz.zeroValue22
  t46 := Tryz.underlying234
  a46 := Tryz.isAgg234
  z46 := Tryz.sizeOf234
  v46 := Tryz.zeroValue234
  t51 := Tryz.underlying188
  a51 := Tryz.isAgg188
  z51 := Tryz.sizeOf188
  v51 := Tryz.zeroValue188
  t70 := Tryz.underlying262
  a70 := Tryz.isAgg262
  z70 := Tryz.sizeOf262
  v70 := Tryz.zeroValue262
  t72 := Tryz.underlying264
  a72 := Tryz.isAgg264
  z72 := Tryz.sizeOf264
  v72 := Tryz.zeroValue264
  t75 := Tryz.underlying200
  a75 := Tryz.isAgg200
  z75 := Tryz.sizeOf200
  v75 := Tryz.zeroValue200
  t76 := Tryz.underlying266
  a76 := Tryz.isAgg266
  z76 := Tryz.sizeOf266
  v76 := Tryz.zeroValue266
  t105 := Tryz.underlying308
  a105 := Tryz.isAgg308
  z105 := Tryz.sizeOf308
  v105 := Tryz.zeroValue308
  t107 := Tryz.underlying271
  a107 := Tryz.isAgg271
  z107 := Tryz.sizeOf271
  v107 := Tryz.zeroValue271
  t119 := Tryz.underlying349
  a119 := Tryz.isAgg349
  z119 := Tryz.sizeOf349
  t127 := Tryz.underlying307
  a127 := Tryz.isAgg307
  z127 := Tryz.sizeOf307
  v127 := Tryz.zeroValue307
  t138 := Tryz.underlying351
  a138 := Tryz.isAgg351
  z138 := Tryz.sizeOf351
  v138 := Tryz.zeroValue351
  t139 := Tryz.underlying352
  a139 := Tryz.isAgg352
  z139 := Tryz.sizeOf352
  v139 := Tryz.zeroValue352
  t160 := Tryz.underlying353
  a160 := Tryz.isAgg353
  z160 := Tryz.sizeOf353
  v160 := Tryz.zeroValue353
  t162 := Tryz.underlying337
  a162 := Tryz.isAgg337
  z162 := Tryz.sizeOf337
  v162 := Tryz.zeroValue337
  t164 := Tryz.underlying291
  a164 := Tryz.isAgg291
  z164 := Tryz.sizeOf291
  v164 := Tryz.zeroValue291
  t203 := Tryz.underlying335
  a203 := Tryz.isAgg335
  z203 := Tryz.sizeOf335
  v203 := Tryz.zeroValue335
  t206 := Tryz.underlying363
  a206 := Tryz.isAgg363
  z206 := Tryz.sizeOf363
  v206 := Tryz.zeroValue363
  t208 := Tryz.underlying365
  a208 := Tryz.isAgg365
  z208 := Tryz.sizeOf365
  v208 := Tryz.zeroValue365
  g3 := by kernel_rfl
  g4 := by kernel_rfl
  g13 := by kernel_rfl }
def lays102_ren : Go.Shelf.Ren := ⟨fun | 102 => 155 | 209 => 215 | 207 => 255 | n => n, fun | 9 => 9 | 4 => 4 | 3 => 3 | n => n, fun | n => n⟩
theorem lays102 : Go.Proofs.Lays.n102 Tryz.prog lays102_ren := {
  mixed := by kernel_rfl
  f102 := Tryz.func155.trans (congrArg some (by kernel_rfl))
  f207 := Tryz.func255.trans (congrArg some (by kernel_rfl))
  f209 := Tryz.func215.trans (congrArg some (by kernel_rfl))
  t3 := Tryz.underlying3
  a3 := Tryz.isAgg3
  z3 := Tryz.sizeOf3
  v3 := Tryz.zeroValue3
  t4 := Tryz.underlying4
  a4 := Tryz.isAgg4
  z4 := Tryz.sizeOf4
  v4 := Tryz.zeroValue4
  t9 := Tryz.underlying9
  a9 := Tryz.isAgg9
  z9 := Tryz.sizeOf9
  v9 := Tryz.zeroValue9 }
end Go.Proofs.YtcolecidbalmhaaGreatDoor
namespace Go.Proofs.YtcolecidbalmhaaGreatDoor
open Go.RowKit Go.Shelf
set_option maxRecDepth 100000
set_option linter.unusedVariables false

theorem lower_extra : Builder.Extra Tryz.prog lays159_ren :=
  { sizeBuilder := by kernel_rfl, liesBuilder := by kernel_rfl, t5 := lays159.t5, a5 := lays159.a5, z5 := lays159.z5, v5 := lays159.v5, infoByte := by kernel_rfl, cellsByte := by kernel_rfl, sizeByte := by kernel_rfl, neB5 := by decide }
theorem toLower_any (s : ByteArray) (w : World) (hs : s.size ≤ 140737488355328) (ha : ∀ (j : Nat) (b : UInt8), s.data.toList[j]? = some b → b.toNat < 128) :
    Calls Tryz.prog 154 #[.string s] w fun e w' => e = .returned (.string ⟨(Lib.toLowerA s.data.toList).toArray⟩) ∧ Below w.heap.size w w' :=
  Any.strings_ToLower_ascii lays159 lower_extra s w hs ha
theorem trimSuffix_any (s p : ByteArray) (w : World) (hs : s.size ≤ 9223372036854775807) :
    Calls Tryz.prog 155 #[.string s, .string p] w fun e w' => e = .returned (.string ⟨(Lib.trimSuffix s.data.toList p.data.toList).toArray⟩) ∧ w' = w :=
  Any.strings_TrimSuffix lays102 s p w hs

theorem normalText_any (s : ByteArray) (w : World) (hs : s.size ≤ 20) (hm : M.mDot s.data.toList = true) :
    Calls Tryz.prog 86 #[.string s] w fun e w' => e = .returned (.string (M.bs (M.nrm s.data.toList))) ∧ Below w.heap.size w w' := by
  have hL : s.data.toList.length = s.size := by simp
  have T1 : ∀ w, Calls Tryz.prog 155 #[.string s, .string { data := #[46] }] w fun e w' => e = .returned (.string (M.bs (M.bare s.data.toList))) ∧ w = w' := fun w =>
    (trimSuffix_any s { data := #[46] } w (by omega)).mono fun e w' h => by
      obtain ⟨rfl, rfl⟩ := h
      refine ⟨?_, rfl⟩
      rw [← M.bare_trim hm]
      rfl
  have hbl := M.bare_length s.data.toList
  have T2 : ∀ w, Calls Tryz.prog 154 #[.string (M.bs (M.bare s.data.toList))] w fun e w' => e = .returned (.string (M.bs (M.nrm s.data.toList))) ∧ Below w.heap.size w w' := fun w =>
    (toLower_any (M.bs (M.bare s.data.toList)) w (by rw [M.bs_size]; omega) (by rw [M.bs_list]; exact M.bare_ascii hm)).mono fun e w' h => by
      obtain ⟨rfl, hb⟩ := h
      refine ⟨?_, hb⟩
      rw [M.bs_list]
      rfl
  generalize M.bs (M.nrm s.data.toList) = R at *
  generalize M.bs (M.bare s.data.toList) = B at *
  clear hm hbl hL
  go_enter Tryz.func86, Tryz.ntmps86
  go_wp2_with fail
  refine (T1 _).mono ?_
  rintro r w' ⟨rfl, rfl⟩
  go_wp2_with fail
  refine (T2 _).mono ?_
  rintro r w1 ⟨rfl, hb⟩
  go_wp2_with fail
  go_ret
  exact ⟨rfl, hb⟩
end Go.Proofs.YtcolecidbalmhaaGreatDoor
namespace Go.Proofs.YtcolecidbalmhaaGreatDoor
open Go.RowKit
set_option maxRecDepth 100000
set_option linter.unusedVariables false

theorem strOf_bytes (l : List UInt8) : strOf (l.map fun b => (b.toNat : Int)) = M.bs l := by
  have e : (strOf (l.map fun b => (b.toNat : Int))).data.toList = l := by
    rw [strOf, strOf_data]
    simp [List.map_map, Function.comp_def]
  rw [← M.bs_data (strOf _), e]

theorem OwnK.read {k : IntKind} {w : World} {B g n c : Nat} {zs : List Int} {j : Nat} {z : Int} (h : OwnK k w B (.slice (some ⟨g, 0, none⟩) n c) zs) (hz : zs[j]? = some z) : w.cell? ⟨g, j, none⟩ = some (.int k z) ∧ w.frozen? ⟨g, j, none⟩ = false := by
  have hj := (List.getElem?_eq_some_iff.1 hz).1
  rcases h.2 with ⟨e, h0⟩ | ⟨g', c', e, hB, hg, hn, hm, hcell, hroom⟩
  · cases e
  injection e with e1 e2 e3
  injection e1 with e1
  injection e1 with e1 _ _
  subst e1
  exact ⟨hcell j _ (by rw [List.getElem?_map, hz]; rfl), (hroom j (by omega)).2⟩

structure LowRel (W : World) (g n c : Nat) (zs : List Int) (k : Nat) (wr : World) : Prop where
  own : OwnK .u8 wr W.heap.size (.slice (some ⟨g, 0, none⟩) n c) (M.lowK zs k)
  bel : Below W.heap.size W wr

theorem LowRel.up {W : World} {g n c : Nat} {zs : List Int} {k : Nat} {wr : World} {z : Int} (h : LowRel W g n c zs k wr) (hg : W.heap.size ≤ g) (hz : zs[k]? = some z) (h0 : 65 ≤ z) (h1 : z ≤ 90) : LowRel W g n c zs (k + 1) (wr.setCell ⟨g, k, none⟩ (.int .u8 (z + 32))) := by
  have hk := (List.getElem?_eq_some_iff.1 hz).1
  have e : M.lowI z = z + 32 := by simp [M.lowI, h0, h1]
  refine ⟨?_, bset h.bel hg _⟩
  rw [M.lowK_next zs k z hz, e]
  exact h.own.put (by rw [M.lowK_length]; exact hk)
theorem LowRel.no {W : World} {g n c : Nat} {zs : List Int} {k : Nat} {wr : World} {z : Int} (h : LowRel W g n c zs k wr) (hz : zs[k]? = some z) (h0 : ¬ (65 ≤ z ∧ z ≤ 90)) : LowRel W g n c zs (k + 1) wr := by
  have e : M.lowI z = z := by simp [M.lowI, h0]
  refine ⟨?_, h.bel⟩
  rw [M.lowK_next zs k z hz, e, M.set_same (M.lowK_at zs k z hz)]
  exact h.own

theorem l5Normal_any (s : ByteArray) (w : World) (hs : s.size ≤ 20) :
    Calls Tryz.prog 107 #[.string s] w fun e w' => e = .returned (.string (M.bs (M.nrm s.data.toList))) ∧ Below w.heap.size w w' := by
  have hL : s.data.toList.length = s.size := by simp
  have hbl := M.bare_length s.data.toList
  have F := fun w => l5Bare_any s w (by simp only [maxLen]; omega)
  have HE := Lib.hid (show strOf ((M.textL (M.bs (M.bare s.data.toList))).map M.lowI) = M.bs (M.nrm s.data.toList) by rw [M.low_text, strOf_bytes]; rfl)
  have hB : (M.bs (M.bare s.data.toList)).size ≤ 20 := by rw [M.bs_size]; omega
  generalize M.bs (M.nrm s.data.toList) = R at *
  generalize M.bs (M.bare s.data.toList) = B at *
  have hBm : B.size ≤ maxLen := by simp only [maxLen]; omega
  have hcv := fun (W : World) => run_bytes_of_string (P := Tryz.prog) W 9 22 5 B Tryz.underlying9 Tryz.underlying22 Tryz.underlying5
  have O0 := own_text w B 5 hBm
  have hzl : (M.textL B).length = B.size := M.textL_length B
  have HZ : Hid (∀ z ∈ M.textL B, 0 ≤ z ∧ z ≤ 255) := Lib.hid (fun z hz => by
    unfold M.textL at hz
    obtain ⟨b, _, rfl⟩ := List.mem_map.1 hz
    have := b.toNat_lt
    omega)
  have hcm := grownCap_le_maxLen w B.size 0 5 hBm
  have hcg := grownCap_ge w B.size 0 5
  unfold maxLen at hcm
  clear hbl
  go_enter Tryz.func107, Tryz.ntmps107
  go_wp2_with fail
  refine (F _).mono ?_
  rintro r w' ⟨rfl, rfl⟩
  have T0 : LowRel w w.heap.size B.size (grownCap w B.size 0 5) (M.textL B) 0 (w.alloc (textObj w B 5)).drew := ⟨by
    unfold OwnK
    rw [M.lowK_zero, hzl]
    exact O0.drew, (bal (Below.refl _ _) _).drew⟩
  clear O0
  go_wp2_with fail
  clear hcv
  go_loopw [4] (fun i wr => ∃ k : Nat, k ≤ B.size ∧ i = .int .i64 k ∧ LowRel w w.heap.size B.size (grownCap w B.size 0 5) (M.textL B) k wr) (fun i _ => B.size - (intOf i).toNat)
  case atStart => exact ⟨0, Nat.zero_le _, rfl, T0⟩
  case round =>
    obtain ⟨k, hk, rfl, hT⟩ := hrel
    by_cases hlt : k < B.size
    · obtain ⟨z, hz⟩ : ∃ z, (M.textL B)[k]? = some z := ⟨(M.textL B)[k], by simp [hzl, hlt]⟩
      obtain ⟨z0, z1⟩ := HZ.out z (List.mem_of_getElem? hz)
      obtain ⟨hcell, hfr⟩ := hT.own.read (M.lowK_at _ k z hz)
      by_cases h0 : 65 ≤ z
      · by_cases h1 : z ≤ 90
        · have T2 := hT.up (Nat.le_refl _) hz h0 h1
          clear hT hz
          go_wp2_with fail
          go_roundw
          case rel => exact ⟨k + 1, by omega, by go_num, T2⟩
          case measure => simp [intOf]; omega
        · have T2 := hT.no hz (by omega)
          clear hT hz
          go_wp2_with fail
          go_roundw
          case rel => exact ⟨k + 1, by omega, by go_num, T2⟩
          case measure => simp [intOf]; omega
      · have T2 := hT.no hz (by omega)
        clear hT hz
        go_wp2_with fail
        go_roundw
        case rel => exact ⟨k + 1, by omega, by go_num, T2⟩
        case measure => simp [intOf]; omega
    · obtain rfl : k = B.size := by omega
      have hO := hT.own
      rw [show M.lowK (M.textL B) B.size = (M.textL B).map M.lowI by rw [← hzl, M.lowK_all]] at hO
      have kr := conv_row (Own.row hO (fun z hz => by
        obtain ⟨y, hy, rfl⟩ := List.mem_map.1 hz
        have := HZ.out y hy
        unfold M.lowI
        split <;> (simp [Lit.wf, IntKind.min, IntKind.max, IntKind.signed, IntKind.bits]; omega)))
      rw [HE.out] at kr
      have hb := hT.bel
      clear hT hO
      go_wp2_with fail
      go_ret
      exact ⟨rfl, hb⟩
end Go.Proofs.YtcolecidbalmhaaGreatDoor
namespace Go.Proofs.YtcolecidbalmhaaGreatDoor
open Go.RowKit
set_option maxRecDepth 100000
set_option linter.unusedVariables false

theorem text_beq (x y : ByteArray) : (x.toList == y.toList) = decide (x.data.toList = y.data.toList) := by
  rw [ByteArray.toList_eq, ByteArray.toList_eq, Bool.eq_iff_iff]
  simp
abbrev X2 (c : Int) (t : ByteArray) : Value := .agg #[.int .i64 c, .string t]

end Go.Proofs.YtcolecidbalmhaaGreatDoor
namespace Go.Proofs.YtcolecidbalmhaaGreatDoor
open Go.RowKit
set_option maxRecDepth 100000
set_option linter.unusedVariables false

theorem implNormalFault_any (s : ByteArray) (w : World) (hs : s.size ≤ maxLen) :
    Calls Tryz.prog 169 #[.string s] w fun e w' => e = .returned (.int .i64 (M.normF s.data.toList)) ∧ Below w.heap.size w w' := by
  have hL : s.data.toList.length = s.size := by simp
  have F := fun w => implNameFault_any s w hs
  by_cases h0 : M.nameF s.data.toList = 0
  · obtain ⟨h20, hm⟩ := M.nameF_zero h0
    rw [hL] at h20
    have N := fun w : World => normalText_any s w h20 hm
    have Q := text_beq (M.bs (M.nrm s.data.toList)) s
    rw [M.bs_list] at Q
    by_cases hn : M.nrm s.data.toList = s.data.toList
    · rw [M.normF_yes h0 hn]
      rw [decide_eq_true hn] at Q
      simp only [h0] at F
      generalize M.bs (M.nrm s.data.toList) = R at *
      clear h0 hm hn hL
      go_enter Tryz.func169, Tryz.ntmps169
      go_wp2_with fail
      refine (F _).mono ?_
      rintro r w' ⟨rfl, rfl⟩
      go_wp2_with fail
      refine (N _).mono ?_
      rintro r u1 ⟨rfl, b1⟩
      go_wp2_with fail
      go_ret
      exact ⟨rfl, b1⟩
    · rw [M.normF_form h0 hn]
      rw [decide_eq_false hn] at Q
      simp only [h0] at F
      generalize M.bs (M.nrm s.data.toList) = R at *
      clear h0 hm hn hL
      go_enter Tryz.func169, Tryz.ntmps169
      go_wp2_with fail
      refine (F _).mono ?_
      rintro r w' ⟨rfl, rfl⟩
      go_wp2_with fail
      refine (N _).mono ?_
      rintro r u1 ⟨rfl, b1⟩
      go_wp2_with fail
      go_ret
      exact ⟨rfl, b1⟩
  · rw [M.normF_no h0]
    generalize M.nameF s.data.toList = c at *
    go_enter Tryz.func169, Tryz.ntmps169
    go_wp2_with fail
    refine (F _).mono ?_
    rintro r w' ⟨rfl, rfl⟩
    go_wp2_with fail
    go_ret
    exact ⟨rfl, Below.refl _ _⟩
theorem isMatch_any (v : Int) (w : World) :
    Calls Tryz.prog 170 #[.int .i64 v] w fun e w' => e = .returned (.bool (M.matB v)) ∧ w = w' := by
  by_cases h0 : v = 0
  · have e : M.matB v = true := by simp [M.matB, h0]
    subst h0
    rw [e]
    go_enter Tryz.func170, Tryz.ntmps170
    go_wp2_with fail
    go_ret
    simp
  by_cases h1 : v = 1
  · have e : M.matB v = true := by simp [M.matB, h1]
    subst h1
    rw [e]
    go_enter Tryz.func170, Tryz.ntmps170
    go_wp2_with fail
    go_ret
    simp
  · have e : M.matB v = false := by simp [M.matB]; omega
    rw [e]
    have q0 : (v == 0) = false := by simpa using h0
    have q1 : (v == 1) = false := by simpa using h1
    go_enter Tryz.func170, Tryz.ntmps170
    go_wp2_with fail
    go_ret
    simp
theorem l1In_use (v : Int) (w : World) : Calls Tryz.prog 108 #[.int .i64 v, .int .i64 0, .int .i64 3] w fun e w' => e = .returned (.bool (M.useB v)) ∧ w = w' := l1In_any v 0 3 w
theorem l1In_mat (v : Int) (w : World) : Calls Tryz.prog 108 #[.int .i64 v, .int .i64 0, .int .i64 1] w fun e w' => e = .returned (.bool (M.matB v)) ∧ w = w' := l1In_any v 0 1 w

abbrev T4 (n : ByteArray) (u m v : Int) : Value := .agg #[.string n, .int .i64 u, .int .i64 m, .int .i64 v]
abbrev T5 (c : Int) (n : ByteArray) (u m v : Int) : Value := .agg #[.int .i64 c, .string n, .int .i64 u, .int .i64 m, .int .i64 v]
abbrev TL4 (n : ByteArray) (u m v : Int) : List Value := [.string n, .int .i64 u, .int .i64 m, .int .i64 v]
abbrev TL5 (c : Int) (n : ByteArray) (u m v : Int) : List Value := [.int .i64 c, .string n, .int .i64 u, .int .i64 m, .int .i64 v]

theorem implTlsaFault_any (n : ByteArray) (u m v : Int) (w : World) (hn : n.size ≤ maxLen) :
    Calls Tryz.prog 104 #[T4 n u m v] w fun e w' => e = .returned (.int .i64 (M.tlsaF n.data.toList u m v)) ∧ Below w.heap.size w w' := by
  have b0 := bal (Below.refl _ w) (.cells #[.string n, .int .i64 u, .int .i64 m, .int .i64 v] 78)
  have A0 := At.new w (TL4 n u m v) 78
  have F := fun w => implNormalFault_any n w hn
  by_cases h0 : M.normF n.data.toList = 0
  · rw [h0] at F
    by_cases hu0 : u < 0
    · rw [M.tlsaF_no h0 (by rw [M.tlsaB_eq, show M.useB u = false by simp [M.useB]; omega]; rfl)]
      go_enter Tryz.func104, Tryz.ntmps104
      go_wp2_with fail
      generalize w.alloc (.cells #[.string n, .int .i64 u, .int .i64 m, .int .i64 v] 78) = W0 at *
      refine (F _).mono ?_
      rintro r u1 ⟨rfl, b1⟩
      have p0 := (A0.on b1).cell 0 _ rfl
      have p1 := (A0.on b1).cell 1 _ rfl
      have p2 := (A0.on b1).cell 2 _ rfl
      have p3 := (A0.on b1).cell 3 _ rfl
      have B1 := btr b0 b1
      clear A0 b0 b1 F
      go_wp2_with fail
      go_ret
      exact ⟨rfl, B1⟩
    by_cases hu3 : 3 < u
    · rw [M.tlsaF_no h0 (by rw [M.tlsaB_eq, show M.useB u = false by simp [M.useB]; omega]; rfl)]
      go_enter Tryz.func104, Tryz.ntmps104
      go_wp2_with fail
      generalize w.alloc (.cells #[.string n, .int .i64 u, .int .i64 m, .int .i64 v] 78) = W0 at *
      refine (F _).mono ?_
      rintro r u1 ⟨rfl, b1⟩
      have p0 := (A0.on b1).cell 0 _ rfl
      have p1 := (A0.on b1).cell 1 _ rfl
      have p2 := (A0.on b1).cell 2 _ rfl
      have p3 := (A0.on b1).cell 3 _ rfl
      have B1 := btr b0 b1
      clear A0 b0 b1 F
      go_wp2_with fail
      go_ret
      exact ⟨rfl, B1⟩
    have eU : M.useB u = true := by simp [M.useB]; omega
    cases hm : M.matB m
    · rw [M.tlsaF_no h0 (by rw [M.tlsaB_eq, hm]; simp)]
      go_enter Tryz.func104, Tryz.ntmps104
      go_wp2_with fail
      generalize w.alloc (.cells #[.string n, .int .i64 u, .int .i64 m, .int .i64 v] 78) = W0 at *
      refine (F _).mono ?_
      rintro r u1 ⟨rfl, b1⟩
      have p0 := (A0.on b1).cell 0 _ rfl
      have p1 := (A0.on b1).cell 1 _ rfl
      have p2 := (A0.on b1).cell 2 _ rfl
      have p3 := (A0.on b1).cell 3 _ rfl
      have B1 := btr b0 b1
      clear A0 b0 b1 F
      go_wp2_with fail
      refine (isMatch_any _ _).mono ?_
      rintro r w' ⟨rfl, rfl⟩
      go_wp2_with fail
      go_ret
      exact ⟨rfl, B1⟩
    cases hv : M.sumB v
    · rw [M.tlsaF_no h0 (by rw [M.tlsaB_eq, hv]; simp)]
      go_enter Tryz.func104, Tryz.ntmps104
      go_wp2_with fail
      generalize w.alloc (.cells #[.string n, .int .i64 u, .int .i64 m, .int .i64 v] 78) = W0 at *
      refine (F _).mono ?_
      rintro r u1 ⟨rfl, b1⟩
      have p0 := (A0.on b1).cell 0 _ rfl
      have p1 := (A0.on b1).cell 1 _ rfl
      have p2 := (A0.on b1).cell 2 _ rfl
      have p3 := (A0.on b1).cell 3 _ rfl
      have B1 := btr b0 b1
      clear A0 b0 b1 F
      go_wp2_with fail
      refine (isMatch_any _ _).mono ?_
      rintro r w' ⟨rfl, rfl⟩
      go_wp2_with fail
      refine (isSum_any _ _).mono ?_
      rintro r w' ⟨rfl, rfl⟩
      go_wp2_with fail
      go_ret
      exact ⟨rfl, B1⟩
    · rw [M.tlsaF_yes h0 (by rw [M.tlsaB_eq, eU, hm, hv]; rfl)]
      go_enter Tryz.func104, Tryz.ntmps104
      go_wp2_with fail
      generalize w.alloc (.cells #[.string n, .int .i64 u, .int .i64 m, .int .i64 v] 78) = W0 at *
      refine (F _).mono ?_
      rintro r u1 ⟨rfl, b1⟩
      have p0 := (A0.on b1).cell 0 _ rfl
      have p1 := (A0.on b1).cell 1 _ rfl
      have p2 := (A0.on b1).cell 2 _ rfl
      have p3 := (A0.on b1).cell 3 _ rfl
      have B1 := btr b0 b1
      clear A0 b0 b1 F
      go_wp2_with fail
      refine (isMatch_any _ _).mono ?_
      rintro r w' ⟨rfl, rfl⟩
      go_wp2_with fail
      refine (isSum_any _ _).mono ?_
      rintro r w' ⟨rfl, rfl⟩
      go_wp2_with fail
      go_ret
      exact ⟨rfl, B1⟩
  · rw [M.tlsaF_norm h0]
    generalize M.normF n.data.toList = c at *
    go_enter Tryz.func104, Tryz.ntmps104
    go_wp2_with fail
    generalize w.alloc (.cells #[.string n, .int .i64 u, .int .i64 m, .int .i64 v] 78) = W0 at *
    refine (F _).mono ?_
    rintro r u1 ⟨rfl, b1⟩
    have p0 := (A0.on b1).cell 0 _ rfl
    have p1 := (A0.on b1).cell 1 _ rfl
    have p2 := (A0.on b1).cell 2 _ rfl
    have p3 := (A0.on b1).cell 3 _ rfl
    have B1 := btr b0 b1
    clear A0 b0 b1 F
    go_wp2_with fail
    go_ret
    exact ⟨rfl, B1⟩

end Go.Proofs.YtcolecidbalmhaaGreatDoor
namespace Go.Proofs.YtcolecidbalmhaaGreatDoor
open Go.RowKit
set_option maxRecDepth 100000
set_option linter.unusedVariables false

theorem eqTlsa_any (n : ByteArray) (u m v : Int) (w : World) :
    Calls Tryz.prog 192 #[T4 n u m v, T4 n u m v] w fun e w' => e = .returned (.bool true) ∧ Below w.heap.size w w' := by
  have b0 := bal (bal (Below.refl _ w) (.cells #[.string n, .int .i64 u, .int .i64 m, .int .i64 v] 78)) (.cells #[.string n, .int .i64 u, .int .i64 m, .int .i64 v] 78)
  go_enter Tryz.func192, Tryz.ntmps192
  go_wp2_with fail
  go_ret
  exact ⟨rfl, b0⟩
theorem toTlsa_any (n : ByteArray) (u m v : Int) (w : World) :
    Calls Tryz.prog 191 #[T4 n u m v] w fun e w' => e = .returned (T4 n u m v) ∧ Below w.heap.size w w' := by
  have b0 := bal (bal (bal (Below.refl _ w) (.cells #[.string n, .int .i64 u, .int .i64 m, .int .i64 v] 231)) (.cells #[.string n, .int .i64 u, .int .i64 m, .int .i64 v] 78)) (.cells #[.string n, .int .i64 u, .int .i64 m, .int .i64 v] 78)
  go_enter Tryz.func191, Tryz.ntmps191
  go_wp2_with fail
  exact bodyPost_ret (v := T4 n u m v) (by simp [results, Tryz.results191, go_sem]) rfl ⟨rfl, b0⟩
theorem szTlsa_any (n : ByteArray) (u m v : Int) (l : Int) (w : World) (hn : n.size ≤ maxLen) (l0 : 0 ≤ l) (l1 : l ≤ 1048576) :
    Calls Tryz.prog 190 #[T4 n u m v, .int .i64 l] w fun e w' => e = .returned (.int .i64 (if l < n.size then -1 else l - n.size)) ∧ Below w.heap.size w w' := by
  have hb := bal (Below.refl _ w) (.cells #[.string n, .int .i64 u, .int .i64 m, .int .i64 v] 231)
  unfold maxLen at hn
  by_cases h : l < n.size
  · have h' : l - n.size < 0 := by omega
    rw [if_pos h]
    go_enter Tryz.func190, Tryz.ntmps190
    go_wp2_with fail
    go_ret
    exact ⟨rfl, hb⟩
  · have h' : ¬ l - n.size < 0 := by omega
    rw [if_neg h]
    go_enter Tryz.func190, Tryz.ntmps190
    go_wp2_with fail
    go_ret
    exact ⟨rfl, hb⟩
end Go.Proofs.YtcolecidbalmhaaGreatDoor
namespace Go.Proofs.YtcolecidbalmhaaGreatDoor
open Go.RowKit
set_option maxRecDepth 100000
set_option linter.unusedVariables false

theorem eqTlsaT (p : TlsaD) (w : World) : Calls Tryz.prog 192 #[TV p, TV p] w fun e w' => e = .returned (.bool true) ∧ Below w.heap.size w w' := eqTlsa_any p.n p.u p.m p.v w
theorem toTlsaT (p : TlsaD) (w : World) : Calls Tryz.prog 191 #[TV p] w fun e w' => e = .returned (TV p) ∧ Below w.heap.size w w' := toTlsa_any p.n p.u p.m p.v w
theorem szTlsaT (p : TlsaD) (l : Int) (w : World) (hn : p.n.size ≤ maxLen) (l0 : 0 ≤ l) (l1 : l ≤ 1048576) :
    Calls Tryz.prog 190 #[TV p, .int .i64 l] w fun e w' => e = .returned (.int .i64 (if l < p.n.size then -1 else l - p.n.size)) ∧ Below w.heap.size w w' := szTlsa_any p.n p.u p.m p.v l w hn l0 l1

/-- How much of a bound such a slice leaves. -/
def szTL : List TlsaD → Int → Int
  | [], l => l
  | p :: r, l => if l < p.n.size then -1 else szTL r (l - p.n.size)
def szTP (ps : List TlsaD) (l : Int) : Int := if l < ps.length then -1 else szTL ps (l - ps.length)
theorem szTL_le : ∀ (ps : List TlsaD) (l : Int), 0 ≤ l → szTL ps l ≤ l ∧ -1 ≤ szTL ps l
  | [], l, h => ⟨Int.le_refl _, by unfold szTL; omega⟩
  | p :: r, l, h => by
    unfold szTL
    split
    · omega
    · have := szTL_le r (l - p.n.size) (by omega)
      omega
theorem szTL_mem : ∀ (ps : List TlsaD) (l : Int), 0 ≤ szTL ps l → ∀ p ∈ ps, (p.n.size : Int) ≤ l
  | [], l, _, _, hp => by cases hp
  | q :: r, l, h, p, hp => by
    unfold szTL at h
    split at h
    · omega
    · rcases List.mem_cons.1 hp with rfl | hp
      · omega
      · have := szTL_mem r _ h p hp
        omega
theorem szTP_ok {ps : List TlsaD} {l : Int} (h : 0 ≤ szTP ps l) : (ps.length : Int) ≤ l ∧ (∀ p ∈ ps, (p.n.size : Int) ≤ l) ∧ szTP ps l ≤ l := by
  unfold szTP at h ⊢
  split at h
  · omega
  · rw [if_neg ‹_›]
    refine ⟨by omega, fun p hp => ?_, ?_⟩
    · have := szTL_mem _ _ h p hp
      omega
    · have := (szTL_le ps (l - ps.length) (by omega)).1
      omega
theorem szTL_step {ps : List TlsaD} {k : Nat} (hk : k < ps.length) (l : Int) : szTL (ps.drop k) l = if l < (ps[k]?.getD tls0).n.size then -1 else szTL (ps.drop (k + 1)) (l - (ps[k]?.getD tls0).n.size) := by
  have e : ps.drop k = (ps[k]?.getD tls0) :: ps.drop (k + 1) := by
    rw [List.drop_eq_getElem_cons hk, List.getElem?_eq_getElem hk]
    rfl
  rw [e]
  rfl
def SzTRel (w : World) (ps : List TlsaD) (t : Int) (k : Nat) (l : Int) (wr : World) : Prop := 0 ≤ l ∧ l ≤ 1048576 ∧ szTL (ps.drop k) l = t ∧ Below w.heap.size w wr
theorem szTlsaS_any (a : Option Addr) (len cap B : Nat) (ps : List TlsaD) (l : Int) (w : World) (hR : TRow w B a len cap ps) (hB : B ≤ w.heap.size) (l0 : 0 ≤ l) (l1 : l ≤ 1048576) :
    Calls Tryz.prog 129 #[.slice a len cap, .int .i64 l] w fun e w' => e = .returned (.int .i64 (szTP ps l)) ∧ Below w.heap.size w w' := by
  have hL := Lib.hid hR.length
  have hm := hR.most
  have hf := hR.fits
  unfold maxLen at hm
  by_cases h : l < len
  · have E : szTP ps l = -1 := by unfold szTP; rw [hL.out, if_pos h]
    rw [E]
    have h' : l - len < 0 := by omega
    go_enter Tryz.func129, Tryz.ntmps129
    go_wp2_with fail
    go_ret
    exact ⟨rfl, Below.refl _ _⟩
  have E : szTP ps l = szTL ps (l - len) := by unfold szTP; rw [hL.out, if_neg h]
  rw [E]
  have h' : ¬ l - len < 0 := by omega
  have T0 : SzTRel w ps (szTL ps (l - len)) 0 (l - len) w := ⟨by omega, by omega, rfl, Below.refl _ _⟩
  generalize szTL ps (l - len) = t at *
  clear E
  go_enter Tryz.func129, Tryz.ntmps129
  go_wp2_with fail
  go_loopw [1, 5] (fun x i wr => ∃ (k : Nat) (y : Int), k ≤ len ∧ i = .int .i64 k ∧ x = .int .i64 y ∧ SzTRel w ps t k y wr) (fun _ i _ => len - (intOf i).toNat)
  case atStart => exact ⟨0, _, Nat.zero_le _, rfl, rfl, T0⟩
  case round =>
    obtain ⟨k, y, hk, rfl, rfl, y0, y1, hy, hb⟩ := hrel
    clear T0
    by_cases hlt : k < len
    · obtain ⟨b, off, ha, hbB, c0, c1, c2, c3⟩ := (hR.below (hb.mono hB)).at' hlt
      have hst := szTL_step (by rw [hL.out]; exact hlt) y
      rw [hy] at hst
      have S := szTlsaT (ps[k]?.getD tls0) y wr (hR.name hlt) y0 y1
      subst ha
      generalize ps[k]?.getD tls0 = p at *
      by_cases hs : y < p.n.size
      · rw [if_pos hs] at hst S
        clear hy
        subst hst
        go_wp2_with fail
        refine S.mono ?_
        rintro r w2 ⟨rfl, b2⟩
        have bb := btr hb b2
        go_wp2_with fail
        go_ret
        exact ⟨rfl, bb⟩
      · rw [if_neg hs] at hst S
        have hn : ¬ y - p.n.size < 0 := by omega
        have hy0 : 0 ≤ y - (p.n.size : Int) := by omega
        have HY := Lib.hid hst
        have hm2 : (p.n.size : Int) ≤ y := by omega
        clear hst
        go_wp2_with fail
        refine S.mono ?_
        rintro r w2 ⟨rfl, b2⟩
        have bb := btr hb b2
        clear b2 S c0 c1 c2 c3
        go_wp2_with fail
        go_roundw
        case rel => exact ⟨k + 1, _, by omega, by go_num, rfl, hy0, by omega, HY.out.symm, bb⟩
        case measure => simp [intOf]; omega
    · obtain rfl : k = len := by omega
      have e : ps.drop k = [] := List.drop_of_length_le (by rw [hL.out]; omega)
      rw [e] at hy
      have hy' : y = t := hy
      subst hy'
      go_wp2_with fail
      go_ret
      exact ⟨rfl, hb⟩

/-- What has been laid so far into a new block. -/
structure FillT (w : World) (n : Nat) (ps : List TlsaD) (k : Nat) (wr : World) : Prop where
  told : ∀ j, j < k → ∀ i v, (ps[j]?.getD tls0).vals[i]? = some v → wr.cell? ⟨w.heap.size, j * 4 + i, none⟩ = some v
  room : ∀ j, j < n * 4 → (∃ u, wr.cell? ⟨w.heap.size, j, none⟩ = some u) ∧ wr.frozen? ⟨w.heap.size, j, none⟩ = false
  lt : w.heap.size < wr.heap.size
  bel : Below w.heap.size w wr
theorem FillT.new (w : World) (n : Nat) (ps : List TlsaD) (cs : Array Value) (t : TypeId) (hs : cs.size = n * 4) : FillT w n ps 0 (w.alloc (.cells cs t)) := by
  have e1 : (w.alloc (.cells cs t)).heap[w.heap.size]? = some (.cells cs t) := (MapKept.heap_alloc w _).1
  refine ⟨fun j hj => absurd hj (by omega), fun j hj => ?_, by simp, bal (Below.refl _ _) _⟩
  unfold World.cell? World.frozen?
  rw [e1]
  exact ⟨⟨cs[j], by simp [show j < cs.size by omega]⟩, by simp⟩
theorem FillT.on {w wr wr' : World} {n : Nat} {ps : List TlsaD} {k : Nat} (h : FillT w n ps k wr) (hb : Below wr.heap.size wr wr') : FillT w n ps k wr' := by
  have e := hb.block w.heap.size h.lt
  refine ⟨fun j hj i v hv => cell_keep hb (h.told j hj i v hv), fun j hj => ?_, Nat.lt_of_lt_of_le h.lt hb.size, btr h.bel hb⟩
  rw [World.cell?_of_block (w := wr) (a := ⟨w.heap.size, j, none⟩) e, World.frozen?_of_block (w := wr) (a := ⟨w.heap.size, j, none⟩) e]
  exact h.room j hj
theorem FillT.one {w wr : World} {n : Nat} {ps : List TlsaD} {k : Nat} (h : FillT w n ps k wr) {j : Nat} (hj : k * 4 ≤ j) (v : Value) : FillT w n ps k (wr.setCell ⟨w.heap.size, j, none⟩ v) := by
  refine ⟨fun i hi c u hu => ?_, fun i hi => ?_, by simpa [World.setCell] using h.lt, bset h.bel (Nat.le_refl _) v⟩
  · have hc : c < 4 := by have := (List.getElem?_eq_some_iff.1 hu).1; simpa [TlsaD.vals_length] using this
    rw [World.cell?_setCell_other _ _ _ _ (fun e => by injection e with _ e2; omega)]
    exact h.told i hi c u hu
  · obtain ⟨⟨u, hu⟩, hf⟩ := h.room i hi
    exact ⟨cell?_setCell_some (w := wr) (p := ⟨w.heap.size, j, none⟩) (x := v) (q := ⟨w.heap.size, i, none⟩) (v := u) hu, by rw [World.frozen?_setCell]; exact hf⟩
theorem FillT.sets {w : World} {g k : Nat} {p : TlsaD} (hs : ∀ i, i < 4 → ∃ u, w.cell? ⟨g, k * 4 + i, none⟩ = some u) (i : Nat) (v : Value) (hv : p.vals[i]? = some v) :
    ((((w.setCell ⟨g, k * 4, none⟩ (.string p.n)).setCell ⟨g, k * 4 + 1, none⟩ (.int .i64 p.u)).setCell ⟨g, k * 4 + 2, none⟩ (.int .i64 p.m)).setCell ⟨g, k * 4 + 3, none⟩ (.int .i64 p.v)).cell? ⟨g, k * 4 + i, none⟩ = some v := by
  have hi : i < 4 := by have := (List.getElem?_eq_some_iff.1 hv).1; simpa [TlsaD.vals_length] using this
  have st : ∀ (w : World) (q : Addr) (x : Value), (∀ i, i < 4 → ∃ u, w.cell? ⟨g, k * 4 + i, none⟩ = some u) → ∀ i, i < 4 → ∃ u, (w.setCell q x).cell? ⟨g, k * 4 + i, none⟩ = some u := fun w q x h i hi => by
    obtain ⟨u, hu⟩ := h i hi
    exact cell?_setCell_some (w := w) (p := q) (x := x) (q := ⟨g, k * 4 + i, none⟩) (v := u) hu
  have s0 := hs
  have s1 := st _ ⟨g, k * 4, none⟩ (.string p.n) s0
  have s2 := st _ ⟨g, k * 4 + 1, none⟩ (.int .i64 p.u) s1
  have s3 := st _ ⟨g, k * 4 + 2, none⟩ (.int .i64 p.m) s2
  match i, hi with
  | 0, _ =>
    obtain ⟨u, hu⟩ := s0 0 (by omega)
    rw [World.cell?_setCell_other _ _ _ _ (by intro e; injection e with _ e2; omega), World.cell?_setCell_other _ _ _ _ (by intro e; injection e with _ e2; omega), World.cell?_setCell_other _ _ _ _ (by intro e; injection e with _ e2; omega)]
    rw [show k * 4 + 0 = k * 4 from rfl] at hu ⊢
    rw [World.cell?_setCell_same _ _ _ (by rw [hu])]
    exact hv
  | 1, _ =>
    obtain ⟨u, hu⟩ := s1 1 (by omega)
    rw [World.cell?_setCell_other _ _ _ _ (by intro e; injection e with _ e2; omega), World.cell?_setCell_other _ _ _ _ (by intro e; injection e with _ e2; omega), World.cell?_setCell_same _ _ _ (by rw [hu])]
    exact hv
  | 2, _ =>
    obtain ⟨u, hu⟩ := s2 2 (by omega)
    rw [World.cell?_setCell_other _ _ _ _ (by intro e; injection e with _ e2; omega), World.cell?_setCell_same _ _ _ (by rw [hu])]
    exact hv
  | 3, _ =>
    obtain ⟨u, hu⟩ := s3 3 (by omega)
    rw [World.cell?_setCell_same _ _ _ (by rw [hu])]
    exact hv
theorem FillT.step {w wr : World} {n : Nat} {ps : List TlsaD} {k : Nat} (h : FillT w n ps k wr) (hk : k < n) {p : TlsaD} (hp : ps[k]?.getD tls0 = p) :
    FillT w n ps (k + 1) ((((wr.setCell ⟨w.heap.size, k * 4, none⟩ (.string p.n)).setCell ⟨w.heap.size, k * 4 + 1, none⟩ (.int .i64 p.u)).setCell ⟨w.heap.size, k * 4 + 2, none⟩ (.int .i64 p.m)).setCell ⟨w.heap.size, k * 4 + 3, none⟩ (.int .i64 p.v)) := by
  have hall := ((((h.one (j := k * 4) (by omega) (.string p.n)).one (j := k * 4 + 1) (by omega) (.int .i64 p.u)).one (j := k * 4 + 2) (by omega) (.int .i64 p.m)).one (j := k * 4 + 3) (by omega) (.int .i64 p.v))
  refine ⟨fun j hj i v hv => ?_, hall.room, hall.lt, hall.bel⟩
  by_cases e : j = k
  · subst e
    rw [hp] at hv
    exact FillT.sets (fun i hi => (h.room (j * 4 + i) (by omega)).1) i v hv
  · exact hall.told j (by omega) i v hv
theorem FillT.own {w wr : World} {n : Nat} {ps : List TlsaD} (h : FillT w n ps n wr) (hl : ps.length = n) (hm : n ≤ maxLen) : OwnT wr w.heap.size (.slice (some ⟨w.heap.size, 0, none⟩) n n) ps := by
  subst hl
  refine ⟨flatT_length ps, .inr ⟨w.heap.size, _, rfl, Nat.le_refl _, h.lt, Nat.le_refl _, hm, fun j u hu => ?_, fun j hj => ?_⟩⟩
  · have hj := (List.getElem?_eq_some_iff.1 hu).1
    rw [flatT_length] at hj
    have hjk : j / 4 < ps.length := by omega
    have hjj : j / 4 * 4 + j % 4 = j := by omega
    have h5 : j % 4 < 4 := Nat.mod_lt _ (by omega)
    have hv : (ps[j / 4]?.getD tls0).vals[j % 4]? = some ((ps[j / 4]?.getD tls0).vals[j % 4]'(by rw [TlsaD.vals_length]; exact h5)) := List.getElem?_eq_getElem _
    have q1 := flatT_get ps (j / 4) (j % 4) _ hjk hv
    have q2 := h.told (j / 4) hjk (j % 4) _ hv
    rw [hjj] at q1 q2
    rw [hu] at q1
    injection q1 with q1
    rw [q1]
    exact q2
  · obtain ⟨⟨u, hu⟩, hf⟩ := h.room j hj
    exact ⟨by rw [hu]; rfl, hf⟩

/-- Such a slice was copied. -/
def CopiedT (n : Nat) (ps : List TlsaD) (w : World) (r : Ending) (w' : World) : Prop :=
  r = .returned (.slice (some ⟨w.heap.size, 0, none⟩) n n) ∧ OwnT w' w.heap.size (.slice (some ⟨w.heap.size, 0, none⟩) n n) ps ∧ Below w.heap.size w w'
theorem tlsa_info : (Tryz.prog.info? 78).map (fun i => (i.zero, i.size, i.bytes)) = some (some (TV tls0), 4, 40) := by kernel_rfl
theorem toTlsaS_any (a : Option Addr) (len cap B : Nat) (ps : List TlsaD) (w : World) (hR : TRow w B a len cap ps) (hB : B ≤ w.heap.size) (hl : len ≤ 1048576) :
    Calls Tryz.prog 130 #[.slice a len cap] w (CopiedT len ps w) := by
  obtain ⟨i0, hi0, hz0, hz1, hz2⟩ := info_parts tlsa_info
  have hmk : ∀ W : World, (Instr.makeSlice 58 (.int .i64 (len : Int)) (.int .i64 (len : Int))).run Tryz.prog W = .ok (.slice (some ⟨W.heap.size, 0, none⟩) len len) (W.alloc (.cells (madeCells (TV tls0).cells (len * 4)) 78)) := by
    intro W
    have := run_make (P := Tryz.prog) W 58 78 i0 (TV tls0) Tryz.underlying58 hi0 hz0 .i64 .i64 len len (by omega) (by omega) (by rw [hz2]; omega) (by omega)
    simpa [hz1] using this
  have hL := Lib.hid hR.length
  clear hi0 hz0 hz1 hz2
  have T0 := FillT.new w len ps (madeCells (TV tls0).cells (len * 4)) 78 (size_madeCells _ _)
  generalize madeCells (TV tls0).cells (len * 4) = cs at *
  go_enter Tryz.func130, Tryz.ntmps130
  go_wp2_with fail
  generalize w.alloc (.cells cs 78) = w1 at *
  go_loopw [4] (fun i wr => ∃ k : Nat, k ≤ len ∧ i = .int .i64 k ∧ FillT w len ps k wr) (fun i _ => len - (intOf i).toNat)
  case atStart => exact ⟨0, Nat.zero_le _, rfl, T0⟩
  case round =>
    obtain ⟨k, hk, rfl, hT⟩ := hrel
    by_cases hlt : k < len
    · obtain ⟨b, off, ha, hbB, c0, c1, c2, c3⟩ := (hR.below (hT.bel.mono hB)).at' hlt
      generalize hp : ps[k]?.getD tls0 = p at *
      subst ha
      clear hR T0
      go_wp2_with fail
      refine (toTlsaT p _).mono ?_
      rintro r w2 ⟨rfl, b2⟩
      have hT2 := hT.on b2
      obtain ⟨⟨v0, r0⟩, f0⟩ := hT2.room (k * 4) (by omega)
      obtain ⟨⟨v1, r1⟩, f1⟩ := hT2.room (k * 4 + 1) (by omega)
      obtain ⟨⟨v2, r2⟩, f2⟩ := hT2.room (k * 4 + 2) (by omega)
      obtain ⟨⟨v3, r3⟩, f3⟩ := hT2.room (k * 4 + 3) (by omega)
      have T2 := Lib.hid (hT2.step hlt hp)
      clear hT hT2 hp b2 c0 c1 c2 c3
      go_wp2_with fail
      go_roundw
      case rel => exact ⟨k + 1, by omega, by go_num, T2.out⟩
      case measure => simp [intOf]; omega
    · obtain rfl : k = len := by omega
      have T2 := hT.own hL.out (by simp only [maxLen]; omega)
      have hb := Lib.hid hT.bel
      clear hT
      go_wp2_with fail
      go_ret
      exact ⟨rfl, T2, hb.out⟩

theorem eqTlsaS_any (a b : Option Addr) (len c1 c2 B : Nat) (ps : List TlsaD) (w : World) (hR : TRow w B a len c1 ps) (hQ : TRow w B b len c2 ps) (hB : B ≤ w.heap.size) :
    Calls Tryz.prog 131 #[.slice a len c1, .slice b len c2] w fun e w' => e = .returned (.bool true) ∧ Below w.heap.size w w' := by
  have hlen := hR.fits
  have hmost := hR.most
  unfold maxLen at hmost
  go_enter Tryz.func131, Tryz.ntmps131
  go_wp2_with fail
  go_loopw [5] (fun i wr => ∃ k : Nat, k ≤ len ∧ i = .int .i64 k ∧ Below w.heap.size w wr) (fun i _ => len - (intOf i).toNat)
  case atStart => exact ⟨0, Nat.zero_le _, rfl, Below.refl _ _⟩
  case round =>
    obtain ⟨k, hk, rfl, hb⟩ := hrel
    by_cases hlt : k < len
    · obtain ⟨b1, o1, ha1, hb1, c0, c1, c2, c3⟩ := (hR.below (hb.mono hB)).at' hlt
      obtain ⟨b2, o2, ha2, hb2, d0, d1, d2, d3⟩ := (hQ.below (hb.mono hB)).at' hlt
      have HB := Lib.hid hb
      clear hb hR hQ
      subst ha1
      subst ha2
      generalize ps[k]?.getD tls0 = p at *
      go_wp2_with fail
      refine wp_region_line (Bel wr) [(0, true), (1, true), (2, true), (3, true), (4, true), (5, true), (6, true), (7, true), (8, false), (9, true)] (by kernel_rfl) (by kernel_rfl) (fun _ _ d _ _ h => by cases d <;> exact h) (Bel.drew wr) ?_
      have hst := Bel.drew wr
      have inst : Nonempty (Of (Bel wr)) := ⟨⟨_, hst⟩⟩
      have q0 := bel_cell c0
      have q1 := bel_cell c1
      have q2 := bel_cell c2
      have q3 := bel_cell c3
      have y0 := bel_cell d0
      have y1 := bel_cell d1
      have y2 := bel_cell d2
      have y3 := bel_cell d3
      iterate 8 (refine line_read rfl (by kernel_rfl) (fun K hK => ?_); go_big_quiet_op; refine hK _ ?_; clear hK K)
      refine line_alone rfl (by kernel_rfl) (fun K hK => ?_)
      refine call_wp (args := #[TV p, TV p]) rfl (by kernel_rfl) (by kernel_rfl) (eqTlsaT p _) (fun wn hbn => ?_)
      have hst2 := hst.on hbn
      refine hK _ _ hst2 ?_
      clear hK K hst hbn
      have hst := hst2
      clear hst2
      simp only [Act.put, List.setIfInBounds_toArray, List.set_cons_zero, List.set_cons_succ]
      iterate 1 (refine line_read rfl (by kernel_rfl) (fun K hK => ?_); go_big_quiet_op; refine hK _ ?_; clear hK K)
      refine line_nil ?_
      have bb := btr HB.out hst.out
      clear hst inst q0 q1 q2 q3 y0 y1 y2 y3 c0 c1 c2 c3 d0 d1 d2 d3 HB
      go_wp2_with fail
      go_roundw
      case rel => exact ⟨k + 1, by omega, by go_num, bb⟩
      case measure => simp [intOf]; omega
    · go_wp2_with fail
      go_ret
      exact ⟨rfl, hb⟩
end Go.Proofs.YtcolecidbalmhaaGreatDoor
