/- Texts of this seat that several laws rest on, laid into one. Conditions: as each theorem states. -/
import Derived.Test.YtlodhleihnlchaaGreatDoorX1
import Derived.Test.YtlodhleihnlchaaGreatDoorX2
import Derived.Deep.CutRange
namespace Go.Proofs.YtlodhleihnlchaaGreatDoor
open Go.RowKit
set_option maxRecDepth 100000
set_option linter.unusedVariables false

theorem implNormalFault_any (s : ByteArray) (w : World) (hs : s.size ≤ maxLen) :
    Calls Tryz.prog 106 #[.string s] w fun e w' => e = .returned (.int .i64 (M.normF s.data.toList)) ∧ Below w.heap.size w w' := by
  have hL : s.data.toList.length = s.size := by simp
  have F := fun w => implNameFault_any s w hs
  by_cases h0 : M.nameF s.data.toList = 0
  · obtain ⟨h20, hm⟩ := M.nameF_zero h0
    rw [hL] at h20
    have N := fun w : World => normalText_any s w h20 hm
    have Q := text_beq (M.bs (M.nrm s.data.toList)) s
    rw [M.bs_list] at Q
    by_cases hn : M.nrm s.data.toList = s.data.toList
    · rw [M.normF_yes h0 hn]
      rw [decide_eq_true hn] at Q
      simp only [h0] at F
      generalize M.bs (M.nrm s.data.toList) = R at *
      clear h0 hm hn hL
      go_enter Tryz.func106, Tryz.ntmps106
      go_wp2_with fail
      refine (F _).mono ?_
      rintro r w' ⟨rfl, rfl⟩
      go_wp2_with fail
      refine (N _).mono ?_
      rintro r u1 ⟨rfl, b1⟩
      go_wp2_with fail
      go_ret
      exact ⟨rfl, b1⟩
    · rw [M.normF_form h0 hn]
      rw [decide_eq_false hn] at Q
      simp only [h0] at F
      generalize M.bs (M.nrm s.data.toList) = R at *
      clear h0 hm hn hL
      go_enter Tryz.func106, Tryz.ntmps106
      go_wp2_with fail
      refine (F _).mono ?_
      rintro r w' ⟨rfl, rfl⟩
      go_wp2_with fail
      refine (N _).mono ?_
      rintro r u1 ⟨rfl, b1⟩
      go_wp2_with fail
      go_ret
      exact ⟨rfl, b1⟩
  · rw [M.normF_no h0]
    generalize M.nameF s.data.toList = c at *
    go_enter Tryz.func106, Tryz.ntmps106
    go_wp2_with fail
    refine (F _).mono ?_
    rintro r w' ⟨rfl, rfl⟩
    go_wp2_with fail
    go_ret
    exact ⟨rfl, Below.refl _ _⟩
abbrev T4 (n : ByteArray) (u m v : Int) : Value := .agg #[.string n, .int .i64 u, .int .i64 m, .int .i64 v]
abbrev T5 (c : Int) (n : ByteArray) (u m v : Int) : Value := .agg #[.int .i64 c, .string n, .int .i64 u, .int .i64 m, .int .i64 v]
end Go.Proofs.YtlodhleihnlchaaGreatDoor
namespace Go.Proofs.YtlodhleihnlchaaGreatDoor
open Go.RowKit

def pubB (v : Int) : Bool := inB v 2 2878 && (M.pw v 1439 2879 == 1)
theorem l1Public_any (v : Int) (w : World) :
    Calls Tryz.prog 174 #[.int .i64 v] w fun r w' => r = .returned (.bool (pubB v)) ∧ w = w' := by
  cases hV : inB v 2 2878
  · have E : pubB v = false := by simp [pubB, hV]
    rw [E]; clear E
    go_enter Tryz.func174, Tryz.ntmps174
    go_wp2_with fail
    refine (l1In_any _ _ _ _).mono ?_
    rintro r w' ⟨rfl, rfl⟩
    go_wp2_with fail
    go_ret
    simp
  have hV' := hV
  simp only [inB, decide_eq_true_eq] at hV'
  obtain ⟨v0, v1⟩ := hV'
  cases hP : (M.pw v 1439 2879 == 1)
  · have E : pubB v = false := by simp only [pubB, hP, Bool.and_false]
    rw [E]; clear E
    go_enter Tryz.func174, Tryz.ntmps174
    go_wp2_with fail
    refine (l1In_any _ _ _ _).mono ?_
    rintro r w' ⟨rfl, rfl⟩
    go_wp2_with fail
    refine (l1Raise_int _ _ _ (by omega) (by omega) (by omega) (by omega)).mono ?_
    rintro r w' ⟨rfl, rfl⟩
    go_wp2_with fail
    go_ret
    simp
  have E : pubB v = true := by simp only [pubB, hV, hP, Bool.and_true]
  rw [E]; clear E
  go_enter Tryz.func174, Tryz.ntmps174
  go_wp2_with fail
  refine (l1In_any _ _ _ _).mono ?_
  rintro r w' ⟨rfl, rfl⟩
  go_wp2_with fail
  refine (l1Raise_int _ _ _ (by omega) (by omega) (by omega) (by omega)).mono ?_
  rintro r w' ⟨rfl, rfl⟩
  go_wp2_with fail
  go_ret
  simp

theorem implIsPublic_any (v : Int) (w : World) :
    Calls Tryz.prog 105 #[.int .i64 v] w fun r w' => r = .returned (.bool (pubB v)) ∧ Below w.heap.size w w' := by
  by_cases h0 : 2 ≤ v
  · by_cases h1 : v ≤ 2878
    · cases hP : (M.pw v 1439 2879 == 1)
      · have E : pubB v = false := by simp only [pubB, hP, Bool.and_false]
        rw [E]; clear E
        go_enter Tryz.func105, Tryz.ntmps105
        go_wp2_with fail
        refine (power_int _ _ _ _ (by omega) (by omega) (by omega) (by omega) (by omega) (by omega)).mono ?_
        rintro r w1 ⟨rfl, hb_w1⟩
        obtain ⟨hc_w1, hf_w1⟩ := bcell hb_w1
        have hz_w1 := hb_w1.size
        (try simp at hz_w1)
        go_wp2_with fail
        go_ret
        exact ⟨rfl, hb_w1⟩
      · have E : pubB v = true := by simp only [pubB, inB, h0, h1, hP, Bool.and_true, and_self, decide_true]
        rw [E]; clear E
        go_enter Tryz.func105, Tryz.ntmps105
        go_wp2_with fail
        refine (power_int _ _ _ _ (by omega) (by omega) (by omega) (by omega) (by omega) (by omega)).mono ?_
        rintro r w1 ⟨rfl, hb_w1⟩
        obtain ⟨hc_w1, hf_w1⟩ := bcell hb_w1
        have hz_w1 := hb_w1.size
        (try simp at hz_w1)
        go_wp2_with fail
        go_ret
        exact ⟨rfl, hb_w1⟩
    · have E : pubB v = false := by simp [pubB, inB, h1]
      rw [E]; clear E
      go_enter Tryz.func105, Tryz.ntmps105
      go_wp2_with fail
      go_ret
      exact ⟨rfl, Below.refl _ _⟩
  · have E : pubB v = false := by simp [pubB, inB, h0]
    rw [E]; clear E
    go_enter Tryz.func105, Tryz.ntmps105
    go_wp2_with fail
    go_ret
    exact ⟨rfl, Below.refl _ _⟩

theorem l1Key_any (s : Int) (w : World) (s0 : 0 ≤ s) (s1 : s ≤ 1000000000) :
    Calls Tryz.prog 187 #[.int .i64 s] w fun r w' => r = .returned (I2 s (M.pw 4 s.toNat 2879)) ∧ Below w.heap.size w w' := by
  go_enter Tryz.func187, Tryz.ntmps187
  go_wp2_with fail
  refine (l1Raise_int _ _ _ (by omega) (by omega) (by omega) (by omega)).mono ?_
  rintro r w' ⟨rfl, rfl⟩
  go_wp2_with fail
  exact bodyPost_ret (v := I2 s (M.pw 4 s.toNat 2879)) (by simp [results, Tryz.results187, go_sem]) rfl ⟨rfl, bal (Below.refl _ _) _⟩

theorem pubB_bd {p : Int} (h : pubB p = true) : 2 ≤ p ∧ p ≤ 2878 := by
  simp only [pubB, inB, Bool.and_eq_true, decide_eq_true_eq] at h; exact h.1

end Go.Proofs.YtlodhleihnlchaaGreatDoor
namespace Go.Proofs.YtlodhleihnlchaaGreatDoor
open Go.RowKit
set_option maxRecDepth 100000
set_option linter.unusedVariables false

end Go.Proofs.YtlodhleihnlchaaGreatDoor
namespace Go.Proofs.YtlodhleihnlchaaGreatDoor.M

end Go.Proofs.YtlodhleihnlchaaGreatDoor.M
namespace Go.Proofs.YtlodhleihnlchaaGreatDoor
open Go.RowKit
set_option maxRecDepth 100000
set_option linter.unusedVariables false

theorem text_src (w : World) (s : ByteArray) (hs : s.size ≤ maxLen) :
    Go.Src Tryz.prog 1 22 (.slice (some ⟨w.heap.size, 0, none⟩) s.size (grownCap w s.size 0 5)) s.size ((M.textL s).map (Value.int .u8)) (w.alloc (textObj w s 5)).drew := by
  have R := Own.row (own_text w s 5 hs) (fun z hz => byte_wf (M.textL_byte s z hz))
  have R2 : Row .u8 (w.alloc (textObj w s 5)).drew (w.alloc (textObj w s 5)).heap.size (some ⟨w.heap.size, 0, none⟩) s.size (grownCap w s.size 0 5) (M.textL s) := R.keep (fun _ _ => rfl)
  exact R2.src Tryz.underlying22

end Go.Proofs.YtlodhleihnlchaaGreatDoor
namespace Go.Proofs.YtlodhleihnlchaaGreatDoor
open Go.RowKit

def Src (w : World) (g : Nat) (a : Option Addr) (len cap : Nat) (p : Nat) : Prop := w.heap[g]? = some (.cells #[.slice a len cap, .int .i64 p] 256 (0, 0))
theorem Src.lt {w : World} {g : Nat} {a : Option Addr} {len cap p : Nat} (h : Src w g a len cap p) : g < w.heap.size := by
  rcases Nat.lt_or_ge g w.heap.size with h1 | h1
  · exact h1
  · unfold Src at h; rw [Array.getElem?_eq_none h1] at h; cases h
theorem Src.cell0 {w : World} {g : Nat} {a : Option Addr} {len cap p : Nat} (h : Src w g a len cap p) : w.cell? ⟨g, 0, none⟩ = some (.slice a len cap) := by unfold Src at h; simp [World.cell?, h]
theorem Src.cell1 {w : World} {g : Nat} {a : Option Addr} {len cap p : Nat} (h : Src w g a len cap p) : w.cell? ⟨g, 1, none⟩ = some (.int .i64 p) := by unfold Src at h; simp [World.cell?, h]
theorem Src.free {w : World} {g : Nat} {a : Option Addr} {len cap p : Nat} (h : Src w g a len cap p) (i : Nat) : w.frozen? ⟨g, i, none⟩ = false := by unfold Src at h; simp [World.frozen?, h]
theorem Src.keep {w w' : World} {g : Nat} {a : Option Addr} {len cap p : Nat} (h : Src w g a len cap p) (hk : w'.heap[g]? = w.heap[g]?) : Src w' g a len cap p := hk.trans h
theorem Src.step {w : World} {g : Nat} {a : Option Addr} {len cap p : Nat} (h : Src w g a len cap p) : Src (w.setCell ⟨g, 1, none⟩ (.int .i64 (p + 1))) g a len cap (p + 1) := by
  unfold Src at *; simp [World.setCell, Array.getElem?_modify, h]

theorem Src.drewN {w : World} {g : Nat} {a : Option Addr} {len cap p : Nat} (h : Src w g a len cap p) (n : Nat) : Src (w.drewN n) g a len cap p := h

def Nexted (g : Nat) (n : Int) (a : Option Addr) (len cap p : Nat) (w : World) (r : Ending) (w' : World) : Prop :=
  ∃ v : Int, 0 ≤ v ∧ (v < n ∨ n < 1 ∧ v = 0) ∧ r = .returned (.int .i64 v) ∧ Src w' g a len cap (p + 1) ∧ Only g w w'

theorem l1Next_pos (g : Nat) (n : Int) (a : Option Addr) (len cap p B : Nat) (zs : List Int) (w : World) (hS : Src w g a len cap p) (hR : Row .u8 w B a len cap zs) (hB : B ≤ g) (hp : p ≤ 1000000) (hn : 1 ≤ n) (hl : 0 < len) :
    Calls Tryz.prog 92 #[.pointer (some ⟨g, 0, none⟩), .int .i64 n] w (Nexted g n a len cap p w) := by
  have c0 := hS.cell0
  have c1 := hS.cell1
  have f1 := hS.free 1
  have hlen := hR.fits
  have hmost := hR.most
  unfold maxLen at hmost
  obtain ⟨b, off, rfl, hb, hc⟩ := hR.cells hl
  have hbg : b ≠ g := by omega
  have r1 : p % len < len := Nat.mod_lt _ hl
  have r2 : (p + 1) % len < len := Nat.mod_lt _ hl
  have d1 := hc _ r1
  have d2 := hc _ r2
  obtain ⟨z0, z1⟩ := hR.byte (p % len)
  obtain ⟨y0, y1⟩ := hR.byte ((p + 1) % len)
  clear hc
  have q0 : 0 ≤ (p : Int) / len ∧ (p : Int) / len ≤ 1000000 := ⟨Int.ediv_nonneg (by omega) (by omega), by
    have : (p : Int) / len ≤ p := Int.ediv_le_self _ (by omega)
    omega⟩
  obtain ⟨q1, q2⟩ := q0
  have e0 : ((len : Int) == 0) = false := by rw [beq_eq_false_iff_ne]; omega
  simp only [List.getD_eq_getElem?_getD] at z0 z1 y0 y1 d1 d2
  have m1 : 0 ≤ ((p : Int) + 1) % len := Int.emod_nonneg _ (by omega)
  have m2 : ((p : Int) + 1) % len < len := Int.emod_lt_of_pos _ (by omega)
  have m3 : (((p : Int) + 1) % len).toNat = (p + 1) % len := by
    have : ((p : Int) + 1) % len = ((p + 1) % len : Nat) := by simp
    rw [this]; rfl
  have HS := Lib.hid (And.intro hS.step ((Only.refl g w).setCell 1 (.int .i64 (p + 1))))
  by_cases h2 : 200 < n
  · go_enter Tryz.func92, Tryz.ntmps92
    go_wp2_with fail
    go_quiet (fail)
    go_wp2_with fail
    go_quiet (fail)
    go_wp2_with fail
    go_ret
    exact ⟨_, Int.emod_nonneg _ (by omega), .inl (Int.emod_lt_of_pos _ (by omega)), rfl, HS.out.1.drewN _, HS.out.2.drewN _⟩
  · go_enter Tryz.func92, Tryz.ntmps92
    go_wp2_with fail
    go_quiet (fail)
    go_wp2_with fail
    go_ret
    exact ⟨_, Int.emod_nonneg _ (by omega), .inl (Int.emod_lt_of_pos _ (by omega)), rfl, HS.out.1.drewN _, HS.out.2.drewN _⟩

theorem l1Next_any (g : Nat) (n : Int) (a : Option Addr) (len cap p B : Nat) (zs : List Int) (w : World) (hS : Src w g a len cap p) (hR : Row .u8 w B a len cap zs) (hB : B ≤ g) (hp : p ≤ 1000000) :
    Calls Tryz.prog 92 #[.pointer (some ⟨g, 0, none⟩), .int .i64 n] w (Nexted g n a len cap p w) := by
  have c0 := hS.cell0
  have c1 := hS.cell1
  have f1 := hS.free 1
  have HS := Lib.hid (And.intro hS.step ((Only.refl g w).setCell 1 (.int .i64 (p + 1))))
  by_cases hn : n < 1
  · go_enter Tryz.func92, Tryz.ntmps92
    go_wp2_with fail
    go_ret
    exact ⟨0, by omega, .inr ⟨hn, rfl⟩, rfl, HS.out.1, HS.out.2⟩
  · rcases Nat.eq_zero_or_pos len with h0 | h0
    · have e0 : ((len : Int) == 0) = true := by rw [beq_iff_eq]; omega
      clear h0
      go_enter Tryz.func92, Tryz.ntmps92
      go_wp2_with fail
      go_ret
      exact ⟨_, Int.emod_nonneg _ (by omega), .inl (Int.emod_lt_of_pos _ (by omega)), rfl, HS.out.1, HS.out.2⟩
    · exact l1Next_pos g n a len cap p B zs w hS hR hB hp (by omega) h0

theorem l1Source_any (a : Option Addr) (len cap : Nat) (w : World) :
    Calls Tryz.prog 89 #[.slice a len cap] w fun r w' => r = .returned (.pointer (some ⟨w.heap.size, 0, none⟩)) ∧ w' = w.alloc (.cells #[.slice a len cap, .int .i64 0] 256) := by
  go_enter Tryz.func89, Tryz.ntmps89
  go_wp2_with fail
  go_ret
  simp

def Picked (g : Nat) (vs : List Int) (a : Option Addr) (len cap p : Nat) (w : World) (r : Ending) (w' : World) : Prop :=
  ∃ v : Int, v ∈ vs ∧ r = .returned (.int .i64 v) ∧ Src w' g a len cap (p + 1) ∧ Only g w w'

theorem l1Pick_any (g q n : Nat) (vs : List Int) (a : Option Addr) (len cap p B : Nat) (zs : List Int) (w : World) (hS : Src w g a len cap p) (hR : Row .u8 w B a len cap zs) (hB : B ≤ g) (hp : p ≤ 1000000)
    (hq : q ≠ g) (hv : vs.length = n) (hn : 1 ≤ n) (hm : n ≤ 100) (hc : ∀ j, j < n → w.cell? ⟨q, j, none⟩ = some (.int .i64 (vs.getD j 0))) :
    Calls Tryz.prog 93 #[.pointer (some ⟨g, 0, none⟩), .slice (some ⟨q, 0, none⟩) n n] w (Picked g vs a len cap p w) := by
  have Hc := Lib.hid hc
  clear hc
  go_enter Tryz.func93, Tryz.ntmps93
  go_wp2_with fail
  refine (l1Next_any g _ a len cap p B zs _ hS hR hB hp).mono ?_
  rintro r w' ⟨v, v0, v1, rfl, hS', hO⟩
  obtain ⟨k, rfl⟩ := Int.eq_ofNat_of_zero_le v0
  have hk : k < n := by omega
  have hcell : w'.cell? ⟨q, k, none⟩ = some (.int .i64 (vs.getD k 0)) := (World.cell?_of_block (w := w) (hO.block q hq)).trans (Hc.out k hk)
  have hmem : vs.getD k 0 ∈ vs := by
    have : k < vs.length := by omega
    simp [List.getD, this]
  have HE := Lib.hid (And.intro hmem (And.intro hS' hO))
  clear v0 v1 hmem hS' hO
  go_wp2_with fail
  go_ret
  exact ⟨vs.getD k 0, HE.out.1, by simp [List.getD]; rw [List.getElem?_eq_getElem (by omega)]; rfl, HE.out.2.1, HE.out.2.2⟩

theorem Src.new (w : World) (a : Option Addr) (len cap p : Nat) : Src (w.alloc (.cells #[.slice a len cap, .int .i64 p] 256)) w.heap.size a len cap p := by
  unfold Src; exact (MapKept.heap_alloc w _).1
theorem Src.alloc {w : World} {g : Nat} {a : Option Addr} {len cap p : Nat} (h : Src w g a len cap p) (o : Obj) : Src (w.alloc o) g a len cap p := h.keep (Below.heap_alloc w o g h.lt)

structure Draw (w0 : World) (a : Option Addr) (len cap : Nat) (zs : List Int) (p : Nat) (w : World) : Prop where
  src : Src w w0.heap.size a len cap p
  row : Row .u8 w w0.heap.size a len cap zs
  bel : Below w0.heap.size w0 w
theorem Draw.alloc {w0 : World} {a : Option Addr} {len cap : Nat} {zs : List Int} {p : Nat} {w : World} (h : Draw w0 a len cap zs p w) (o : Obj) : Draw w0 a len cap zs p (w.alloc o) :=
  ⟨h.src.alloc o, h.row.below ((Below.refl _ w).alloc h.bel.size o), h.bel.alloc h.bel.size o⟩
theorem Draw.only {w0 : World} {a : Option Addr} {len cap : Nat} {zs : List Int} {p p' : Nat} {w w' : World} (h : Draw w0 a len cap zs p w) (hS : Src w' w0.heap.size a len cap p') (hO : Only w0.heap.size w w') : Draw w0 a len cap zs p' w' :=
  ⟨hS, h.row.below (hO.below (Nat.le_refl _)), h.bel.trans (hO.below (Nat.le_refl _))⟩
theorem Draw.new {w0 : World} {a : Option Addr} {len cap : Nat} {zs : List Int} (p : Nat) (hR : Row .u8 w0 w0.heap.size a len cap zs) : Draw w0 a len cap zs p (w0.alloc (.cells #[.slice a len cap, .int .i64 p] 256)) :=
  ⟨Src.new w0 a len cap p, hR.below (bal (Below.refl _ _) _), bal (Below.refl _ _) _⟩
theorem Draw.below {w0 : World} {a : Option Addr} {len cap : Nat} {zs : List Int} {p : Nat} {w w' : World} (h : Draw w0 a len cap zs p w) (hb : Below w.heap.size w w') : Draw w0 a len cap zs p w' :=
  ⟨h.src.keep (hb.block _ h.src.lt), h.row.below (hb.mono h.bel.size), h.bel.trans (hb.mono h.bel.size)⟩

def DNext (w0 : World) (a : Option Addr) (len cap : Nat) (zs : List Int) (p : Nat) (n : Int) (w : World) (r : Ending) (w' : World) : Prop :=
  ∃ v : Int, 0 ≤ v ∧ (v < n ∨ n < 1 ∧ v = 0) ∧ r = .returned (.int .i64 v) ∧ Draw w0 a len cap zs (p + 1) w' ∧ Only w0.heap.size w w'
def DPick (w0 : World) (a : Option Addr) (len cap : Nat) (zs : List Int) (p : Nat) (vs : List Int) (w : World) (r : Ending) (w' : World) : Prop :=
  ∃ v : Int, v ∈ vs ∧ r = .returned (.int .i64 v) ∧ Draw w0 a len cap zs (p + 1) w' ∧ Only w0.heap.size w w'

theorem dnext {w0 : World} {a : Option Addr} {len cap : Nat} {zs : List Int} {p : Nat} (n : Int) {w : World} (D : Draw w0 a len cap zs p w) (hp : p ≤ 1000000) :
    Calls Tryz.prog 92 #[.pointer (some ⟨w0.heap.size, 0, none⟩), .int .i64 n] w (DNext w0 a len cap zs p n w) :=
  (l1Next_any w0.heap.size n a len cap p w0.heap.size zs w D.src D.row (Nat.le_refl _) hp).mono fun _ _ ⟨v, h0, h1, hr, hS, hO⟩ => ⟨v, h0, h1, hr, D.only hS hO, hO⟩

theorem cells_new (w : World) (vs : List Int) (t : TypeId) (j : Nat) (hj : j < vs.length) : (w.alloc (.cells (vs.map (Value.int .i64)).toArray t)).cell? ⟨w.heap.size, j, none⟩ = some (.int .i64 (vs.getD j 0)) := by
  have e : (w.alloc (.cells (vs.map (Value.int .i64)).toArray t)).heap[w.heap.size]? = some (.cells (vs.map (Value.int .i64)).toArray t) := (MapKept.heap_alloc w _).1
  unfold World.cell?
  rw [e]
  simp [hj]

theorem dpick {w0 : World} {a : Option Addr} {len cap : Nat} {zs : List Int} {p : Nat} (vs : List Int) (n : Nat) {w : World} (D : Draw w0 a len cap zs p w) (hp : p ≤ 1000000) (hn : 1 ≤ n) (hm : n ≤ 100) (hv : vs.length = n) (t : TypeId) :
    Calls Tryz.prog 93 #[.pointer (some ⟨w0.heap.size, 0, none⟩), .slice (some ⟨w.heap.size, 0, none⟩) n n] (w.alloc (.cells (vs.map (Value.int .i64)).toArray t)) (DPick w0 a len cap zs p vs (w.alloc (.cells (vs.map (Value.int .i64)).toArray t))) :=
  (l1Pick_any w0.heap.size w.heap.size n vs a len cap p w0.heap.size zs _ (D.alloc _).src (D.alloc _).row (Nat.le_refl _) hp (by have := D.src.lt; omega) hv hn hm (fun j hj => cells_new w vs t j (by omega))).mono fun _ _ ⟨v, h0, hr, hS, hO⟩ => ⟨v, h0, hr, (D.alloc _).only hS hO, hO⟩

theorem dsource {a : Option Addr} {len cap : Nat} {zs : List Int} {w : World} (hR : Row .u8 w w.heap.size a len cap zs) :
    Calls Tryz.prog 89 #[.slice a len cap] w fun r w' => r = .returned (.pointer (some ⟨w.heap.size, 0, none⟩)) ∧ Draw w a len cap zs 0 w' :=
  (l1Source_any a len cap w).mono fun _ _ ⟨hr, hw⟩ => ⟨hr, by rw [hw]; exact Draw.new 0 hR⟩
theorem lwBig_any (a : Option Addr) (len cap : Nat) (w : World) (h : len ≤ 9223372036854775807) :
    Calls Tryz.prog 11 #[.slice a len cap] w fun r w' => r = .returned (.bool (decide (1048576 < len))) ∧ w = w' := by
  by_cases hl : 1048576 < len
  · have e : decide (1048576 < len) = true := by simp [hl]
    rw [e]; clear e
    go_enter Tryz.func11, Tryz.ntmps11
    go_wp2_with fail
    go_ret
    simp; omega
  · have e : decide (1048576 < len) = false := by simp [hl]
    rw [e]; clear e
    go_enter Tryz.func11, Tryz.ntmps11
    go_wp2_with fail
    go_ret
    simp; omega

end Go.Proofs.YtlodhleihnlchaaGreatDoor
namespace Go.Proofs.YtlodhleihnlchaaGreatDoor
open Go.RowKit
set_option maxRecDepth 100000

structure Grid (w : World) (B : Nat) (a : Option Addr) (len cap : Nat) (zss : List (List Int)) : Prop where
  length : zss.length = len
  fits : len ≤ cap
  most : cap ≤ maxLen
  cells : 0 < len → ∃ b off, a = some ⟨b, off, none⟩ ∧ b < B ∧ ∀ j, j < len → ∃ a' n' c', w.cell? ⟨b, off + j, none⟩ = some (.slice a' n' c') ∧ Row .u8 w B a' n' c' (zss[j]?.getD [])
section
variable {w w' : World} {B B' : Nat} {a : Option Addr} {len cap : Nat} {zss : List (List Int)}
theorem Grid.keep (h : Grid w B a len cap zss) (hk : ∀ i, i < B → w'.heap[i]? = w.heap[i]?) : Grid w' B a len cap zss :=
  ⟨h.length, h.fits, h.most, fun hp => by
    obtain ⟨b, off, e, hb, hc⟩ := h.cells hp
    refine ⟨b, off, e, hb, fun j hj => ?_⟩
    obtain ⟨a', n', c', h1, h2⟩ := hc j hj
    exact ⟨a', n', c', (World.cell?_of_block (w := w) (hk b hb)).trans h1, h2.keep hk⟩⟩
theorem Grid.below (h : Grid w B a len cap zss) (hb : Below B w w') : Grid w' B a len cap zss := h.keep hb.block
theorem Grid.more (h : Grid w B a len cap zss) (hB : B ≤ B') : Grid w B' a len cap zss :=
  ⟨h.length, h.fits, h.most, fun hp => by
    obtain ⟨b, off, e, hb, hc⟩ := h.cells hp
    refine ⟨b, off, e, by omega, fun j hj => ?_⟩
    obtain ⟨a', n', c', h1, h2⟩ := hc j hj
    exact ⟨a', n', c', h1, h2.more hB⟩⟩
theorem Grid.on (h : Grid w w.heap.size a len cap zss) (hb : Below w.heap.size w w') : Grid w' w'.heap.size a len cap zss := (h.below hb).more hb.size
theorem Grid.alloc (h : Grid w B a len cap zss) (hB : B ≤ w.heap.size) (o : Obj) : Grid (w.alloc o) B a len cap zss := h.below ((Below.refl B w).alloc hB o)
theorem Grid.nil (w : World) (B : Nat) : Grid w B none 0 0 [] := ⟨rfl, Nat.le_refl _, Nat.zero_le _, fun h => absurd h (by omega)⟩
end

end Go.Proofs.YtlodhleihnlchaaGreatDoor
namespace Go.Proofs.YtlodhleihnlchaaGreatDoor
open Go.RowKit
set_option maxRecDepth 100000

section
variable {w w' : World} {B : Nat} {v : Value} {rows : List (Value × List Int)}
end
theorem OwnK.made (k : IntKind) {B : Nat} (w : World) (n : Nat) (e : TypeId) (hB : B ≤ w.heap.size) (hm : n ≤ maxLen) : OwnK k (w.alloc (.cells (madeCells #[.int k 0] n) e)) B (.slice (some ⟨w.heap.size, 0, none⟩) n n) (List.replicate n 0) := by
  have e1 : (w.alloc (.cells (madeCells #[.int k 0] n) e)).heap[w.heap.size]? = some (.cells (madeCells #[.int k 0] n) e) := (MapKept.heap_alloc w _).1
  have hs : (madeCells #[Value.int k 0] n).size = n := size_madeCells _ _
  refine ⟨by simp, .inr ⟨w.heap.size, n, by simp, hB, by simp, by simp, hm, fun j u hu => ?_, fun j hj => ?_⟩⟩
  · unfold World.cell?
    rw [e1]
    have ht := toList_madeCells_one (.int k 0) n
    simp only [Option.isSome_none, Bool.false_eq_true, if_false]
    rw [← Array.getElem?_toList, ht]
    simpa using hu
  · unfold World.cell? World.frozen?
    rw [e1]
    simp [show j < (madeCells #[Value.int k 0] n).size by rw [hs]; omega]
end Go.Proofs.YtlodhleihnlchaaGreatDoor
