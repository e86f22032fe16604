/- Contracts of the derived numbers of chapter 2, and of their model's. Conditions: as each theorem states. -/
import Derived.Test.YtlodhleihnlchaaDoorC2c
namespace Go.Proofs.YtlodhleihnlchaaDoor
open Go.RowKit

/-- A block of numbers that is known whole, read as a slice. -/
theorem row_at {k : IntKind} {w : World} (g n : Nat) (zs : List Int) (t : TypeId) (hg : w.heap[g]? = some (.cells (zs.map (Value.int k)).toArray t)) (hn : zs.length = n) (hm : n ≤ maxLen) (hw : ∀ z ∈ zs, (Lit.int k z).wf = true) :
    Row k w (g + 1) (some ⟨g, 0, none⟩) n n zs :=
  ⟨hn, hw, Nat.le_refl _, hm, fun _ => ⟨g, 0, rfl, by omega, fun j hj => by
    rw [Nat.zero_add]
    unfold World.cell?
    rw [hg]
    simp [List.getD, show j < zs.length by omega]⟩⟩
theorem sum_wf {z : Int} (h : M.sumB z = true) : (Lit.int .i64 z).wf = true := by
  simp only [M.sumB, decide_eq_true_eq] at h
  simp [Lit.wf, IntKind.min, IntKind.max, IntKind.signed, IntKind.bits]; omega
theorem row_one {w : World} (o : Obj) (z : Int) (t : TypeId) (h : M.sumB z = true) : Row .i64 ((w.alloc o).alloc (.cells #[.int .i64 z] t)) (w.heap.size + 1 + 1) (some ⟨w.heap.size + 1, 0, none⟩) 1 1 [z] := by
  refine row_at (w.heap.size + 1) 1 [z] t ?_ rfl (by simp only [maxLen]; omega) (fun x hx => by simp at hx; subst hx; exact sum_wf h)
  have := (MapKept.heap_alloc (w.alloc o) (.cells #[.int .i64 z] t)).1
  rw [show (w.alloc o).heap.size = w.heap.size + 1 by simp] at this
  exact this

theorem implDeriveKey_any (k : Int) (s : ByteArray) (w : World) (hs : s.size ≤ maxLen) :
    Calls Tryd.prog 58 #[.int .i64 k, .string s] w fun r w' => r = .returned (I2 (M.keyD k s).1 (M.keyD k s).2) ∧ Below w.heap.size w w' := by
  cases hK : M.sumB k
  · have E : M.keyD k s = (3, 0) := by simp [M.keyD, hK]
    rw [E]; clear E
    go_enter Tryd.func58, Tryd.ntmps58
    go_wp2_with fail
    refine (isSum_any _ _).mono ?_
    rintro r w' ⟨rfl, rfl⟩
    go_wp2_with fail
    exact bodyPost_ret (v := I2 3 0) (by simp [results, Tryd.results58, go_sem]) rfl ⟨rfl, bal (Below.refl _ _) _⟩
  rw [M.keyD_tag s hK]
  have hR := fun o t => row_one (w := w) o k t hK
  go_enter Tryd.func58, Tryd.ntmps58
  go_wp2_with fail
  refine (isSum_any _ _).mono ?_
  rintro r w' ⟨rfl, rfl⟩
  go_wp2_with fail
  refine (implTagSum_any _ _ _ _ _ _ _ hs (hR _ _) (by simp)).mono ?_
  rintro r w1 ⟨rfl, hb_w1⟩
  obtain ⟨hc_w1, hf_w1⟩ := bcell hb_w1
  have hz_w1 := hb_w1.size
  (try simp at hz_w1)
  have q0 : w1.cell? ⟨w.heap.size, 0, none⟩ = some (.int .i64 0) := cell_keep hb_w1 (by go_simp)
  have q1 : w1.cell? ⟨w.heap.size, 1, none⟩ = some (.int .i64 0) := cell_keep hb_w1 (by go_simp)
  go_wp2_with fail
  exact bodyPost_ret (v := I2 (M.tagR s [k]).1 (M.tagR s [k]).2) (by simp [results, Tryd.results58, go_sem, q0, q1]) rfl ⟨rfl, bset (bset (btr (bal (bal (Below.refl _ _) _) _) hb_w1) (Nat.le_refl _) _) (Nat.le_refl _) _⟩

theorem row_one0 {w : World} (z : Int) (t : TypeId) (h : M.sumB z = true) : Row .i64 (w.alloc (.cells #[.int .i64 z] t)) (w.heap.size + 1) (some ⟨w.heap.size, 0, none⟩) 1 1 [z] :=
  row_at w.heap.size 1 [z] t (MapKept.heap_alloc w _).1 rfl (by simp only [maxLen]; omega) (fun x hx => by simp at hx; subst hx; exact sum_wf h)
theorem keyD_ok {k : Int} {s : ByteArray} (h : ((M.keyD k s).1 == 0) = true) : M.sumB k = true := by
  cases hk : M.sumB k
  · simp [M.keyD, hk] at h
  · rfl
/-- The tagged sum of one number is the derived one. -/
theorem implTagSum_key (k : Int) (s : ByteArray) (t : TypeId) (w : World) (hs : s.size ≤ maxLen) (hk : M.sumB k = true) :
    Calls Tryd.prog 70 #[.string s, .slice (some ⟨w.heap.size, 0, none⟩) 1 1] (w.alloc (.cells #[.int .i64 k] t)) fun r w' => r = .returned (I2 (M.keyD k s).1 (M.keyD k s).2) ∧ Below w.heap.size w w' := by
  rw [M.keyD_tag s hk]
  exact (implTagSum_any s _ 1 1 _ [k] _ hs (row_one0 k t hk) (by simp)).mono fun _ _ ⟨h1, h2⟩ => ⟨h1, btr (bal (Below.refl _ _) _) h2⟩

def sameS (a b : Int) : Bool := M.sumB a && (a == b)
end Go.Proofs.YtlodhleihnlchaaDoor
