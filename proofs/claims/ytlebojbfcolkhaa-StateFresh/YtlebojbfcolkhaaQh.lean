/- The state of nothing: its root, its proofs. -/
import Derived.Test.YtlebojbfcolkhaaA11
import Derived.Test.YtlebojbfcolkhaaA12
import Derived.Test.YtlebojbfcolkhaaA23
namespace Go.Proofs.Ytlebojbfcolkhaa
open Go.RowKit
set_option maxRecDepth 100000
set_option linter.unusedVariables false
set_option linter.unusedSimpArgs false

def za : Ac := ⟨0, 0, Z32⟩
def oa : Ac := ⟨1, 0, Z32⟩
def zs : List Ac := List.replicate 32 za
theorem za_ok : AcOK za := ⟨by simp [za], by simp [za], by simp [za], by simp [za], Z32_len, Z32_bts⟩
theorem oa_ok : AcOK oa := ⟨by simp [oa], by simp [oa], by simp [oa], by simp [oa], Z32_len, Z32_bts⟩
theorem zs_len : zs.length = 32 := by simp [zs]
theorem zs_ok : ∀ a ∈ zs, AcOK a := by
  intro a ha; rw [(List.mem_replicate.1 ha).2]; exact za_ok
theorem zs_may : may zs 0 = true := by kernel_rfl
theorem tr_rep (d m : Nat) (x : List Int) (h : 2 ^ (d + 1) ≤ m) : tr (d + 1) (List.replicate m x) = pr (tr d (List.replicate (2 ^ d) x)) (tr d (List.replicate (2 ^ d) x)) := by
  have h2 : 2 ^ (d + 1) = 2 ^ d + 2 ^ d := by rw [Nat.pow_succ]; omega
  have e1 : tr d (List.replicate m x) = tr d (List.replicate (2 ^ d) x) := by rw [← tr_take d (List.replicate m x), List.take_replicate, Nat.min_eq_left (by omega)]
  have e2 : tr d (List.replicate (m - 2 ^ d) x) = tr d (List.replicate (2 ^ d) x) := by rw [← tr_take d (List.replicate (m - 2 ^ d) x), List.take_replicate, Nat.min_eq_left (by omega)]
  rw [tr_succ, List.drop_replicate, e1, e2]
theorem al_zs : al zs = List.replicate 32 v0 := by
  unfold al zs
  rw [List.map_replicate, show lf (acb za) = v0 from v0_eq]
theorem r0 (m : Nat) (h : 1 ≤ m) : tr 0 (List.replicate m v0) = v0 := by
  obtain ⟨k, rfl⟩ : ∃ k, m = k + 1 := ⟨m - 1, by omega⟩
  rfl
theorem r1t (m : Nat) (h : 2 ≤ m) : tr 1 (List.replicate m v0) = t1 := by rw [tr_rep 0 m v0 h, r0 _ (by decide), t1_eq]
theorem r2t (m : Nat) (h : 4 ≤ m) : tr 2 (List.replicate m v0) = t2 := by rw [tr_rep 1 m v0 h, r1t _ (by decide), t2_eq]
theorem r3t (m : Nat) (h : 8 ≤ m) : tr 3 (List.replicate m v0) = t3 := by rw [tr_rep 2 m v0 h, r2t _ (by decide), t3_eq]
theorem r4t (m : Nat) (h : 16 ≤ m) : tr 4 (List.replicate m v0) = t4 := by rw [tr_rep 3 m v0 h, r3t _ (by decide), t4_eq]
theorem r5t : tr 5 (al zs) = t5 := by rw [al_zs, tr_rep 4 32 v0 (by decide), r4t _ (by decide), t5_eq]
theorem vz_eq : Z32 = vz := rfl
theorem n5t : tr 5 [] = e5 := by
  rw [tr_nil, tr_nil, tr_nil, tr_nil, tr_nil, show tr 0 [] = vz from rfl, e1_eq, e2_eq, e3_eq, e4_eq, e5_eq]
theorem c0_eq : cnt 0 = c0 := by kernel_rfl
theorem rt_zs : rtS zs [] = q2 := by
  unfold rtS jn
  rw [r5t, show ol [] = [] from rfl, n5t, q1_eq, show ((([] : List Ou).length : Nat) : Int) = 0 from rfl, c0_eq, q2_eq]
theorem pf_zs : pf 5 (al zs) 3 = [v0, t1, t2, t3, t4] := by
  rw [al_zs]
  simp only [pf, show List.range 5 = [0, 1, 2, 3, 4] from rfl, List.map_cons, List.map_nil, List.drop_replicate]
  rw [show 32 - sib (3 / 2 ^ 0) * 2 ^ 0 = 30 from rfl, show 32 - sib (3 / 2 ^ 1) * 2 ^ 1 = 32 from rfl, show 32 - sib (3 / 2 ^ 2) * 2 ^ 2 = 28 from rfl, show 32 - sib (3 / 2 ^ 3) * 2 ^ 3 = 24 from rfl, show 32 - sib (3 / 2 ^ 4) * 2 ^ 4 = 16 from rfl,
    r0 _ (by decide), r1t _ (by decide), r2t _ (by decide), r3t _ (by decide), r4t _ (by decide)]
theorem fo_v0 : fo 3 v0 ([v0, t1, t2, t3, t4] ++ [e5, c0]) = q2 := by
  simp only [List.cons_append, List.nil_append, fo, show (3 : Nat) % 2 = 1 from rfl, show (3 : Nat) / 2 = 1 from rfl, show (1 : Nat) / 2 = 0 from rfl, show (1 : Nat) % 2 = 1 from rfl, show (0 : Nat) % 2 = 0 from rfl, show (0 : Nat) / 2 = 0 from rfl, if_true, show ((1 : Nat) = 0) = False from by simp, if_false]
  rw [t1_eq, t2_eq, t3_eq, t4_eq, t5_eq, q1_eq, q2_eq]
theorem fo_v1 : fo 3 v1 ([v0, t1, t2, t3, t4] ++ [e5, c0]) = r2 := by
  simp only [List.cons_append, List.nil_append, fo, show (3 : Nat) % 2 = 1 from rfl, show (3 : Nat) / 2 = 1 from rfl, show (1 : Nat) / 2 = 0 from rfl, show (1 : Nat) % 2 = 1 from rfl, show (0 : Nat) % 2 = 0 from rfl, show (0 : Nat) / 2 = 0 from rfl, if_true, show ((1 : Nat) = 0) = False from by simp, if_false]
  rw [p1_eq, p2_eq, p3_eq, p4_eq, p5_eq, r1_eq, r2_eq]
theorem r2_ne : r2 ≠ q2 := by decide
theorem ck_yes : ckA (rtS zs []) 3 za (pf 5 (al zs) 3) (tr 5 []) 0 = true := by
  unfold ckA
  rw [rt_zs, pf_zs, n5t, c0_eq, show lf (acb za) = v0 from v0_eq, show (3 : Int).toNat = 3 from rfl, fo_v0]
  exact decide_eq_true ⟨⟨rfl, by omega, by omega, by omega⟩, rfl⟩
theorem ck_no : ckA (rtS zs []) 3 oa (pf 5 (al zs) 3) (tr 5 []) 0 = false := by
  unfold ckA
  rw [rt_zs, pf_zs, n5t, c0_eq, show lf (acb oa) = v1 from v1_eq, show (3 : Int).toNat = 3 from rfl, fo_v1]
  exact decide_eq_false (fun h => r2_ne h.2)
theorem kn_last : (knB zs [])[95]? = some (1 :: (pr (tr 5 (al zs)) (tr 5 []) ++ cnt 0)) := by
  have l1 := prs_len 5 (pad (al zs)) (pad_len (by rw [al_len, zs_len]; omega))
  have l2 := prs_len 5 (pad (ol [])) (pad_len (by simp [ol]))
  unfold knB
  rw [List.getElem?_append_right (by simp [zs_len]; omega)]
  simp only [List.length_append, List.length_map, zs_len, List.length_nil]
  rw [show 95 - (32 + 0 + (prs 5 (pad (al zs))).length + (prs 5 (pad (ol []))).length) = 1 by omega]
  rfl
theorem kn_first : (knB zs [])[0]? = some (0 :: acb za) := by
  unfold knB zs
  simp [List.replicate_succ]
end Go.Proofs.Ytlebojbfcolkhaa
