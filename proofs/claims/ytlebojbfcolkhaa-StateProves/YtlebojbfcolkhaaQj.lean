/- StateProves: each account and each withdrawal checks. -/
import Derived.Test.YtlebojbfcolkhaaQi
namespace Go.Proofs.Ytlebojbfcolkhaa
open Go.RowKit
set_option maxRecDepth 100000
set_option linter.unusedVariables false
set_option linter.unusedSimpArgs false

theorem set_same {α : Type} {l : List α} {i : Nat} {x : α} (h : l[i]? = some x) : l.set i x = l := by
  obtain ⟨hi, e⟩ := List.getElem?_eq_some_iff.1 h
  rw [← e, List.set_getElem_self]
theorem al_get {ps : List Ac} {i : Nat} {a : Ac} (h : ps[i]? = some a) : (al ps)[i]? = some (lf (acb a)) := by simp [al, h]
theorem ol_get {os : List Ou} {i : Nat} {a : Ou} (h : os[i]? = some a) : (ol os)[i]? = some (lf (oub a)) := by simp [ol, h]
theorem ckA_self {ps : List Ac} {os : List Ou} {i n : Nat} {a : Ac} (h1 : ps.length = 32) (hn : n = os.length) (hn32 : n ≤ 32) (ha : ps[i]? = some a) : ckA (rtS ps os) (i : Int) a (pf 5 (al ps) i) (tr 5 (ol os)) (n : Int) = true := by
  have hi : i < 32 := by have := (List.getElem?_eq_some_iff.1 ha).1; omega
  unfold ckA
  refine decide_eq_true ⟨⟨pf_len _ _ _, by omega, by omega, by omega⟩, ?_⟩
  rw [show pf 5 (al ps) i ++ [tr 5 (ol os), cnt (n : Int)] = (pf 5 (al ps) i ++ [tr 5 (ol os)]) ++ [cnt (n : Int)] by simp, fo_app, fo_app, List.length_append, pf_len, Int.toNat_natCast]
  rw [if_pos (by show i / 2 ^ 6 % 2 = 0; rw [Nat.div_eq_of_lt (by omega)]), if_pos (by rw [Nat.div_eq_of_lt (by show i < 2 ^ 5; omega)]), fo_set 5 _ _ _ (by show i < 2 ^ 5; omega) (by rw [al_len]; omega), set_same (al_get ha)]
  unfold rtS jn
  rw [hn]
theorem ckO_self {ps : List Ac} {os : List Ou} {k n : Nat} {a : Ou} (hn : n = os.length) (hn32 : n ≤ 32) (ha : os[k]? = some a) : ckO (rtS ps os) (k : Int) a (pf 5 (ol os) k) (tr 5 (al ps)) (n : Int) = true := by
  have hi : k < n := by have := (List.getElem?_eq_some_iff.1 ha).1; omega
  unfold ckO
  refine decide_eq_true ⟨⟨pf_len _ _ _, by omega, by omega, by omega⟩, ?_⟩
  rw [show pf 5 (ol os) k ++ [tr 5 (al ps), cnt (n : Int)] = (pf 5 (ol os) k ++ [tr 5 (al ps)]) ++ [cnt (n : Int)] by simp, fo_app, fo_app, List.length_append, pf_len, Int.toNat_natCast]
  rw [if_pos (by show (32 + k) / 2 ^ 6 % 2 = 0; rw [Nat.div_eq_of_lt (by omega)]), if_neg (by show ¬ (32 + k) / 2 ^ 5 % 2 = 0; rw [show (32 + k) / 2 ^ 5 = 1 by omega]; omega), fo_low (i' := k) (by rw [pf_len]; show (32 + k) % 32 = k % 32; omega), fo_set 5 _ _ _ (by show k < 2 ^ 5; omega) (by rw [ol_len]; omega), set_same (ol_get ha)]
  unfold rtS jn
  rw [hn]
theorem size69 : (Try.prog.info? 69).map (·.size) = some 2 := by kernel_rfl
set_option maxHeartbeats 4000000 in
theorem proves_no (ps : List Ac) (sp : Option Addr) (n cap : Nat) (os : List Ou) (x y : Int) (w : World) (hS : SS w.heap.size w ps sp n cap os) (hx : 0 ≤ x ∧ x ≤ 255) (hy : 0 ≤ y ∧ y ≤ 255) (hm : may ps n = false) :
    Calls Try.prog 6 #[.agg (stA ps sp n cap), .agg #[.int .u8 x, .int .u8 y]] w fun e w' => e = .returned (.bool true) ∧ Below w.heap.size w w' := by
  have h1 := hS.a32.out
  have h2 := hS.l32
  have hok := hS.ok.out
  have hnl := hS.outs.len
  have hnsm := hS.outs.small
  have hS := hS.here
  have AS0 := (Arr.new w 30 (stA ps sp n cap)).alloc (.cells #[.int .u8 x, .int .u8 y] 69)
  have AB0 := Arr.new (w.alloc (.cells (stA ps sp n cap) 30)) 69 #[.int .u8 x, .int .u8 y]
  rw [World.size_alloc] at AB0
  have B0 := (alloc_bel' w (.cells (stA ps sp n cap) 30)).alloc (by simp) (.cells #[.int .u8 x, .int .u8 y] 69)
  obtain ⟨xi, hxi⟩ : ∃ i : Nat, (i : Int) = x := ⟨x.toNat, by omega⟩
  obtain ⟨yi, hyi⟩ : ∃ i : Nat, (i : Int) = y := ⟨y.toNat, by omega⟩
  subst hxi
  subst hyi
  have hR := Hid.mk' (fun u => root_no ps sp n cap u h1 hok hnsm hm)
  have hP := Hid.mk' (fun u => prove_no ps sp n cap ((xi % 32 : Nat) : Int) u h1 hok hnsm (.inl hm))
  have hM := Hid.mk' (fun u => by have h := refMay_any ps sp n cap u h1 hok hnsm; rw [hm] at h; exact h)
  go_enter Try.func6, Try.ntmps6
  go_upto_region 2 with (first
    | (refine ld30 (by rfl) _ (by rfl) w.heap.size 30 (by rfl) ps sp n cap h1 h2 AS0 ?_)
    | (go_at_call 11; go_must (refine (hR.out _).mono ?_; rintro r w1 ⟨rfl, hb1⟩))
    | (refine st24n (by rfl) _ _ (by rfl) w1 w1.heap.size rfl (by rfl) Z32 (by rfl) (by rfl) Z32_len ?_))
  have AS1 := (AS0.below hb1 AS0.lt).alloc (.cells (h8 Z32) 24)
  have AB1 := (AB0.below hb1 AB0.lt).alloc (.cells (h8 Z32) 24)
  have B1 := (B0.trans (hb1.mono B0.size)).alloc (Nat.le_trans B0.size hb1.size) (.cells (h8 Z32) 24)
  generalize w1.alloc (.cells (h8 Z32) 24) = W1 at *
  have c0 := AB1.cell 0
  simp at c0
  go_upto_region 3 with fail
  go_upto_region 4 with (first
    | (refine ld30 (by rfl) _ (by rfl) w.heap.size 30 (by rfl) ps sp n cap h1 h2 AS1 ?_)
    | (go_at_call 17; go_must (refine (hP.out _).mono ?_; rintro r w2 ⟨s3, c3, rfl, -, -, hb2⟩))
    | (refine st44n (by rfl) _ _ (by rfl) w2 w2.heap.size rfl (by rfl) s3 0 c3 Z32 0 (by rfl) (by rfl) Z32_len ?_))
  have AS2 := (AS1.below hb2 AS1.lt).alloc (.cells (wtA s3 0 c3 Z32 0) 44)
  have B2 := (B1.trans (hb2.mono B1.size)).alloc (Nat.le_trans B1.size hb2.size) (.cells (wtA s3 0 c3 Z32 0) 44)
  generalize w2.alloc (.cells (wtA s3 0 c3 Z32 0) 44) = W2 at *
  go_wp2_with (first
    | (refine ld30 (by rfl) _ (by rfl) w.heap.size 30 (by rfl) ps sp n cap h1 h2 AS2 ?_)
    | (go_at_call 14; go_must (refine (hM.out _).mono ?_; rintro r w3 ⟨rfl, hb3⟩))
    | (go_at_call 22; go_must (refine (anchored_any _).mono ?_; rintro r w4 ⟨rfl, hb4⟩)))
  go_ret
  exact ⟨rfl, (B2.trans (hb3.mono B2.size)).trans (hb4.mono (Nat.le_trans B2.size hb3.size))⟩
set_option maxHeartbeats 4000000 in
theorem proves_ok (ps : List Ac) (sp : Option Addr) (n cap : Nat) (os : List Ou) (x y : Int) (w : World) (hS : SS w.heap.size w ps sp n cap os) (hx : 0 ≤ x ∧ x ≤ 255) (hy : 0 ≤ y ∧ y ≤ 255) (hm : may ps n = true) :
    Calls Try.prog 6 #[.agg (stA ps sp n cap), .agg #[.int .u8 x, .int .u8 y]] w fun e w' => e = .returned (.bool true) ∧ Below w.heap.size w w' := by
  have h1 := hS.a32.out
  have h2 := hS.l32
  have hok := hS.ok.out
  have hnl := hS.outs.len
  have hnsm := hS.outs.small
  have hS := hS.here
  have AS0 := (Arr.new w 30 (stA ps sp n cap)).alloc (.cells #[.int .u8 x, .int .u8 y] 69)
  have AB0 := Arr.new (w.alloc (.cells (stA ps sp n cap) 30)) 69 #[.int .u8 x, .int .u8 y]
  rw [World.size_alloc] at AB0
  have B0 := (alloc_bel' w (.cells (stA ps sp n cap) 30)).alloc (by simp) (.cells #[.int .u8 x, .int .u8 y] 69)
  obtain ⟨xi, hxi⟩ : ∃ i : Nat, (i : Int) = x := ⟨x.toNat, by omega⟩
  obtain ⟨yi, hyi⟩ : ∃ i : Nat, (i : Int) = y := ⟨y.toNat, by omega⟩
  subst hxi
  subst hyi
  have hn32 := may_le hm
  have hi32 : xi % 32 < 32 := Nat.mod_lt _ (by omega)
  obtain ⟨a, ha⟩ : ∃ a, ps[xi % 32]? = some a := ⟨ps[xi % 32]'(by omega), List.getElem?_eq_getElem _⟩
  have hao := hok a (List.mem_of_getElem? ha)
  have ha32 := hao.l32
  have hck := ckA_self (os := os) h1 hnl.out hn32 ha
  have hE32 : (tr 5 (ol os)).length = 32 := tr5_len (ol_32 os)
  have hF32 : (tr 5 (al ps)).length = 32 := tr5_len (al_32 ps)
  have hR32 := rtS_len ps os
  have hR := Hid.mk' (fun u (hu : Below w.heap.size w u) => root_ok ps w.heap.size sp n cap os u (hS.below hu) hm)
  have hP := Hid.mk' (fun u (hu : Below w.heap.size w u) => prove_ok ps w.heap.size sp n cap os (xi % 32) u (hS.below hu) hm hi32)
  have hM := Hid.mk' (fun u => by have h := refMay_any ps sp n cap u h1 hok hnsm; rw [hm] at h; exact h)
  have hPO := Hid.mk' (fun k (hk : k < n) u (hu : Below w.heap.size w u) => proveOut_ok ps w.heap.size sp n cap os k u (hS.below hu) hm (by omega) hk)
  have hCA := Hid.mk' (fun u N s c (hW : WT N u s 5 c (pf 5 (al ps) (xi % 32)) (tr 5 (ol os)) n) => by
    have h := scheck_any (rtS ps os) ((xi % 32 : Nat) : Int) a N s 5 c _ _ n u hR32 hao hW (by omega)
    rw [hck] at h
    exact h)
  have hCO := Hid.mk' (fun k q (hq : os[k]? = some q) u N s c (hW : WT N u s 5 c (pf 5 (ol os) k) (tr 5 (al ps)) n) => by
    have hkk : k < n := by rw [hnl.out]; exact (List.getElem?_eq_some_iff.1 hq).1
    have h := scheckOut_any (rtS ps os) (k : Int) q N s 5 c _ _ n u hR32 hW (by omega)
    rw [ckO_self hnl.out hn32 hq] at h
    exact h)
  have hag := Hid.mk' ha
  clear ha hck hok
  generalize rtS ps os = RR at *
  generalize tr 5 (ol os) = EE at *
  generalize tr 5 (al ps) = FF at *
  obtain ⟨i, hie⟩ : ∃ i, i = xi % 32 := ⟨_, rfl⟩
  rw [← hie] at hi32 hP hCA hag
  replace hie := Hid.mk' hie
  go_enter Try.func6, Try.ntmps6
  go_upto_region 2 with (first
    | (refine ld30 (by rfl) _ (by rfl) w.heap.size 30 (by rfl) ps sp n cap h1 h2 AS0 ?_)
    | (go_at_call 11; go_must (refine (hR.out _ B0).mono ?_; rintro r w1 ⟨rfl, hb1⟩))
    | (refine st24n (by rfl) _ _ (by rfl) w1 w1.heap.size rfl (by rfl) RR (by rfl) (by rfl) hR32 ?_))
  have AS1 := (AS0.below hb1 AS0.lt).alloc (.cells (h8 RR) 24)
  have AB1 := (AB0.below hb1 AB0.lt).alloc (.cells (h8 RR) 24)
  have AR1 := Arr.new w1 24 (h8 RR)
  have B1 := (B0.trans (hb1.mono B0.size)).alloc (Nat.le_trans B0.size hb1.size) (.cells (h8 RR) 24)
  generalize w1.alloc (.cells (h8 RR) 24) = W1 at *
  have c0 := AB1.cell 0
  simp at c0
  go_upto_region 3 with fail
  have hrem : Hid (((xi : Int) % 32) = (i : Int)) := Hid.mk' (by rw [hie.out]; omega)
  simp only [hrem.out]
  go_upto_region 4 with (first
    | (refine ld30 (by rfl) _ (by rfl) w.heap.size 30 (by rfl) ps sp n cap h1 h2 AS1 ?_)
    | (go_at_call 17; go_must (refine (hP.out _ B1).mono ?_; rintro r w2 ⟨s3, c3, rfl, hH3, -, hb2⟩))
    | (refine st44n (by rfl) _ _ (by rfl) w2 w2.heap.size rfl (by rfl) s3 5 c3 EE n (by rfl) (by rfl) hE32 ?_))
  have AS2 := (AS1.below hb2 AS1.lt).alloc (.cells (wtA s3 5 c3 EE n) 44)
  have AB2 := (AB1.below hb2 AB1.lt).alloc (.cells (wtA s3 5 c3 EE n) 44)
  have AR2 := (AR1.below hb2 AR1.lt).alloc (.cells (wtA s3 5 c3 EE n) 44)
  have AW2 := Arr.new w2 44 (wtA s3 5 c3 EE n)
  have B2 := (B1.trans (hb2.mono B1.size)).alloc (Nat.le_trans B1.size hb2.size) (.cells (wtA s3 5 c3 EE n) 44)
  have hW2 : WT w2.heap.size (w2.alloc (.cells (wtA s3 5 c3 EE n) 44)) s3 5 c3 (pf 5 (al ps) i) EE n := ⟨hH3.below (alloc_bel' w2 _), hE32, by omega, by omega⟩
  have hs2 : w2.heap.size ≤ (w2.alloc (.cells (wtA s3 5 c3 EE n) 44)).heap.size := by simp
  generalize w2.alloc (.cells (wtA s3 5 c3 EE n) 44) = W2 at *
  go_upto_region 6 with (first
    | (refine ld30 (by rfl) _ (by rfl) w.heap.size 30 (by rfl) ps sp n cap h1 h2 AS2 ?_)
    | (go_at_call 14; go_must (refine (hM.out _).mono ?_; rintro r W ⟨rfl, hbM⟩)))
  have AS := AS2.below hbM AS2.lt
  have AB := AB2.below hbM AB2.lt
  have AR := AR2.below hbM AR2.lt
  have AW := AW2.below hbM AW2.lt
  have B3 := B2.trans (hbM.mono B2.size)
  have hWW := hW2.below (hbM.mono hs2)
  have rA := AS.stAt h2 hag.out
  obtain ⟨gr, hgr⟩ : ∃ gr, gr = w1.heap.size := ⟨_, rfl⟩
  obtain ⟨gw, hgw⟩ : ∃ gw, gw = w2.heap.size := ⟨_, rfl⟩
  rw [← hgr] at AR ⊢
  rw [← hgw] at AW ⊢
  have hC1 := Hid.mk' (hCA.out W.drew _ s3 c3 (hWW.below ((Below.refl W.heap.size W).drew.mono (Nat.le_trans hs2 hbM.size))))
  have hiI : (i : Int) < 32 := by omega
  clear hgr hgw AS2 AB2 AR2 AW2 hW2 AS1 AB1 AR1 AS0 AB0
  refine wp_region_held_drew (S := fun u => Below W.heap.size W u) (by kernel_rfl) ((Below.refl _ _).drew) (fun hHeld => ?_)
  refine wpAnyH_take (i := 0) (oi := ⟨_, _, _, _, _, _⟩) (v := ?_) rfl (by kernel_rfl) (by kernel_rfl) (by kernel_rfl) (fun _ _ _ h => h) (Or.inl ⟨by rfl, ?_⟩) (by assumption) ?_
  rotate_left
  · intro u hSw
    go_simp
    try (with_reducible rfl)
  try simp only [Act.put, List.setIfInBounds_toArray, List.set_cons_zero, List.set_cons_succ]
  refine wpAnyH_take (i := 1) (oi := ⟨_, _, _, _, _, _⟩) (v := ?_) rfl (by kernel_rfl) (by kernel_rfl) (by kernel_rfl) (fun _ _ _ h => h) (Or.inl ⟨by rfl, ?_⟩) (by assumption) ?_
  rotate_left
  · intro u hSw
    go_simp
    try (with_reducible rfl)
  try simp only [Act.put, List.setIfInBounds_toArray, List.set_cons_zero, List.set_cons_succ]
  refine wpAnyH_take (i := 2) (oi := ⟨_, _, _, _, _, _⟩) (v := ?_) rfl (by kernel_rfl) (by kernel_rfl) (by kernel_rfl) (fun _ _ _ h => h) (Or.inl ⟨by rfl, ?_⟩) (by assumption) ?_
  rotate_left
  · intro u hSw
    go_simp
    try (with_reducible rfl)
  try simp only [Act.put, List.setIfInBounds_toArray, List.set_cons_zero, List.set_cons_succ]
  refine wpAnyH_take (i := 3) (oi := ⟨_, _, _, _, _, _⟩) (v := ?_) rfl (by kernel_rfl) (by kernel_rfl) (by kernel_rfl) (fun _ _ _ h => h) (Or.inl ⟨by rfl, ?_⟩) (by assumption) ?_
  rotate_left
  · intro u hSw
    go_simp
    try (with_reducible rfl)
  try simp only [Act.put, List.setIfInBounds_toArray, List.set_cons_zero, List.set_cons_succ]
  refine wpAnyH_take (i := 4) (oi := ⟨_, _, _, _, _, _⟩) (v := ?_) rfl (by kernel_rfl) (by kernel_rfl) (by kernel_rfl) (fun _ _ _ h => h) (Or.inl ⟨by rfl, ?_⟩) (by assumption) ?_
  rotate_left
  · intro u hSw
    go_simp
    try (with_reducible rfl)
  try simp only [Act.put, List.setIfInBounds_toArray, List.set_cons_zero, List.set_cons_succ]
  refine wpAnyH_take (i := 5) (oi := ⟨_, _, _, _, _, _⟩) (v := ?_) rfl (by kernel_rfl) (by kernel_rfl) (by kernel_rfl) (fun _ _ _ h => h) (Or.inl ⟨by rfl, ?_⟩) (by assumption) ?_
  rotate_left
  · intro u hSw
    go_simp
    try (with_reducible rfl)
  try simp only [Act.put, List.setIfInBounds_toArray, List.set_cons_zero, List.set_cons_succ]
  refine wpAnyH_take (i := 6) (oi := ⟨_, _, _, _, _, _⟩) (v := ?_) rfl (by kernel_rfl) (by kernel_rfl) (by kernel_rfl) (fun _ _ _ h => h) (Or.inl ⟨by rfl, ?_⟩) (by assumption) ?_
  rotate_left
  · intro u hSw
    go_simp
    try (with_reducible rfl)
  try simp only [Act.put, List.setIfInBounds_toArray, List.set_cons_zero, List.set_cons_succ]
  refine wpAnyH_take (i := 7) (oi := ⟨_, _, _, _, _, _⟩) rfl (by kernel_rfl) (by kernel_rfl) (by kernel_rfl) (fun _ _ _ h => h) (y24c (by rfl) (.tmp 5) rfl gr 0 rfl RR hR32 (fun u hu => range_below AR.range hu AR.lt)) (by assumption) ?_
  try simp only [Act.put, List.setIfInBounds_toArray, List.set_cons_zero, List.set_cons_succ]
  refine wpAnyH_take (i := 8) (oi := ⟨_, _, _, _, _, _⟩) (v := ?_) rfl (by kernel_rfl) (by kernel_rfl) (by kernel_rfl) (fun _ _ _ h => h) (Or.inl ⟨by rfl, ?_⟩) (by assumption) ?_
  rotate_left
  · intro u hSw
    go_simp
    try (with_reducible rfl)
  try simp only [Act.put, List.setIfInBounds_toArray, List.set_cons_zero, List.set_cons_succ]
  refine wpAnyH_take (i := 9) (oi := ⟨_, _, _, _, _, _⟩) (v := ?_) rfl (by kernel_rfl) (by kernel_rfl) (by kernel_rfl) (fun _ _ _ h => h) (Or.inl ⟨by rfl, ?_⟩) (by assumption) ?_
  rotate_left
  · intro u hSw
    go_simp
    try (with_reducible rfl)
  try simp only [Act.put, List.setIfInBounds_toArray, List.set_cons_zero, List.set_cons_succ]
  refine wpAnyH_take (i := 10) (oi := ⟨_, _, _, _, _, _⟩) (v := ?_) rfl (by kernel_rfl) (by kernel_rfl) (by kernel_rfl) (fun _ _ _ h => h) (Or.inl ⟨by rfl, ?_⟩) (by assumption) ?_
  rotate_left
  · intro u hSw
    go_simp
    try (with_reducible rfl)
  try simp only [Act.put, List.setIfInBounds_toArray, List.set_cons_zero, List.set_cons_succ]
  refine wpAnyH_take (i := 11) (oi := ⟨_, _, _, _, _, _⟩) (v := ?_) rfl (by kernel_rfl) (by kernel_rfl) (by kernel_rfl) (fun _ _ _ h => h) (Or.inl ⟨by rfl, ?_⟩) (by assumption) ?_
  rotate_left
  · intro u hSw
    go_simp
    try (with_reducible rfl)
  try simp only [Act.put, List.setIfInBounds_toArray, List.set_cons_zero, List.set_cons_succ]
  refine wpAnyH_take (i := 12) (oi := ⟨_, _, _, _, _, _⟩) rfl (by kernel_rfl) (by kernel_rfl) (by kernel_rfl) (fun _ _ _ h => h) (y26 (by rfl) (.tmp 51) rfl w.heap.size (i * 34) rfl a ha32 (fun u hu => range_below rA hu AS.lt)) (by assumption) ?_
  try simp only [Act.put, List.setIfInBounds_toArray, List.set_cons_zero, List.set_cons_succ]
  refine wpAnyH_take (i := 13) (oi := ⟨_, _, _, _, _, _⟩) rfl (by kernel_rfl) (by kernel_rfl) (by kernel_rfl) (fun _ _ _ h => h) (y44 (by rfl) (.tmp 8) rfl gw 0 rfl s3 5 c3 EE n hE32 (fun u hu => range_below AW.wt hu AW.lt)) (by assumption) ?_
  try simp only [Act.put, List.setIfInBounds_toArray, List.set_cons_zero, List.set_cons_succ]
  refine wpAnyH_ready (rs := [14]) (by kernel_rfl) (by simp) ?_
  refine AllReadyH.cons (o := ⟨_, _, _, _, _, _⟩) rfl (fun K hK => ?_) AllReadyH.nil
  go_simp
  refine hC1.out.mono ?_; rintro e u1 ⟨rfl, hb1⟩; have U1 := (Below.refl W.heap.size W).drew.trans (hb1.mono (by simp))
  go_wp2_with fail
  refine hK.out _ _ U1 (fun hHeld => ?_)
  clear hK K
  try simp only [Act.put, List.setIfInBounds_toArray, List.set_cons_zero, List.set_cons_succ]
  refine wpAnyH_take (i := 15) (oi := ⟨_, _, _, _, _, _⟩) (v := ?_) rfl (by kernel_rfl) (by kernel_rfl) (by kernel_rfl) (fun _ _ _ h => h) (Or.inl ⟨by rfl, ?_⟩) (by assumption) ?_
  rotate_left
  · intro u hSw
    go_simp
    try (with_reducible rfl)
  try simp only [Act.put, List.setIfInBounds_toArray, List.set_cons_zero, List.set_cons_succ]
  refine wpAnyH_take (i := 16) (oi := ⟨_, _, _, _, _, _⟩) (v := ?_) rfl (by kernel_rfl) (by kernel_rfl) (by kernel_rfl) (fun _ _ _ h => h) (Or.inl ⟨by rfl, ?_⟩) (by assumption) ?_
  rotate_left
  · intro u hSw
    go_simp
    try (with_reducible rfl)
  try simp only [Act.put, List.setIfInBounds_toArray, List.set_cons_zero, List.set_cons_succ]
  refine wpAnyH_done (by kernel_rfl) ?_ _

  replace AS := AS.below U1 AS.lt
  replace AB := AB.below U1 AB.lt
  replace AR := AR.below U1 AR.lt
  replace AW := AW.below U1 AW.lt
  have B4 := B3.trans (U1.mono B3.size)
  have cO1 := AS.stOut h1 h2
  clear rA hC1 hCA hWW U1
  by_cases h0 : n = 0
  · subst h0
    go_wp2_with (go_at_call 22; go_must (refine (anchored_any _).mono ?_; rintro r w4 ⟨rfl, hb4⟩))
    go_ret
    exact ⟨rfl, B4.trans (hb4.mono B4.size)⟩
  · have hn0 : ¬ (n : Int) = 0 := by omega
    have hn0' : (0 : Int) < n := by omega
    have hk0 : yi % n < n := Nat.mod_lt _ (by omega)
    obtain ⟨k, hke⟩ : ∃ k, k = yi % n := ⟨_, rfl⟩
    rw [← hke] at hk0
    have hremk : Hid (((yi : Int) % (n : Int)) = (k : Int)) := Hid.mk' (by rw [hke, Int.natCast_emod])
    clear hke
    have c1 := AB.cell 1
    simp at c1
    go_upto_region 11 with fail
    try simp only [hremk.out]
    have hkI : (k : Int) < n := by omega
    go_upto_region 12 with (first
      | (refine ld30 (by rfl) _ (by rfl) w.heap.size 30 (by rfl) ps sp n cap h1 h2 AS ?_)
      | (go_at_call 19; go_must (refine (hPO.out k hk0 _ B4).mono ?_; rintro r w5 ⟨s5, c5, rfl, hH5, -, hb5⟩))
      | (refine st44n (by rfl) _ _ (by rfl) w5 w5.heap.size rfl (by rfl) s5 5 c5 FF n (by rfl) (by rfl) hF32 ?_))
    have AS2 := (AS.below hb5 AS.lt).alloc (.cells (wtA s5 5 c5 FF n) 44)
    have AR2 := (AR.below hb5 AR.lt).alloc (.cells (wtA s5 5 c5 FF n) 44)
    have AW2 := (AW.below hb5 AW.lt).alloc (.cells (wtA s5 5 c5 FF n) 44)
    have AV := Arr.new w5 44 (wtA s5 5 c5 FF n)
    have B5 := (B4.trans (hb5.mono B4.size)).alloc (Nat.le_trans B4.size hb5.size) (.cells (wtA s5 5 c5 FF n) 44)
    have hW5 : WT w5.heap.size (w5.alloc (.cells (wtA s5 5 c5 FF n) 44)) s5 5 c5 (pf 5 (ol os) k) FF n := ⟨hH5.below (alloc_bel' w5 _), hF32, by omega, by omega⟩
    have hs5 : w5.heap.size ≤ (w5.alloc (.cells (wtA s5 5 c5 FF n) 44)).heap.size := by simp
    generalize w5.alloc (.cells (wtA s5 5 c5 FF n) 44) = V at *
    obtain ⟨go, oo, rfl, hgo0, hRo⟩ := hS.outs.at0 (by omega)
    obtain ⟨q, hq⟩ : ∃ q, os[k]? = some q := ⟨os[k]'(by rw [← hnl.out]; exact hk0), List.getElem?_eq_getElem _⟩
    have rO := range_below (hRo k q hq) B5 hgo0
    have hgo : go < V.heap.size := Nat.lt_of_lt_of_le hgo0 B5.size
    have cO := AS2.stOut h1 h2
    have kV := wt_c' AV.wt hF32
    have kW := wt_c' AW2.wt hE32
    have hC3 := Hid.mk' (fun u (hu : Below V.heap.size V u) => hCO.out k q hq u _ s5 c5 (hW5.below (hu.mono hs5)))
    obtain ⟨gv, hgv⟩ : ∃ gv, gv = w5.heap.size := ⟨_, rfl⟩
    rw [← hgv] at AV kV ⊢
    clear hq hRo hgv AS AR AW AB hCO hPO hW5 cO1 c1
    have hwn : IntKind.i64.wrap (n : Int) = n := by rw [IntKind.wrap_i64]; omega
    have hnn : ((n : Int) == (n : Int)) = true := by simp
    refine wp_region_held_drew (S := fun u => Below V.heap.size V u) (by kernel_rfl) ((Below.refl _ _).drew) (fun hHeld => ?_)
    refine wpAnyH_ready (rs := [0]) (by kernel_rfl) (by simp) ?_
    refine AllReadyH.cons (o := ⟨_, _, _, _, _, _⟩) rfl (fun K hK => ?_) AllReadyH.nil
    go_simp
    refine (anchored_any _).mono ?_; rintro e u2 ⟨rfl, hb2⟩; have U2 := (Below.refl V.heap.size V).drew.trans (hb2.mono (by simp))
    go_wp2_with fail
    refine hK.out _ _ U2 (fun hHeld => ?_)
    clear hK K
    try simp only [Act.put, List.setIfInBounds_toArray, List.set_cons_zero, List.set_cons_succ]
    refine wpAnyH_take (i := 1) (oi := ⟨_, _, _, _, _, _⟩) (v := ?_) rfl (by kernel_rfl) (by kernel_rfl) (by kernel_rfl) (fun _ _ _ h => h) (Or.inl ⟨by rfl, ?_⟩) (by assumption) ?_
    rotate_left
    · intro u hSw
      go_simp
      try (with_reducible rfl)
    try simp only [Act.put, List.setIfInBounds_toArray, List.set_cons_zero, List.set_cons_succ]
    refine wpAnyH_take (i := 2) (oi := ⟨_, _, _, _, _, _⟩) (v := ?_) rfl (by kernel_rfl) (by kernel_rfl) (by kernel_rfl) (fun _ _ _ h => h) (Or.inl ⟨by rfl, ?_⟩) (by assumption) ?_
    rotate_left
    · intro u hSw
      go_simp
      try (with_reducible rfl)
    try simp only [Act.put, List.setIfInBounds_toArray, List.set_cons_zero, List.set_cons_succ]
    refine wpAnyH_take (i := 3) (oi := ⟨_, _, _, _, _, _⟩) (v := ?_) rfl (by kernel_rfl) (by kernel_rfl) (by kernel_rfl) (fun _ _ _ h => h) (Or.inl ⟨by rfl, ?_⟩) (by assumption) ?_
    rotate_left
    · intro u hSw
      go_simp
      try (with_reducible rfl)
    try simp only [Act.put, List.setIfInBounds_toArray, List.set_cons_zero, List.set_cons_succ]
    refine wpAnyH_take (i := 4) (oi := ⟨_, _, _, _, _, _⟩) (v := ?_) rfl (by kernel_rfl) (by kernel_rfl) (by kernel_rfl) (fun _ _ _ h => h) (Or.inl ⟨by rfl, ?_⟩) (by assumption) ?_
    rotate_left
    · intro u hSw
      go_simp
      try (with_reducible rfl)
    try simp only [Act.put, List.setIfInBounds_toArray, List.set_cons_zero, List.set_cons_succ]
    refine wpAnyH_take (i := 5) (oi := ⟨_, _, _, _, _, _⟩) (v := ?_) rfl (by kernel_rfl) (by kernel_rfl) (by kernel_rfl) (fun _ _ _ h => h) (Or.inl ⟨by rfl, ?_⟩) (by assumption) ?_
    rotate_left
    · intro u hSw
      go_simp
      try (with_reducible rfl)
    try simp only [Act.put, List.setIfInBounds_toArray, List.set_cons_zero, List.set_cons_succ]
    refine wpAnyH_take (i := 6) (oi := ⟨_, _, _, _, _, _⟩) rfl (by kernel_rfl) (by kernel_rfl) (by kernel_rfl) (fun _ _ _ h => h) (y24c (by rfl) (.tmp 5) rfl gr 0 rfl RR hR32 (fun u hu => range_below AR2.range hu AR2.lt)) (by assumption) ?_
    try simp only [Act.put, List.setIfInBounds_toArray, List.set_cons_zero, List.set_cons_succ]
    refine wpAnyH_take (i := 7) (oi := ⟨_, _, _, _, _, _⟩) (v := ?_) rfl (by kernel_rfl) (by kernel_rfl) (by kernel_rfl) (fun _ _ _ h => h) (Or.inl ⟨by rfl, ?_⟩) (by assumption) ?_
    rotate_left
    · intro u hSw
      go_simp
      try (with_reducible rfl)
    try simp only [Act.put, List.setIfInBounds_toArray, List.set_cons_zero, List.set_cons_succ]
    refine wpAnyH_take (i := 8) (oi := ⟨_, _, _, _, _, _⟩) (v := ?_) rfl (by kernel_rfl) (by kernel_rfl) (by kernel_rfl) (fun _ _ _ h => h) (Or.inl ⟨by rfl, ?_⟩) (by assumption) ?_
    rotate_left
    · intro u hSw
      go_simp
      try (with_reducible rfl)
    try simp only [Act.put, List.setIfInBounds_toArray, List.set_cons_zero, List.set_cons_succ]
    refine wpAnyH_take (i := 9) (oi := ⟨_, _, _, _, _, _⟩) (v := ?_) rfl (by kernel_rfl) (by kernel_rfl) (by kernel_rfl) (fun _ _ _ h => h) (Or.inl ⟨by rfl, ?_⟩) (by assumption) ?_
    rotate_left
    · intro u hSw
      have cc := (hSw.cell (p := ⟨w.heap.size, 1088, none⟩) AS2.lt).trans cO
      go_simp
      try (with_reducible rfl)
    try simp only [Act.put, List.setIfInBounds_toArray, List.set_cons_zero, List.set_cons_succ]
    refine wpAnyH_take (i := 10) (oi := ⟨_, _, _, _, _, _⟩) (v := ?_) rfl (by kernel_rfl) (by kernel_rfl) (by kernel_rfl) (fun _ _ _ h => h) (Or.inl ⟨by rfl, ?_⟩) (by assumption) ?_
    rotate_left
    · intro u hSw
      go_simp
      try (with_reducible rfl)
    try simp only [Act.put, List.setIfInBounds_toArray, List.set_cons_zero, List.set_cons_succ]
    refine wpAnyH_take (i := 11) (oi := ⟨_, _, _, _, _, _⟩) (v := ?_) rfl (by kernel_rfl) (by kernel_rfl) (by kernel_rfl) (fun _ _ _ h => h) (Or.inl ⟨by rfl, ?_⟩) (by assumption) ?_
    rotate_left
    · intro u hSw
      go_simp
      try (with_reducible rfl)
    try simp only [Act.put, List.setIfInBounds_toArray, List.set_cons_zero, List.set_cons_succ]
    refine wpAnyH_take (i := 12) (oi := ⟨_, _, _, _, _, _⟩) rfl (by kernel_rfl) (by kernel_rfl) (by kernel_rfl) (fun _ _ _ h => h) (y53 (by rfl) (.tmp 86) rfl go (oo + k * 2) rfl q (fun u hu => range_below rO hu hgo)) (by assumption) ?_
    try simp only [Act.put, List.setIfInBounds_toArray, List.set_cons_zero, List.set_cons_succ]
    refine wpAnyH_take (i := 13) (oi := ⟨_, _, _, _, _, _⟩) rfl (by kernel_rfl) (by kernel_rfl) (by kernel_rfl) (fun _ _ _ h => h) (y44 (by rfl) (.tmp 11) rfl gv 0 rfl s5 5 c5 FF n hF32 (fun u hu => range_below AV.wt hu AV.lt)) (by assumption) ?_
    try simp only [Act.put, List.setIfInBounds_toArray, List.set_cons_zero, List.set_cons_succ]
    refine wpAnyH_ready (rs := [14]) (by kernel_rfl) (by simp) ?_
    refine AllReadyH.cons (o := ⟨_, _, _, _, _, _⟩) rfl (fun K hK => ?_) AllReadyH.nil
    go_simp
    refine (hC3.out u2 U2).mono ?_; rintro e u3 ⟨rfl, hb3⟩; have U3 := U2.trans (hb3.mono U2.size)
    go_wp2_with fail
    refine hK.out _ _ U3 (fun hHeld => ?_)
    clear hK K
    try simp only [Act.put, List.setIfInBounds_toArray, List.set_cons_zero, List.set_cons_succ]
    refine wpAnyH_take (i := 15) (oi := ⟨_, _, _, _, _, _⟩) (v := ?_) rfl (by kernel_rfl) (by kernel_rfl) (by kernel_rfl) (fun _ _ _ h => h) (Or.inl ⟨by rfl, ?_⟩) (by assumption) ?_
    rotate_left
    · intro u hSw
      go_simp
      try (with_reducible rfl)
    try simp only [Act.put, List.setIfInBounds_toArray, List.set_cons_zero, List.set_cons_succ]
    refine wpAnyH_take (i := 16) (oi := ⟨_, _, _, _, _, _⟩) (v := ?_) rfl (by kernel_rfl) (by kernel_rfl) (by kernel_rfl) (fun _ _ _ h => h) (Or.inl ⟨by rfl, ?_⟩) (by assumption) ?_
    rotate_left
    · intro u hSw
      go_simp
      try (with_reducible rfl)
    try simp only [Act.put, List.setIfInBounds_toArray, List.set_cons_zero, List.set_cons_succ]
    refine wpAnyH_take (i := 17) (oi := ⟨_, _, _, _, _, _⟩) (v := ?_) rfl (by kernel_rfl) (by kernel_rfl) (by kernel_rfl) (fun _ _ _ h => h) (Or.inl ⟨by rfl, ?_⟩) (by assumption) ?_
    rotate_left
    · intro u hSw
      go_simp
      try (with_reducible rfl)
    try simp only [Act.put, List.setIfInBounds_toArray, List.set_cons_zero, List.set_cons_succ]
    refine wpAnyH_take (i := 18) (oi := ⟨_, _, _, _, _, _⟩) (v := ?_) rfl (by kernel_rfl) (by kernel_rfl) (by kernel_rfl) (fun _ _ _ h => h) (Or.inl ⟨by rfl, ?_⟩) (by assumption) ?_
    rotate_left
    · intro u hSw
      have cc := (hSw.cell (p := ⟨gv, 33, none⟩) AV.lt).trans kV
      go_simp
      try (with_reducible rfl)
    try simp only [Act.put, List.setIfInBounds_toArray, List.set_cons_zero, List.set_cons_succ]
    refine wpAnyH_take (i := 19) (oi := ⟨_, _, _, _, _, _⟩) (v := ?_) rfl (by kernel_rfl) (by kernel_rfl) (by kernel_rfl) (fun _ _ _ h => h) (Or.inl ⟨by rfl, ?_⟩) (by assumption) ?_
    rotate_left
    · intro u hSw
      go_simp
      try (with_reducible rfl)
    try simp only [Act.put, List.setIfInBounds_toArray, List.set_cons_zero, List.set_cons_succ]
    refine wpAnyH_take (i := 20) (oi := ⟨_, _, _, _, _, _⟩) (v := ?_) rfl (by kernel_rfl) (by kernel_rfl) (by kernel_rfl) (fun _ _ _ h => h) (Or.inl ⟨by rfl, ?_⟩) (by assumption) ?_
    rotate_left
    · intro u hSw
      have cc := (hSw.cell (p := ⟨gw, 33, none⟩) AW2.lt).trans kW
      go_simp
      try (with_reducible rfl)
    try simp only [Act.put, List.setIfInBounds_toArray, List.set_cons_zero, List.set_cons_succ]
    refine wpAnyH_take (i := 21) (oi := ⟨_, _, _, _, _, _⟩) (v := ?_) rfl (by kernel_rfl) (by kernel_rfl) (by kernel_rfl) (fun _ _ _ h => h) (Or.inl ⟨by rfl, ?_⟩) (by assumption) ?_
    rotate_left
    · intro u hSw
      go_simp
      try (with_reducible rfl)
    try simp only [Act.put, List.setIfInBounds_toArray, List.set_cons_zero, List.set_cons_succ]
    refine wpAnyH_take (i := 22) (oi := ⟨_, _, _, _, _, _⟩) (v := ?_) rfl (by kernel_rfl) (by kernel_rfl) (by kernel_rfl) (fun _ _ _ h => h) (Or.inl ⟨by rfl, ?_⟩) (by assumption) ?_
    rotate_left
    · intro u hSw
      go_simp
      try (with_reducible rfl)
    try simp only [Act.put, List.setIfInBounds_toArray, List.set_cons_zero, List.set_cons_succ]
    refine wpAnyH_take (i := 23) (oi := ⟨_, _, _, _, _, _⟩) (v := ?_) rfl (by kernel_rfl) (by kernel_rfl) (by kernel_rfl) (fun _ _ _ h => h) (Or.inl ⟨by rfl, ?_⟩) (by assumption) ?_
    rotate_left
    · intro u hSw
      go_simp
      try (with_reducible rfl)
    try simp only [Act.put, List.setIfInBounds_toArray, List.set_cons_zero, List.set_cons_succ]
    refine wpAnyH_take (i := 24) (oi := ⟨_, _, _, _, _, _⟩) (v := ?_) rfl (by kernel_rfl) (by kernel_rfl) (by kernel_rfl) (fun _ _ _ h => h) (Or.inl ⟨by rfl, ?_⟩) (by assumption) ?_
    rotate_left
    · intro u hSw
      go_simp
      try (with_reducible rfl)
    try simp only [Act.put, List.setIfInBounds_toArray, List.set_cons_zero, List.set_cons_succ]
    refine wpAnyH_take (i := 25) (oi := ⟨_, _, _, _, _, _⟩) (v := ?_) rfl (by kernel_rfl) (by kernel_rfl) (by kernel_rfl) (fun _ _ _ h => h) (Or.inl ⟨by rfl, ?_⟩) (by assumption) ?_
    rotate_left
    · intro u hSw
      have cc := (hSw.cell (p := ⟨gw, 33, none⟩) AW2.lt).trans kW
      go_simp
      try (with_reducible rfl)
    try simp only [Act.put, List.setIfInBounds_toArray, List.set_cons_zero, List.set_cons_succ]
    refine wpAnyH_take (i := 26) (oi := ⟨_, _, _, _, _, _⟩) (v := ?_) rfl (by kernel_rfl) (by kernel_rfl) (by kernel_rfl) (fun _ _ _ h => h) (Or.inl ⟨by rfl, ?_⟩) (by assumption) ?_
    rotate_left
    · intro u hSw
      go_simp
      try (with_reducible rfl)
    try simp only [Act.put, List.setIfInBounds_toArray, List.set_cons_zero, List.set_cons_succ]
    refine wpAnyH_take (i := 27) (oi := ⟨_, _, _, _, _, _⟩) (v := ?_) rfl (by kernel_rfl) (by kernel_rfl) (by kernel_rfl) (fun _ _ _ h => h) (Or.inl ⟨by rfl, ?_⟩) (by assumption) ?_
    rotate_left
    · intro u hSw
      go_simp
      try (with_reducible rfl)
    try simp only [Act.put, List.setIfInBounds_toArray, List.set_cons_zero, List.set_cons_succ]
    refine wpAnyH_take (i := 28) (oi := ⟨_, _, _, _, _, _⟩) (v := ?_) rfl (by kernel_rfl) (by kernel_rfl) (by kernel_rfl) (fun _ _ _ h => h) (Or.inl ⟨by rfl, ?_⟩) (by assumption) ?_
    rotate_left
    · intro u hSw
      have cc := (hSw.cell (p := ⟨w.heap.size, 1088, none⟩) AS2.lt).trans cO
      go_simp
      try (with_reducible rfl)
    try simp only [Act.put, List.setIfInBounds_toArray, List.set_cons_zero, List.set_cons_succ]
    refine wpAnyH_take (i := 29) (oi := ⟨_, _, _, _, _, _⟩) (v := ?_) rfl (by kernel_rfl) (by kernel_rfl) (by kernel_rfl) (fun _ _ _ h => h) (Or.inl ⟨by rfl, ?_⟩) (by assumption) ?_
    rotate_left
    · intro u hSw
      go_simp
      try (with_reducible rfl)
    try simp only [Act.put, List.setIfInBounds_toArray, List.set_cons_zero, List.set_cons_succ]
    refine wpAnyH_take (i := 30) (oi := ⟨_, _, _, _, _, _⟩) (v := ?_) rfl (by kernel_rfl) (by kernel_rfl) (by kernel_rfl) (fun _ _ _ h => h) (Or.inl ⟨by rfl, ?_⟩) (by assumption) ?_
    rotate_left
    · intro u hSw
      go_simp
      try (with_reducible rfl)
    try simp only [Act.put, List.setIfInBounds_toArray, List.set_cons_zero, List.set_cons_succ]
    refine wpAnyH_take (i := 31) (oi := ⟨_, _, _, _, _, _⟩) (v := ?_) rfl (by kernel_rfl) (by kernel_rfl) (by kernel_rfl) (fun _ _ _ h => h) (Or.inl ⟨by rfl, ?_⟩) (by assumption) ?_
    rotate_left
    · intro u hSw
      go_simp
      try (with_reducible rfl)
    try simp only [Act.put, List.setIfInBounds_toArray, List.set_cons_zero, List.set_cons_succ]
    refine wpAnyH_take (i := 32) (oi := ⟨_, _, _, _, _, _⟩) (v := ?_) rfl (by kernel_rfl) (by kernel_rfl) (by kernel_rfl) (fun _ _ _ h => h) (Or.inl ⟨by rfl, ?_⟩) (by assumption) ?_
    rotate_left
    · intro u hSw
      go_simp
      try (with_reducible rfl)
    try simp only [Act.put, List.setIfInBounds_toArray, List.set_cons_zero, List.set_cons_succ]
    refine wpAnyH_done (by kernel_rfl) ?_ _

    go_wp2_with fail
    go_ret
    exact ⟨rfl, B5.trans (U3.mono B5.size)⟩
theorem proves_walk (ps : List Ac) (sp : Option Addr) (n cap : Nat) (os : List Ou) (x y : Int) (w : World) (hS : SS w.heap.size w ps sp n cap os) (hx : 0 ≤ x ∧ x ≤ 255) (hy : 0 ≤ y ∧ y ≤ 255) :
    Calls Try.prog 6 #[.agg (stA ps sp n cap), .agg #[.int .u8 x, .int .u8 y]] w fun e w' => e = .returned (.bool true) ∧ Below w.heap.size w w' := by
  cases hm : may ps n with
  | true => exact proves_ok ps sp n cap os x y w hS hx hy hm
  | false => exact proves_no ps sp n cap os x y w hS hx hy hm
end Go.Proofs.Ytlebojbfcolkhaa
