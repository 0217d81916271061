/- Kn, Kf1, Kf2, Kf3, Kf, Km. -/
import Derived.Test.YtagebcbnenehfaaGreatX32
namespace Go.Proofs.YtagebcbnenehfaaGreat
open Go.RowKit
set_option maxRecDepth 100000
set_option linter.unusedVariables false
set_option linter.unusedSimpArgs false
set_option maxHeartbeats 40000000
theorem eigF_in {N g off n cap p : Nat} {bs : List Int} {x : Int} (w : World) (hB : BS N w (some ⟨g, off, none⟩) n cap bs) (hx : x = (p : Int)) (hp : p < n) :
   Calls Tryz.prog 141 #[.slice (some ⟨g, off, none⟩) n cap, .int .u64 x] w fun e w' => e = .returned (.int .u64 (pcN bs p 8)) ∧ Below w.heap.size w w' := by
 subst hx
 have hl := hB.len
 have hle := hB.le
 have hsm := hB.small
 have hbig := hB.big
 have a1 : (p : Int) < n := by omega
 have a2 : ¬ cap = p := by omega
 have a3 : (p : Int) ≤ n := by omega
 have a4 : ¬ (n : Int) < p := by omega
 have a5 : IntKind.u64.wrap (n : Int) = n := wrap64_of (by omega) (by omega)
 have hsl := hB.here.below (alloc_bel' w (.cells zero8.toArray 249))
 obtain ⟨b, o, e, -, hby⟩ := hsl.at0 (by omega)
 cases e
 have hsrc : ∀ j v, (by8 (pcL bs p))[j]? = some v → (w.alloc (.cells zero8.toArray 249)).drew.cell? ((⟨g, off + p, none⟩ : Addr).add j) = some v := fun j v hv => by
   have hj : j < (pcL bs p).length := by have := (List.getElem?_eq_some_iff.1 hv).1; rwa [by8_len] at this
   rw [by8_get hj] at hv
   have hj2 : j < min (bs.length - p) 8 := by rw [← pcL_len, by8_len]; exact hj
   have hn := hl.out
   rw [Addr.add_mid, Nat.add_assoc]
   have := hby (p + j) (by omega)
   rw [← hv]
   refine Eq.trans this ?_
   congr 2
   simp only [bat, pcL, List.getD_eq_getElem?_getD]
   rw [List.getElem?_take_of_lt (by omega), List.getElem?_drop]
 clear hby hsl
 replace hsrc := Hid.mk' hsrc
 go_enter Tryz.func141, Tryz.ntmps141
 go_upto_region 2 with fail
 refine rgn (fun _ => True) (trivial) (fun hHeld => ?_)
 refine tk 0 rfl ?_
 refine tk 1 rfl ?_
 refine tk 2 rfl ?_
 refine tk 3 rfl ?_
 refine tk 4 rfl ?_
 refine tk 5 rfl ?_
 refine tk 6 rfl ?_
 refine tk 7 rfl ?_
 refine rd 8 rfl (fun K hK => ?_)
 refine step_copy_splice rfl (.tmp 9) (.tmp 16) 32 32 rfl 5 Tryz.underlying32 size5 _ _ 8 8 (n - p) _ (by rfl) (by rfl) w.heap.size 0 zero8 249 (Arr.new w 249 _) (by8 (pcL bs p)) (by rw [pcL_len, ← hl.out]) (fun _ => ⟨rfl, _, rfl, hsrc.out⟩) (by rw [pcL_len, Nat.zero_add]; exact Nat.min_le_right _ _) (by8_one _) w.heap.size w ((alloc_bel' w _).drew) (Nat.le_refl _) ?_
 intro w1 H1 hb1
 refine ko hK trivial (fun hHeld => ?_)
 clear hK K
 refine dn ?_
 have A1 : Arr w1 w.heap.size 249 (splice zero8 0 (by8 (pcL bs p))).toArray := H1.out
 have hix := index119 _ _ (pcL_row bs p)
 have hs8 : (splice zero8 0 (by8 (pcL bs p))).toArray.size = 8 := by simp only [List.size_toArray]; rw [length_splice _ _ _ (by rw [pcL_len, Nat.zero_add]; exact Nat.min_le_right _ _)]; rfl
 generalize (splice zero8 0 (by8 (pcL bs p))).toArray = C at A1 hix hs8
 clear H1 hHeld
 go_wp2_with (refine wpList_load_row (by rfl) 249 (.tmp 5) (by rfl) w.heap.size (by rfl) 249 C (0, 0) _ A1 Tryz.underlying249 rfl (by rw [hs8]; exact size119) ?_)
 go_loopw [6, 19] (fun v q wr => wr = w1 ∧ ∃ (k : Nat), q = .int .i64 (k : Int) ∧ k ≤ 8 ∧ v = .int .u64 (pcN bs p k))
   (fun _ q _ => 8 - (intOf q).toNat)
 case atStart => exact ⟨rfl, 0, rfl, by omega, rfl⟩
 case round =>
   obtain ⟨rfl, k, rfl, hk, rfl⟩ := hrel
   by_cases hlt : k < 8
   · have hI : (k : Int) < 8 := by omega
     have hx := hix k hlt
     have hst := pcN_step hB.bts p hlt
     go_wp2_with fail
     go_roundw
     case rel => exact ⟨by trivial, k + 1, by go_num, by omega, by first | rfl | (rw [← hst]) | (simp only [pcN])⟩
     case measure => simp [intOf]; omega
   · obtain rfl : k = 8 := by omega
     go_wp2_with fail
     go_ret
     exact ⟨rfl, hb1⟩
theorem eigF_o1 {N n cap : Nat} {ad : Addr} {bs : List Int} {x : Int} (w : World) (hB : BS N w (some ad) n cap bs) (hx : U64 x) (hp : (n : Int) ≤ x) (hc : ¬ cap = n) :
   Calls Tryz.prog 141 #[.slice (some ad) n cap, .int .u64 x] w fun e w' => e = .returned (.int .u64 (pcN bs x.toNat 8)) ∧ Below w.heap.size w w' := by
 have hl := hB.len
 have hle := hB.le
 have hsm := hB.small
 have hbig := hB.big
 have hx1 := hx.1
 have hx2 := hx.2
 obtain ⟨p, hpp⟩ : ∃ p, p = x.toNat := ⟨_, rfl⟩
 rw [← hpp]
 have hz : by8 (pcL bs p) = [] := by
   have := hl.out
   apply List.eq_nil_of_length_eq_zero
   rw [pcL_len]; omega
 replace hz := Hid.mk' hz
 clear hpp
 have a5 : IntKind.u64.wrap (n : Int) = n := wrap64_of (by omega) (by omega)
 have a6 : (if (n : Int) < x then (n : Int) else x) = n := by split <;> omega
 go_enter Tryz.func141, Tryz.ntmps141
 go_upto_region 2 with fail
 refine rgn (fun _ => True) (trivial) (fun hHeld => ?_)
 refine tk 0 rfl ?_
 refine tk 1 rfl ?_
 refine tk 2 rfl ?_
 refine tk 3 rfl ?_
 refine tk 4 rfl ?_
 refine tk 5 rfl ?_
 refine tk 6 rfl ?_
 refine tk 7 rfl ?_
 refine rd 8 rfl (fun K hK => ?_)
 refine step_copy_splice rfl (.tmp 9) (.tmp 16) 32 32 rfl 5 Tryz.underlying32 size5 _ _ 8 8 0 _ (by rfl) (by rfl) w.heap.size 0 zero8 249 (Arr.new w 249 _) (by8 (pcL bs p)) (by rw [hz.out]; simp) (fun h0 => absurd h0 (by rw [hz.out]; simp)) (by rw [pcL_len, Nat.zero_add]; exact Nat.min_le_right _ _) (by8_one _) w.heap.size w ((alloc_bel' w _).drew) (Nat.le_refl _) ?_
 intro w1 H1 hb1
 refine ko hK trivial (fun hHeld => ?_)
 clear hK K
 refine dn ?_
 have A1 : Arr w1 w.heap.size 249 (splice zero8 0 (by8 (pcL bs p))).toArray := H1.out
 have hix := index119 _ _ (pcL_row bs p)
 have hs8 : (splice zero8 0 (by8 (pcL bs p))).toArray.size = 8 := by simp only [List.size_toArray]; rw [length_splice _ _ _ (by rw [pcL_len, Nat.zero_add]; exact Nat.min_le_right _ _)]; rfl
 generalize (splice zero8 0 (by8 (pcL bs p))).toArray = C at A1 hix hs8
 clear H1 hHeld
 go_wp2_with (refine wpList_load_row (by rfl) 249 (.tmp 5) (by rfl) w.heap.size (by rfl) 249 C (0, 0) _ A1 Tryz.underlying249 rfl (by rw [hs8]; exact size119) ?_)
 go_loopw [6, 19] (fun v q wr => wr = w1 ∧ ∃ (k : Nat), q = .int .i64 (k : Int) ∧ k ≤ 8 ∧ v = .int .u64 (pcN bs p k))
   (fun _ q _ => 8 - (intOf q).toNat)
 case atStart => exact ⟨rfl, 0, rfl, by omega, rfl⟩
 case round =>
   obtain ⟨rfl, k, rfl, hk, rfl⟩ := hrel
   by_cases hlt : k < 8
   · have hI : (k : Int) < 8 := by omega
     have hx := hix k hlt
     have hst := pcN_step hB.bts p hlt
     go_wp2_with fail
     go_roundw
     case rel => exact ⟨by trivial, k + 1, by go_num, by omega, by first | rfl | (rw [← hst]) | (simp only [pcN])⟩
     case measure => simp [intOf]; omega
   · obtain rfl : k = 8 := by omega
     go_wp2_with fail
     go_ret
     exact ⟨rfl, hb1⟩
theorem eigF_o2 {N n : Nat} {ad : Addr} {bs : List Int} {x : Int} (w : World) (hB : BS N w (some ad) n n bs) (hx : U64 x) (hp : (n : Int) ≤ x) :
   Calls Tryz.prog 141 #[.slice (some ad) n n, .int .u64 x] w fun e w' => e = .returned (.int .u64 (pcN bs x.toNat 8)) ∧ Below w.heap.size w w' := by
 have hl := hB.len
 have hle := hB.le
 have hsm := hB.small
 have hbig := hB.big
 have hx1 := hx.1
 have hx2 := hx.2
 obtain ⟨p, hpp⟩ : ∃ p, p = x.toNat := ⟨_, rfl⟩
 rw [← hpp]
 have hz : by8 (pcL bs p) = [] := by
   have := hl.out
   apply List.eq_nil_of_length_eq_zero
   rw [pcL_len]; omega
 replace hz := Hid.mk' hz
 clear hpp
 have a5 : IntKind.u64.wrap (n : Int) = n := wrap64_of (by omega) (by omega)
 have a6 : (if (n : Int) < x then (n : Int) else x) = n := by split <;> omega
 go_enter Tryz.func141, Tryz.ntmps141
 go_upto_region 2 with fail
 refine rgn (fun _ => True) (trivial) (fun hHeld => ?_)
 refine tk 0 rfl ?_
 refine tk 1 rfl ?_
 refine tk 2 rfl ?_
 refine tk 3 rfl ?_
 refine tk 4 rfl ?_
 refine tk 5 rfl ?_
 refine tk 6 rfl ?_
 refine tk 7 rfl ?_
 refine rd 8 rfl (fun K hK => ?_)
 refine step_copy_splice rfl (.tmp 9) (.tmp 16) 32 32 rfl 5 Tryz.underlying32 size5 _ _ 8 8 0 _ (by rfl) (by rfl) w.heap.size 0 zero8 249 (Arr.new w 249 _) (by8 (pcL bs p)) (by rw [hz.out]; simp) (fun h0 => absurd h0 (by rw [hz.out]; simp)) (by rw [pcL_len, Nat.zero_add]; exact Nat.min_le_right _ _) (by8_one _) w.heap.size w ((alloc_bel' w _).drew) (Nat.le_refl _) ?_
 intro w1 H1 hb1
 refine ko hK trivial (fun hHeld => ?_)
 clear hK K
 refine dn ?_
 have A1 : Arr w1 w.heap.size 249 (splice zero8 0 (by8 (pcL bs p))).toArray := H1.out
 have hix := index119 _ _ (pcL_row bs p)
 have hs8 : (splice zero8 0 (by8 (pcL bs p))).toArray.size = 8 := by simp only [List.size_toArray]; rw [length_splice _ _ _ (by rw [pcL_len, Nat.zero_add]; exact Nat.min_le_right _ _)]; rfl
 generalize (splice zero8 0 (by8 (pcL bs p))).toArray = C at A1 hix hs8
 clear H1 hHeld
 go_wp2_with (refine wpList_load_row (by rfl) 249 (.tmp 5) (by rfl) w.heap.size (by rfl) 249 C (0, 0) _ A1 Tryz.underlying249 rfl (by rw [hs8]; exact size119) ?_)
 go_loopw [6, 19] (fun v q wr => wr = w1 ∧ ∃ (k : Nat), q = .int .i64 (k : Int) ∧ k ≤ 8 ∧ v = .int .u64 (pcN bs p k))
   (fun _ q _ => 8 - (intOf q).toNat)
 case atStart => exact ⟨rfl, 0, rfl, by omega, rfl⟩
 case round =>
   obtain ⟨rfl, k, rfl, hk, rfl⟩ := hrel
   by_cases hlt : k < 8
   · have hI : (k : Int) < 8 := by omega
     have hx := hix k hlt
     have hst := pcN_step hB.bts p hlt
     go_wp2_with fail
     go_roundw
     case rel => exact ⟨by trivial, k + 1, by go_num, by omega, by first | rfl | (rw [← hst]) | (simp only [pcN])⟩
     case measure => simp [intOf]; omega
   · obtain rfl : k = 8 := by omega
     go_wp2_with fail
     go_ret
     exact ⟨rfl, hb1⟩
theorem eigF_o3 {N n : Nat} {ad : Addr} {bs : List Int} {x : Int} (w : World) (hB : BS N w none n n bs) (hx : U64 x) (hp : (n : Int) ≤ x) :
   Calls Tryz.prog 141 #[.slice none n n, .int .u64 x] w fun e w' => e = .returned (.int .u64 (pcN bs x.toNat 8)) ∧ Below w.heap.size w w' := by
 have hl := hB.len
 have hle := hB.le
 have hsm := hB.small
 have hbig := hB.big
 have hx1 := hx.1
 have hx2 := hx.2
 obtain ⟨p, hpp⟩ : ∃ p, p = x.toNat := ⟨_, rfl⟩
 rw [← hpp]
 have hz : by8 (pcL bs p) = [] := by
   have := hl.out
   apply List.eq_nil_of_length_eq_zero
   rw [pcL_len]; omega
 replace hz := Hid.mk' hz
 clear hpp
 have a5 : IntKind.u64.wrap (n : Int) = n := wrap64_of (by omega) (by omega)
 have a6 : (if (n : Int) < x then (n : Int) else x) = n := by split <;> omega
 obtain ⟨rfl, -⟩ := hB.nil rfl
 have a7 : (if IntKind.u64.wrap 0 < x then IntKind.u64.wrap 0 else x) = 0 := by rw [wrap_mod]; split <;> omega
 go_enter Tryz.func141, Tryz.ntmps141
 go_upto_region 2 with fail
 refine rgn (fun _ => True) (trivial) (fun hHeld => ?_)
 refine tk 0 rfl ?_
 refine tk 1 rfl ?_
 refine tk 2 rfl ?_
 refine tk 3 rfl ?_
 refine tk 4 rfl ?_
 refine tk 5 rfl ?_
 refine tk 6 rfl ?_
 refine tk 7 rfl ?_
 refine rd 8 rfl (fun K hK => ?_)
 refine step_copy_splice rfl (.tmp 9) (.tmp 16) 32 32 rfl 5 Tryz.underlying32 size5 _ _ 8 8 0 _ (by rfl) (by rfl) w.heap.size 0 zero8 249 (Arr.new w 249 _) (by8 (pcL bs p)) (by rw [hz.out]; simp) (fun h0 => absurd h0 (by rw [hz.out]; simp)) (by rw [pcL_len, Nat.zero_add]; exact Nat.min_le_right _ _) (by8_one _) w.heap.size w ((alloc_bel' w _).drew) (Nat.le_refl _) ?_
 intro w1 H1 hb1
 refine ko hK trivial (fun hHeld => ?_)
 clear hK K
 refine dn ?_
 have A1 : Arr w1 w.heap.size 249 (splice zero8 0 (by8 (pcL bs p))).toArray := H1.out
 have hix := index119 _ _ (pcL_row bs p)
 have hs8 : (splice zero8 0 (by8 (pcL bs p))).toArray.size = 8 := by simp only [List.size_toArray]; rw [length_splice _ _ _ (by rw [pcL_len, Nat.zero_add]; exact Nat.min_le_right _ _)]; rfl
 generalize (splice zero8 0 (by8 (pcL bs p))).toArray = C at A1 hix hs8
 clear H1 hHeld
 go_wp2_with (refine wpList_load_row (by rfl) 249 (.tmp 5) (by rfl) w.heap.size (by rfl) 249 C (0, 0) _ A1 Tryz.underlying249 rfl (by rw [hs8]; exact size119) ?_)
 go_loopw [6, 19] (fun v q wr => wr = w1 ∧ ∃ (k : Nat), q = .int .i64 (k : Int) ∧ k ≤ 8 ∧ v = .int .u64 (pcN bs p k))
   (fun _ q _ => 8 - (intOf q).toNat)
 case atStart => exact ⟨rfl, 0, rfl, by omega, rfl⟩
 case round =>
   obtain ⟨rfl, k, rfl, hk, rfl⟩ := hrel
   by_cases hlt : k < 8
   · have hI : (k : Int) < 8 := by omega
     have hx := hix k hlt
     have hst := pcN_step hB.bts p hlt
     go_wp2_with fail
     go_roundw
     case rel => exact ⟨by trivial, k + 1, by go_num, by omega, by first | rfl | (rw [← hst]) | (simp only [pcN])⟩
     case measure => simp [intOf]; omega
   · obtain rfl : k = 8 := by omega
     go_wp2_with fail
     go_ret
     exact ⟨rfl, hb1⟩
theorem eigF_any {N n cap : Nat} {sp : Option Addr} {bs : List Int} {x : Int} (w : World) (hB : BS N w sp n cap bs) (hx : U64 x) :
   Calls Tryz.prog 141 #[.slice sp n cap, .int .u64 x] w fun e w' => e = .returned (.int .u64 (pcN bs x.toNat 8)) ∧ Below w.heap.size w w' := by
 have h1 := hx.1
 by_cases hp : x < n
 · obtain ⟨g, off, rfl, -⟩ := hB.at0 (by omega)
   exact eigF_in w hB (by omega) (by omega)
 · cases sp with
   | none =>
     obtain ⟨rfl, rfl⟩ := hB.nil rfl
     exact eigF_o3 (ad := ⟨0, 0, none⟩) w hB hx (by omega)
   | some a =>
     by_cases hc : cap = n
     · subst hc; exact eigF_o2 w hB hx (by omega)
     · exact eigF_o1 w hB hx (by omega) hc
theorem made8 (s : Nat) : madeCells #[.int .u8 0] s = (by8 (List.replicate s 0)).toArray := by
 apply Array.ext'
 rw [toList_madeCells_one]
 simp [by8]
theorem sumIn_any {gB : Nat} {vs : List Int} (w : World) (hM : MW w gB vs) (hl : vs.length = 4) :
   Calls Tryz.prog 142 #[.slice (some ⟨gB, 0, none⟩) 4 4] w fun e w' => e = .returned (.agg (h8 (fmL (fun t => vs.getD t 0)))) ∧ Below w.heap.size w w' := by
 obtain ⟨W, hW⟩ : ∃ W : Nat → Int, W = fun t => vs.getD t 0 := ⟨_, rfl⟩
 rw [← hW]
 have hf := fmL_h8 W
 have hln := fmL_len W
 have hg4 := four_get W
 have ha := arrayAt4 ⟨gB, 0, none⟩ 4
 have hr : ∀ o, (w.alloc o).rangeAt gB 0 (four W) := fun o => four_range (fun t ht => by
   have h1 := (hM.below (alloc_bel' w o) hM.lt).cell (t := t) (by omega)
   rw [hW]; simpa using h1)
 clear hM hW
 generalize fmL W = F at *
 replace hf := Hid.mk' hf
 replace hg4 := Hid.mk' hg4
 replace hln := Hid.mk' hln
 go_enter Tryz.func142, Tryz.ntmps142
 go_wp2_with (first
   | (refine ld4 (by rfl) (.tmp 4) (by rfl) gB 0 (by rfl) W (hr _) ?_)
   | (go_at_call 172; go_must (refine (from_any _ W _ hg4.out).mono ?_; rintro e w2 ⟨rfl, hb2⟩; rw [hf.out]; have A2 := (Arr.new w 30 (h8 Z32)).below hb2 (by simp); have B2 := (alloc_bel' w (.cells (h8 Z32) 30)).trans (hb2.mono (by simp))))
   | (refine st24 (by rfl) (.tmp 2) (.tmp 6) (by rfl) w.heap.size F Z32 (by rfl) (by rfl) hln.out z32 A2 ?_))
 exact bodyPost_ret (v := .agg (h8 F)) (res24 Tryz.results142 rfl hln.out (A2.setRow _)) rfl ⟨rfl, below_setRow B2 (Nat.le_refl _) _⟩
theorem fbL_zero (W : Nat → Int) : fbL W 0 = [] := rfl
theorem fstB_any {gB c n : Nat} {y : Int} {vs : List Int} (w : World) (hM : MW w gB vs) (hl : vs.length = c) (hU : ∀ t, U64 (vs.getD t 0)) (hy : y = (n : Int)) (hn : n ≤ 128) (hc : n ≤ 8 * c) :
   Calls Tryz.prog 139 #[.slice (some ⟨gB, 0, none⟩) c c, .int .u64 y] w fun e w' => e = .returned (.slice (some ⟨w.heap.size, 0, none⟩) n n) ∧ Arr w' w.heap.size 5 (by8 (fbL (fun t => vs.getD t 0) n)).toArray ∧ Below w.heap.size w w' := by
 subst hy
 obtain ⟨i0, hi, hz0, hz1, hz2⟩ := info_parts info5
 obtain ⟨W, hW⟩ : ∃ W : Nat → Int, W = fun t => vs.getD t 0 := ⟨_, rfl⟩
 rw [← hW]
 have hcell : ∀ (u : World), Below w.heap.size w u → ∀ t, t < c → u.cell? ⟨gB, t, none⟩ = some (.int .u64 (W t)) := fun u hb t ht => by
   have h1 := (hM.below hb hM.lt).cell (t := t) (by omega)
   rw [hW]; exact h1
 have hUW : ∀ t, U64 (W t) := fun t => by rw [hW]; exact hU t
 have hgl := hM.lt
 clear hM hl hU hW
 go_enter Tryz.func139, Tryz.ntmps139
 go_wp2_with (at_make; go_must (refine wpList_make_row _ (by rfl) (.tmp 7) (.tmp 7) 32 (by rfl) 5 i0 (.int .u8 0) Tryz.underlying32 hi hz0 hz1 rfl .u64 .u64 n (by rfl) (by rfl) (by rw [hz2]; omega) (by omega) ?_))
 rw [made8]
 go_loopw [11] (fun q wr => ∃ (k : Nat), q = .int .i64 (k : Int) ∧ k ≤ n ∧ Arr wr w.heap.size 5 (by8 (fbL W k ++ List.replicate (n - k) 0)).toArray ∧ Below w.heap.size w wr)
   (fun q _ => n - (intOf q).toNat)
 case atStart => exact ⟨0, rfl, by omega, by rw [fbL_zero, List.nil_append, Nat.sub_zero]; exact Arr.new w 5 _, alloc_bel' w _⟩
 case round =>
   obtain ⟨k, rfl, hk, hA, hbl⟩ := hrel
   by_cases hlt : k < n
   · have hI : (k : Int) < n := by omega
     have hcl := hcell wr hbl (k / 8) (by omega)
     have hki' : ((k : Int) / 8) < c := by omega
     have e0 : (k : Int).tdiv 8 = (k : Int) / 8 := Int.tdiv_eq_ediv_of_nonneg (by omega)
     have hkn : ((k : Int) / 8).toNat = k / 8 := by omega
     have hk0 : 0 ≤ (k : Int) / 8 := by omega
     have hU := hUW (k / 8)
     have hU1 := hU.1
     have hU2 := hU.2
     have m8 : (k : Int).tmod 8 = (k : Int) % 8 := Int.tmod_eq_emod_of_nonneg (by omega)
     have w8 : (k : Int) % 8 < 8 := by omega
     have w0 : 0 ≤ (k : Int) % 8 := by omega
     have e2 : (56 - 8 * ((k : Int) % 8)).toNat = 56 - 8 * (k % 8) := by omega
     have hln : (fbL W k ++ List.replicate (n - k) (0 : Int)).length = n := by rw [List.length_append, fbL_len, List.length_replicate]; omega
     have hst : (by8 (fbL W k ++ List.replicate (n - k) (0 : Int))).toArray.setIfInBounds k (.int .u8 (fromB W k)) = (by8 (fbL W (k + 1) ++ List.replicate (n - (k + 1)) 0)).toArray := by
       rw [List.setIfInBounds_toArray]
       congr 1
       rw [← fbL_succ]
       unfold by8
       rw [← List.map_set, List.set_append_right _ _ (by rw [fbL_len]; omega), fbL_len, Nat.sub_self, show n - k = (n - (k + 1)) + 1 by omega, List.replicate_succ, List.set_cons_zero]
       simp
     have hck : ∃ z, wr.cell? ⟨w.heap.size, k, none⟩ = some z := ⟨_, (hA.cell k).trans (by rw [List.getElem?_toArray, by8_get (by omega)])⟩
     obtain ⟨z, hz⟩ := hck
     have hfz := hA.frozen k
     have hA2 := hA.set k (.int .u8 (fromB W k))
     rw [hst] at hA2
     clear hst hln
     go_wp2_with fail
     go_roundw
     case rel => exact ⟨k + 1, by go_num, by omega, hA2, hbl.setCell (Nat.le_refl _) _⟩
     case measure => simp [intOf]; omega
   · obtain rfl : k = n := by omega
     rw [Nat.sub_self, List.replicate_zero, List.append_nil] at hA
     go_wp2_with fail
     go_ret
     exact ⟨rfl, hA, hbl⟩
theorem touched_a {m : Mc} {o : Int} {a b c n cap : Nat} {i : Int} {sp : Option Addr} {p q : Int × Int} (w : World) (h16 : m.rg.length = 16) (hn : n ≤ 4096)
   (hnm : ∀ u, Calls Tryz.prog 136 #[.agg (cdA o a b c i), .agg (rgA m.rg)] u fun e w' => e = .returned (.tuple #[sp2 p, sp2 q]) ∧ Below u.heap.size u w') (hp1 : U64 p.1) (hp2 : U64 p.2) (hq1 : U64 q.1) (hq2 : U64 q.2) (h1 : inS p.1 p.2 n = false) :
   Calls Tryz.prog 78 #[.agg (cdA o a b c i), .agg (mcA m sp n cap)] w fun e w' => e = .returned (.tuple #[sp2 (0, 0), sp2 (0, 0)]) ∧ Below w.heap.size w w' := by
 have hi1 := fun u => isIn_any (sp := sp) (cap := cap) u hp1 hp2 hn
 have hi2 := fun u => isIn_any (sp := sp) (cap := cap) u hq1 hq2 hn
 rw [h1] at hi1
 clear h1
 have c18 := mcA_18 h16 sp n cap
 have hrl : (by64 m.rg).length = 16 := by simp [by64, h16]
 clear hp1 hp2 hq1 hq2
 unfold cdA at *
 have A2 : Arr ((((w.alloc (.cells #[.int .u8 o, .int .u8 a, .int .u8 b, .int .u8 c, .int .u32 i] 88)).alloc (.cells (mcA m sp n cap) 27)).alloc (.cells #[.int .u64 0, .int .u64 0] 156)).alloc (.cells #[.int .u64 0, .int .u64 0] 156)) w.heap.size 88 #[.int .u8 o, .int .u8 a, .int .u8 b, .int .u8 c, .int .u32 i] := (((Arr.new w 88 _).alloc _).alloc _).alloc _
 have A3 : Arr ((((w.alloc (.cells #[.int .u8 o, .int .u8 a, .int .u8 b, .int .u8 c, .int .u32 i] 88)).alloc (.cells (mcA m sp n cap) 27)).alloc (.cells #[.int .u64 0, .int .u64 0] 156)).alloc (.cells #[.int .u64 0, .int .u64 0] 156)) (w.heap.size + 1) 27 (mcA m sp n cap) := by have h := ((Arr.new (w.alloc (.cells #[.int .u8 o, .int .u8 a, .int .u8 b, .int .u8 c, .int .u32 i] 88)) 27 (mcA m sp n cap)).alloc (.cells #[.int .u64 0, .int .u64 0] 156)).alloc (.cells #[.int .u64 0, .int .u64 0] 156); simpa using h
 have A4 : Arr ((((w.alloc (.cells #[.int .u8 o, .int .u8 a, .int .u8 b, .int .u8 c, .int .u32 i] 88)).alloc (.cells (mcA m sp n cap) 27)).alloc (.cells #[.int .u64 0, .int .u64 0] 156)).alloc (.cells #[.int .u64 0, .int .u64 0] 156)) (w.heap.size + 1 + 1) 156 #[.int .u64 0, .int .u64 0] := by have h := (Arr.new ((w.alloc (.cells #[.int .u8 o, .int .u8 a, .int .u8 b, .int .u8 c, .int .u32 i] 88)).alloc (.cells (mcA m sp n cap) 27)) 156 #[.int .u64 0, .int .u64 0]).alloc (.cells #[.int .u64 0, .int .u64 0] 156); simpa using h
 have A5 : Arr ((((w.alloc (.cells #[.int .u8 o, .int .u8 a, .int .u8 b, .int .u8 c, .int .u32 i] 88)).alloc (.cells (mcA m sp n cap) 27)).alloc (.cells #[.int .u64 0, .int .u64 0] 156)).alloc (.cells #[.int .u64 0, .int .u64 0] 156)) (w.heap.size + 1 + 1 + 1) 156 #[.int .u64 0, .int .u64 0] := by have h := Arr.new (((w.alloc (.cells #[.int .u8 o, .int .u8 a, .int .u8 b, .int .u8 c, .int .u32 i] 88)).alloc (.cells (mcA m sp n cap) 27)).alloc (.cells #[.int .u64 0, .int .u64 0] 156)) 156 #[.int .u64 0, .int .u64 0]; simpa using h
 have B5 : Below w.heap.size w ((((w.alloc (.cells #[.int .u8 o, .int .u8 a, .int .u8 b, .int .u8 c, .int .u32 i] 88)).alloc (.cells (mcA m sp n cap) 27)).alloc (.cells #[.int .u64 0, .int .u64 0] 156)).alloc (.cells #[.int .u64 0, .int .u64 0] 156)) := (((alloc_bel' w _).alloc (by simp) _).alloc (by simp; omega) _).alloc (by simp; omega) _
 go_enter Tryz.func78, Tryz.ntmps78
 go_upto_region 1 with fail
 generalize ((((w.alloc (.cells #[.int .u8 o, .int .u8 a, .int .u8 b, .int .u8 c, .int .u32 i] 88)).alloc (.cells (mcA m sp n cap) 27)).alloc (.cells #[.int .u64 0, .int .u64 0] 156)).alloc (.cells #[.int .u64 0, .int .u64 0] 156)) = W at *
 go_upto_region 2 with (first
   | (refine atL 88 (.tmp 2) ?_; go_must (refine ldR (by rfl) 88 (.tmp 2) (by rfl) w.heap.size (by rfl) _ A2 Tryz.underlying88 rfl size88 ?_))
   | (refine atL 23 (.tmp 8) ?_; go_must (refine ldM (by rfl) 23 (.tmp 8) (by rfl) (w.heap.size + 1) 1 (by rfl) (by64 m.rg) (mcA_rg A3) Tryz.underlying23 rfl (by rw [hrl]; exact size23) ?_))
   | (go_at_call 136; go_must (refine (hnm _).mono ?_; rintro e w1 ⟨rfl, hb1⟩; replace A3 := A3.bel hb1; replace A4 := A4.bel hb1; replace A5 := A5.bel hb1; replace B5 := B5.trans (hb1.mono B5.size); clear A2))
   | (refine atS 156 (.tmp 4) (.tmp 11) ?_; go_must (refine wpList_store_row (by rfl) 156 (.tmp 4) (.tmp 11) (by rfl) (w.heap.size + 1 + 1) (spA p) (by rfl) (by rfl) 156 _ A4 size156 rfl (spA_one _) ?_))
   | (refine atS 156 (.tmp 5) (.tmp 12) ?_; go_must (refine wpList_store_row (by rfl) 156 (.tmp 5) (.tmp 12) (by rfl) (w.heap.size + 1 + 1 + 1) (spA q) (by rfl) (by rfl) 156 _ (A5.setRowOther _ (by omega)) size156 rfl (spA_one _) ?_)))
 replace A3 := (A3.setRowOther (k := (w.heap.size + 1 + 1)) (spA p) (by omega)).setRowOther (k := (w.heap.size + 1 + 1 + 1)) (spA q) (by omega)
 replace A4 := (A4.setRow (spA p)).setRowOther (k := (w.heap.size + 1 + 1 + 1)) (spA q) (by omega)
 replace A5 := (A5.setRowOther (k := (w.heap.size + 1 + 1)) (spA p) (by omega)).setRow (spA q)
 replace B5 := below_setRow (below_setRow B5 (g := (w.heap.size + 1 + 1)) (by omega) (spA p)) (g := (w.heap.size + 1 + 1 + 1)) (by omega) (spA q)
 generalize (w1.setRow (w.heap.size + 1 + 1) (spA p)).setRow (w.heap.size + 1 + 1 + 1) (spA q) = V at *
 have k18 := (A3.cell 18).trans c18
 go_wp2_with (first
   | (refine atL 156 (.tmp 4) ?_; go_must (refine ldR (by rfl) 156 (.tmp 4) (by rfl) (w.heap.size + 1 + 1) (by rfl) _ A4 Tryz.underlying156 rfl size156 ?_))
   | fail
   | (go_at_call 134; go_must (refine (hi1 _).mono ?_; rintro e w2 ⟨rfl, hb2⟩; replace A3 := A3.bel hb2; replace A4 := A4.bel hb2; replace A5 := A5.bel hb2; replace B5 := B5.trans (hb2.mono B5.size); have k18b := (A3.cell 18).trans c18; clear hi1; have hi1 := hi2))
   | (refine atS 156 (.tmp 4) (.tmp 25) ?_; go_must (refine wpList_store_row (by rfl) 156 (.tmp 4) (.tmp 25) (by rfl) (w.heap.size + 1 + 1) (spA (0, 0)) (by rfl) (by rfl) 156 _ A4 size156 rfl (spA_one _) ?_))
   | (refine atS 156 (.tmp 5) (.tmp 26) ?_; go_must (refine wpList_store_row (by rfl) 156 (.tmp 5) (.tmp 26) (by rfl) (w.heap.size + 1 + 1 + 1) (spA (0, 0)) (by rfl) (by rfl) 156 _ (A5.setRowOther _ (by omega)) size156 rfl (spA_one _) ?_)))
 have k1 := (A4.setRow (spA (0, 0))).setRowOther (k := (w.heap.size + 1 + 1 + 1)) (spA (0, 0)) (by omega)
 have k2 := (A5.setRowOther (k := (w.heap.size + 1 + 1)) (spA (0, 0)) (by omega)).setRow (spA (0, 0))
 have k3 := below_setRow (below_setRow B5 (g := (w.heap.size + 1 + 1)) (by omega) (spA (0, 0))) (g := (w.heap.size + 1 + 1 + 1)) (by omega) (spA (0, 0))
 generalize World.setRow _ _ _ = U at k1 k2 k3 ⊢
 have v1 := k1.cell 0
 have v2 := k1.cell 1
 have v3 := k2.cell 0
 have v4 := k2.cell 1
 change _ = some (Value.int .u64 _) at v1
 change _ = some (Value.int .u64 _) at v2
 change _ = some (Value.int .u64 _) at v3
 change _ = some (Value.int .u64 _) at v4
 refine bodyPost_ret (by simp [results, Tryz.results78, go_sem, v1, v2, v3, v4]; try (first | rfl | exact ⟨rfl, rfl⟩)) rfl ⟨rfl, k3⟩
theorem touched_b {m : Mc} {o : Int} {a b c n cap : Nat} {i : Int} {sp : Option Addr} {p q : Int × Int} (w : World) (h16 : m.rg.length = 16) (hn : n ≤ 4096)
   (hnm : ∀ u, Calls Tryz.prog 136 #[.agg (cdA o a b c i), .agg (rgA m.rg)] u fun e w' => e = .returned (.tuple #[sp2 p, sp2 q]) ∧ Below u.heap.size u w') (hp1 : U64 p.1) (hp2 : U64 p.2) (hq1 : U64 q.1) (hq2 : U64 q.2) (h1 : inS p.1 p.2 n = true) (h2 : inS q.1 q.2 n = false) :
   Calls Tryz.prog 78 #[.agg (cdA o a b c i), .agg (mcA m sp n cap)] w fun e w' => e = .returned (.tuple #[sp2 (0, 0), sp2 (0, 0)]) ∧ Below w.heap.size w w' := by
 have hi1 := fun u => isIn_any (sp := sp) (cap := cap) u hp1 hp2 hn
 have hi2 := fun u => isIn_any (sp := sp) (cap := cap) u hq1 hq2 hn
 rw [h1] at hi1
 rw [h2] at hi2
 clear h1 h2
 have c18 := mcA_18 h16 sp n cap
 have hrl : (by64 m.rg).length = 16 := by simp [by64, h16]
 clear hp1 hp2 hq1 hq2
 unfold cdA at *
 have A2 : Arr ((((w.alloc (.cells #[.int .u8 o, .int .u8 a, .int .u8 b, .int .u8 c, .int .u32 i] 88)).alloc (.cells (mcA m sp n cap) 27)).alloc (.cells #[.int .u64 0, .int .u64 0] 156)).alloc (.cells #[.int .u64 0, .int .u64 0] 156)) w.heap.size 88 #[.int .u8 o, .int .u8 a, .int .u8 b, .int .u8 c, .int .u32 i] := (((Arr.new w 88 _).alloc _).alloc _).alloc _
 have A3 : Arr ((((w.alloc (.cells #[.int .u8 o, .int .u8 a, .int .u8 b, .int .u8 c, .int .u32 i] 88)).alloc (.cells (mcA m sp n cap) 27)).alloc (.cells #[.int .u64 0, .int .u64 0] 156)).alloc (.cells #[.int .u64 0, .int .u64 0] 156)) (w.heap.size + 1) 27 (mcA m sp n cap) := by have h := ((Arr.new (w.alloc (.cells #[.int .u8 o, .int .u8 a, .int .u8 b, .int .u8 c, .int .u32 i] 88)) 27 (mcA m sp n cap)).alloc (.cells #[.int .u64 0, .int .u64 0] 156)).alloc (.cells #[.int .u64 0, .int .u64 0] 156); simpa using h
 have A4 : Arr ((((w.alloc (.cells #[.int .u8 o, .int .u8 a, .int .u8 b, .int .u8 c, .int .u32 i] 88)).alloc (.cells (mcA m sp n cap) 27)).alloc (.cells #[.int .u64 0, .int .u64 0] 156)).alloc (.cells #[.int .u64 0, .int .u64 0] 156)) (w.heap.size + 1 + 1) 156 #[.int .u64 0, .int .u64 0] := by have h := (Arr.new ((w.alloc (.cells #[.int .u8 o, .int .u8 a, .int .u8 b, .int .u8 c, .int .u32 i] 88)).alloc (.cells (mcA m sp n cap) 27)) 156 #[.int .u64 0, .int .u64 0]).alloc (.cells #[.int .u64 0, .int .u64 0] 156); simpa using h
 have A5 : Arr ((((w.alloc (.cells #[.int .u8 o, .int .u8 a, .int .u8 b, .int .u8 c, .int .u32 i] 88)).alloc (.cells (mcA m sp n cap) 27)).alloc (.cells #[.int .u64 0, .int .u64 0] 156)).alloc (.cells #[.int .u64 0, .int .u64 0] 156)) (w.heap.size + 1 + 1 + 1) 156 #[.int .u64 0, .int .u64 0] := by have h := Arr.new (((w.alloc (.cells #[.int .u8 o, .int .u8 a, .int .u8 b, .int .u8 c, .int .u32 i] 88)).alloc (.cells (mcA m sp n cap) 27)).alloc (.cells #[.int .u64 0, .int .u64 0] 156)) 156 #[.int .u64 0, .int .u64 0]; simpa using h
 have B5 : Below w.heap.size w ((((w.alloc (.cells #[.int .u8 o, .int .u8 a, .int .u8 b, .int .u8 c, .int .u32 i] 88)).alloc (.cells (mcA m sp n cap) 27)).alloc (.cells #[.int .u64 0, .int .u64 0] 156)).alloc (.cells #[.int .u64 0, .int .u64 0] 156)) := (((alloc_bel' w _).alloc (by simp) _).alloc (by simp; omega) _).alloc (by simp; omega) _
 go_enter Tryz.func78, Tryz.ntmps78
 go_upto_region 1 with fail
 generalize ((((w.alloc (.cells #[.int .u8 o, .int .u8 a, .int .u8 b, .int .u8 c, .int .u32 i] 88)).alloc (.cells (mcA m sp n cap) 27)).alloc (.cells #[.int .u64 0, .int .u64 0] 156)).alloc (.cells #[.int .u64 0, .int .u64 0] 156)) = W at *
 go_upto_region 2 with (first
   | (refine atL 88 (.tmp 2) ?_; go_must (refine ldR (by rfl) 88 (.tmp 2) (by rfl) w.heap.size (by rfl) _ A2 Tryz.underlying88 rfl size88 ?_))
   | (refine atL 23 (.tmp 8) ?_; go_must (refine ldM (by rfl) 23 (.tmp 8) (by rfl) (w.heap.size + 1) 1 (by rfl) (by64 m.rg) (mcA_rg A3) Tryz.underlying23 rfl (by rw [hrl]; exact size23) ?_))
   | (go_at_call 136; go_must (refine (hnm _).mono ?_; rintro e w1 ⟨rfl, hb1⟩; replace A3 := A3.bel hb1; replace A4 := A4.bel hb1; replace A5 := A5.bel hb1; replace B5 := B5.trans (hb1.mono B5.size); clear A2))
   | (refine atS 156 (.tmp 4) (.tmp 11) ?_; go_must (refine wpList_store_row (by rfl) 156 (.tmp 4) (.tmp 11) (by rfl) (w.heap.size + 1 + 1) (spA p) (by rfl) (by rfl) 156 _ A4 size156 rfl (spA_one _) ?_))
   | (refine atS 156 (.tmp 5) (.tmp 12) ?_; go_must (refine wpList_store_row (by rfl) 156 (.tmp 5) (.tmp 12) (by rfl) (w.heap.size + 1 + 1 + 1) (spA q) (by rfl) (by rfl) 156 _ (A5.setRowOther _ (by omega)) size156 rfl (spA_one _) ?_)))
 replace A3 := (A3.setRowOther (k := (w.heap.size + 1 + 1)) (spA p) (by omega)).setRowOther (k := (w.heap.size + 1 + 1 + 1)) (spA q) (by omega)
 replace A4 := (A4.setRow (spA p)).setRowOther (k := (w.heap.size + 1 + 1 + 1)) (spA q) (by omega)
 replace A5 := (A5.setRowOther (k := (w.heap.size + 1 + 1)) (spA p) (by omega)).setRow (spA q)
 replace B5 := below_setRow (below_setRow B5 (g := (w.heap.size + 1 + 1)) (by omega) (spA p)) (g := (w.heap.size + 1 + 1 + 1)) (by omega) (spA q)
 generalize (w1.setRow (w.heap.size + 1 + 1) (spA p)).setRow (w.heap.size + 1 + 1 + 1) (spA q) = V at *
 have k18 := (A3.cell 18).trans c18
 go_wp2_with (first
   | (refine atL 156 (.tmp 4) ?_; go_must (refine ldR (by rfl) 156 (.tmp 4) (by rfl) (w.heap.size + 1 + 1) (by rfl) _ A4 Tryz.underlying156 rfl size156 ?_))
   | (refine atL 156 (.tmp 5) ?_; go_must (refine ldR (by rfl) 156 (.tmp 5) (by rfl) (w.heap.size + 1 + 1 + 1) (by rfl) _ A5 Tryz.underlying156 rfl size156 ?_))
   | (go_at_call 134; go_must (refine (hi1 _).mono ?_; rintro e w2 ⟨rfl, hb2⟩; replace A3 := A3.bel hb2; replace A4 := A4.bel hb2; replace A5 := A5.bel hb2; replace B5 := B5.trans (hb2.mono B5.size); have k18b := (A3.cell 18).trans c18; clear hi1; have hi1 := hi2))
   | (refine atS 156 (.tmp 4) (.tmp 25) ?_; go_must (refine wpList_store_row (by rfl) 156 (.tmp 4) (.tmp 25) (by rfl) (w.heap.size + 1 + 1) (spA (0, 0)) (by rfl) (by rfl) 156 _ A4 size156 rfl (spA_one _) ?_))
   | (refine atS 156 (.tmp 5) (.tmp 26) ?_; go_must (refine wpList_store_row (by rfl) 156 (.tmp 5) (.tmp 26) (by rfl) (w.heap.size + 1 + 1 + 1) (spA (0, 0)) (by rfl) (by rfl) 156 _ (A5.setRowOther _ (by omega)) size156 rfl (spA_one _) ?_)))
 have k1 := (A4.setRow (spA (0, 0))).setRowOther (k := (w.heap.size + 1 + 1 + 1)) (spA (0, 0)) (by omega)
 have k2 := (A5.setRowOther (k := (w.heap.size + 1 + 1)) (spA (0, 0)) (by omega)).setRow (spA (0, 0))
 have k3 := below_setRow (below_setRow B5 (g := (w.heap.size + 1 + 1)) (by omega) (spA (0, 0))) (g := (w.heap.size + 1 + 1 + 1)) (by omega) (spA (0, 0))
 generalize World.setRow _ _ _ = U at k1 k2 k3 ⊢
 have v1 := k1.cell 0
 have v2 := k1.cell 1
 have v3 := k2.cell 0
 have v4 := k2.cell 1
 change _ = some (Value.int .u64 _) at v1
 change _ = some (Value.int .u64 _) at v2
 change _ = some (Value.int .u64 _) at v3
 change _ = some (Value.int .u64 _) at v4
 refine bodyPost_ret (by simp [results, Tryz.results78, go_sem, v1, v2, v3, v4]; try (first | rfl | exact ⟨rfl, rfl⟩)) rfl ⟨rfl, k3⟩
theorem touched_c {m : Mc} {o : Int} {a b c n cap : Nat} {i : Int} {sp : Option Addr} {p q : Int × Int} (w : World) (h16 : m.rg.length = 16) (hn : n ≤ 4096)
   (hnm : ∀ u, Calls Tryz.prog 136 #[.agg (cdA o a b c i), .agg (rgA m.rg)] u fun e w' => e = .returned (.tuple #[sp2 p, sp2 q]) ∧ Below u.heap.size u w') (hp1 : U64 p.1) (hp2 : U64 p.2) (hq1 : U64 q.1) (hq2 : U64 q.2) (h1 : inS p.1 p.2 n = true) (h2 : inS q.1 q.2 n = true) :
   Calls Tryz.prog 78 #[.agg (cdA o a b c i), .agg (mcA m sp n cap)] w fun e w' => e = .returned (.tuple #[sp2 p, sp2 q]) ∧ Below w.heap.size w w' := by
 have hi1 := fun u => isIn_any (sp := sp) (cap := cap) u hp1 hp2 hn
 have hi2 := fun u => isIn_any (sp := sp) (cap := cap) u hq1 hq2 hn
 rw [h1] at hi1
 rw [h2] at hi2
 clear h1 h2
 have c18 := mcA_18 h16 sp n cap
 have hrl : (by64 m.rg).length = 16 := by simp [by64, h16]
 clear hp1 hp2 hq1 hq2
 unfold cdA at *
 have A2 : Arr ((((w.alloc (.cells #[.int .u8 o, .int .u8 a, .int .u8 b, .int .u8 c, .int .u32 i] 88)).alloc (.cells (mcA m sp n cap) 27)).alloc (.cells #[.int .u64 0, .int .u64 0] 156)).alloc (.cells #[.int .u64 0, .int .u64 0] 156)) w.heap.size 88 #[.int .u8 o, .int .u8 a, .int .u8 b, .int .u8 c, .int .u32 i] := (((Arr.new w 88 _).alloc _).alloc _).alloc _
 have A3 : Arr ((((w.alloc (.cells #[.int .u8 o, .int .u8 a, .int .u8 b, .int .u8 c, .int .u32 i] 88)).alloc (.cells (mcA m sp n cap) 27)).alloc (.cells #[.int .u64 0, .int .u64 0] 156)).alloc (.cells #[.int .u64 0, .int .u64 0] 156)) (w.heap.size + 1) 27 (mcA m sp n cap) := by have h := ((Arr.new (w.alloc (.cells #[.int .u8 o, .int .u8 a, .int .u8 b, .int .u8 c, .int .u32 i] 88)) 27 (mcA m sp n cap)).alloc (.cells #[.int .u64 0, .int .u64 0] 156)).alloc (.cells #[.int .u64 0, .int .u64 0] 156); simpa using h
 have A4 : Arr ((((w.alloc (.cells #[.int .u8 o, .int .u8 a, .int .u8 b, .int .u8 c, .int .u32 i] 88)).alloc (.cells (mcA m sp n cap) 27)).alloc (.cells #[.int .u64 0, .int .u64 0] 156)).alloc (.cells #[.int .u64 0, .int .u64 0] 156)) (w.heap.size + 1 + 1) 156 #[.int .u64 0, .int .u64 0] := by have h := (Arr.new ((w.alloc (.cells #[.int .u8 o, .int .u8 a, .int .u8 b, .int .u8 c, .int .u32 i] 88)).alloc (.cells (mcA m sp n cap) 27)) 156 #[.int .u64 0, .int .u64 0]).alloc (.cells #[.int .u64 0, .int .u64 0] 156); simpa using h
 have A5 : Arr ((((w.alloc (.cells #[.int .u8 o, .int .u8 a, .int .u8 b, .int .u8 c, .int .u32 i] 88)).alloc (.cells (mcA m sp n cap) 27)).alloc (.cells #[.int .u64 0, .int .u64 0] 156)).alloc (.cells #[.int .u64 0, .int .u64 0] 156)) (w.heap.size + 1 + 1 + 1) 156 #[.int .u64 0, .int .u64 0] := by have h := Arr.new (((w.alloc (.cells #[.int .u8 o, .int .u8 a, .int .u8 b, .int .u8 c, .int .u32 i] 88)).alloc (.cells (mcA m sp n cap) 27)).alloc (.cells #[.int .u64 0, .int .u64 0] 156)) 156 #[.int .u64 0, .int .u64 0]; simpa using h
 have B5 : Below w.heap.size w ((((w.alloc (.cells #[.int .u8 o, .int .u8 a, .int .u8 b, .int .u8 c, .int .u32 i] 88)).alloc (.cells (mcA m sp n cap) 27)).alloc (.cells #[.int .u64 0, .int .u64 0] 156)).alloc (.cells #[.int .u64 0, .int .u64 0] 156)) := (((alloc_bel' w _).alloc (by simp) _).alloc (by simp; omega) _).alloc (by simp; omega) _
 go_enter Tryz.func78, Tryz.ntmps78
 go_upto_region 1 with fail
 generalize ((((w.alloc (.cells #[.int .u8 o, .int .u8 a, .int .u8 b, .int .u8 c, .int .u32 i] 88)).alloc (.cells (mcA m sp n cap) 27)).alloc (.cells #[.int .u64 0, .int .u64 0] 156)).alloc (.cells #[.int .u64 0, .int .u64 0] 156)) = W at *
 go_upto_region 2 with (first
   | (refine atL 88 (.tmp 2) ?_; go_must (refine ldR (by rfl) 88 (.tmp 2) (by rfl) w.heap.size (by rfl) _ A2 Tryz.underlying88 rfl size88 ?_))
   | (refine atL 23 (.tmp 8) ?_; go_must (refine ldM (by rfl) 23 (.tmp 8) (by rfl) (w.heap.size + 1) 1 (by rfl) (by64 m.rg) (mcA_rg A3) Tryz.underlying23 rfl (by rw [hrl]; exact size23) ?_))
   | (go_at_call 136; go_must (refine (hnm _).mono ?_; rintro e w1 ⟨rfl, hb1⟩; replace A3 := A3.bel hb1; replace A4 := A4.bel hb1; replace A5 := A5.bel hb1; replace B5 := B5.trans (hb1.mono B5.size); clear A2))
   | (refine atS 156 (.tmp 4) (.tmp 11) ?_; go_must (refine wpList_store_row (by rfl) 156 (.tmp 4) (.tmp 11) (by rfl) (w.heap.size + 1 + 1) (spA p) (by rfl) (by rfl) 156 _ A4 size156 rfl (spA_one _) ?_))
   | (refine atS 156 (.tmp 5) (.tmp 12) ?_; go_must (refine wpList_store_row (by rfl) 156 (.tmp 5) (.tmp 12) (by rfl) (w.heap.size + 1 + 1 + 1) (spA q) (by rfl) (by rfl) 156 _ (A5.setRowOther _ (by omega)) size156 rfl (spA_one _) ?_)))
 replace A3 := (A3.setRowOther (k := (w.heap.size + 1 + 1)) (spA p) (by omega)).setRowOther (k := (w.heap.size + 1 + 1 + 1)) (spA q) (by omega)
 replace A4 := (A4.setRow (spA p)).setRowOther (k := (w.heap.size + 1 + 1 + 1)) (spA q) (by omega)
 replace A5 := (A5.setRowOther (k := (w.heap.size + 1 + 1)) (spA p) (by omega)).setRow (spA q)
 replace B5 := below_setRow (below_setRow B5 (g := (w.heap.size + 1 + 1)) (by omega) (spA p)) (g := (w.heap.size + 1 + 1 + 1)) (by omega) (spA q)
 generalize (w1.setRow (w.heap.size + 1 + 1) (spA p)).setRow (w.heap.size + 1 + 1 + 1) (spA q) = V at *
 have k18 := (A3.cell 18).trans c18
 go_upto_region 4 with (first
   | (refine atL 156 (.tmp 4) ?_; go_must (refine ldR (by rfl) 156 (.tmp 4) (by rfl) (w.heap.size + 1 + 1) (by rfl) _ A4 Tryz.underlying156 rfl size156 ?_))
   | (refine atL 156 (.tmp 5) ?_; go_must (refine ldR (by rfl) 156 (.tmp 5) (by rfl) (w.heap.size + 1 + 1 + 1) (by rfl) _ A5 Tryz.underlying156 rfl size156 ?_))
   | (go_at_call 134; go_must (refine (hi1 _).mono ?_; rintro e w2 ⟨rfl, hb2⟩; replace A3 := A3.bel hb2; replace A4 := A4.bel hb2; replace A5 := A5.bel hb2; replace B5 := B5.trans (hb2.mono B5.size); have k18b := (A3.cell 18).trans c18; clear hi1; have hi1 := hi2)))
 refine rgn (S2 w (w.heap.size + 1 + 1) (w.heap.size + 1 + 1 + 1) p q) (⟨A4.drew, A5.drew, B5.drew⟩) (fun hHeld => ?_)
 refine tl 0 rfl (y156 (by rfl) (.tmp 4) rfl (w.heap.size + 1 + 1) rfl p (fun u hu => hu.1)) ?_
 refine tl 1 rfl (y156 (by rfl) (.tmp 5) rfl (w.heap.size + 1 + 1 + 1) rfl q (fun u hu => hu.2.1)) ?_
 refine rd 2 rfl (fun K hK => ?_)
 refine step_want rfl (wp_store_row 156 (.tmp 4) (.tmp 27) rfl (w.heap.size + 1 + 1) (spA p) rfl rfl 156 _ hHeld.1 size156 rfl (spA_one _) ?_)
 refine ko hK ⟨hHeld.1.setRow _, hHeld.2.1.setRowOther _ (by omega), below_setRow hHeld.2.2 (by omega) _⟩ (fun hHeld => ?_)
 clear hK K
 refine rd 3 rfl (fun K hK => ?_)
 refine step_want rfl (wp_store_row 156 (.tmp 5) (.tmp 28) rfl (w.heap.size + 1 + 1 + 1) (spA q) rfl rfl 156 _ hHeld.2.1 size156 rfl (spA_one _) ?_)
 refine ko hK ⟨hHeld.1.setRowOther _ (by omega), hHeld.2.1.setRow _, below_setRow hHeld.2.2 (by omega) _⟩ (fun hHeld => ?_)
 clear hK K
 refine dn ?_
 generalize World.setRow _ _ _ = U at hHeld ⊢
 obtain ⟨k1, k2, k3⟩ := hHeld
 have v1 := k1.cell 0
 have v2 := k1.cell 1
 have v3 := k2.cell 0
 have v4 := k2.cell 1
 change _ = some (Value.int .u64 _) at v1
 change _ = some (Value.int .u64 _) at v2
 change _ = some (Value.int .u64 _) at v3
 change _ = some (Value.int .u64 _) at v4
 go_wp2_with fail
 refine bodyPost_ret (by simp [results, Tryz.results78, go_sem, v1, v2, v3, v4]; try (first | rfl | exact ⟨rfl, rfl⟩)) rfl ⟨rfl, k3⟩
theorem touched_any {m : Mc} {o : Int} {a b c n cap : Nat} {i : Int} {sp : Option Addr} (w : World) (h16 : m.rg.length = 16) (hU : ∀ k, U64 (m.rg.getD k 0)) (ha : a < 16) (hb : b < 16) (hc : c < 16) (hi : 0 ≤ i ∧ i < 4294967296) (hn : n ≤ 4096) :
   Calls Tryz.prog 78 #[.agg (cdA o a b c i), .agg (mcA m sp n cap)] w fun e w' => e = .returned (.tuple #[sp2 (tch m n o a b c i).1, sp2 (tch m n o a b c i).2]) ∧ Below w.heap.size w w' := by
 have hnm := fun u => named_any (o := o) u h16 hU ha hb hc hi
 obtain ⟨u1, u2, u3, u4⟩ := nmd_u (o := o) (a := a) (b := b) (c := c) (i := i) hU
 unfold tch
 generalize nmd m o a b c i = r at *
 cases h1 : inS r.1.1 r.1.2 n with
 | false =>
   rw [if_neg (by simp)]
   exact touched_a w h16 hn hnm u1 u2 u3 u4 h1
 | true =>
   cases h2 : inS r.2.1 r.2.2 n with
   | false =>
     rw [if_neg (by simp)]
     exact touched_b w h16 hn hnm u1 u2 u3 u4 h1 h2
   | true =>
     rw [if_pos (by simp)]
     exact touched_c w h16 hn hnm u1 u2 u3 u4 h1 h2
theorem one88 (o a b c i : Int) : (cdA o a b c i).all (·.oneCell') = true := by simp [cdA, Value.oneCell']
theorem fetch_o (K : Bool) {S : Type} {H : Hd S} {I : (Nat → Prop) → S → World → Prop} {B0 : Nat} {ad : Addr} {PV : List PanicEntry} {F : Nat → Prop} {s : S} {m : Mc} {gm n : Nat} {L : List Int} (w : World)
   (M : Met (kfg K) (kfs K) (kfp K) H I B0 (.pointer (some ad)) PV) (hI : I F s w) (hF : F gm) (hMW : MW w gm L) (hgB : B0 ≤ gm) (hL : L.length = n) (hn : n ≤ 4096) (h16 : m.rg.length = 16) (hU : U64 m.pc) (hpc : (n : Int) ≤ m.pc) :
   Calls Tryz.prog 77 #[.agg (mcA m (some ⟨gm, 0, none⟩) n n), .iface (kty K) (.pointer (some ad))] w fun e w' => e = .returned (.agg (cdA 0 0 0 0 0)) ∧ Below w.heap.size w w' := by
 cases K
 all_goals
   dsimp only [kty, kfg, kfs, kfp] at *
   have hB0 := M.base F s w hI
   have hFw := M.own F s w hI
   have hU1 := hU.1
   have c18 := mcA_18 h16 (some ⟨gm, 0, none⟩) n n
   have hin := fun u => isIn_any (a := m.pc) (c := 1) (n := n) (cap := n) (sp := some ⟨gm, 0, none⟩) u hU ⟨by decide, by decide⟩ hn
   have V3 : World := ((w.alloc (.cells (mcA m (some ⟨gm, 0, none⟩) n n) 27)).alloc (.cells #[.int .u8 0, .int .u8 0, .int .u8 0, .int .u8 0, .int .u32 0] 88)).alloc (.cells #[.int .u64 m.pc, .int .u64 1] 156)
   clear V3
   have A0 := ((Arr.new w 27 (mcA m (some ⟨gm, 0, none⟩) n n)).alloc (.cells #[.int .u8 0, .int .u8 0, .int .u8 0, .int .u8 0, .int .u32 0] 88)).alloc (.cells #[.int .u64 m.pc, .int .u64 1] 156)
   have A1 := (Arr.new (w.alloc (.cells (mcA m (some ⟨gm, 0, none⟩) n n) 27)) 88 #[.int .u8 0, .int .u8 0, .int .u8 0, .int .u8 0, .int .u32 0]).alloc (.cells #[.int .u64 m.pc, .int .u64 1] 156)
   have A2 := Arr.new ((w.alloc (.cells (mcA m (some ⟨gm, 0, none⟩) n n) 27)).alloc (.cells #[.int .u8 0, .int .u8 0, .int .u8 0, .int .u8 0, .int .u32 0] 88)) 156 #[.int .u64 m.pc, .int .u64 1]
   have b0 : Below w.heap.size w (((w.alloc (.cells (mcA m (some ⟨gm, 0, none⟩) n n) 27)).alloc (.cells #[.int .u8 0, .int .u8 0, .int .u8 0, .int .u8 0, .int .u32 0] 88)).alloc (.cells #[.int .u64 m.pc, .int .u64 1] 156)) := ((alloc_bel' w _).alloc (by simp) _).alloc (by simp; omega) _
   have cz : ∀ o, (w.alloc (.cells (mcA m (some ⟨gm, 0, none⟩) n n) 27) |>.alloc o).cell? ⟨w.heap.size, 0, none⟩ = some (.int .u64 m.pc) := fun o => ((Arr.new w 27 (mcA m (some ⟨gm, 0, none⟩) n n)).alloc o).cell 0
   simp only [World.size_alloc] at A1 A2
   clear hU
   go_enter Tryz.func77, Tryz.ntmps77
   go_upto_region 2 with fail
   generalize hV : ((w.alloc (.cells (mcA m (some ⟨gm, 0, none⟩) n n) 27)).alloc (.cells #[.int .u8 0, .int .u8 0, .int .u8 0, .int .u8 0, .int .u32 0] 88)).alloc (.cells #[.int .u64 m.pc, .int .u64 1] 156) = V at *
   have hinB : inS m.pc 1 n = false := by unfold inS; exact decide_eq_false (by omega)
   rw [hinB] at hin
   have k18 := (A0.cell 18).trans c18
   clear hinB cz
   go_wp2_with (first
     | (refine atL 156 (.tmp 5) ?_; go_must (refine ldR (by rfl) 156 (.tmp 5) (by rfl) (w.heap.size + 1 + 1) (by rfl) _ A2 Tryz.underlying156 rfl size156 ?_))
     | (go_at_call 134; go_must (refine (hin V).mono ?_; rintro e w1 ⟨rfl, hb1⟩; replace A0 := A0.bel hb1; replace A1 := A1.bel hb1; replace b0 := b0.trans (hb1.mono b0.size); have hs1 : w.heap.size + 3 ≤ w1.heap.size := (by have := hb1.size; have := A2.lt; omega)))
     | (refine atS 88 (.tmp 4) (.tmp 16) ?_; go_must (refine wpList_store_row (by rfl) 88 (.tmp 4) (.tmp 16) (by rfl) (w.heap.size + 1) (cdA 0 0 0 0 0) (by rfl) (by rfl) 88 _ A1 size88 rfl (one88 _ _ _ _ _) ?_)))
   exact bodyPost_ret (v := .agg (cdA 0 0 0 0 0)) (results_cell_row Tryz.results77 _ _ (w.heap.size + 1) 88 _ (0, 0) _ rfl (A1.setRow _) Tryz.underlying88 rfl size88) rfl ⟨rfl, below_setRow b0 (by omega) _⟩
theorem fetch_n (K : Bool) {S : Type} {H : Hd S} {I : (Nat → Prop) → S → World → Prop} {B0 : Nat} {ad : Addr} {PV : List PanicEntry} {F : Nat → Prop} {s : S} {m : Mc} {gm n : Nat} {L : List Int} (w : World)
   (M : Met (kfg K) (kfs K) (kfp K) H I B0 (.pointer (some ad)) PV) (hI : I F s w) (hF : F gm) (hMW : MW w gm L) (hgB : B0 ≤ gm) (hL : L.length = n) (hn : n ≤ 4096) (h16 : m.rg.length = 16) (hU : U64 m.pc) (hpc : m.pc < n) (hr : Hid (H.rk s < 1000)) (hg : H.gt m.pc s = none) :
   Calls Tryz.prog 77 #[.agg (mcA m (some ⟨gm, 0, none⟩) n n), .iface (kty K) (.pointer (some ad))] w fun e w' => e = .panicked PV ∧ Below B0 w w' ∧ Kp F w w' := by
 cases K
 all_goals
   dsimp only [kty, kfg, kfs, kfp] at *
   have hB0 := M.base F s w hI
   have hFw := M.own F s w hI
   have hU1 := hU.1
   have c18 := mcA_18 h16 (some ⟨gm, 0, none⟩) n n
   have hin := fun u => isIn_any (a := m.pc) (c := 1) (n := n) (cap := n) (sp := some ⟨gm, 0, none⟩) u hU ⟨by decide, by decide⟩ hn
   have V3 : World := ((w.alloc (.cells (mcA m (some ⟨gm, 0, none⟩) n n) 27)).alloc (.cells #[.int .u8 0, .int .u8 0, .int .u8 0, .int .u8 0, .int .u32 0] 88)).alloc (.cells #[.int .u64 m.pc, .int .u64 1] 156)
   clear V3
   have A0 := ((Arr.new w 27 (mcA m (some ⟨gm, 0, none⟩) n n)).alloc (.cells #[.int .u8 0, .int .u8 0, .int .u8 0, .int .u8 0, .int .u32 0] 88)).alloc (.cells #[.int .u64 m.pc, .int .u64 1] 156)
   have A1 := (Arr.new (w.alloc (.cells (mcA m (some ⟨gm, 0, none⟩) n n) 27)) 88 #[.int .u8 0, .int .u8 0, .int .u8 0, .int .u8 0, .int .u32 0]).alloc (.cells #[.int .u64 m.pc, .int .u64 1] 156)
   have A2 := Arr.new ((w.alloc (.cells (mcA m (some ⟨gm, 0, none⟩) n n) 27)).alloc (.cells #[.int .u8 0, .int .u8 0, .int .u8 0, .int .u8 0, .int .u32 0] 88)) 156 #[.int .u64 m.pc, .int .u64 1]
   have b0 : Below w.heap.size w (((w.alloc (.cells (mcA m (some ⟨gm, 0, none⟩) n n) 27)).alloc (.cells #[.int .u8 0, .int .u8 0, .int .u8 0, .int .u8 0, .int .u32 0] 88)).alloc (.cells #[.int .u64 m.pc, .int .u64 1] 156)) := ((alloc_bel' w _).alloc (by simp) _).alloc (by simp; omega) _
   have cz : ∀ o, (w.alloc (.cells (mcA m (some ⟨gm, 0, none⟩) n n) 27) |>.alloc o).cell? ⟨w.heap.size, 0, none⟩ = some (.int .u64 m.pc) := fun o => ((Arr.new w 27 (mcA m (some ⟨gm, 0, none⟩) n n)).alloc o).cell 0
   simp only [World.size_alloc] at A1 A2
   go_enter Tryz.func77, Tryz.ntmps77
   go_upto_region 2 with fail
   generalize hV : ((w.alloc (.cells (mcA m (some ⟨gm, 0, none⟩) n n) 27)).alloc (.cells #[.int .u8 0, .int .u8 0, .int .u8 0, .int .u8 0, .int .u32 0] 88)).alloc (.cells #[.int .u64 m.pc, .int .u64 1] 156) = V at *
   have hinB : inS m.pc 1 n = true := by unfold inS; exact decide_eq_true (by omega)
   rw [hinB] at hin
   have k18 := (A0.cell 18).trans c18
   clear hinB cz
   go_upto_region 4 with (first
     | (refine atL 156 (.tmp 5) ?_; go_must (refine ldR (by rfl) 156 (.tmp 5) (by rfl) (w.heap.size + 1 + 1) (by rfl) _ A2 Tryz.underlying156 rfl size156 ?_))
     | (go_at_call 134; go_must (refine (hin V).mono ?_; rintro e w1 ⟨rfl, hb1⟩; replace A0 := A0.bel hb1; replace A1 := A1.bel hb1; replace b0 := b0.trans (hb1.mono b0.size); have hs1 : w.heap.size + 3 ≤ w1.heap.size := (by have := hb1.size; have := A2.lt; omega))))
   have hI1 : I (fun b => F b ∨ (w.heap.size ≤ b ∧ b < w1.heap.size)) s w1 := M.more hI b0 (by rintro b (h | h); exact .inl h; exact .inr h.1) (by rintro b (h | h); have := hFw b h; omega; exact h.2)
   have hMW1 := hMW.below b0 hMW.lt
   have k0 := A0.cell 0
   change _ = some (Value.int .u64 m.pc) at k0
   have k18b := (A0.cell 18).trans c18
   have hpcn : m.pc.toNat < n := by omega
   have hpcI : m.pc < (n : Int) := hpc
   have hgmw : gm < w.heap.size := hFw gm hF
   refine rgn (fun u => u.cell? ⟨w.heap.size, 18, none⟩ = some (.slice (some ⟨gm, 0, none⟩) n n) ∧ u.cell? ⟨w.heap.size, 0, none⟩ = some (.int .u64 m.pc)) (⟨k18b, k0⟩) (fun hHeld => ?_)
   refine tk 0 rfl ?_
   refine tk2 1 rfl ?_
   refine tk 2 rfl ?_
   refine tk2 3 rfl ?_
   refine tk 4 rfl ?_
   refine tk 5 rfl ?_
   refine tk2 6 rfl ?_
   refine rd 7 rfl (fun K hK => ?_)
   go_simp
   go_invoke
   go_simp
   refine (M.get_n (M.more hI1 ((Below.refl _ w1).drew) (fun b h => .inl h) (fun b h => M.own _ _ _ hI1 b h)) hU hr.out hg).mono ?_; rintro e w2 ⟨rfl, h1, h2⟩
   exact ⟨rfl, rfl, (b0.mono hB0).trans ((Below.refl _ w1).drew.trans h1), (Kp.of_below b0 hFw).trans (fun b hb => h2 b (.inl hb))⟩
theorem fetch_s (K : Bool) {S : Type} {H : Hd S} {I : (Nat → Prop) → S → World → Prop} {B0 : Nat} {ad : Addr} {PV : List PanicEntry} {F : Nat → Prop} {s : S} {m : Mc} {gm n : Nat} {L : List Int} (w : World)
   (M : Met (kfg K) (kfs K) (kfp K) H I B0 (.pointer (some ad)) PV) (hI : I F s w) (hF : F gm) (hMW : MW w gm L) (hgB : B0 ≤ gm) (hL : L.length = n) (hn : n ≤ 4096) (h16 : m.rg.length = 16) (hU : U64 m.pc) {v : Int} {s1 : S} (hpc : m.pc < n) (hr : Hid (H.rk s < 1000)) (hg : H.gt m.pc s = some (v, s1)) :
   Calls Tryz.prog 77 #[.agg (mcA m (some ⟨gm, 0, none⟩) n n), .iface (kty K) (.pointer (some ad))] w fun e w' => e = .returned (.agg (dV v)) ∧ U64 v ∧ Below B0 w w' ∧ Kp (fun b => F b ∧ b ≠ gm) w w' ∧ MW w' gm (L.set m.pc.toNat v) ∧ I F s1 w' := by
 cases K
 all_goals
   dsimp only [kty, kfg, kfs, kfp] at *
   have hB0 := M.base F s w hI
   have hFw := M.own F s w hI
   have hU1 := hU.1
   have c18 := mcA_18 h16 (some ⟨gm, 0, none⟩) n n
   have hin := fun u => isIn_any (a := m.pc) (c := 1) (n := n) (cap := n) (sp := some ⟨gm, 0, none⟩) u hU ⟨by decide, by decide⟩ hn
   have V3 : World := ((w.alloc (.cells (mcA m (some ⟨gm, 0, none⟩) n n) 27)).alloc (.cells #[.int .u8 0, .int .u8 0, .int .u8 0, .int .u8 0, .int .u32 0] 88)).alloc (.cells #[.int .u64 m.pc, .int .u64 1] 156)
   clear V3
   have A0 := ((Arr.new w 27 (mcA m (some ⟨gm, 0, none⟩) n n)).alloc (.cells #[.int .u8 0, .int .u8 0, .int .u8 0, .int .u8 0, .int .u32 0] 88)).alloc (.cells #[.int .u64 m.pc, .int .u64 1] 156)
   have A1 := (Arr.new (w.alloc (.cells (mcA m (some ⟨gm, 0, none⟩) n n) 27)) 88 #[.int .u8 0, .int .u8 0, .int .u8 0, .int .u8 0, .int .u32 0]).alloc (.cells #[.int .u64 m.pc, .int .u64 1] 156)
   have A2 := Arr.new ((w.alloc (.cells (mcA m (some ⟨gm, 0, none⟩) n n) 27)).alloc (.cells #[.int .u8 0, .int .u8 0, .int .u8 0, .int .u8 0, .int .u32 0] 88)) 156 #[.int .u64 m.pc, .int .u64 1]
   have b0 : Below w.heap.size w (((w.alloc (.cells (mcA m (some ⟨gm, 0, none⟩) n n) 27)).alloc (.cells #[.int .u8 0, .int .u8 0, .int .u8 0, .int .u8 0, .int .u32 0] 88)).alloc (.cells #[.int .u64 m.pc, .int .u64 1] 156)) := ((alloc_bel' w _).alloc (by simp) _).alloc (by simp; omega) _
   have cz : ∀ o, (w.alloc (.cells (mcA m (some ⟨gm, 0, none⟩) n n) 27) |>.alloc o).cell? ⟨w.heap.size, 0, none⟩ = some (.int .u64 m.pc) := fun o => ((Arr.new w 27 (mcA m (some ⟨gm, 0, none⟩) n n)).alloc o).cell 0
   simp only [World.size_alloc] at A1 A2
   go_enter Tryz.func77, Tryz.ntmps77
   go_upto_region 2 with fail
   generalize hV : ((w.alloc (.cells (mcA m (some ⟨gm, 0, none⟩) n n) 27)).alloc (.cells #[.int .u8 0, .int .u8 0, .int .u8 0, .int .u8 0, .int .u32 0] 88)).alloc (.cells #[.int .u64 m.pc, .int .u64 1] 156) = V at *
   have hinB : inS m.pc 1 n = true := by unfold inS; exact decide_eq_true (by omega)
   rw [hinB] at hin
   have k18 := (A0.cell 18).trans c18
   clear hinB cz
   go_upto_region 4 with (first
     | (refine atL 156 (.tmp 5) ?_; go_must (refine ldR (by rfl) 156 (.tmp 5) (by rfl) (w.heap.size + 1 + 1) (by rfl) _ A2 Tryz.underlying156 rfl size156 ?_))
     | (go_at_call 134; go_must (refine (hin V).mono ?_; rintro e w1 ⟨rfl, hb1⟩; replace A0 := A0.bel hb1; replace A1 := A1.bel hb1; replace b0 := b0.trans (hb1.mono b0.size); have hs1 : w.heap.size + 3 ≤ w1.heap.size := (by have := hb1.size; have := A2.lt; omega))))
   have hI1 : I (fun b => F b ∨ (w.heap.size ≤ b ∧ b < w1.heap.size)) s w1 := M.more hI b0 (by rintro b (h | h); exact .inl h; exact .inr h.1) (by rintro b (h | h); have := hFw b h; omega; exact h.2)
   have hMW1 := hMW.below b0 hMW.lt
   have k0 := A0.cell 0
   change _ = some (Value.int .u64 m.pc) at k0
   have k18b := (A0.cell 18).trans c18
   have hpcn : m.pc.toNat < n := by omega
   have hpcI : m.pc < (n : Int) := hpc
   have hgmw : gm < w.heap.size := hFw gm hF
   refine rgn (fun u => u.cell? ⟨w.heap.size, 18, none⟩ = some (.slice (some ⟨gm, 0, none⟩) n n) ∧ u.cell? ⟨w.heap.size, 0, none⟩ = some (.int .u64 m.pc)) (⟨k18b, k0⟩) (fun hHeld => ?_)
   refine tk 0 rfl ?_
   refine tk2 1 rfl ?_
   refine tk 2 rfl ?_
   refine tk2 3 rfl ?_
   refine tk 4 rfl ?_
   refine tk 5 rfl ?_
   refine tk2 6 rfl ?_
   refine rd 7 rfl (fun K hK => ?_)
   go_simp
   go_invoke
   go_simp
   refine (M.get_s (M.more hI1 ((Below.refl _ w1).drew) (fun b h => .inl h) (fun b h => M.own _ _ _ hI1 b h)) hU hr.out hg).mono ?_; rintro e w2 ⟨rfl, hUv, h1, h2, h3⟩; have hA02 := A0.drew.kp h2 (.inr ⟨Nat.le_refl _, by omega⟩); have hA12 := A1.drew.kp h2 (.inr ⟨by omega, by omega⟩); have hMW2 : MW w2 gm L := MW.kp (u := w1.drew) hMW1 h2 (.inl hF)
   go_wp2_with fail
   refine ko hK ⟨(hA02.cell 18).trans c18, hA02.cell 0⟩ (fun hHeld => ?_)
   clear hK K
   refine tk 8 rfl ?_
   have hcl := hMW2.cell (t := m.pc.toNat) (by omega)
   have hfz := hMW2.frozen m.pc.toNat
   refine rd 9 rfl (fun K hK => ?_)
   go_simp
   refine ko hK ⟨(((hA02.setOther _ (show w.heap.size ≠ gm by omega)).cell 18).trans c18), (hA02.setOther _ (show w.heap.size ≠ gm by omega)).cell 0⟩ (fun hHeld => ?_)
   clear hK K
   refine dn ?_
   have hI2 : I (fun b => F b ∨ (w.heap.size ≤ b ∧ b < w1.heap.size)) s1 (w2.setCell ⟨gm, m.pc.toNat, none⟩ (.int .u64 v)) := M.keep _ _ s1 _ _ h3 ((Below.refl _ _).setCell hgB _) (fun b h4 h5 => Below.heap_setCell _ _ _ _ (fun e => h5 (.inl (by have e' : b = gm := e; rw [e']; exact hF)))) (fun b h => .inl h) (fun b h => by simpa using M.own _ _ _ h3 b h)
   have hMW3 := hMW2.set (i := m.pc.toNat) (by omega) v
   have hA03 := hA02.setOther (a := ⟨gm, m.pc.toNat, none⟩) (.int .u64 v) (show w.heap.size ≠ gm by omega)
   have hA13 := hA12.setOther (a := ⟨gm, m.pc.toNat, none⟩) (.int .u64 v) (show w.heap.size + 1 ≠ gm by omega)
   have hB3 : Below B0 w (w2.setCell ⟨gm, m.pc.toNat, none⟩ (.int .u64 v)) := ((b0.mono hB0).trans ((Below.refl _ w1).drew.trans h1)).setCell hgB _
   have hK3 : Kp (fun b => F b ∧ b ≠ gm) w (w2.setCell ⟨gm, m.pc.toNat, none⟩ (.int .u64 v)) := fun b hb => (Below.heap_setCell _ _ _ _ hb.2).trans ((h2 b (.inl hb.1)).trans (Kp.of_below b0 hFw b hb.1))
   have hs3 : w1.heap.size ≤ (w2.setCell ⟨gm, m.pc.toNat, none⟩ (.int .u64 v)).heap.size := by have := h1.size; simpa using this
   clear hHeld hMW2 hMW1 hMW hA02 hA12 A0 A1 hI1 hcl hfz k0 k18b k18
   generalize hW3 : w2.setCell ⟨gm, m.pc.toNat, none⟩ (.int .u64 v) = W at *
   have q18 := (hA03.cell 18).trans c18
   have q0 := hA03.cell 0
   change _ = some (Value.int .u64 m.pc) at q0
   have qv := hMW3.cell (t := m.pc.toNat) (by simp; omega)
   have eqv : (L.set m.pc.toNat v).getD m.pc.toNat 0 = v := by rw [List.getD_eq_getElem?_getD, List.getElem?_set_self (by omega)]; rfl
   rw [eqv] at qv
   have hdc := decode_any W hUv
   unfold DPost at hdc
   have hdsz : (dV v).size = 5 := by unfold dV; split <;> rfl
   have hdone : (dV v).all (·.oneCell') = true := by unfold dV; split <;> exact one88 _ _ _ _ _
   have size88d : (Tryz.prog.info? 88).map (·.size) = some (dV v).size := by rw [hdsz]; exact size88
   generalize hDV : dV v = D at *
   generalize dOk v = ok at *
   go_wp2_with (first
     | (go_at_call 135; go_must (refine hdc.mono ?_; rintro e w4 ⟨rfl, hb4⟩; have a1 := (hA13.bel hb4).alloc (.cells D 88); have an := Arr.new w4 88 D))
     | (refine atS 88 (.tmp 6) (.tmp 34) ?_; go_must (refine wpList_store_new w4 _ 88 (by rfl) 88 (.tmp 6) (.tmp 34) (by rfl) D (by rfl) (by rfl) size88d (by rw [hdsz]; rfl) hdone ?_))
     | (refine atL 88 (.tmp 6) ?_; go_must (refine ldR (by rfl) 88 (.tmp 6) (by rfl) w4.heap.size (by rfl) D an Tryz.underlying88 rfl size88d ?_))
     | (refine atS 88 (.tmp 4) (.tmp 36) ?_; go_must (refine wpList_store_row (by rfl) 88 (.tmp 4) (.tmp 36) (by rfl) (w.heap.size + 1) D (by rfl) (by rfl) 88 _ a1 size88d (by rw [hdsz]; rfl) hdone ?_)))
   have hbf : Below W.heap.size W (w4.alloc (.cells D 88)) := hb4.alloc hb4.size _
   have hbr : ∀ B, B ≤ w.heap.size + 1 → Below B W ((w4.alloc (.cells D 88)).setRow (w.heap.size + 1) D) := fun B hB => below_setRow (hbf.mono (by omega)) hB _
   refine bodyPost_ret (v := .agg D) (results_cell_row Tryz.results77 _ _ (w.heap.size + 1) 88 _ (0, 0) _ rfl (a1.setRow _) Tryz.underlying88 rfl size88d) rfl ⟨by rw [hDV], hUv, hB3.trans (hbr B0 (by omega)), hK3.trans (fun b hb => (hbr w.heap.size (by omega)).block b (hFw b hb.1)), (hMW3.below (hbr w.heap.size (by omega)) hgmw), ?_⟩
   refine M.keep _ _ s1 _ _ hI2 (hbr B0 (by omega)) (fun b h4 h5 => ?_) (fun b h => .inl (.inl h)) (fun b h => ?_)
   · have hne : b ≠ w.heap.size + 1 := fun e => h5 (.inr ⟨by omega, by omega⟩)
     exact (setRow_other _ _ _ _ hne).trans (hbf.block b h4)
   · have := hFw b h
     have := (hbr w.heap.size (by omega)).size
     omega
end Go.Proofs.YtagebcbnenehfaaGreat
