/- Layer frame: anchored. -/
import Derived.Test.YtbjlmekafnpllabFh
import Derived.Test.YtbjlmekafnpllabRt
import Derived.Deep.RegionLaw
namespace Go.Proofs.Ytbjlmekafnpllab
open Go.RowKit
set_option linter.unusedVariables false
set_option linter.unusedSimpArgs false

theorem fs_lit {W : World} {B : Nat} {fs : List Fr} {C : Array Value} (hA : Arr W B 25 C) (hC : C.toList = flat4 fs) (hn : fs.length ≤ 1000) (hok : ∀ f ∈ fs, FrOK W.heap.size W f) : FrS W.heap.size W (some ⟨B, 0, none⟩) fs.length fs.length fs :=
  ⟨rfl, (fun e => by cases e), Nat.le_refl _, by omega, by omega, fun h0 => ⟨B, 0, rfl, hA.lt, fun i f hf => by
    obtain ⟨h1, h2, h3, h4⟩ := flat4_get i f hf
    have hc : ∀ t, W.cell? ⟨B, t, none⟩ = (flat4 fs)[t]? := fun t => by rw [hA.cell, ← Array.getElem?_toList, hC]
    rw [Nat.zero_add]
    exact ⟨(hc _).trans h1, (hc _).trans h2, (hc _).trans h3, (hc _).trans h4⟩⟩, hok⟩
theorem split723 : split 7 2 [1, 2, 3] = [(7, 0, false, [1, 2]), (7, 1, true, [3])] := rfl

/-- The two frames of the anchor. -/
def fr0 (s0 : Option Addr) (c0 : Nat) : Fr := ⟨7, 0, false, s0, 2, c0, [1, 2]⟩
def fr1 (s1 : Option Addr) (c1 : Nat) : Fr := ⟨7, 1, true, s1, 1, c1, [3]⟩
def fr8 : Fr := ⟨8, 0, false, none, 0, 0, []⟩
theorem fr8_ok (N : Nat) (w : World) : FrOK N w fr8 := ⟨by decide, by decide, by decide, by decide, BS.nil0 _ _⟩
theorem ck_inv {f : Fr} {c s : Int} {l : Bool} {bs : List Int} (h : f.ck = (c, s, l, bs)) (hl : f.n = f.bs.length) : f = ⟨c, s, l, f.sp, bs.length, f.cap, bs⟩ := by
  obtain ⟨c', s', l', sp, n, cap, bs'⟩ := f
  simp only [Fr.ck, Prod.mk.injEq] at h
  obtain ⟨rfl, rfl, rfl, rfl⟩ := h
  simp only at hl
  rw [hl]

theorem anc_split (w : World) : Calls Try.prog 17 #[.int .u64 7, .slice (some ⟨w.heap.size, 0, none⟩) 3 3, .int .i64 2] (w.alloc (.cells #[.int .u8 1, .int .u8 2, .int .u8 3] 5)) fun e w' => ∃ g cq s0 c0 s1 c1, e = .returned (.tuple #[.slice (some ⟨g, 0, none⟩) 2 cq, .int .i64 0]) ∧
    (w'.cell? ⟨g, 0, none⟩ = some (.int .u64 7) ∧ w'.cell? ⟨g, 1, none⟩ = some (.int .i64 0) ∧ w'.cell? ⟨g, 2, none⟩ = some (.bool false) ∧ w'.cell? ⟨g, 3, none⟩ = some (.slice s0 2 c0)) ∧ (w'.cell? ⟨g, 4, none⟩ = some (.int .u64 7) ∧ w'.cell? ⟨g, 5, none⟩ = some (.int .i64 1) ∧ w'.cell? ⟨g, 6, none⟩ = some (.bool true) ∧ w'.cell? ⟨g, 7, none⟩ = some (.slice s1 1 c1)) ∧
    g < w'.heap.size ∧ FrOK w'.heap.size w' (fr0 s0 c0) ∧ FrOK w'.heap.size w' (fr1 s1 c1) ∧ Below w.heap.size w w' := by
  have hb : BS (w.alloc (.cells #[.int .u8 1, .int .u8 2, .int .u8 3] 5)).heap.size (w.alloc (.cells #[.int .u8 1, .int .u8 2, .int .u8 3] 5)) (some ⟨w.heap.size, 0, none⟩) 3 3 [1, 2, 3] :=
    bs_lit (L := [1, 2, 3]) (by intro x hx; simp at hx; omega) (by simp) (fun t ht => by
      rw [(Arr.new w 5 #[.int .u8 1, .int .u8 2, .int .u8 3]).cell]
      match t, ht with
      | 0, _ => rfl
      | 1, _ => rfl
      | 2, _ => rfl) 3 (by simp) (by omega)
  refine (split_any 7 2 _ 3 3 [1, 2, 3] _ _ hb (by omega) (by omega) (by omega) (by omega)).mono ?_
  rintro e w' ⟨hbw, ⟨hbad, -⟩ | ⟨-, sq, k, cq, fs, he, hk, hown, hof, hck, -⟩⟩
  · simp at hbad
  · rw [show (2 : Int).toNat = 2 from rfl, split723] at hck
    have hl : fs.length = 2 := by have := congrArg List.length hck; simpa using this
    obtain ⟨f0, f1, rfl⟩ : ∃ f0 f1, fs = [f0, f1] := by
      match fs, hl with
      | [f0, f1], _ => exact ⟨f0, f1, rfl⟩
    simp only [List.map_cons, List.map_nil, List.cons.injEq, and_true] at hck
    have o0 := hof f0 (by simp)
    have o1 := hof f1 (by simp)
    have e0 := ck_inv hck.1 o0.body.1.len.out
    have e1 := ck_inv hck.2 o1.body.1.len.out
    obtain rfl : k = 2 := by simpa using hk
    obtain ⟨sp', cap', e2, hFS, hge⟩ := own_fs hown rfl (by omega) (fun f hf => (hof f hf).ok)
    cases e2
    obtain ⟨g, off, rfl, hg, hc⟩ := hFS.at0 (by omega)
    have hoff : off = 0 := by
      obtain ⟨-, h | ⟨g', cap2, cur, e3, -⟩⟩ := hown
      · cases h.1
      · cases e3; rfl
    subst hoff
    have q0 := hc 0 f0 rfl
    have q1 := hc 1 f1 rfl
    rw [e0] at q0 o0
    rw [e1] at q1 o1
    simp at q0 q1
    exact ⟨g, cq, f0.sp, f0.cap, f1.sp, f1.cap, he, q0, q1, hg, o0.ok, o1.ok, (alloc_bel' w _).trans (hbw.mono (by simp))⟩
theorem jn_yes (s0 s1 : Option Addr) (c0 c1 : Nat) : jn 7 [fr1 s1 c1, fr8, fr0 s0 c0] = some [1, 2, 3] := rfl
theorem jn_no (s1 : Option Addr) (c1 : Nat) : jn 7 [fr1 s1 c1] = none := rfl
theorem FrOK.here {N : Nat} {w : World} {f : Fr} (h : FrOK N w f) : FrOK w.heap.size w f := ⟨h.ch0, h.ch1, h.sq0, h.sq1, h.body.here⟩

theorem anc_join (u : World) (B N : Nat) (s0 s1 : Option Addr) (c0 c1 : Nat) (hA : Arr u B 25 #[.int .u64 7, .int .i64 1, .bool true, .slice s1 1 c1, .int .u64 8, .int .i64 0, .bool false, .slice none 0 0, .int .u64 7, .int .i64 0, .bool false, .slice s0 2 c0]) (ok0 : FrOK N u (fr0 s0 c0)) (ok1 : FrOK N u (fr1 s1 c1)) :
    Calls Try.prog 15 #[.int .u64 7, .slice (some ⟨B, 0, none⟩) 3 3] u fun e u' => ∃ s c, e = .returned (.tuple #[.slice s 3 c, .bool true]) ∧ BS u'.heap.size u' s 3 c [1, 2, 3] ∧ Below u.heap.size u u' := by
  have hF := fs_lit (fs := [fr1 s1 c1, fr8, fr0 s0 c0]) hA rfl (by simp) (fun f hf => by
    simp at hf
    rcases hf with rfl | rfl | rfl
    · exact ok1.here
    · exact fr8_ok _ _
    · exact ok0.here)
  refine (join_any 7 _ _ 3 3 _ u hF (Nat.le_refl _)).mono ?_
  rintro e u' ⟨hb, ⟨h, -⟩ | ⟨D, v, h, -, hD, he, hown⟩⟩
  · rw [jn_yes] at h; cases h
  · rw [jn_yes] at h; cases h
    obtain ⟨s, c, rfl, hB, -⟩ := own_bs hown hD (by simp)
    exact ⟨s, c, he, hB, hb⟩
theorem anc_join0 (u : World) (B N : Nat) (s1 : Option Addr) (c1 : Nat) (hA : Arr u B 25 #[.int .u64 7, .int .i64 1, .bool true, .slice s1 1 c1]) (ok1 : FrOK N u (fr1 s1 c1)) :
    Calls Try.prog 15 #[.int .u64 7, .slice (some ⟨B, 0, none⟩) 1 1] u fun e u' => e = .returned (.tuple #[.slice none 0 0, .bool false]) ∧ Below u.heap.size u u' := by
  have hF := fs_lit (fs := [fr1 s1 c1]) hA rfl (by simp) (fun f hf => by
    simp at hf
    subst hf
    exact ok1.here)
  refine (join_any 7 _ _ 1 1 _ u hF (Nat.le_refl _)).mono ?_
  rintro e u' ⟨hb, ⟨-, he⟩ | ⟨D, v, h, -⟩⟩
  · exact ⟨he, hb⟩
  · rw [jn_no] at h; cases h

theorem anc_same3 (w : World) (g : Nat) (hg : g = w.heap.size) (sp : Option Addr) (cap : Nat) (N : Nat) (hS : BS N w sp 3 cap [1, 2, 3]) :
    Calls Try.prog 12 #[.slice sp 3 cap, .slice (some ⟨g, 0, none⟩) 3 3] (w.alloc (.cells #[.int .u8 1, .int .u8 2, .int .u8 3] 5)) fun e w' => e = .returned (.bool true) ∧ Below w.heap.size w w' := by
  subst hg
  have hb : BS (w.alloc (.cells #[.int .u8 1, .int .u8 2, .int .u8 3] 5)).heap.size (w.alloc (.cells #[.int .u8 1, .int .u8 2, .int .u8 3] 5)) (some ⟨w.heap.size, 0, none⟩) 3 3 [1, 2, 3] :=
    bs_lit (L := [1, 2, 3]) (by intro x hx; simp at hx; omega) (by simp) (fun t ht => by
      rw [(Arr.new w 5 #[.int .u8 1, .int .u8 2, .int .u8 3]).cell]
      match t, ht with
      | 0, _ => rfl
      | 1, _ => rfl
      | 2, _ => rfl) 3 (by simp) (by omega)
  refine (same01_any _ _ _ _ _ _ _ _ _ _ _ (hS.here.below (alloc_bel' w _)) hb).mono ?_
  rintro e w' ⟨rfl, rfl⟩
  exact ⟨rfl, alloc_bel' w _⟩

set_option maxRecDepth 100000 in
set_option maxHeartbeats 1000000 in
theorem anchored_any (w : World) : Calls Try.prog 14 #[] w fun e w' => e = .returned (.bool true) ∧ Below w.heap.size w w' := by
  go_enter Try.func14, Try.ntmps14
  go_wp2_with (go_at_call 17; go_must (refine (anc_split w).mono ?_; rintro e w2 ⟨g, cq, s0, c0, s1, c1, rfl, ⟨p0, p1, p2, p3⟩, ⟨q0, q1, q2, q3⟩, hg, ok0, ok1, hb2⟩; have hs2 := hb2.size))
  have hd : ∀ o n, Below w2.heap.size w2 ((w2.alloc o).drewN n) := fun o n => ⟨rfl, rfl, rfl, by simp [World.drewN], fun k hk => Below.heap_alloc _ _ _ hk⟩
  have hmk : ∀ o n (w3 : World), Below ((w2.alloc o).drewN n).heap.size ((w2.alloc o).drewN n) w3 → Below w2.heap.size w2 w3 := fun o n w3 h => (hd o n).trans (h.mono (hd o n).size)
  go_region_law (go_simp; go_at_call 15; refine (anc_join _ _ w2.heap.size s0 s1 c0 c1 (Arr.drewN (Arr.new w2 25 _) _) (ok0.below (hd _ _)) (ok1.below (hd _ _))).mono ?_; rintro e w3 ⟨s3, c3, rfl, hB3, hb3⟩; have hb23 := hmk _ _ _ hb3; have hs3 := hb23.size; have r0 := (hb23.cell (p := ⟨g, 4, none⟩) hg).trans q0; have r1 := (hb23.cell (p := ⟨g, 5, none⟩) hg).trans q1; have r2 := (hb23.cell (p := ⟨g, 6, none⟩) hg).trans q2; have r3 := (hb23.cell (p := ⟨g, 7, none⟩) hg).trans q3; have ok13 := (ok1.below hb23).here; clear hb3; go_simp)
  all_goals
    go_wp2_with (first
      | (go_at_call 15; go_must (refine (anc_join0 _ _ _ s1 c1 (Arr.new w3 25 _) (ok13.below (alloc_bel' w3 _))).mono ?_; rintro e w4 ⟨rfl, hb4⟩; have hs4 := hb4.size; simp at hs4; have hB4 := hB3.below ((alloc_bel' w3 _).trans (hb4.mono (by simp))); have hbw4 : Below w.heap.size w w4 := ((hb2.trans (hb23.mono hs2)).alloc (by omega) _).trans (hb4.mono (by simp; omega))))
      | (go_at_call 12; go_must (refine (anc_same3 w4 w4.heap.size rfl s3 c3 _ hB4).mono ?_; rintro e w5 ⟨rfl, hb5⟩)))
    go_ret
    exact ⟨rfl, hbw4.trans (hb5.mono (by omega))⟩
end Go.Proofs.Ytbjlmekafnpllab
