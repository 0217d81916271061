/- Ue, Ug. -/
import Derived.Test.YtlebojbfcolkhaaUc
import Derived.Test.YtlebojbfcolkhaaA06
namespace Go.Proofs.Ytlebojbfcolkhaa
open Go.RowKit
set_option maxRecDepth 100000

theorem padded_blocks (sp : Option Addr) (n cap M : Nat) (L : List Int) (w : World) (hn : Hid (n = L.length)) (hM : Hid (n + 1 + nulls n + 8 = 64 * M)) (hnil : sp = none → n = 0 ∧ cap = 0) (hS : SlL w sp L) (hb : n ≤ 140737488355000) :
    Calls Try.prog 86 #[.slice sp n cap] w fun e w' => ∃ g c, e = .returned (.slice (some ⟨g, 0, none⟩) (64 * M) c) ∧ 64 * M ≤ c ∧ w.heap.size ≤ g ∧ Bytes w' g 0 (64 * M) (bat (padL L)) ∧ Below w.heap.size w w' := by
  refine (padded_any sp n cap L w hn hnil hS hb).mono ?_
  rintro e w' ⟨v, rfl, hown, hb'⟩
  obtain ⟨g, c, rfl, hn3, hc3, hgg, hBy, -⟩ := own_slice hown (by omega)
  have := hM.out
  have h3 := hn3.out
  rw [← h3, this] at hBy
  rw [this] at hc3 ⊢
  exact ⟨g, c, rfl, hc3, hgg, hBy, hb'⟩

theorem Bytes.setRowOther {w : World} {b off n k : Nat} {B : Nat → Int} (h : Bytes w b off n B) (D : Array Value) (hk : b ≠ k) : Bytes (w.setRow k D) b off n B := fun t ht => by
  rw [World.cell?_of_block (w := w) (a := ⟨b, off + t, none⟩) (setRow_other w k b D hk)]; exact h t ht

set_option maxRecDepth 100000 in
set_option maxHeartbeats 1000000 in
theorem refSum_any (sp : Option Addr) (n cap : Nat) (L : List Int) (w : World) (hn : n = L.length) (hnil : sp = none → n = 0 ∧ cap = 0) (hS : SlL w sp L) (hb : n ≤ 140737488355000) :
    Calls Try.prog 64 #[.slice sp n cap] w fun e w' => e = .returned (.agg (sha L)) ∧ Below w.heap.size w w' := by
  obtain ⟨M, hM0⟩ : ∃ M, M = n / 64 + lastQ (n % 64) := ⟨_, rfl⟩
  have hM : Hid (n + 1 + nulls n + 8 = 64 * M) := by show _ = _; rw [hM0]; exact pad_blocks n
  have hMb : 64 * M ≤ 140737488355072 := by have := hM.out; have := nulls_le n; omega
  have hMI : 64 * (M : Int) ≤ 140737488355072 := by omega
  have hfin : Hid (absorbN kOf (bat (padL L)) h0St M = shaSt (bat L) (n / 64) (n % 64)) := by show _ = _; rw [hM0, hn]; exact absorb_pad L
  have HN := Hid.mk' hn
  clear hn hM0
  go_enter Try.func64, Try.ntmps64
  go_upto_region 3 with (first
    | (refine wpList_store_new (w.alloc _) _ 132 (by rfl) 132 (.tmp 3) (.tmp 8) (by rfl) h0St.cells (by rfl) (by rfl) (s48 _) (by rfl) (St.one _) ?_)
    | (go_at_call 86; go_must (refine (padded_blocks sp n cap M L _ HN hM hnil (Sl.alloc (Sl.alloc hS _) _) hb).mono ?_; rintro e w3 ⟨g, c, rfl, hc3, hgg, hBy, hb3⟩)))
  have hA3 : Arr w3 (w.heap.size + 1) 132 h0St.cells := (show Arr ((w.alloc _).alloc (.cells h0St.cells 132)) (w.heap.size + 1) 132 h0St.cells from by simpa using Arr.new (w.alloc _) 132 h0St.cells).below hb3 (by simp)
  have hZ3 : ∃ Z : Array Value, Z.size = 32 ∧ Arr w3 w.heap.size 24 Z := ⟨_, by rfl, ((Arr.new w 24 _).alloc _).below hb3 (by simp; omega)⟩
  obtain ⟨Z, hZs, hZ3⟩ := hZ3
  have hB3 : Below w.heap.size w w3 := (((Below.refl _ _).alloc (Nat.le_refl _) _).alloc (by simp) _).trans (hb3.mono (by simp; omega))
  have hgg : w.heap.size + 2 ≤ g := by simpa using hgg
  clear hb3 hS
  generalize bat (padL L) = Bf at *
  go_wp2_with fail
  go_loopw [5] (fun i wr => ∃ j : Nat, j ≤ M ∧ i = .int .i64 (64 * (j : Int)) ∧ Arr wr (w.heap.size + 1) 132 (absorbN kOf Bf h0St j).cells ∧ Arr wr w.heap.size 24 Z ∧ Bytes wr g 0 (64 * M) Bf ∧ Below w.heap.size w wr)
    (fun i _ => 64 * M - (intOf i).toNat)
  case atStart => exact ⟨0, by omega, rfl, hA3, hZ3, hBy, hB3⟩
  case round =>
    clear hA3 hZ3 hBy hB3
    obtain ⟨j, hj, rfl, hA, hZ, hBy, hbl⟩ := hrel
    have h4 : (0 : Int) ≤ j := by omega
    by_cases hlt : j < M
    · have h5 : (j : Int) + 1 ≤ M := by omega
      have hcI : 64 * (M : Int) ≤ c := by omega
      have hcj : 64 * (j : Int) + 64 ≤ c := by omega
      have hl : 64 * j + 64 - 64 * j = 64 := by omega
      have hcond : 64 * (j : Int) < 64 * (M : Int) := by omega
      have i1 : IntKind.i64.wrap (64 * (j : Int) + 64) = 64 * (j : Int) + 64 := by simp [IntKind.wrap, IntKind.bits, IntKind.signed]; omega
      have p0 : 0 ≤ 64 * (j : Int) := by omega
      have p1 : 0 ≤ 64 * (j : Int) + 64 := by omega
      have p2 : 64 * (j : Int) ≤ 64 * (j : Int) + 64 := by omega
      have p3 : 64 * (j : Int) < c := by omega
      have p4 : 64 * j < c := by omega
      have p5 : ¬ c = 64 * j := by omega
      have t0 : (64 * (j : Int)).toNat = 64 * j := by omega
      have t1 : (64 * (j : Int) + 64).toNat = 64 * j + 64 := by omega
      have hB' : Bytes wr.drew g (64 * j) 64 (fun t => Bf (64 * j + t)) := fun t ht => by
        have := hBy (64 * j + t) (by omega)
        rw [Nat.zero_add] at this; exact this
      obtain ⟨sj, hsj⟩ : ∃ sj, sj = absorbN kOf Bf h0St j := ⟨_, rfl⟩
      obtain ⟨sn, hsn⟩ : ∃ sn, sn = absorbN kOf Bf h0St (j + 1) := ⟨_, rfl⟩
      have hcall : ∀ (u : World) (cap : Nat), Bytes u g (64 * j) 64 (fun t => Bf (64 * j + t)) → Calls Try.prog 87 #[.agg sj.cells, .slice (some ⟨g, 64 * j, none⟩) 64 cap] u fun e w' => e = .returned (.agg sn.cells) ∧ Below u.heap.size u w' := fun u cap h => by
        have := refBlock_any sj g (64 * j) cap (fun t => Bf (64 * j + t)) u h
        rw [hsn, absorbN, ← hsj]; exact this
      have Hsn := Hid.mk' hsn
      rw [← hsj] at hA
      clear hsj hsn
      go_upto_region 6 with fail
      obtain ⟨c0, c1, c2, c3, c4, c5, c6, c7⟩ := hA.cells8
      go_region_with (first
        | (go_at_call 87; go_must (refine (hcall wr.drew _ hB').mono ?_; rintro e w4 ⟨rfl, hb4⟩; have hA5 := hA.drew.below hb4 hA.lt; have hst := hA5.store8 sn)))
      all_goals
        clear c0 c1 c2 c3 c4 c5 c6 c7 hst
        go_wp2_with fail
        go_roundw
        case rel => exact ⟨j + 1, by omega, by go_num, by rw [← Hsn.out]; exact hA5.setRow _, (hZ.drew.below hb4 hZ.lt).setRowOther _ (by omega), Bytes.setRowOther (Bytes.below (w := wr.drew) hBy hb4) _ (by omega), below_setRow (hbl.drew.trans (hb4.mono hbl.size)) (by omega) _⟩
        case measure => simp [intOf]; omega
    · obtain rfl : j = M := by omega
      clear hBy
      rw [hfin.out] at hA
      obtain ⟨S, hS⟩ : ∃ S, S = shaSt (bat L) (n / 64) (n % 64) := ⟨_, rfl⟩
      rw [← hS] at hA
      have hsha : Hid (u8s 32 (outB S) = sha L) := by show _ = _; rw [hS, HN.out]; rfl
      clear hS
      obtain ⟨wo, rfl⟩ : ∃ wo : World, wo = wr := ⟨_, rfl⟩
      go_wp2_with fail
      have hs1 : w.heap.size + 1 < wo.heap.size := hA.lt
      go_loopw [7] (fun i wr => ∃ (k : Nat) (C : Array Value), k ≤ 32 ∧ i = .int .i64 k ∧ Arr wr (w.heap.size + 1) 132 S.cells ∧ Arr wr w.heap.size 24 Z ∧ Arr wr wo.heap.size 24 C ∧ C.size = 32 ∧ (∀ t, t < k → C[t]? = some (.int .u8 (outB S t))) ∧ Below w.heap.size w wr)
        (fun i _ => 32 - (intOf i).toNat)
      case atStart => exact ⟨0, _, by omega, rfl, hA.alloc _, hZ.alloc _, Arr.new _ _ _, rfl, fun t h => by omega, hbl.alloc hbl.size _⟩
      case round =>
        clear hA hZ hbl
        generalize wo.heap.size = g6 at *
        obtain ⟨k, C, hk, rfl, hA, hZ, hC, hCs, hw, hbl⟩ := hrel
        have HW := Hid.mk' hw
        clear hw
        by_cases hlt : k < 32
        · have h3 : (k : Int) < 32 := by omega
          have h4 : (0 : Int) ≤ k := by omega
          have c0 : wr.cell? ⟨w.heap.size + 1, k / 4, none⟩ = some (.int .u32 (S.at (k / 4))) := (hA.cell _).trans (St.get S (by omega))
          obtain ⟨v1, c1⟩ := hC.got (j := k) (by omega)
          have f0 := hC.frozen k
          go_wp2
          go_roundw
          case rel =>
            have q := set_step (f := fun t => .int .u8 (outB S t)) hCs (by omega) HW.out
            exact ⟨k + 1, _, by omega, by go_num, hA.setOther _ (by simp; omega), hZ.setOther _ (by simp; omega), hC.set _ _, by simp [hCs], q, hbl.setCell (by simp; omega) _⟩
          case measure => simp [intOf]; omega
        · obtain rfl : k = 32 := by omega
          have hCe : C = u8s 32 (outB S) := arr_eq hCs HW.out
          rw [hsha.out] at hCe
          subst hCe
          go_wp2_with (first
            | (refine wpList_load_row (by rfl) 24 (.tmp 6) (by rfl) g6 (by rfl) 24 (sha L) (0, 0) _ hC Try.underlying24 rfl (s24sha _) ?_)
            | (refine wpList_store_arr (by rfl) 24 (.tmp 2) (.tmp 41) (by rfl) w.heap.size (sha L) (by rfl) (by rfl) 24 _ hZ (s24sha _) (by rw [hZs]; exact (sha_size _).symm) (sha_one _) ?_))
          exact bodyPost_ret (v := .agg (sha L)) (results_cell_row Try.results64 _ _ w.heap.size 24 _ (0, 0) _ rfl (hZ.setRow _) Try.underlying24 rfl (s24sha _)) rfl ⟨rfl, below_setRow hbl (Nat.le_refl _) _⟩
end Go.Proofs.Ytlebojbfcolkhaa
namespace Go.Proofs.Ytlebojbfcolkhaa
open Go.RowKit
set_option maxRecDepth 100000

theorem Arr.storeSha {w : World} {g t : Nat} {Z : Array Value} (h : Arr w g t Z) (hZ : Z.size = 32) (M : List Int) : (storeCells ⟨g, 0, none⟩ (sha M).toList).run Try.prog w = .ok () (w.setRow g (sha M)) := by
  have := run_storeCells_from (P := Try.prog) g t (sha M).toList 0 Z w h (by simp [sha_size, hZ]) (fun v hv => (Array.all_eq_true_iff_forall_mem.1 (sha_one M)) v (by simpa using hv))
  have e : (Z.toList.drop (sha M).size) = [] := by rw [sha_size]; exact List.drop_eq_nil_of_le (by simp [hZ])
  simpa [e] using this

set_option maxRecDepth 100000 in
set_option maxHeartbeats 1000000 in
theorem refPair_any (X Y : List Int) (w : World) (hX : X.length = 32) (hY : Y.length = 32) :
    Calls Try.prog 38 #[.agg (h8 X), .agg (h8 Y)] w fun e w' => e = .returned (.agg (sha (1 :: (X ++ Y)))) ∧ Below w.heap.size w w' := by
  have HX := Hid.mk' hX
  have HY := Hid.mk' hY
  clear hX hY
  go_enter Try.func38, Try.ntmps38
  go_upto_region 1 with fail
  obtain ⟨W, hWe⟩ : ∃ W : World, W = ((w.alloc (.cells (h8 X) 24)).alloc (.cells (h8 Y) 24)).alloc (.cells #[.int .u8 0, .int .u8 0, .int .u8 0, .int .u8 0, .int .u8 0, .int .u8 0, .int .u8 0, .int .u8 0, .int .u8 0, .int .u8 0, .int .u8 0, .int .u8 0, .int .u8 0, .int .u8 0, .int .u8 0, .int .u8 0, .int .u8 0, .int .u8 0, .int .u8 0, .int .u8 0, .int .u8 0, .int .u8 0, .int .u8 0, .int .u8 0, .int .u8 0, .int .u8 0, .int .u8 0, .int .u8 0, .int .u8 0, .int .u8 0, .int .u8 0, .int .u8 0] 24) := ⟨_, rfl⟩
  rw [← hWe]
  have hX0 : Arr W w.heap.size 24 (h8 X) := by rw [hWe]; exact ((Arr.new _ _ _).alloc _).alloc _
  have hY0 : Arr W (w.heap.size + 1) 24 (h8 Y) := by rw [hWe]; exact (show Arr ((w.alloc _).alloc _) (w.heap.size + 1) 24 (h8 Y) from (by simpa using Arr.new (w.alloc (.cells (h8 X) 24)) 24 (h8 Y))).alloc _
  have hZ0 : ∃ Z : Array Value, Z.size = 32 ∧ Arr W (w.heap.size + 2) 24 Z := by
    refine ⟨_, ?_, by rw [hWe]; exact Arr.new3 w _ _ 24 _⟩
    rfl
  have hB0 : Below w.heap.size w W := by rw [hWe]; exact (((Below.refl _ _).alloc (Nat.le_refl _) _).alloc (by simp) _).alloc (by simp; omega) _
  have hz0 : W.heap.size = w.heap.size + 3 := by rw [hWe]; simp
  clear hWe
  obtain ⟨Z, hZs, hZ0⟩ := hZ0
  have hlit : (W.alloc (.cells #[.int .u8 1] 5)).drew.ownsRow (w.heap.size + 3) 5 1 (.slice (some ⟨W.heap.size, 0, none⟩) 1 1) 1 (by8 [1]) := World.ownsRow_lit _ _ _ (by rw [hz0]; exact Nat.le_refl _) (by unfold maxLen; omega) rfl
  have HZ0 := Hid.mk' hz0
  clear hz0
  have hsz := sha_size (1 :: (X ++ Y))
  go_region_law ((first
    | (refine step_append_bytes (by rfl) (.tmp 5) (.tmp 6) (by rfl) (w.heap.size + 3) _ 1 [1] (by rfl) hlit (some ⟨w.heap.size, 0, none⟩) 32 32 X (by rfl) HX.out.symm (fun h => by cases h) (Arr.sl (hX0.alloc _)) (by omega) (by simp [HZ0.out]) ?_; intro v2 w2 hown2 hg2)
    | (refine step_append_bytes (by rfl) (.tmp 7) (.tmp 8) (by rfl) (w.heap.size + 3) _ 33 ([1] ++ X) (by rfl) hown2 (some ⟨w.heap.size + 1, 0, none⟩) 32 32 Y (by rfl) HY.out.symm (fun h => by cases h) (Arr.sl ((hY0.alloc _).drew.grown hg2 (ne_own hlit (by omega)))) (by omega) (by have := hg2.size; simp [HZ0.out] at this; omega) ?_; intro v3 w3 hown3 hg3; obtain ⟨g, c3, rfl, hn3, hc3, hgg, hBy, -⟩ := own_slice hown3 (by omega); have hZ3 := (((hZ0.alloc (.cells #[.int .u8 1] 5)).drew.grown hg2 (ne_own hlit (by omega))).grown hg3 (ne_own hown2 (by omega))))
    | (go_simp; go_at_call 64; refine (refSum_any (some ⟨g, 0, none⟩) 65 c3 (1 :: (X ++ Y)) _ hn3.out (fun h => by cases h) (fun _ => ⟨g, 0, rfl, hBy⟩) (by omega)).mono ?_; rintro e w4 ⟨rfl, hb4⟩; have hZ4 := hZ3.below hb4 hZ3.lt; have hst := hZ4.storeSha hZs (1 :: (X ++ Y)); go_simp)))
  go_wp2_with fail
  have hg2s := hg2.size
  simp [HZ0.out] at hg2s
  have hB3 : Below w.heap.size w w3 := ((hB0.alloc hB0.size _).drew.grown hg2 (by simp [HZ0.out]; omega) (fun k e => by have := own_ge hlit k e; omega)).grown hg3 (by omega) (fun k e => by have := own_ge hown2 k e; omega)
  exact bodyPost_ret (v := .agg (sha (1 :: (X ++ Y)))) (results_cell_row Try.results38 _ _ (w.heap.size + 2) 24 _ (0, 0) _ rfl (hZ4.setRow _) Try.underlying24 rfl (s24sha _)) rfl ⟨rfl, below_setRow (hB3.trans (hb4.mono hB3.size)) (by omega) _⟩
end Go.Proofs.Ytlebojbfcolkhaa
