/- Xc, Xw, Wi. -/
import Derived.Test.YtgdmgogjoabilaaX15
import Derived.Test.YtgdmgogjoabilaaX31
import Derived.Test.YtgdmgogjoabilaaX37
import Derived.Test.YtgdmgogjoabilaaX34
import Derived.Test.YtgdmgogjoabilaaX35
/- Layer vm: the preimage of a sum, as the document says. -/
namespace Go.Proofs.Ytgdmgogjoabilaa
open Go.RowKit
set_option maxRecDepth 100000
set_option linter.unusedVariables false
set_option linter.unusedSimpArgs false


theorem neq_sum (L X : List Int) (hX : X.length = 32) (w : World) : (binOp .neq 31 (.agg (sha L)) (.agg (h8 X))).run Try.prog w = .ok (.bool (!decide (shl L = X))) w := by
  rw [sha_h8, run_neq_struct, run_eqIn24 (shl_len L) hX w]; rfl
/-- What the document's Preimage answers. -/
def RpPost (es : List En) (X : List Int) (w : World) (r : Ending) (w' : World) : Prop := Below w.heap.size w w' ∧
  ((∃ e, pre es X = some e ∧ e ∈ es ∧ r = .returned (.tuple #[.slice e.sp e.n e.cap, .bool true])) ∨ (pre es X = none ∧ r = .returned (.tuple #[.slice none 0 0, .bool false])))
set_option maxHeartbeats 1000000 in
theorem refPre_any (sp : Option Addr) (n cap : Nat) (es : List En) (X : List Int) (N : Nat) (w : World) (hS : ES N w sp n cap es) (hX : X.length = 32) :
    Calls Try.prog 12 #[.slice sp n cap, .agg (h8 X)] w (RpPost es X w) := by
  have hl := hS.len
  have hsm := hS.small
  have hS := hS.here
  go_enter Try.func12, Try.ntmps12
  go_wp2_with fail
  go_loopw [6] (fun q wr => ∃ (k : Nat), q = .int .i64 (k : Int) ∧ k ≤ n ∧ Below w.heap.size w wr ∧ Arr wr w.heap.size 31 (h8 X) ∧ Hid (∀ (j : Nat) (f : En), j < k → es[j]? = some f → f.sm ≠ X))
    (fun q _ => n - (intOf q).toNat)
  case atStart => exact ⟨0, rfl, by omega, (Below.refl _ _).alloc (Nat.le_refl _) _, Arr.new w 31 _, Hid.mk' (fun j f hj => by omega)⟩
  case round =>
    obtain ⟨k, rfl, hk, hbl, hH, hno⟩ := hrel
    by_cases hlt : k < n
    · have hI : (k : Int) < n := by omega
      have hSr := hS.below hbl
      obtain ⟨g, off, rfl, hgN, hR⟩ := hSr.at0 (by omega)
      have hgl : g < wr.heap.size := by have := hbl.size; omega
      obtain ⟨e, he⟩ : ∃ e, es[k]? = some e := ⟨es[k]'(by rw [← hl.out]; exact hlt), List.getElem?_eq_getElem _⟩
      have hok := hSr.ok e (List.mem_of_getElem? he)
      have he32 := hok.s32
      have hRe := hR k e he
      have rE := range_sm hRe
      have cE := range_c0 hRe
      have hHr := hH.range
      have hHlt := hH.lt
      have q1 := run_eq24 he32 hX
      replace he := Hid.mk' he
      by_cases hq : e.sm = X
      · have hd : decide (e.sm = X) = true := by simpa using hq
        rw [hd] at q1
        have hF : Fst es X k e := Fst.mk he.out hq hno.out
        have hp := hF.pre
        have hme := List.mem_of_getElem? he.out
        have hbs := hok.body
        have hq2 := neq_sum e.bs X hX
        replace hq := Hid.mk' hq
        clear hd hF
        by_cases hsh : shl e.bs = X
        · rw [if_pos hsh] at hp
          rw [decide_eq_true hsh] at hq2
          replace hsh := Hid.mk' hsh
          replace hp := Hid.mk' hp
          simp only [Bool.not_true] at hq2
          go_upto_region 4 with fail
          refine wp_region_held_drew (S := fun u => Below wr.heap.size wr u) (by kernel_rfl) ((Below.refl _ _).drew) (fun hHeld => ?_)
          refine wpAnyH_take (i := 0) (oi := ⟨_, _, _, _, _, _⟩) (v := ?_) rfl (by kernel_rfl) (by kernel_rfl) (by kernel_rfl) (fun _ _ _ h => h) (Or.inl ⟨by rfl, ?_⟩) (by assumption) ?_
          rotate_left
          · intro u hSw
            go_simp
            try (with_reducible rfl)
          try simp only [Act.put, List.setIfInBounds_toArray, List.set_cons_zero, List.set_cons_succ]
          refine wpAnyH_take (i := 1) (oi := ⟨_, _, _, _, _, _⟩) (v := ?_) rfl (by kernel_rfl) (by kernel_rfl) (by kernel_rfl) (fun _ _ _ h => h) (Or.inl ⟨by rfl, ?_⟩) (by assumption) ?_
          rotate_left
          · intro u hSw
            go_simp
            try (with_reducible rfl)
          try simp only [Act.put, List.setIfInBounds_toArray, List.set_cons_zero, List.set_cons_succ]
          refine wpAnyH_take (i := 2) (oi := ⟨_, _, _, _, _, _⟩) (v := ?_) rfl (by kernel_rfl) (by kernel_rfl) (by kernel_rfl) (fun _ _ _ h => h) (Or.inl ⟨by rfl, ?_⟩) (by assumption) ?_
          rotate_left
          · intro u hSw
            go_simp
            try (with_reducible rfl)
          try simp only [Act.put, List.setIfInBounds_toArray, List.set_cons_zero, List.set_cons_succ]
          refine wpAnyH_take (i := 3) (oi := ⟨_, _, _, _, _, _⟩) (v := ?_) rfl (by kernel_rfl) (by kernel_rfl) (by kernel_rfl) (fun _ _ _ h => h) (Or.inl ⟨by rfl, ?_⟩) (by assumption) ?_
          rotate_left
          · intro u hSw
            go_simp
            try (with_reducible rfl)
          try simp only [Act.put, List.setIfInBounds_toArray, List.set_cons_zero, List.set_cons_succ]
          refine wpAnyH_take (i := 4) (oi := ⟨_, _, _, _, _, _⟩) rfl (by kernel_rfl) (by kernel_rfl) (by kernel_rfl) (fun _ _ _ h => h) (y24 (by rfl) (.tmp 16) rfl (g) (off + k * 33 + 1) rfl e.sm he32 (fun u hu => range_below rE hu hgl)) (by assumption) ?_
          try simp only [Act.put, List.setIfInBounds_toArray, List.set_cons_zero, List.set_cons_succ]
          refine wpAnyH_take (i := 5) (oi := ⟨_, _, _, _, _, _⟩) rfl (by kernel_rfl) (by kernel_rfl) (by kernel_rfl) (fun _ _ _ h => h) (y24 (by rfl) (.tmp 3) rfl (w.heap.size) (0) rfl X hX (fun u hu => range_below hHr hu hHlt)) (by assumption) ?_
          try simp only [Act.put, List.setIfInBounds_toArray, List.set_cons_zero, List.set_cons_succ]
          refine wpAnyH_take (i := 6) (oi := ⟨_, _, _, _, _, _⟩) (v := ?_) rfl (by kernel_rfl) (by kernel_rfl) (by kernel_rfl) (fun _ _ _ h => h) (Or.inl ⟨by rfl, ?_⟩) (by assumption) ?_
          rotate_left
          · intro u hSw
            go_simp
            try (with_reducible rfl)
          try simp only [Act.put, List.setIfInBounds_toArray, List.set_cons_zero, List.set_cons_succ]
          refine wpAnyH_done (by kernel_rfl) ?_ _
          go_upto_region 5 with fail
          have hH4 := hHeld
          have rX4 := range_below hHr hH4 hHlt
          have cE4 := (hH4.cell (p := ⟨g, off + k * 33, none⟩) hgl).trans cE
          have hb4 := hbs.below (hH4.mono hbl.size)
          have hD4 := hH4.drew
          refine wp_region_held_drew (S := fun u => Below wr.heap.size wr u) (by kernel_rfl) (hD4) (fun hHeld => ?_)
          refine wpAnyH_take (i := 0) (oi := ⟨_, _, _, _, _, _⟩) (v := ?_) rfl (by kernel_rfl) (by kernel_rfl) (by kernel_rfl) (fun _ _ _ h => h) (Or.inl ⟨by rfl, ?_⟩) (by assumption) ?_
          rotate_left
          · intro u hSw
            go_simp
            try (with_reducible rfl)
          try simp only [Act.put, List.setIfInBounds_toArray, List.set_cons_zero, List.set_cons_succ]
          refine wpAnyH_take (i := 1) (oi := ⟨_, _, _, _, _, _⟩) (v := ?_) rfl (by kernel_rfl) (by kernel_rfl) (by kernel_rfl) (fun _ _ _ h => h) (Or.inl ⟨by rfl, ?_⟩) (by assumption) ?_
          rotate_left
          · intro u hSw
            go_simp
            try (with_reducible rfl)
          try simp only [Act.put, List.setIfInBounds_toArray, List.set_cons_zero, List.set_cons_succ]
          refine wpAnyH_take (i := 2) (oi := ⟨_, _, _, _, _, _⟩) (v := ?_) rfl (by kernel_rfl) (by kernel_rfl) (by kernel_rfl) (fun _ _ _ h => h) (Or.inl ⟨by rfl, ?_⟩) (by assumption) ?_
          rotate_left
          · intro u hSw
            go_simp
            try (with_reducible rfl)
          try simp only [Act.put, List.setIfInBounds_toArray, List.set_cons_zero, List.set_cons_succ]
          refine wpAnyH_take (i := 3) (oi := ⟨_, _, _, _, _, _⟩) (v := ?_) rfl (by kernel_rfl) (by kernel_rfl) (by kernel_rfl) (fun _ _ _ h => h) (Or.inl ⟨by rfl, ?_⟩) (by assumption) ?_
          rotate_left
          · intro u hSw
            go_simp
            try (with_reducible rfl)
          try simp only [Act.put, List.setIfInBounds_toArray, List.set_cons_zero, List.set_cons_succ]
          refine wpAnyH_take (i := 4) (oi := ⟨_, _, _, _, _, _⟩) (v := ?_) rfl (by kernel_rfl) (by kernel_rfl) (by kernel_rfl) (fun _ _ _ h => h) (Or.inl ⟨by rfl, ?_⟩) (by assumption) ?_
          rotate_left
          · intro u hSw
            have cu := (hSw.cell (p := ⟨g, off + k * 33, none⟩) hgl).trans cE
            go_simp
            try (with_reducible rfl)
          try simp only [Act.put, List.setIfInBounds_toArray, List.set_cons_zero, List.set_cons_succ]
          refine wpAnyH_take (i := 6) (oi := ⟨_, _, _, _, _, _⟩) rfl (by kernel_rfl) (by kernel_rfl) (by kernel_rfl) (fun _ _ _ h => h) (y24 (by rfl) (.tmp 3) rfl (w.heap.size) (0) rfl X hX (fun u hu => range_below hHr hu hHlt)) (by assumption) ?_
          try simp only [Act.put, List.setIfInBounds_toArray, List.set_cons_zero, List.set_cons_succ]
          refine wpAnyH_ready (rs := [5]) (by kernel_rfl) (by simp) ?_
          refine AllReadyH.cons (o := ⟨_, _, _, _, _, _⟩) rfl (fun K hK => ?_) AllReadyH.nil
          go_simp
          refine (refSum_any e.sp e.n e.cap e.bs _ hb4.len.out hb4.nil (by exact hb4.sl) (by have := hb4.small; omega)).mono ?_
          rintro r u ⟨rfl, hu⟩
          have hHu := hD4.trans (hu.mono (by simp))
          go_wp2_with fail
          refine hK.out _ _ hHu (fun hHeld => ?_)
          clear hK K
          try simp only [Act.put, List.setIfInBounds_toArray, List.set_cons_zero, List.set_cons_succ]
          refine wpAnyH_take (i := 7) (oi := ⟨_, _, _, _, _, _⟩) (v := ?_) rfl (by kernel_rfl) (by kernel_rfl) (by kernel_rfl) (fun _ _ _ h => h) (Or.inl ⟨by rfl, ?_⟩) (by assumption) ?_
          rotate_left
          · intro u hSw
            go_simp
            try (with_reducible rfl)
          try simp only [Act.put, List.setIfInBounds_toArray, List.set_cons_zero, List.set_cons_succ]
          refine wpAnyH_done (by kernel_rfl) ?_ _
          have cE5 := (hHeld.cell (p := ⟨g, off + k * 33, none⟩) hgl).trans cE
          go_wp2_with fail
          go_ret2
          exact ⟨hbl.trans (hHeld.mono hbl.size), .inl ⟨e, hp.out, hme, rfl⟩⟩
        · rw [if_neg hsh] at hp
          rw [decide_eq_false hsh] at hq2
          replace hsh := Hid.mk' hsh
          replace hp := Hid.mk' hp
          simp only [Bool.not_false] at hq2
          go_upto_region 4 with fail
          refine wp_region_held_drew (S := fun u => Below wr.heap.size wr u) (by kernel_rfl) ((Below.refl _ _).drew) (fun hHeld => ?_)
          refine wpAnyH_take (i := 0) (oi := ⟨_, _, _, _, _, _⟩) (v := ?_) rfl (by kernel_rfl) (by kernel_rfl) (by kernel_rfl) (fun _ _ _ h => h) (Or.inl ⟨by rfl, ?_⟩) (by assumption) ?_
          rotate_left
          · intro u hSw
            go_simp
            try (with_reducible rfl)
          try simp only [Act.put, List.setIfInBounds_toArray, List.set_cons_zero, List.set_cons_succ]
          refine wpAnyH_take (i := 1) (oi := ⟨_, _, _, _, _, _⟩) (v := ?_) rfl (by kernel_rfl) (by kernel_rfl) (by kernel_rfl) (fun _ _ _ h => h) (Or.inl ⟨by rfl, ?_⟩) (by assumption) ?_
          rotate_left
          · intro u hSw
            go_simp
            try (with_reducible rfl)
          try simp only [Act.put, List.setIfInBounds_toArray, List.set_cons_zero, List.set_cons_succ]
          refine wpAnyH_take (i := 2) (oi := ⟨_, _, _, _, _, _⟩) (v := ?_) rfl (by kernel_rfl) (by kernel_rfl) (by kernel_rfl) (fun _ _ _ h => h) (Or.inl ⟨by rfl, ?_⟩) (by assumption) ?_
          rotate_left
          · intro u hSw
            go_simp
            try (with_reducible rfl)
          try simp only [Act.put, List.setIfInBounds_toArray, List.set_cons_zero, List.set_cons_succ]
          refine wpAnyH_take (i := 3) (oi := ⟨_, _, _, _, _, _⟩) (v := ?_) rfl (by kernel_rfl) (by kernel_rfl) (by kernel_rfl) (fun _ _ _ h => h) (Or.inl ⟨by rfl, ?_⟩) (by assumption) ?_
          rotate_left
          · intro u hSw
            go_simp
            try (with_reducible rfl)
          try simp only [Act.put, List.setIfInBounds_toArray, List.set_cons_zero, List.set_cons_succ]
          refine wpAnyH_take (i := 4) (oi := ⟨_, _, _, _, _, _⟩) rfl (by kernel_rfl) (by kernel_rfl) (by kernel_rfl) (fun _ _ _ h => h) (y24 (by rfl) (.tmp 16) rfl (g) (off + k * 33 + 1) rfl e.sm he32 (fun u hu => range_below rE hu hgl)) (by assumption) ?_
          try simp only [Act.put, List.setIfInBounds_toArray, List.set_cons_zero, List.set_cons_succ]
          refine wpAnyH_take (i := 5) (oi := ⟨_, _, _, _, _, _⟩) rfl (by kernel_rfl) (by kernel_rfl) (by kernel_rfl) (fun _ _ _ h => h) (y24 (by rfl) (.tmp 3) rfl (w.heap.size) (0) rfl X hX (fun u hu => range_below hHr hu hHlt)) (by assumption) ?_
          try simp only [Act.put, List.setIfInBounds_toArray, List.set_cons_zero, List.set_cons_succ]
          refine wpAnyH_take (i := 6) (oi := ⟨_, _, _, _, _, _⟩) (v := ?_) rfl (by kernel_rfl) (by kernel_rfl) (by kernel_rfl) (fun _ _ _ h => h) (Or.inl ⟨by rfl, ?_⟩) (by assumption) ?_
          rotate_left
          · intro u hSw
            go_simp
            try (with_reducible rfl)
          try simp only [Act.put, List.setIfInBounds_toArray, List.set_cons_zero, List.set_cons_succ]
          refine wpAnyH_done (by kernel_rfl) ?_ _
          go_upto_region 5 with fail
          have hH4 := hHeld
          have rX4 := range_below hHr hH4 hHlt
          have cE4 := (hH4.cell (p := ⟨g, off + k * 33, none⟩) hgl).trans cE
          have hb4 := hbs.below (hH4.mono hbl.size)
          have hD4 := hH4.drew
          refine wp_region_held_drew (S := fun u => Below wr.heap.size wr u) (by kernel_rfl) (hD4) (fun hHeld => ?_)
          refine wpAnyH_take (i := 0) (oi := ⟨_, _, _, _, _, _⟩) (v := ?_) rfl (by kernel_rfl) (by kernel_rfl) (by kernel_rfl) (fun _ _ _ h => h) (Or.inl ⟨by rfl, ?_⟩) (by assumption) ?_
          rotate_left
          · intro u hSw
            go_simp
            try (with_reducible rfl)
          try simp only [Act.put, List.setIfInBounds_toArray, List.set_cons_zero, List.set_cons_succ]
          refine wpAnyH_take (i := 1) (oi := ⟨_, _, _, _, _, _⟩) (v := ?_) rfl (by kernel_rfl) (by kernel_rfl) (by kernel_rfl) (fun _ _ _ h => h) (Or.inl ⟨by rfl, ?_⟩) (by assumption) ?_
          rotate_left
          · intro u hSw
            go_simp
            try (with_reducible rfl)
          try simp only [Act.put, List.setIfInBounds_toArray, List.set_cons_zero, List.set_cons_succ]
          refine wpAnyH_take (i := 2) (oi := ⟨_, _, _, _, _, _⟩) (v := ?_) rfl (by kernel_rfl) (by kernel_rfl) (by kernel_rfl) (fun _ _ _ h => h) (Or.inl ⟨by rfl, ?_⟩) (by assumption) ?_
          rotate_left
          · intro u hSw
            go_simp
            try (with_reducible rfl)
          try simp only [Act.put, List.setIfInBounds_toArray, List.set_cons_zero, List.set_cons_succ]
          refine wpAnyH_take (i := 3) (oi := ⟨_, _, _, _, _, _⟩) (v := ?_) rfl (by kernel_rfl) (by kernel_rfl) (by kernel_rfl) (fun _ _ _ h => h) (Or.inl ⟨by rfl, ?_⟩) (by assumption) ?_
          rotate_left
          · intro u hSw
            go_simp
            try (with_reducible rfl)
          try simp only [Act.put, List.setIfInBounds_toArray, List.set_cons_zero, List.set_cons_succ]
          refine wpAnyH_take (i := 4) (oi := ⟨_, _, _, _, _, _⟩) (v := ?_) rfl (by kernel_rfl) (by kernel_rfl) (by kernel_rfl) (fun _ _ _ h => h) (Or.inl ⟨by rfl, ?_⟩) (by assumption) ?_
          rotate_left
          · intro u hSw
            have cu := (hSw.cell (p := ⟨g, off + k * 33, none⟩) hgl).trans cE
            go_simp
            try (with_reducible rfl)
          try simp only [Act.put, List.setIfInBounds_toArray, List.set_cons_zero, List.set_cons_succ]
          refine wpAnyH_take (i := 6) (oi := ⟨_, _, _, _, _, _⟩) rfl (by kernel_rfl) (by kernel_rfl) (by kernel_rfl) (fun _ _ _ h => h) (y24 (by rfl) (.tmp 3) rfl (w.heap.size) (0) rfl X hX (fun u hu => range_below hHr hu hHlt)) (by assumption) ?_
          try simp only [Act.put, List.setIfInBounds_toArray, List.set_cons_zero, List.set_cons_succ]
          refine wpAnyH_ready (rs := [5]) (by kernel_rfl) (by simp) ?_
          refine AllReadyH.cons (o := ⟨_, _, _, _, _, _⟩) rfl (fun K hK => ?_) AllReadyH.nil
          go_simp
          refine (refSum_any e.sp e.n e.cap e.bs _ hb4.len.out hb4.nil (by exact hb4.sl) (by have := hb4.small; omega)).mono ?_
          rintro r u ⟨rfl, hu⟩
          have hHu := hD4.trans (hu.mono (by simp))
          go_wp2_with fail
          refine hK.out _ _ hHu (fun hHeld => ?_)
          clear hK K
          try simp only [Act.put, List.setIfInBounds_toArray, List.set_cons_zero, List.set_cons_succ]
          refine wpAnyH_take (i := 7) (oi := ⟨_, _, _, _, _, _⟩) (v := ?_) rfl (by kernel_rfl) (by kernel_rfl) (by kernel_rfl) (fun _ _ _ h => h) (Or.inl ⟨by rfl, ?_⟩) (by assumption) ?_
          rotate_left
          · intro u hSw
            go_simp
            try (with_reducible rfl)
          try simp only [Act.put, List.setIfInBounds_toArray, List.set_cons_zero, List.set_cons_succ]
          refine wpAnyH_done (by kernel_rfl) ?_ _
          go_wp2_with fail
          go_ret2
          exact ⟨hbl.trans (hHeld.mono hbl.size), .inr ⟨hp.out, rfl⟩⟩
      · have hd : decide (e.sm = X) = false := by simpa using hq
        rw [hd] at q1
        have hn2 : Hid (∀ (j : Nat) (f : En), j < k + 1 → es[j]? = some f → f.sm ≠ X) := Hid.mk' (fun j f hj hf => by
          by_cases hjk : j = k
          · subst hjk; rw [he.out] at hf; cases hf; exact hq
          · exact hno.out j f (by omega) hf)
        replace hq := Hid.mk' hq
        clear hd
        go_upto_region 4 with fail
        refine wp_region_held_drew (S := fun u => Below wr.heap.size wr u) (by kernel_rfl) ((Below.refl _ _).drew) (fun hHeld => ?_)
        refine wpAnyH_take (i := 0) (oi := ⟨_, _, _, _, _, _⟩) (v := ?_) rfl (by kernel_rfl) (by kernel_rfl) (by kernel_rfl) (fun _ _ _ h => h) (Or.inl ⟨by rfl, ?_⟩) (by assumption) ?_
        rotate_left
        · intro u hSw
          go_simp
          try (with_reducible rfl)
        try simp only [Act.put, List.setIfInBounds_toArray, List.set_cons_zero, List.set_cons_succ]
        refine wpAnyH_take (i := 1) (oi := ⟨_, _, _, _, _, _⟩) (v := ?_) rfl (by kernel_rfl) (by kernel_rfl) (by kernel_rfl) (fun _ _ _ h => h) (Or.inl ⟨by rfl, ?_⟩) (by assumption) ?_
        rotate_left
        · intro u hSw
          go_simp
          try (with_reducible rfl)
        try simp only [Act.put, List.setIfInBounds_toArray, List.set_cons_zero, List.set_cons_succ]
        refine wpAnyH_take (i := 2) (oi := ⟨_, _, _, _, _, _⟩) (v := ?_) rfl (by kernel_rfl) (by kernel_rfl) (by kernel_rfl) (fun _ _ _ h => h) (Or.inl ⟨by rfl, ?_⟩) (by assumption) ?_
        rotate_left
        · intro u hSw
          go_simp
          try (with_reducible rfl)
        try simp only [Act.put, List.setIfInBounds_toArray, List.set_cons_zero, List.set_cons_succ]
        refine wpAnyH_take (i := 3) (oi := ⟨_, _, _, _, _, _⟩) (v := ?_) rfl (by kernel_rfl) (by kernel_rfl) (by kernel_rfl) (fun _ _ _ h => h) (Or.inl ⟨by rfl, ?_⟩) (by assumption) ?_
        rotate_left
        · intro u hSw
          go_simp
          try (with_reducible rfl)
        try simp only [Act.put, List.setIfInBounds_toArray, List.set_cons_zero, List.set_cons_succ]
        refine wpAnyH_take (i := 4) (oi := ⟨_, _, _, _, _, _⟩) rfl (by kernel_rfl) (by kernel_rfl) (by kernel_rfl) (fun _ _ _ h => h) (y24 (by rfl) (.tmp 16) rfl (g) (off + k * 33 + 1) rfl e.sm he32 (fun u hu => range_below rE hu hgl)) (by assumption) ?_
        try simp only [Act.put, List.setIfInBounds_toArray, List.set_cons_zero, List.set_cons_succ]
        refine wpAnyH_take (i := 5) (oi := ⟨_, _, _, _, _, _⟩) rfl (by kernel_rfl) (by kernel_rfl) (by kernel_rfl) (fun _ _ _ h => h) (y24 (by rfl) (.tmp 3) rfl (w.heap.size) (0) rfl X hX (fun u hu => range_below hHr hu hHlt)) (by assumption) ?_
        try simp only [Act.put, List.setIfInBounds_toArray, List.set_cons_zero, List.set_cons_succ]
        refine wpAnyH_take (i := 6) (oi := ⟨_, _, _, _, _, _⟩) (v := ?_) rfl (by kernel_rfl) (by kernel_rfl) (by kernel_rfl) (fun _ _ _ h => h) (Or.inl ⟨by rfl, ?_⟩) (by assumption) ?_
        rotate_left
        · intro u hSw
          go_simp
          try (with_reducible rfl)
        try simp only [Act.put, List.setIfInBounds_toArray, List.set_cons_zero, List.set_cons_succ]
        refine wpAnyH_done (by kernel_rfl) ?_ _
        go_wp2_with fail
        go_roundw
        case rel => exact ⟨k + 1, by go_num, by omega, hbl.trans (hHeld.mono hbl.size), hH.below hHeld hHlt, hn2⟩
        case measure => simp [intOf]; omega
    · have hI : ¬ (k : Int) < n := by omega
      obtain rfl : k = n := by omega
      have hn2 : Hid (∀ (j : Nat) (f : En), es[j]? = some f → f.sm ≠ X) := Hid.mk' (fun j f hf => hno.out j f (by rw [hl.out]; exact (List.getElem?_eq_some_iff.1 hf).1) hf)
      go_wp2_with fail
      go_ret2
      exact ⟨hbl, .inr ⟨pre_none hn2.out, rfl⟩⟩
end Go.Proofs.Ytgdmgogjoabilaa
/- Layer vm: the law VmWords. -/
namespace Go.Proofs.Ytgdmgogjoabilaa
open Go.RowKit
set_option maxRecDepth 100000
set_option linter.unusedVariables false
set_option linter.unusedSimpArgs false


theorem preY {sp : Option Addr} {n cap : Nat} {es : List En} {X : List Int} {e0 : En} {w : World} (hS : ES w.heap.size w sp n cap es) (hX : X.length = 32) (hp : pre es X = some e0) :
    Calls Try.prog 11 #[.slice sp n cap, .agg (h8 X)] w fun r w' => ∃ sq cq, r = .returned (.tuple #[.slice sq e0.n cq, .bool true]) ∧ BS w'.heap.size w' sq e0.n cq e0.bs ∧ Below w.heap.size w w' := by
  refine (preimage_any sp n cap es X _ w hS hX).mono fun r w' ⟨hb, h⟩ => ?_
  rcases h with ⟨e, v, he, hr, ho⟩ | ⟨he, -⟩
  · rw [hp] at he; cases he
    have hme : e0 ∈ es := by
      unfold pre at hp
      cases hf : es.find? (fun e => decide (e.sm = X)) with
      | none => rw [hf] at hp; cases hp
      | some e1 =>
        rw [hf] at hp
        simp only at hp
        split at hp
        · cases hp; exact List.mem_of_find?_eq_some hf
        · cases hp
    have hB := (hS.ok e0 hme).body
    obtain ⟨sq, cq, rfl, hbs, -⟩ := own_bs ho hB.bts hB.small
    exact ⟨sq, cq, hr, hbs, hb⟩
  · rw [hp] at he; cases he
theorem preN {sp : Option Addr} {n cap : Nat} {es : List En} {X : List Int} {w : World} (hS : ES w.heap.size w sp n cap es) (hX : X.length = 32) (hp : pre es X = none) :
    Calls Try.prog 11 #[.slice sp n cap, .agg (h8 X)] w fun r w' => r = .returned (.tuple #[.slice none 0 0, .bool false]) ∧ Below w.heap.size w w' := by
  refine (preimage_any sp n cap es X _ w hS hX).mono fun r w' ⟨hb, h⟩ => ?_
  rcases h with ⟨e, v, he, hr, ho⟩ | ⟨he, hr⟩
  · rw [hp] at he; cases he
  · exact ⟨hr, hb⟩
theorem rpreY {sp : Option Addr} {n cap : Nat} {es : List En} {X : List Int} {e0 : En} {w : World} (hS : ES w.heap.size w sp n cap es) (hX : X.length = 32) (hp : pre es X = some e0) :
    Calls Try.prog 12 #[.slice sp n cap, .agg (h8 X)] w fun r w' => r = .returned (.tuple #[.slice e0.sp e0.n e0.cap, .bool true]) ∧ BS w'.heap.size w' e0.sp e0.n e0.cap e0.bs ∧ Below w.heap.size w w' := by
  refine (refPre_any sp n cap es X _ w hS hX).mono fun r w' ⟨hb, h⟩ => ?_
  rcases h with ⟨e, he, hme, hr⟩ | ⟨he, -⟩
  · rw [hp] at he; cases he
    exact ⟨hr, ((hS.ok e0 hme).body.below hb).mono hb.size, hb⟩
  · rw [hp] at he; cases he
theorem rpreN {sp : Option Addr} {n cap : Nat} {es : List En} {X : List Int} {w : World} (hS : ES w.heap.size w sp n cap es) (hX : X.length = 32) (hp : pre es X = none) :
    Calls Try.prog 12 #[.slice sp n cap, .agg (h8 X)] w fun r w' => r = .returned (.tuple #[.slice none 0 0, .bool false]) ∧ Below w.heap.size w w' := by
  refine (refPre_any sp n cap es X _ w hS hX).mono fun r w' ⟨hb, h⟩ => ?_
  rcases h with ⟨e, he, hme, hr⟩ | ⟨he, hr⟩
  · rw [hp] at he; cases he
  · exact ⟨hr, hb⟩
def asA (c : Cd) (x : Int) : Array Value := #[.int .u8 c.o, .int .u8 c.a, .int .u8 c.b, .int .u8 c.c, .int .u32 c.i, .int .u64 x]
theorem rng25 {w : World} {g : Nat} {e : Cd} (h : Arr w g 25 e.arr) : w.rangeAt g 0 e.arr.toList := fun j v hv => by rw [Nat.zero_add, h.cell]; simpa using hv
set_option maxHeartbeats 4000000 in
theorem words_walk (c : Cd) (x : Int) (sq : Option Addr) (nk ck : Nat) (es : List En) (X : List Int) (w : World) (hc : c.ok) (hx : U64 x) (hS : ES w.heap.size w sq nk ck es) (hX : X.length = 32) :
    Calls Try.prog 3 #[.agg (asA c x), .slice sq nk ck, .agg (h8 X)] w fun e w' => e = .returned (.bool true) ∧ Below w.heap.size w w' := by
  have A0 := (Arr.new w 28 (asA c x)).alloc (.cells (h8 X) 31)
  have A1 := Arr.new (w.alloc (.cells (asA c x) 28)) 31 (h8 X)
  simp only [World.size_alloc] at A1
  have hB := (alloc_bel' w (.cells (asA c x) 28)).alloc (by simp) (.cells (h8 X) 31)
  replace hS := hS.bel hB
  have q25 := run_eq25 (dCd x)
  have r0 : ((w.alloc (.cells (asA c x) 28)).alloc (.cells (h8 X) 31)).rangeAt w.heap.size 0 c.arr.toList := fun j v hv => by
    rw [Nat.zero_add, A0.cell]
    have hj : j < 5 := (List.getElem?_eq_some_iff.1 hv).1
    rw [← hv]
    match j, hj with
    | 0, _ => rfl
    | 1, _ => rfl
    | 2, _ => rfl
    | 3, _ => rfl
    | 4, _ => rfl
  have c5 : ((w.alloc (.cells (asA c x) 28)).alloc (.cells (h8 X) 31)).cell? ⟨w.heap.size, 5, none⟩ = some (.int .u64 x) := A0.cell 5
  have hlt := A0.lt
  have hlt1 := A1.lt
  generalize asA c x = AS at *
  go_enter Try.func3, Try.ntmps3
  go_upto_region 1 with fail
  obtain ⟨U, hU⟩ : ∃ U, U = (w.alloc (.cells AS 28)).alloc (.cells (h8 X) 31) := ⟨_, rfl⟩
  rw [← hU] at A0 A1 hB hS r0 c5 hlt hlt1 ⊢
  clear hU
  refine wp_region_held_drew (S := fun u => Below U.heap.size U u) (by kernel_rfl) ((Below.refl _ _).drew) (fun hHeld => ?_)
  refine wpAnyH_take (i := 0) (oi := ⟨_, _, _, _, _, _⟩) (v := ?_) rfl (by kernel_rfl) (by kernel_rfl) (by kernel_rfl) (fun _ _ _ h => h) (Or.inl ⟨by rfl, ?_⟩) (by assumption) ?_
  rotate_left
  · intro u hSw
    go_simp
    try (with_reducible rfl)
  try simp only [Act.put, List.setIfInBounds_toArray, List.set_cons_zero, List.set_cons_succ]
  refine wpAnyH_take (i := 1) (oi := ⟨_, _, _, _, _, _⟩) rfl (by kernel_rfl) (by kernel_rfl) (by kernel_rfl) (fun _ _ _ h => h) (y25 (by rfl) (.tmp 17) rfl w.heap.size 0 rfl c (fun u hu => range_below r0 hu hlt)) (by assumption) ?_
  try simp only [Act.put, List.setIfInBounds_toArray, List.set_cons_zero, List.set_cons_succ]
  refine wpAnyH_take (i := 2) (oi := ⟨_, _, _, _, _, _⟩) (v := ?_) rfl (by kernel_rfl) (by kernel_rfl) (by kernel_rfl) (fun _ _ _ h => h) (Or.inl ⟨by rfl, ?_⟩) (by assumption) ?_
  rotate_left
  · intro u hSw
    go_simp
    try (with_reducible rfl)
  try simp only [Act.put, List.setIfInBounds_toArray, List.set_cons_zero, List.set_cons_succ]
  refine wpAnyH_take (i := 3) (oi := ⟨_, _, _, _, _, _⟩) (v := ?_) rfl (by kernel_rfl) (by kernel_rfl) (by kernel_rfl) (fun _ _ _ h => h) (Or.inl ⟨by rfl, ?_⟩) (by assumption) ?_
  rotate_left
  · intro u hSw
    have cu := (hSw.cell (p := ⟨w.heap.size, 5, none⟩) hlt).trans c5
    go_simp
    try (with_reducible rfl)
  try simp only [Act.put, List.setIfInBounds_toArray, List.set_cons_zero, List.set_cons_succ]
  refine wpAnyH_ready (rs := [4]) (by kernel_rfl) (by simp) ?_
  refine AllReadyH.cons (o := ⟨_, _, _, _, _, _⟩) rfl (fun K hK => ?_) AllReadyH.nil
  go_simp
  go_wp2_with fail
  refine hK.out _ _ (((Below.refl U.heap.size U).drew).alloc (by simp) _) (fun hHeld => ?_)
  clear hK K
  try simp only [Act.put, List.setIfInBounds_toArray, List.set_cons_zero, List.set_cons_succ]
  refine wpAnyH_ready (rs := [5]) (by kernel_rfl) (by simp) ?_
  refine AllReadyH.cons (o := ⟨_, _, _, _, _, _⟩) rfl (fun K hK => ?_) AllReadyH.nil
  refine step_want rfl (wp_store_row 25 (.tmp 7) (.tmp 18) rfl U.heap.size c.arr rfl rfl 25 _ (Arr.new U.drew 25 _) size25 rfl (one25 _ _ _ _ _) ?_)
  refine hK.out _ _ (below_setRow hHeld (Nat.le_refl _) _) (fun hHeld => ?_)
  clear hK K
  try simp only [Act.put, List.setIfInBounds_toArray, List.set_cons_zero, List.set_cons_succ]
  refine wpAnyH_take (i := 6) (oi := ⟨_, _, _, _, _, _⟩) (v := ?_) rfl (by kernel_rfl) (by kernel_rfl) (by kernel_rfl) (fun _ _ _ h => h) (Or.inl ⟨by rfl, ?_⟩) (by assumption) ?_
  rotate_left
  · intro u hSw
    go_simp
    try (with_reducible rfl)
  try simp only [Act.put, List.setIfInBounds_toArray, List.set_cons_zero, List.set_cons_succ]
  refine wpAnyH_done (by kernel_rfl) ?_ _
  have C7 : Arr ((U.alloc (.cells #[.int .u8 0, .int .u8 0, .int .u8 0, .int .u8 0, .int .u32 0] 25)).drew.setRow U.heap.size c.arr) U.heap.size 25 c.arr := (Arr.new U 25 #[.int .u8 0, .int .u8 0, .int .u8 0, .int .u8 0, .int .u32 0]).drew.setRow c.arr
  replace hS := hS.bel hHeld
  replace A1 := A1.below hHeld hlt1
  replace hB := hB.trans (hHeld.mono hB.size)
  clear r0 c5 hlt hlt1 A0 hHeld
  generalize (U.alloc (.cells #[.int .u8 0, .int .u8 0, .int .u8 0, .int .u8 0, .int .u32 0] 25)).drew.setRow U.heap.size c.arr = W1 at C7 hS A1 hB ⊢
  generalize U.heap.size = g7 at C7 ⊢
  go_upto_region 3 with (first
    | (go_at_call 9; go_must (refine (dec_cd x _ hx).mono ?_; rintro e w2 ⟨rfl, b2⟩; replace hS := hS.bel b2; replace A1 := A1.below b2 A1.lt; replace C7 := C7.below b2 C7.lt; replace hB := hB.trans (b2.mono hB.size)))
    | (refine atS 25 (.tmp 9) (.tmp 24) (by rfl) ?_; refine st25n (by rfl) (.tmp 9) (.tmp 24) (by rfl) w2 w2.heap.size rfl (by rfl) (dCd x) (by rfl) (by rfl) ?_))
  have C9 := Arr.new w2 25 (dCd x).arr
  have b2' := alloc_bel' w2 (.cells (dCd x).arr 25)
  replace hS := hS.bel b2'
  replace A1 := A1.below b2' A1.lt
  replace C7 := C7.below b2' C7.lt
  replace hB := hB.trans (b2'.mono hB.size)
  generalize w2.alloc (.cells (dCd x).arr 25) = W2 at C9 hS A1 C7 hB ⊢
  generalize w2.heap.size = g9 at C9 ⊢
  clear b2'
  go_upto_region 4 with (first
    | (go_at_call 10; go_must (refine (refdec_cd x _ hx).mono ?_; rintro e w3 ⟨rfl, b3⟩; replace hS := hS.bel b3; replace A1 := A1.below b3 A1.lt; replace C7 := C7.below b3 C7.lt; replace C9 := C9.below b3 C9.lt; replace hB := hB.trans (b3.mono hB.size)))
    | (refine atS 25 (.tmp 11) (.tmp 29) (by rfl) ?_; refine st25n (by rfl) (.tmp 11) (.tmp 29) (by rfl) w3 w3.heap.size rfl (by rfl) (dCd x) (by rfl) (by rfl) ?_))
  have C11 := Arr.new w3 25 (dCd x).arr
  have b3' := alloc_bel' w3 (.cells (dCd x).arr 25)
  replace hS := hS.bel b3'
  replace A1 := A1.below b3' A1.lt
  replace C7 := C7.below b3' C7.lt
  replace C9 := C9.below b3' C9.lt
  replace hB := hB.trans (b3'.mono hB.size)
  generalize w3.alloc (.cells (dCd x).arr 25) = W3 at C11 C9 hS A1 C7 hB ⊢
  generalize w3.heap.size = g11 at C11 ⊢
  clear b3'
  have r1 := A1.range
  have E25 : (dCd x).arr.size = 5 := rfl
  cases hp : pre es X with
  | some e0 =>
    replace hp := Hid.mk' hp
    go_upto_region 5 with (first
      | (refine ld24 (by rfl) (.tmp 5) (by rfl) (w.heap.size + 1) 0 (by rfl) X hX r1 ?_)
      | (go_at_call 11; go_must (refine (preY hS hX hp.out).mono ?_; rintro e w4 ⟨s4, c4, rfl, hbs4, b4⟩; replace hS := hS.bel b4; replace A1 := A1.below b4 A1.lt; replace C7 := C7.below b4 C7.lt; replace C9 := C9.below b4 C9.lt; replace C11 := C11.below b4 C11.lt; replace hB := hB.trans (b4.mono hB.size))))
    have r2 := A1.range
    go_upto_region 6 with (first
      | (refine ld24 (by rfl) (.tmp 5) (by rfl) (w.heap.size + 1) 0 (by rfl) X hX r2 ?_)
      | (go_at_call 12; go_must (refine (rpreY hS hX hp.out).mono ?_; rintro e w5 ⟨rfl, hbs5, b5⟩; replace hbs4 := (hbs4.below b5).mono b5.size; replace C7 := C7.below b5 C7.lt; replace C9 := C9.below b5 C9.lt; replace C11 := C11.below b5 C11.lt; replace hB := hB.trans (b5.mono hB.size))))
    have hsame : ∀ V, Below w5.heap.size w5 V → Calls Try.prog 15 #[.slice s4 e0.n c4, .slice e0.sp e0.n e0.cap] V fun e w' => e = .returned (.bool true) ∧ w' = V := fun V hV => by
      have := same01_any s4 e0.sp e0.n e0.n c4 e0.cap e0.bs e0.bs _ _ V (hbs4.below hV) (hbs5.below hV)
      simpa using this
    refine wp_region_held_drew (S := fun u => Below w5.heap.size w5 u) (by kernel_rfl) ((Below.refl _ _).drew) (fun hHeld => ?_)
    refine wpAnyH_take (i := 0) (oi := ⟨_, _, _, _, _, _⟩) rfl (by kernel_rfl) (by kernel_rfl) (by kernel_rfl) (fun _ _ _ h => h) (y25 (by rfl) (.tmp 7) rfl g7 0 rfl c (fun u hu => range_below (rng25 C7) hu C7.lt)) (by assumption) ?_
    try simp only [Act.put, List.setIfInBounds_toArray, List.set_cons_zero, List.set_cons_succ]
    refine wpAnyH_take (i := 2) (oi := ⟨_, _, _, _, _, _⟩) rfl (by kernel_rfl) (by kernel_rfl) (by kernel_rfl) (fun _ _ _ h => h) (y25 (by rfl) (.tmp 7) rfl g7 0 rfl c (fun u hu => range_below (rng25 C7) hu C7.lt)) (by assumption) ?_
    try simp only [Act.put, List.setIfInBounds_toArray, List.set_cons_zero, List.set_cons_succ]
    refine wpAnyH_ready (rs := [1]) (by kernel_rfl) (by simp) ?_
    refine AllReadyH.cons (o := ⟨_, _, _, _, _, _⟩) rfl (fun K hK => ?_) AllReadyH.nil
    go_simp
    refine (wdc_any c hc _).mono ?_
    rintro e u1 ⟨rfl, k1⟩
    have h1 : Below w5.heap.size w5 u1 := ((Below.refl _ w5).drew).trans (k1.mono (by simp))
    go_wp2_with fail
    refine hK.out _ _ h1 (fun hHeld => ?_)
    clear hK K
    try simp only [Act.put, List.setIfInBounds_toArray, List.set_cons_zero, List.set_cons_succ]
    refine wpAnyH_ready (rs := [3]) (by kernel_rfl) (by simp) ?_
    refine AllReadyH.cons (o := ⟨_, _, _, _, _, _⟩) rfl (fun K hK => ?_) AllReadyH.nil
    go_simp
    refine (refwdc_any c hc _).mono ?_
    rintro e u2 ⟨rfl, k2⟩
    have h2 : Below w5.heap.size w5 u2 := h1.trans (k2.mono h1.size)
    go_wp2_with fail
    refine hK.out _ _ h2 (fun hHeld => ?_)
    clear hK K
    try simp only [Act.put, List.setIfInBounds_toArray, List.set_cons_zero, List.set_cons_succ]
    refine wpAnyH_take (i := 4) (oi := ⟨_, _, _, _, _, _⟩) (v := ?_) rfl (by kernel_rfl) (by kernel_rfl) (by kernel_rfl) (fun _ _ _ h => h) (Or.inl ⟨by rfl, ?_⟩) (by assumption) ?_
    rotate_left
    · intro u hSw
      go_simp
      try (with_reducible rfl)
    try simp only [Act.put, List.setIfInBounds_toArray, List.set_cons_zero, List.set_cons_succ]
    refine wpAnyH_take (i := 5) (oi := ⟨_, _, _, _, _, _⟩) (v := ?_) rfl (by kernel_rfl) (by kernel_rfl) (by kernel_rfl) (fun _ _ _ h => h) (Or.inl ⟨by rfl, ?_⟩) (by assumption) ?_
    rotate_left
    · intro u hSw
      go_simp
      try (with_reducible rfl)
    try simp only [Act.put, List.setIfInBounds_toArray, List.set_cons_zero, List.set_cons_succ]
    refine wpAnyH_take (i := 6) (oi := ⟨_, _, _, _, _, _⟩) rfl (by kernel_rfl) (by kernel_rfl) (by kernel_rfl) (fun _ _ _ h => h) (y25 (by rfl) (.tmp 9) rfl g9 0 rfl (dCd x) (fun u hu => range_below (rng25 C9) hu C9.lt)) (by assumption) ?_
    try simp only [Act.put, List.setIfInBounds_toArray, List.set_cons_zero, List.set_cons_succ]
    refine wpAnyH_take (i := 7) (oi := ⟨_, _, _, _, _, _⟩) rfl (by kernel_rfl) (by kernel_rfl) (by kernel_rfl) (fun _ _ _ h => h) (y25 (by rfl) (.tmp 11) rfl g11 0 rfl (dCd x) (fun u hu => range_below (rng25 C11) hu C11.lt)) (by assumption) ?_
    try simp only [Act.put, List.setIfInBounds_toArray, List.set_cons_zero, List.set_cons_succ]
    refine wpAnyH_take (i := 8) (oi := ⟨_, _, _, _, _, _⟩) (v := ?_) rfl (by kernel_rfl) (by kernel_rfl) (by kernel_rfl) (fun _ _ _ h => h) (Or.inl ⟨by rfl, ?_⟩) (by assumption) ?_
    rotate_left
    · intro u hSw
      go_simp
      try (with_reducible rfl)
    try simp only [Act.put, List.setIfInBounds_toArray, List.set_cons_zero, List.set_cons_succ]
    refine wpAnyH_take (i := 9) (oi := ⟨_, _, _, _, _, _⟩) (v := ?_) rfl (by kernel_rfl) (by kernel_rfl) (by kernel_rfl) (fun _ _ _ h => h) (Or.inl ⟨by rfl, ?_⟩) (by assumption) ?_
    rotate_left
    · intro u hSw
      go_simp
      try (with_reducible rfl)
    try simp only [Act.put, List.setIfInBounds_toArray, List.set_cons_zero, List.set_cons_succ]
    refine wpAnyH_take (i := 10) (oi := ⟨_, _, _, _, _, _⟩) (v := ?_) rfl (by kernel_rfl) (by kernel_rfl) (by kernel_rfl) (fun _ _ _ h => h) (Or.inl ⟨by rfl, ?_⟩) (by assumption) ?_
    rotate_left
    · intro u hSw
      go_simp
      try (with_reducible rfl)
    try simp only [Act.put, List.setIfInBounds_toArray, List.set_cons_zero, List.set_cons_succ]
    refine wpAnyH_take (i := 11) (oi := ⟨_, _, _, _, _, _⟩) (v := ?_) rfl (by kernel_rfl) (by kernel_rfl) (by kernel_rfl) (fun _ _ _ h => h) (Or.inl ⟨by rfl, ?_⟩) (by assumption) ?_
    rotate_left
    · intro u hSw
      go_simp
      try (with_reducible rfl)
    try simp only [Act.put, List.setIfInBounds_toArray, List.set_cons_zero, List.set_cons_succ]
    refine wpAnyH_take (i := 12) (oi := ⟨_, _, _, _, _, _⟩) (v := ?_) rfl (by kernel_rfl) (by kernel_rfl) (by kernel_rfl) (fun _ _ _ h => h) (Or.inl ⟨by rfl, ?_⟩) (by assumption) ?_
    rotate_left
    · intro u hSw
      go_simp
      try (with_reducible rfl)
    try simp only [Act.put, List.setIfInBounds_toArray, List.set_cons_zero, List.set_cons_succ]
    refine wpAnyH_take (i := 13) (oi := ⟨_, _, _, _, _, _⟩) (v := ?_) rfl (by kernel_rfl) (by kernel_rfl) (by kernel_rfl) (fun _ _ _ h => h) (Or.inl ⟨by rfl, ?_⟩) (by assumption) ?_
    rotate_left
    · intro u hSw
      go_simp
      try (with_reducible rfl)
    try simp only [Act.put, List.setIfInBounds_toArray, List.set_cons_zero, List.set_cons_succ]
    refine wpAnyH_take (i := 14) (oi := ⟨_, _, _, _, _, _⟩) (v := ?_) rfl (by kernel_rfl) (by kernel_rfl) (by kernel_rfl) (fun _ _ _ h => h) (Or.inl ⟨by rfl, ?_⟩) (by assumption) ?_
    rotate_left
    · intro u hSw
      go_simp
      try (with_reducible rfl)
    try simp only [Act.put, List.setIfInBounds_toArray, List.set_cons_zero, List.set_cons_succ]
    refine wpAnyH_take (i := 15) (oi := ⟨_, _, _, _, _, _⟩) (v := ?_) rfl (by kernel_rfl) (by kernel_rfl) (by kernel_rfl) (fun _ _ _ h => h) (Or.inl ⟨by rfl, ?_⟩) (by assumption) ?_
    rotate_left
    · intro u hSw
      go_simp
      try (with_reducible rfl)
    try simp only [Act.put, List.setIfInBounds_toArray, List.set_cons_zero, List.set_cons_succ]
    refine wpAnyH_take (i := 16) (oi := ⟨_, _, _, _, _, _⟩) (v := ?_) rfl (by kernel_rfl) (by kernel_rfl) (by kernel_rfl) (fun _ _ _ h => h) (Or.inl ⟨by rfl, ?_⟩) (by assumption) ?_
    rotate_left
    · intro u hSw
      go_simp
      try (with_reducible rfl)
    try simp only [Act.put, List.setIfInBounds_toArray, List.set_cons_zero, List.set_cons_succ]
    refine wpAnyH_take (i := 17) (oi := ⟨_, _, _, _, _, _⟩) (v := ?_) rfl (by kernel_rfl) (by kernel_rfl) (by kernel_rfl) (fun _ _ _ h => h) (Or.inl ⟨by rfl, ?_⟩) (by assumption) ?_
    rotate_left
    · intro u hSw
      go_simp
      try (with_reducible rfl)
    try simp only [Act.put, List.setIfInBounds_toArray, List.set_cons_zero, List.set_cons_succ]
    refine wpAnyH_ready (rs := [18]) (by kernel_rfl) (by simp) ?_
    refine AllReadyH.cons (o := ⟨_, _, _, _, _, _⟩) rfl (fun K hK => ?_) AllReadyH.nil
    go_simp
    refine (hsame u2 h2).mono ?_
    rintro e u3 ⟨rfl, rfl⟩
    go_wp2_with fail
    refine hK.out _ _ h2 (fun hHeld => ?_)
    clear hK K
    try simp only [Act.put, List.setIfInBounds_toArray, List.set_cons_zero, List.set_cons_succ]
    refine wpAnyH_take (i := 19) (oi := ⟨_, _, _, _, _, _⟩) (v := ?_) rfl (by kernel_rfl) (by kernel_rfl) (by kernel_rfl) (fun _ _ _ h => h) (Or.inl ⟨by rfl, ?_⟩) (by assumption) ?_
    rotate_left
    · intro u hSw
      go_simp
      try (with_reducible rfl)
    try simp only [Act.put, List.setIfInBounds_toArray, List.set_cons_zero, List.set_cons_succ]
    refine wpAnyH_take (i := 20) (oi := ⟨_, _, _, _, _, _⟩) (v := ?_) rfl (by kernel_rfl) (by kernel_rfl) (by kernel_rfl) (fun _ _ _ h => h) (Or.inl ⟨by rfl, ?_⟩) (by assumption) ?_
    rotate_left
    · intro u hSw
      go_simp
      try (with_reducible rfl)
    try simp only [Act.put, List.setIfInBounds_toArray, List.set_cons_zero, List.set_cons_succ]
    refine wpAnyH_take (i := 21) (oi := ⟨_, _, _, _, _, _⟩) (v := ?_) rfl (by kernel_rfl) (by kernel_rfl) (by kernel_rfl) (fun _ _ _ h => h) (Or.inl ⟨by rfl, ?_⟩) (by assumption) ?_
    rotate_left
    · intro u hSw
      go_simp
      try (with_reducible rfl)
    try simp only [Act.put, List.setIfInBounds_toArray, List.set_cons_zero, List.set_cons_succ]
    refine wpAnyH_take (i := 22) (oi := ⟨_, _, _, _, _, _⟩) (v := ?_) rfl (by kernel_rfl) (by kernel_rfl) (by kernel_rfl) (fun _ _ _ h => h) (Or.inl ⟨by rfl, ?_⟩) (by assumption) ?_
    rotate_left
    · intro u hSw
      go_simp
      try (with_reducible rfl)
    try simp only [Act.put, List.setIfInBounds_toArray, List.set_cons_zero, List.set_cons_succ]
    refine wpAnyH_take (i := 23) (oi := ⟨_, _, _, _, _, _⟩) (v := ?_) rfl (by kernel_rfl) (by kernel_rfl) (by kernel_rfl) (fun _ _ _ h => h) (Or.inl ⟨by rfl, ?_⟩) (by assumption) ?_
    rotate_left
    · intro u hSw
      go_simp
      try (with_reducible rfl)
    try simp only [Act.put, List.setIfInBounds_toArray, List.set_cons_zero, List.set_cons_succ]
    refine wpAnyH_take (i := 24) (oi := ⟨_, _, _, _, _, _⟩) (v := ?_) rfl (by kernel_rfl) (by kernel_rfl) (by kernel_rfl) (fun _ _ _ h => h) (Or.inl ⟨by rfl, ?_⟩) (by assumption) ?_
    rotate_left
    · intro u hSw
      go_simp
      try (with_reducible rfl)
    try simp only [Act.put, List.setIfInBounds_toArray, List.set_cons_zero, List.set_cons_succ]
    refine wpAnyH_take (i := 25) (oi := ⟨_, _, _, _, _, _⟩) (v := ?_) rfl (by kernel_rfl) (by kernel_rfl) (by kernel_rfl) (fun _ _ _ h => h) (Or.inl ⟨by rfl, ?_⟩) (by assumption) ?_
    rotate_left
    · intro u hSw
      go_simp
      try (with_reducible rfl)
    try simp only [Act.put, List.setIfInBounds_toArray, List.set_cons_zero, List.set_cons_succ]
    refine wpAnyH_ready (rs := [26]) (by kernel_rfl) (by simp) ?_
    refine AllReadyH.cons (o := ⟨_, _, _, _, _, _⟩) rfl (fun K hK => ?_) AllReadyH.nil
    go_simp
    refine (anchored_any _).mono ?_
    rintro e u4 ⟨rfl, k4⟩
    have h4 := h2.trans (k4.mono h2.size)
    go_wp2_with fail
    refine hK.out _ _ h4 (fun hHeld => ?_)
    clear hK K
    try simp only [Act.put, List.setIfInBounds_toArray, List.set_cons_zero, List.set_cons_succ]
    refine wpAnyH_take (i := 27) (oi := ⟨_, _, _, _, _, _⟩) (v := ?_) rfl (by kernel_rfl) (by kernel_rfl) (by kernel_rfl) (fun _ _ _ h => h) (Or.inl ⟨by rfl, ?_⟩) (by assumption) ?_
    rotate_left
    · intro u hSw
      go_simp
      try (with_reducible rfl)
    try simp only [Act.put, List.setIfInBounds_toArray, List.set_cons_zero, List.set_cons_succ]
    refine wpAnyH_take (i := 28) (oi := ⟨_, _, _, _, _, _⟩) (v := ?_) rfl (by kernel_rfl) (by kernel_rfl) (by kernel_rfl) (fun _ _ _ h => h) (Or.inl ⟨by rfl, ?_⟩) (by assumption) ?_
    rotate_left
    · intro u hSw
      go_simp
      try (with_reducible rfl)
    try simp only [Act.put, List.setIfInBounds_toArray, List.set_cons_zero, List.set_cons_succ]
    refine wpAnyH_done (by kernel_rfl) ?_ _
    go_wp2_with fail
    go_ret
    exact ⟨by simp, hB.trans (h4.mono hB.size)⟩
  | none =>
    replace hp := Hid.mk' hp
    go_upto_region 5 with (first
      | (refine ld24 (by rfl) (.tmp 5) (by rfl) (w.heap.size + 1) 0 (by rfl) X hX r1 ?_)
      | (go_at_call 11; go_must (refine (preN hS hX hp.out).mono ?_; rintro e w4 ⟨rfl, b4⟩; replace hS := hS.bel b4; replace A1 := A1.below b4 A1.lt; replace C7 := C7.below b4 C7.lt; replace C9 := C9.below b4 C9.lt; replace C11 := C11.below b4 C11.lt; replace hB := hB.trans (b4.mono hB.size))))
    have r2 := A1.range
    go_upto_region 6 with (first
      | (refine ld24 (by rfl) (.tmp 5) (by rfl) (w.heap.size + 1) 0 (by rfl) X hX r2 ?_)
      | (go_at_call 12; go_must (refine (rpreN hS hX hp.out).mono ?_; rintro e w5 ⟨rfl, b5⟩; replace C7 := C7.below b5 C7.lt; replace C9 := C9.below b5 C9.lt; replace C11 := C11.below b5 C11.lt; replace hB := hB.trans (b5.mono hB.size))))
    have hsame : ∀ V, Below w5.heap.size w5 V → Calls Try.prog 15 #[.slice none 0 0, .slice none 0 0] V fun e w' => e = .returned (.bool true) ∧ w' = V := fun V hV => by
      have := same01_any none none 0 0 0 0 [] [] 0 0 V (BS.nil0 _ _) (BS.nil0 _ _)
      simpa using this
    refine wp_region_held_drew (S := fun u => Below w5.heap.size w5 u) (by kernel_rfl) ((Below.refl _ _).drew) (fun hHeld => ?_)
    refine wpAnyH_take (i := 0) (oi := ⟨_, _, _, _, _, _⟩) rfl (by kernel_rfl) (by kernel_rfl) (by kernel_rfl) (fun _ _ _ h => h) (y25 (by rfl) (.tmp 7) rfl g7 0 rfl c (fun u hu => range_below (rng25 C7) hu C7.lt)) (by assumption) ?_
    try simp only [Act.put, List.setIfInBounds_toArray, List.set_cons_zero, List.set_cons_succ]
    refine wpAnyH_take (i := 2) (oi := ⟨_, _, _, _, _, _⟩) rfl (by kernel_rfl) (by kernel_rfl) (by kernel_rfl) (fun _ _ _ h => h) (y25 (by rfl) (.tmp 7) rfl g7 0 rfl c (fun u hu => range_below (rng25 C7) hu C7.lt)) (by assumption) ?_
    try simp only [Act.put, List.setIfInBounds_toArray, List.set_cons_zero, List.set_cons_succ]
    refine wpAnyH_ready (rs := [1]) (by kernel_rfl) (by simp) ?_
    refine AllReadyH.cons (o := ⟨_, _, _, _, _, _⟩) rfl (fun K hK => ?_) AllReadyH.nil
    go_simp
    refine (wdc_any c hc _).mono ?_
    rintro e u1 ⟨rfl, k1⟩
    have h1 : Below w5.heap.size w5 u1 := ((Below.refl _ w5).drew).trans (k1.mono (by simp))
    go_wp2_with fail
    refine hK.out _ _ h1 (fun hHeld => ?_)
    clear hK K
    try simp only [Act.put, List.setIfInBounds_toArray, List.set_cons_zero, List.set_cons_succ]
    refine wpAnyH_ready (rs := [3]) (by kernel_rfl) (by simp) ?_
    refine AllReadyH.cons (o := ⟨_, _, _, _, _, _⟩) rfl (fun K hK => ?_) AllReadyH.nil
    go_simp
    refine (refwdc_any c hc _).mono ?_
    rintro e u2 ⟨rfl, k2⟩
    have h2 : Below w5.heap.size w5 u2 := h1.trans (k2.mono h1.size)
    go_wp2_with fail
    refine hK.out _ _ h2 (fun hHeld => ?_)
    clear hK K
    try simp only [Act.put, List.setIfInBounds_toArray, List.set_cons_zero, List.set_cons_succ]
    refine wpAnyH_take (i := 4) (oi := ⟨_, _, _, _, _, _⟩) (v := ?_) rfl (by kernel_rfl) (by kernel_rfl) (by kernel_rfl) (fun _ _ _ h => h) (Or.inl ⟨by rfl, ?_⟩) (by assumption) ?_
    rotate_left
    · intro u hSw
      go_simp
      try (with_reducible rfl)
    try simp only [Act.put, List.setIfInBounds_toArray, List.set_cons_zero, List.set_cons_succ]
    refine wpAnyH_take (i := 5) (oi := ⟨_, _, _, _, _, _⟩) (v := ?_) rfl (by kernel_rfl) (by kernel_rfl) (by kernel_rfl) (fun _ _ _ h => h) (Or.inl ⟨by rfl, ?_⟩) (by assumption) ?_
    rotate_left
    · intro u hSw
      go_simp
      try (with_reducible rfl)
    try simp only [Act.put, List.setIfInBounds_toArray, List.set_cons_zero, List.set_cons_succ]
    refine wpAnyH_take (i := 6) (oi := ⟨_, _, _, _, _, _⟩) rfl (by kernel_rfl) (by kernel_rfl) (by kernel_rfl) (fun _ _ _ h => h) (y25 (by rfl) (.tmp 9) rfl g9 0 rfl (dCd x) (fun u hu => range_below (rng25 C9) hu C9.lt)) (by assumption) ?_
    try simp only [Act.put, List.setIfInBounds_toArray, List.set_cons_zero, List.set_cons_succ]
    refine wpAnyH_take (i := 7) (oi := ⟨_, _, _, _, _, _⟩) rfl (by kernel_rfl) (by kernel_rfl) (by kernel_rfl) (fun _ _ _ h => h) (y25 (by rfl) (.tmp 11) rfl g11 0 rfl (dCd x) (fun u hu => range_below (rng25 C11) hu C11.lt)) (by assumption) ?_
    try simp only [Act.put, List.setIfInBounds_toArray, List.set_cons_zero, List.set_cons_succ]
    refine wpAnyH_take (i := 8) (oi := ⟨_, _, _, _, _, _⟩) (v := ?_) rfl (by kernel_rfl) (by kernel_rfl) (by kernel_rfl) (fun _ _ _ h => h) (Or.inl ⟨by rfl, ?_⟩) (by assumption) ?_
    rotate_left
    · intro u hSw
      go_simp
      try (with_reducible rfl)
    try simp only [Act.put, List.setIfInBounds_toArray, List.set_cons_zero, List.set_cons_succ]
    refine wpAnyH_take (i := 9) (oi := ⟨_, _, _, _, _, _⟩) (v := ?_) rfl (by kernel_rfl) (by kernel_rfl) (by kernel_rfl) (fun _ _ _ h => h) (Or.inl ⟨by rfl, ?_⟩) (by assumption) ?_
    rotate_left
    · intro u hSw
      go_simp
      try (with_reducible rfl)
    try simp only [Act.put, List.setIfInBounds_toArray, List.set_cons_zero, List.set_cons_succ]
    refine wpAnyH_take (i := 10) (oi := ⟨_, _, _, _, _, _⟩) (v := ?_) rfl (by kernel_rfl) (by kernel_rfl) (by kernel_rfl) (fun _ _ _ h => h) (Or.inl ⟨by rfl, ?_⟩) (by assumption) ?_
    rotate_left
    · intro u hSw
      go_simp
      try (with_reducible rfl)
    try simp only [Act.put, List.setIfInBounds_toArray, List.set_cons_zero, List.set_cons_succ]
    refine wpAnyH_take (i := 11) (oi := ⟨_, _, _, _, _, _⟩) (v := ?_) rfl (by kernel_rfl) (by kernel_rfl) (by kernel_rfl) (fun _ _ _ h => h) (Or.inl ⟨by rfl, ?_⟩) (by assumption) ?_
    rotate_left
    · intro u hSw
      go_simp
      try (with_reducible rfl)
    try simp only [Act.put, List.setIfInBounds_toArray, List.set_cons_zero, List.set_cons_succ]
    refine wpAnyH_take (i := 12) (oi := ⟨_, _, _, _, _, _⟩) (v := ?_) rfl (by kernel_rfl) (by kernel_rfl) (by kernel_rfl) (fun _ _ _ h => h) (Or.inl ⟨by rfl, ?_⟩) (by assumption) ?_
    rotate_left
    · intro u hSw
      go_simp
      try (with_reducible rfl)
    try simp only [Act.put, List.setIfInBounds_toArray, List.set_cons_zero, List.set_cons_succ]
    refine wpAnyH_take (i := 13) (oi := ⟨_, _, _, _, _, _⟩) (v := ?_) rfl (by kernel_rfl) (by kernel_rfl) (by kernel_rfl) (fun _ _ _ h => h) (Or.inl ⟨by rfl, ?_⟩) (by assumption) ?_
    rotate_left
    · intro u hSw
      go_simp
      try (with_reducible rfl)
    try simp only [Act.put, List.setIfInBounds_toArray, List.set_cons_zero, List.set_cons_succ]
    refine wpAnyH_take (i := 14) (oi := ⟨_, _, _, _, _, _⟩) (v := ?_) rfl (by kernel_rfl) (by kernel_rfl) (by kernel_rfl) (fun _ _ _ h => h) (Or.inl ⟨by rfl, ?_⟩) (by assumption) ?_
    rotate_left
    · intro u hSw
      go_simp
      try (with_reducible rfl)
    try simp only [Act.put, List.setIfInBounds_toArray, List.set_cons_zero, List.set_cons_succ]
    refine wpAnyH_take (i := 15) (oi := ⟨_, _, _, _, _, _⟩) (v := ?_) rfl (by kernel_rfl) (by kernel_rfl) (by kernel_rfl) (fun _ _ _ h => h) (Or.inl ⟨by rfl, ?_⟩) (by assumption) ?_
    rotate_left
    · intro u hSw
      go_simp
      try (with_reducible rfl)
    try simp only [Act.put, List.setIfInBounds_toArray, List.set_cons_zero, List.set_cons_succ]
    refine wpAnyH_take (i := 16) (oi := ⟨_, _, _, _, _, _⟩) (v := ?_) rfl (by kernel_rfl) (by kernel_rfl) (by kernel_rfl) (fun _ _ _ h => h) (Or.inl ⟨by rfl, ?_⟩) (by assumption) ?_
    rotate_left
    · intro u hSw
      go_simp
      try (with_reducible rfl)
    try simp only [Act.put, List.setIfInBounds_toArray, List.set_cons_zero, List.set_cons_succ]
    refine wpAnyH_take (i := 17) (oi := ⟨_, _, _, _, _, _⟩) (v := ?_) rfl (by kernel_rfl) (by kernel_rfl) (by kernel_rfl) (fun _ _ _ h => h) (Or.inl ⟨by rfl, ?_⟩) (by assumption) ?_
    rotate_left
    · intro u hSw
      go_simp
      try (with_reducible rfl)
    try simp only [Act.put, List.setIfInBounds_toArray, List.set_cons_zero, List.set_cons_succ]
    refine wpAnyH_ready (rs := [18]) (by kernel_rfl) (by simp) ?_
    refine AllReadyH.cons (o := ⟨_, _, _, _, _, _⟩) rfl (fun K hK => ?_) AllReadyH.nil
    go_simp
    refine (hsame u2 h2).mono ?_
    rintro e u3 ⟨rfl, rfl⟩
    go_wp2_with fail
    refine hK.out _ _ h2 (fun hHeld => ?_)
    clear hK K
    try simp only [Act.put, List.setIfInBounds_toArray, List.set_cons_zero, List.set_cons_succ]
    refine wpAnyH_take (i := 19) (oi := ⟨_, _, _, _, _, _⟩) (v := ?_) rfl (by kernel_rfl) (by kernel_rfl) (by kernel_rfl) (fun _ _ _ h => h) (Or.inl ⟨by rfl, ?_⟩) (by assumption) ?_
    rotate_left
    · intro u hSw
      go_simp
      try (with_reducible rfl)
    try simp only [Act.put, List.setIfInBounds_toArray, List.set_cons_zero, List.set_cons_succ]
    refine wpAnyH_take (i := 20) (oi := ⟨_, _, _, _, _, _⟩) (v := ?_) rfl (by kernel_rfl) (by kernel_rfl) (by kernel_rfl) (fun _ _ _ h => h) (Or.inl ⟨by rfl, ?_⟩) (by assumption) ?_
    rotate_left
    · intro u hSw
      go_simp
      try (with_reducible rfl)
    try simp only [Act.put, List.setIfInBounds_toArray, List.set_cons_zero, List.set_cons_succ]
    refine wpAnyH_take (i := 21) (oi := ⟨_, _, _, _, _, _⟩) (v := ?_) rfl (by kernel_rfl) (by kernel_rfl) (by kernel_rfl) (fun _ _ _ h => h) (Or.inl ⟨by rfl, ?_⟩) (by assumption) ?_
    rotate_left
    · intro u hSw
      go_simp
      try (with_reducible rfl)
    try simp only [Act.put, List.setIfInBounds_toArray, List.set_cons_zero, List.set_cons_succ]
    refine wpAnyH_take (i := 22) (oi := ⟨_, _, _, _, _, _⟩) (v := ?_) rfl (by kernel_rfl) (by kernel_rfl) (by kernel_rfl) (fun _ _ _ h => h) (Or.inl ⟨by rfl, ?_⟩) (by assumption) ?_
    rotate_left
    · intro u hSw
      go_simp
      try (with_reducible rfl)
    try simp only [Act.put, List.setIfInBounds_toArray, List.set_cons_zero, List.set_cons_succ]
    refine wpAnyH_take (i := 23) (oi := ⟨_, _, _, _, _, _⟩) (v := ?_) rfl (by kernel_rfl) (by kernel_rfl) (by kernel_rfl) (fun _ _ _ h => h) (Or.inl ⟨by rfl, ?_⟩) (by assumption) ?_
    rotate_left
    · intro u hSw
      go_simp
      try (with_reducible rfl)
    try simp only [Act.put, List.setIfInBounds_toArray, List.set_cons_zero, List.set_cons_succ]
    refine wpAnyH_take (i := 24) (oi := ⟨_, _, _, _, _, _⟩) (v := ?_) rfl (by kernel_rfl) (by kernel_rfl) (by kernel_rfl) (fun _ _ _ h => h) (Or.inl ⟨by rfl, ?_⟩) (by assumption) ?_
    rotate_left
    · intro u hSw
      go_simp
      try (with_reducible rfl)
    try simp only [Act.put, List.setIfInBounds_toArray, List.set_cons_zero, List.set_cons_succ]
    refine wpAnyH_take (i := 25) (oi := ⟨_, _, _, _, _, _⟩) (v := ?_) rfl (by kernel_rfl) (by kernel_rfl) (by kernel_rfl) (fun _ _ _ h => h) (Or.inl ⟨by rfl, ?_⟩) (by assumption) ?_
    rotate_left
    · intro u hSw
      go_simp
      try (with_reducible rfl)
    try simp only [Act.put, List.setIfInBounds_toArray, List.set_cons_zero, List.set_cons_succ]
    refine wpAnyH_ready (rs := [26]) (by kernel_rfl) (by simp) ?_
    refine AllReadyH.cons (o := ⟨_, _, _, _, _, _⟩) rfl (fun K hK => ?_) AllReadyH.nil
    go_simp
    refine (anchored_any _).mono ?_
    rintro e u4 ⟨rfl, k4⟩
    have h4 := h2.trans (k4.mono h2.size)
    go_wp2_with fail
    refine hK.out _ _ h4 (fun hHeld => ?_)
    clear hK K
    try simp only [Act.put, List.setIfInBounds_toArray, List.set_cons_zero, List.set_cons_succ]
    refine wpAnyH_take (i := 27) (oi := ⟨_, _, _, _, _, _⟩) (v := ?_) rfl (by kernel_rfl) (by kernel_rfl) (by kernel_rfl) (fun _ _ _ h => h) (Or.inl ⟨by rfl, ?_⟩) (by assumption) ?_
    rotate_left
    · intro u hSw
      go_simp
      try (with_reducible rfl)
    try simp only [Act.put, List.setIfInBounds_toArray, List.set_cons_zero, List.set_cons_succ]
    refine wpAnyH_take (i := 28) (oi := ⟨_, _, _, _, _, _⟩) (v := ?_) rfl (by kernel_rfl) (by kernel_rfl) (by kernel_rfl) (fun _ _ _ h => h) (Or.inl ⟨by rfl, ?_⟩) (by assumption) ?_
    rotate_left
    · intro u hSw
      go_simp
      try (with_reducible rfl)
    try simp only [Act.put, List.setIfInBounds_toArray, List.set_cons_zero, List.set_cons_succ]
    refine wpAnyH_done (by kernel_rfl) ?_ _
    go_wp2_with fail
    go_ret
    exact ⟨by simp, hB.trans (h4.mono hB.size)⟩
end Go.Proofs.Ytgdmgogjoabilaa
/- Layer vm: an instruction and a word that came in. -/
namespace Go.Proofs.Ytgdmgogjoabilaa
open Go.RowKit
set_option maxRecDepth 100000
set_option linter.unusedVariables false
set_option linter.unusedSimpArgs false

open Go.ChangeAt Go.ChangeShapes Go.RowKit Go.WideShapes
theorem cells28 : Try.prog.cellsOf 28 = 6 := by kernel_rfl
section
variable {H : Type} {enc : TypeId × Value → H} {W : World} {base : Nat}
set_option maxRecDepth 100000 in
theorem as_of_trod {fuel : Nat} {cs : List Value} {x : DataW H × List MemPlace} (h : DataW.trod enc Try.prog W base (fun _ => true) true fuel 28 cs = some x) :
    ∃ (c : Cd) (z : Int), cs = (asA c z).toList ∧ c.ok ∧ U64 z := by
  obtain ⟨xs, n, rfl, rfl, hl, hxl, hf⟩ := DataW.trod_struct Try.underlying28 h
  rw [cells28] at hl
  simp at hxl
  match xs, hxl with
  | [x0, x1], _ =>
  have f0 := hf 0 _ rfl
  have f1 := hf 1 _ rfl
  simp [cells25, cells26] at f0 f1
  obtain ⟨c, e0, hc⟩ := cd_of_trod f0
  obtain ⟨z, e1, -, w1⟩ := DataW.trod_int Try.underlying26 f1
  refine ⟨c, z, ?_, hc, u64_wf w1⟩
  match cs, hl with
  | [c0, c1, c2, c3, c4, c5], _ =>
    simp [Cd.arr, cdA] at e0 e1
    obtain ⟨rfl, rfl, rfl, rfl, rfl⟩ := e0
    subst e1
    rfl
/-- AN INSTRUCTION AND A WORD THAT CAME IN. -/
theorem open_asked {b0 : Nat} {v : Value} {d : DataW H} {p : List MemPlace}
    (hv : Value.okWide Try.prog W .any b0 28 v) (h : DataW.Trod enc Try.prog W base (fun _ => true) true 28 v d p) :
    ∃ (c : Cd) (z : Int), v = .agg (asA c z) ∧ c.ok ∧ U64 z := by
  unfold Value.okWide at hv
  rw [Try.underlying28] at hv
  obtain ⟨cs, rfl, hc, -⟩ := hv
  obtain ⟨fuel, hf⟩ := h
  obtain ⟨c, z, e, hok, hz⟩ := as_of_trod hf
  refine ⟨c, z, ?_, hok, hz⟩
  congr 1
  apply Array.toList_inj.1
  exact e
end
end Go.Proofs.Ytgdmgogjoabilaa
