/- Ym, Vx, Vv. -/
import Derived.Test.YtnjbmffgbgbjmaaX32
import Derived.Test.YtnjbmffgbgbjmaaX33
import Derived.Test.YtnjbmffgbgbjmaaX34
import Derived.Test.YtnjbmffgbgbjmaaX35
import Derived.Test.YtnjbmffgbgbjmaaX36
import Derived.Test.YtnjbmffgbgbjmaaX37
import Derived.Test.YtnjbmffgbgbjmaaX39
import Derived.Test.YtnjbmffgbgbjmaaX41
import Derived.Test.YtnjbmffgbgbjmaaX42
import Derived.Test.YtnjbmffgbgbjmaaX43
import Derived.Test.YtnjbmffgbgbjmaaX31
import Derived.Laws.OwnMore
import Derived.Deep.OwnRows
import Derived.Test.YtnjbmffgbgbjmaaX30
/- Layer vm, the document's step: any machine; Turn. -/
namespace Go.Proofs.Ytnjbmffgbgbjmaa
open Go.RowKit
set_option maxRecDepth 100000
set_option linter.unusedVariables false
set_option linter.unusedSimpArgs false

variable {N : Nat} {es : List En} {g gm n cap : Nat} {sp : Option Addr} {nk ck : Nat} {m : Mc}
set_option maxHeartbeats 1000000 in
theorem do_t0 (w : World) (hV : DM N es w g gm n cap sp nk ck m) (hp : (n : Int) ≤ m.pc) : Calls Try.prog 43 #[.pointer (some ⟨g, 0, none⟩), .slice sp nk ck] w (DoPost N es g gm n cap sp nk ck m (stp es m) w) := by
  have hex : stp es m = none := by unfold stp; rw [if_neg (by rw [← hV.en.len.out]; omega)]
  have c0 := hV.en.c0
  have c18 := hV.en.c18
  have hn := hV.en.small
  have wn : IntKind.u64.wrap (n : Int) = n := wrap64_of (by omega) (by omega)
  replace hex := Hid.mk' hex
  go_enter Try.func43, Try.ntmps43
  go_wp2_with fail
  go_ret
  exact doNo hV hex.out (Below.refl _ _)
set_option maxHeartbeats 2000000 in
theorem do_t1 (w : World) (hV : DM N es w g gm n cap sp nk ck m) {pN : Nat} {x : Int} (hp : m.pc = (pN : Int)) (hpn : pN < n) (hx : m.me.getD pN 0 = x) (hd : dOk x = false) : Calls Try.prog 43 #[.pointer (some ⟨g, 0, none⟩), .slice sp nk ck] w (DoPost N es g gm n cap sp nk ck m (stp es m) w) := by
  have hex : stp es m = none := by
    unfold stp
    rw [hp, Int.toNat_natCast, hx, hd]
    simp
  replace hex := Hid.mk' hex
  have hE := hV.en
  have hok := hE.ok
  have hU : U64 x := by rw [← hx]; exact hok.me _
  have hv := dV_no hd
  have c0 := hE.c0
  rw [hp] at c0
  have c18 := hE.c18
  have hn := hE.small
  have wn : IntKind.u64.wrap (n : Int) = n := wrap64_of (by omega) (by omega)
  have hpn1 : ¬ (n : Int) ≤ (pN : Int) := by omega
  have hpn2 : (pN : Int) < (n : Int) := by omega
  have cx := hE.cm hpn
  rw [hx] at cx
  have hlen := hE.len
  replace hv := Hid.mk' hv
  replace hd := Hid.mk' hd
  replace hp := Hid.mk' hp
  have hx2 := Hid.mk' hx
  clear hx hE
  go_enter Try.func43, Try.ntmps43
  go_upto_region 4 with fail
  go_cut [6, 7] from 36 to 49 (fun p q wc => q = .bool false ∧ Below w.heap.size w wc)
  case first =>
    refine wp_region_held_drew (S := fun u => Below w.heap.size w u) (by kernel_rfl) ((Below.refl _ _).drew) (fun hHeld => ?_)
    refine wpAnyH_take (i := 0) (oi := ⟨_, _, _, _, _, _⟩) (v := ?_) rfl (by kernel_rfl) (by kernel_rfl) (by kernel_rfl) (fun _ _ _ h => h) (Or.inl ⟨by rfl, ?_⟩) (by assumption) ?_
    rotate_left
    · intro u hSw
      go_simp
      try (with_reducible rfl)
    try simp only [Act.put, List.setIfInBounds_toArray, List.set_cons_zero, List.set_cons_succ]
    refine wpAnyH_take (i := 1) (oi := ⟨_, _, _, _, _, _⟩) (v := ?_) rfl (by kernel_rfl) (by kernel_rfl) (by kernel_rfl) (fun _ _ _ h => h) (Or.inl ⟨by rfl, ?_⟩) (by assumption) ?_
    rotate_left
    · intro u hSw
      go_simp
      try (with_reducible rfl)
    try simp only [Act.put, List.setIfInBounds_toArray, List.set_cons_zero, List.set_cons_succ]
    refine wpAnyH_take (i := 2) (oi := ⟨_, _, _, _, _, _⟩) (v := ?_) rfl (by kernel_rfl) (by kernel_rfl) (by kernel_rfl) (fun _ _ _ h => h) (Or.inl ⟨by rfl, ?_⟩) (by assumption) ?_
    rotate_left
    · intro u hSw
      go_simp
      try (with_reducible rfl)
    try simp only [Act.put, List.setIfInBounds_toArray, List.set_cons_zero, List.set_cons_succ]
    refine wpAnyH_take (i := 3) (oi := ⟨_, _, _, _, _, _⟩) (v := ?_) rfl (by kernel_rfl) (by kernel_rfl) (by kernel_rfl) (fun _ _ _ h => h) (Or.inl ⟨by rfl, ?_⟩) (by assumption) ?_
    rotate_left
    · intro u hSw
      have c18 := (hV.bel hSw).en.c18
      go_simp
      try (with_reducible rfl)
    try simp only [Act.put, List.setIfInBounds_toArray, List.set_cons_zero, List.set_cons_succ]
    refine wpAnyH_take (i := 4) (oi := ⟨_, _, _, _, _, _⟩) (v := ?_) rfl (by kernel_rfl) (by kernel_rfl) (by kernel_rfl) (fun _ _ _ h => h) (Or.inl ⟨by rfl, ?_⟩) (by assumption) ?_
    rotate_left
    · intro u hSw
      go_simp
      try (with_reducible rfl)
    try simp only [Act.put, List.setIfInBounds_toArray, List.set_cons_zero, List.set_cons_succ]
    refine wpAnyH_take (i := 5) (oi := ⟨_, _, _, _, _, _⟩) (v := ?_) rfl (by kernel_rfl) (by kernel_rfl) (by kernel_rfl) (fun _ _ _ h => h) (Or.inl ⟨by rfl, ?_⟩) (by assumption) ?_
    rotate_left
    · intro u hSw
      go_simp
      try (with_reducible rfl)
    try simp only [Act.put, List.setIfInBounds_toArray, List.set_cons_zero, List.set_cons_succ]
    refine wpAnyH_take (i := 6) (oi := ⟨_, _, _, _, _, _⟩) (v := ?_) rfl (by kernel_rfl) (by kernel_rfl) (by kernel_rfl) (fun _ _ _ h => h) (Or.inl ⟨by rfl, ?_⟩) (by assumption) ?_
    rotate_left
    · intro u hSw
      go_simp
      try (with_reducible rfl)
    try simp only [Act.put, List.setIfInBounds_toArray, List.set_cons_zero, List.set_cons_succ]
    refine wpAnyH_take (i := 7) (oi := ⟨_, _, _, _, _, _⟩) (v := ?_) rfl (by kernel_rfl) (by kernel_rfl) (by kernel_rfl) (fun _ _ _ h => h) (Or.inl ⟨by rfl, ?_⟩) (by assumption) ?_
    rotate_left
    · intro u hSw
      have c0 := (hV.bel hSw).en.c0
      rw [hp.out] at c0
      go_simp
      try (with_reducible rfl)
    try simp only [Act.put, List.setIfInBounds_toArray, List.set_cons_zero, List.set_cons_succ]
    refine wpAnyH_take (i := 8) (oi := ⟨_, _, _, _, _, _⟩) (v := ?_) rfl (by kernel_rfl) (by kernel_rfl) (by kernel_rfl) (fun _ _ _ h => h) (Or.inl ⟨by rfl, ?_⟩) (by assumption) ?_
    rotate_left
    · intro u hSw
      go_simp
      try (with_reducible rfl)
    try simp only [Act.put, List.setIfInBounds_toArray, List.set_cons_zero, List.set_cons_succ]
    refine wpAnyH_take (i := 9) (oi := ⟨_, _, _, _, _, _⟩) (v := ?_) rfl (by kernel_rfl) (by kernel_rfl) (by kernel_rfl) (fun _ _ _ h => h) (Or.inl ⟨by rfl, ?_⟩) (by assumption) ?_
    rotate_left
    · intro u hSw
      have cx := (hV.bel hSw).en.cm hpn
      rw [hx2.out] at cx
      go_simp
      try (with_reducible rfl)
    try simp only [Act.put, List.setIfInBounds_toArray, List.set_cons_zero, List.set_cons_succ]
    refine wpAnyH_ready (rs := [10, 14]) (by kernel_rfl) (by simp) ?_
    refine AllReadyH.cons (o := ⟨_, _, _, _, _, _⟩) rfl (fun K hK => ?_) (AllReadyH.cons (o := ⟨_, _, _, _, _, _⟩) rfl (fun K hK => ?_) AllReadyH.nil)
    · go_simp
      refine (refdecode_any _ hU).mono ?_
      rintro e w2 ⟨rfl, hb2⟩
      rw [hv.out, hd.out]
      have hB2 : Below w.heap.size w w2 := hHeld.trans (hb2.mono (hHeld.size))
      go_wp2_with fail
      refine hK.out _ _ hB2 (fun hHeld => ?_)
      clear hK K
      try simp only [Act.put, List.setIfInBounds_toArray, List.set_cons_zero, List.set_cons_succ]
      refine wpAnyH_take (i := 11) (oi := ⟨_, _, _, _, _, _⟩) (v := ?_) rfl (by kernel_rfl) (by kernel_rfl) (by kernel_rfl) (fun _ _ _ h => h) (Or.inl ⟨by rfl, ?_⟩) (by assumption) ?_
      rotate_left
      · intro u hSw
        go_simp
        try (with_reducible rfl)
      try simp only [Act.put, List.setIfInBounds_toArray, List.set_cons_zero, List.set_cons_succ]
      refine wpAnyH_take (i := 12) (oi := ⟨_, _, _, _, _, _⟩) (v := ?_) rfl (by kernel_rfl) (by kernel_rfl) (by kernel_rfl) (fun _ _ _ h => h) (Or.inl ⟨by rfl, ?_⟩) (by assumption) ?_
      rotate_left
      · intro u hSw
        go_simp
        try (with_reducible rfl)
      try simp only [Act.put, List.setIfInBounds_toArray, List.set_cons_zero, List.set_cons_succ]
      refine wpAnyH_take (i := 13) (oi := ⟨_, _, _, _, _, _⟩) (v := ?_) rfl (by kernel_rfl) (by kernel_rfl) (by kernel_rfl) (fun _ _ _ h => h) (Or.inl ⟨by rfl, ?_⟩) (by assumption) ?_
      rotate_left
      · intro u hSw
        go_simp
        try (with_reducible rfl)
      try simp only [Act.put, List.setIfInBounds_toArray, List.set_cons_zero, List.set_cons_succ]
      refine wpAnyH_ready (rs := [14]) (by kernel_rfl) (by simp) ?_
      refine AllReadyH.cons (o := ⟨_, _, _, _, _, _⟩) rfl (fun K hK => ?_) AllReadyH.nil
      go_simp
      go_wp2_with fail
      refine hK.out _ _ (hB2.alloc hB2.size _) (fun hHeld => ?_)
      clear hK K
      try simp only [Act.put, List.setIfInBounds_toArray, List.set_cons_zero, List.set_cons_succ]
      refine wpAnyH_ready (rs := [15]) (by kernel_rfl) (by simp) ?_
      refine AllReadyH.cons (o := ⟨_, _, _, _, _, _⟩) rfl (fun K hK => ?_) AllReadyH.nil
      refine step_want rfl (wp_store_row 25 (.tmp 6) (.tmp 48) rfl w2.heap.size _ rfl rfl 25 _ (Arr.new w2 25 #[.int .u8 0, .int .u8 0, .int .u8 0, .int .u8 0, .int .u32 0]) (by rw [cdA_size]; exact size25) (by rw [cdA_size]; rfl) (one25 _ _ _ _ _) ?_)
      refine hK.out _ _ (below_setRow (hB2.alloc hB2.size _) hB2.size _) (fun hHeld => ?_)
      clear hK K
      try simp only [Act.put, List.setIfInBounds_toArray, List.set_cons_zero, List.set_cons_succ]
      refine wpAnyH_take (i := 16) (oi := ⟨_, _, _, _, _, _⟩) (v := ?_) rfl (by kernel_rfl) (by kernel_rfl) (by kernel_rfl) (fun _ _ _ h => h) (Or.inl ⟨by rfl, ?_⟩) (by assumption) ?_
      rotate_left
      · intro u hSw
        go_simp
        try (with_reducible rfl)
      try simp only [Act.put, List.setIfInBounds_toArray, List.set_cons_zero, List.set_cons_succ]
      refine wpAnyH_done (by kernel_rfl) ?_ _
      go_wp2_with fail
      go_meet
      exact ⟨rfl, below_setRow (hB2.alloc hB2.size _) hB2.size _⟩
    · go_simp
      go_wp2_with fail
      refine hK.out _ _ ((Below.refl _ w).drew.alloc (Nat.le_refl _) _) (fun hHeld => ?_)
      clear hK K
      try simp only [Act.put, List.setIfInBounds_toArray, List.set_cons_zero, List.set_cons_succ]
      refine wpAnyH_ready (rs := [10]) (by kernel_rfl) (by simp) ?_
      refine AllReadyH.cons (o := ⟨_, _, _, _, _, _⟩) rfl (fun K hK => ?_) AllReadyH.nil
      go_simp
      refine (refdecode_any _ hU).mono ?_
      rintro e w2 ⟨rfl, hb2⟩
      rw [hv.out, hd.out]
      have hB2 : Below w.heap.size w w2 := hHeld.trans (hb2.mono (hHeld.size))
      go_wp2_with fail
      have AZ := (Arr.new w.drew 25 #[.int .u8 0, .int .u8 0, .int .u8 0, .int .u8 0, .int .u32 0]).below hb2 (by simp)
      refine hK.out _ _ hB2 (fun hHeld => ?_)
      clear hK K
      try simp only [Act.put, List.setIfInBounds_toArray, List.set_cons_zero, List.set_cons_succ]
      refine wpAnyH_take (i := 11) (oi := ⟨_, _, _, _, _, _⟩) (v := ?_) rfl (by kernel_rfl) (by kernel_rfl) (by kernel_rfl) (fun _ _ _ h => h) (Or.inl ⟨by rfl, ?_⟩) (by assumption) ?_
      rotate_left
      · intro u hSw
        go_simp
        try (with_reducible rfl)
      try simp only [Act.put, List.setIfInBounds_toArray, List.set_cons_zero, List.set_cons_succ]
      refine wpAnyH_take (i := 12) (oi := ⟨_, _, _, _, _, _⟩) (v := ?_) rfl (by kernel_rfl) (by kernel_rfl) (by kernel_rfl) (fun _ _ _ h => h) (Or.inl ⟨by rfl, ?_⟩) (by assumption) ?_
      rotate_left
      · intro u hSw
        go_simp
        try (with_reducible rfl)
      try simp only [Act.put, List.setIfInBounds_toArray, List.set_cons_zero, List.set_cons_succ]
      refine wpAnyH_take (i := 13) (oi := ⟨_, _, _, _, _, _⟩) (v := ?_) rfl (by kernel_rfl) (by kernel_rfl) (by kernel_rfl) (fun _ _ _ h => h) (Or.inl ⟨by rfl, ?_⟩) (by assumption) ?_
      rotate_left
      · intro u hSw
        go_simp
        try (with_reducible rfl)
      try simp only [Act.put, List.setIfInBounds_toArray, List.set_cons_zero, List.set_cons_succ]
      refine wpAnyH_ready (rs := [15]) (by kernel_rfl) (by simp) ?_
      refine AllReadyH.cons (o := ⟨_, _, _, _, _, _⟩) rfl (fun K hK => ?_) AllReadyH.nil
      refine step_want rfl (wp_store_row 25 (.tmp 6) (.tmp 48) rfl w.drew.heap.size _ rfl rfl 25 _ AZ (by rw [cdA_size]; exact size25) (by rw [cdA_size]; rfl) (one25 _ _ _ _ _) ?_)
      refine hK.out _ _ (below_setRow hB2 (Nat.le_refl _) _) (fun hHeld => ?_)
      clear hK K
      try simp only [Act.put, List.setIfInBounds_toArray, List.set_cons_zero, List.set_cons_succ]
      refine wpAnyH_take (i := 16) (oi := ⟨_, _, _, _, _, _⟩) (v := ?_) rfl (by kernel_rfl) (by kernel_rfl) (by kernel_rfl) (fun _ _ _ h => h) (Or.inl ⟨by rfl, ?_⟩) (by assumption) ?_
      rotate_left
      · intro u hSw
        go_simp
        try (with_reducible rfl)
      try simp only [Act.put, List.setIfInBounds_toArray, List.set_cons_zero, List.set_cons_succ]
      refine wpAnyH_done (by kernel_rfl) ?_ _
      go_wp2_with fail
      go_meet
      exact ⟨rfl, below_setRow hB2 (Nat.le_refl _) _⟩
  case rest =>
    obtain ⟨rfl, hBc⟩ := hcut
    go_wp2_with fail
    go_ret
    exact doNo hV hex.out hBc
theorem do_any (w : World) (hV : DM N es w g gm n cap sp nk ck m) : Calls Try.prog 43 #[.pointer (some ⟨g, 0, none⟩), .slice sp nk ck] w (DoPost N es g gm n cap sp nk ck m (stp es m) w) := by
  have hp0 := hV.en.ok.pc.1
  by_cases hp : m.pc < n
  · obtain ⟨pN, hpN⟩ : ∃ k : Nat, m.pc = k := ⟨m.pc.toNat, by omega⟩
    have hpn : pN < n := by omega
    obtain ⟨x, hx⟩ : ∃ x, m.me.getD pN 0 = x := ⟨_, rfl⟩
    have hU : U64 x := by rw [← hx]; exact hV.en.ok.me _
    cases hd : dOk x with
    | false => exact do_t1 w hV hpN hpn hx hd
    | true =>
      have hR := dRg hU
      obtain ⟨a, ha⟩ : ∃ k : Nat, dA x = k := ⟨(dA x).toNat, by omega⟩
      obtain ⟨b, hb⟩ : ∃ k : Nat, dB x = k := ⟨(dB x).toNat, by omega⟩
      obtain ⟨c, hc⟩ : ∃ k : Nat, dC x = k := ⟨(dC x).toNat, by omega⟩
      have hst : stp es m = ex es m (dOp x) a b c (dI x) := by
        unfold stp
        rw [hpN, Int.toNat_natCast, hx, hd, ha, hb, hc, if_pos (by rw [← hV.en.len.out]; omega), if_pos rfl]
        simp
      rw [hst]
      have ho25 : 1 ≤ dOp x ∧ dOp x ≤ 25 := by
        unfold dOk at hd
        have := of_decide_eq_true hd
        exact ⟨this.1, this.2.1⟩
      obtain ⟨i, hi⟩ : ∃ i, dI x = i := ⟨_, rfl⟩
      obtain ⟨o, ho⟩ : ∃ o, dOp x = o := ⟨_, rfl⟩
      rw [hi, ho]
      rw [ho] at ho25
      rcases ops25 ho25 with rfl | rfl | rfl | rfl | h5 | rfl | rfl | rfl | rfl | rfl | rfl | rfl | rfl | rfl
      · exact do_1 w hV hpN hpn hx hd ho ha hb hc hi
      · exact do_2 w hV hpN hpn hx hd ho ha hb hc hi
      · exact do_3 w hV hpN hpn hx hd ho ha hb hc hi
      · exact do_4 w hV hpN hpn hx hd ho ha hb hc hi
      · exact do_o w hV hpN hpn hx hd ho ha hb hc hi h5
      · exact do_17 w hV hpN hpn hx hd ho ha hb hc hi
      · exact do_18 w hV hpN hpn hx hd ho ha hb hc hi
      · exact do_19 w hV hpN hpn hx hd ho ha hb hc hi
      · exact do_20 w hV hpN hpn hx hd ho ha hb hc hi
      · exact do_21 w hV hpN hpn hx hd ho ha hb hc hi
      · exact do_22 w hV hpN hpn hx hd ho ha hb hc hi
      · exact do_23 w hV hpN hpn hx hd ho ha hb hc hi
      · exact do_24 w hV hpN hpn hx hd ho ha hb hc hi
      · exact do_25 w hV hpN hpn hx hd ho ha hb hc hi
  · exact do_t0 w hV (by omega)
/-- What Turn comes to. -/
def TuPost (N : Nat) (es : List En) (g gm n cap : Nat) (sp : Option Addr) (nk ck : Nat) (m : Mc) (w : World) (e : Ending) (w' : World) : Prop :=
  e = .returned (.tuple #[]) ∧ Chg (C2 g gm) w w' ∧ w.heap.size ≤ w'.heap.size ∧ DM N es w' g gm n cap sp nk ck (tick es m)
set_option maxHeartbeats 1000000 in
theorem refTurn_any (w : World) (hV : DM N es w g gm n cap sp nk ck m) (hst : m.st = 0) : Calls Try.prog 37 #[.pointer (some ⟨g, 0, none⟩), .slice sp nk ck] w (TuPost N es g gm n cap sp nk ck m w) := by
  have c17 := hV.en.c17
  rw [hst] at c17
  go_enter Try.func37, Try.ntmps37
  go_wp2_with (go_at_call 43; go_must (refine (do_any w hV).mono ?_; rintro e w1 ⟨hc1, hs1, ⟨m', hm', rfl, hV1⟩ | ⟨hm', rfl, hV1⟩⟩ <;> (have c17' := hV1.en.c17; have fz' := hV1.en.fz)))
  · have ht : tick es m = m' := by unfold tick; rw [hm']; rfl
    refine bodyPost_ret (v := .tuple #[]) (results_none Try.results37 _ _ _) rfl ⟨rfl, hc1, hs1, ?_⟩
    rw [ht]
    exact hV1
  · have ht : tick es m = { m with st := 2 } := by unfold tick; rw [hm']; rfl
    refine bodyPost_ret (v := .tuple #[]) (results_none Try.results37 _ _ _) rfl ⟨rfl, hc1.g2 _ _, by simpa using hs1, ?_⟩
    rw [ht]
    exact hV1.setSt (x := 2) (by omega)
end Go.Proofs.Ytnjbmffgbgbjmaa
/- Layer vm: a machine that is loaded. -/
namespace Go.Proofs.Ytnjbmffgbgbjmaa
open Go.RowKit
set_option maxRecDepth 100000
set_option linter.unusedVariables false
set_option linter.unusedSimpArgs false


/-- An instruction, as numbers. -/
structure Cd where
  o : Int
  a : Int
  b : Int
  c : Int
  i : Int
def Cd.arr (c : Cd) : Array Value := cdA c.o c.a c.b c.c c.i
def Cd.wd (c : Cd) : Int := wdI c.o c.a c.b c.c c.i
structure Cd.ok (x : Cd) : Prop where
  o : 0 ≤ x.o ∧ x.o < 256
  a : 0 ≤ x.a ∧ x.a < 256
  b : 0 ≤ x.b ∧ x.b < 256
  c : 0 ≤ x.c ∧ x.c < 256
  i : 0 ≤ x.i ∧ x.i < 4294967296
/-- Instructions in memory. -/
structure CS (N : Nat) (w : World) (sp : Option Addr) (n cap : Nat) (cs : List Cd) : Prop where
  len : Hid (n = cs.length)
  nil : sp = none → n = 0 ∧ cap = 0
  le : n ≤ cap
  big : cap ≤ 9223372036854775807
  small : n ≤ 140737488355328
  at0 : 0 < n → ∃ g off, sp = some ⟨g, off, none⟩ ∧ g < N ∧ ∀ i e, cs[i]? = some e → w.rangeAt g (off + i * 5) e.arr.toList
  ok : ∀ e ∈ cs, e.ok
theorem CS.below {N : Nat} {w w' : World} {sp : Option Addr} {n cap : Nat} {cs : List Cd} (h : CS N w sp n cap cs) (hb : Below N w w') : CS N w' sp n cap cs :=
  ⟨h.len, h.nil, h.le, h.big, h.small, fun h0 => let ⟨b, off, e, hbN, hB⟩ := h.at0 h0; ⟨b, off, e, hbN, fun i X hX => range_below (hB i X hX) hb hbN⟩, h.ok⟩
theorem CS.here {N : Nat} {w : World} {sp : Option Addr} {n cap : Nat} {cs : List Cd} (h : CS N w sp n cap cs) : CS w.heap.size w sp n cap cs :=
  ⟨h.len, h.nil, h.le, h.big, h.small, fun h0 => by
    obtain ⟨b, off, e, hbN, hB⟩ := h.at0 h0
    refine ⟨b, off, e, ?_, hB⟩
    have hl : 0 < cs.length := by rw [← h.len.out]; exact h0
    exact block_lt_of_cell (hB 0 cs[0] (List.getElem?_eq_getElem hl) 0 _ rfl), h.ok⟩
/-- The words of a machine that is loaded. -/
def ldW (x : Nat) (cs : List Cd) (ds : List Int) : List Int := cs.map Cd.wd ++ (ds ++ List.replicate (x - (cs.length + ds.length)) 0)
def lO (x : Int) (cs : List Cd) (ds : List Int) : Mc × Int :=
  if szI x = false then (zM, 2) else if x < cs.length + ds.length then (zM, 4) else ({ zM with me := ldW x.toNat cs ds }, 0)
theorem ldW_len {x : Nat} {cs : List Cd} {ds : List Int} (h : cs.length + ds.length ≤ x) : (ldW x cs ds).length = x := by simp [ldW]; omega
theorem Cd.ok.wd {c : Cd} (h : c.ok) : U64 c.wd := wdI_u h.o h.i
theorem ldW_get {x : Nat} {cs : List Cd} {ds : List Int} (h : cs.length + ds.length ≤ x) (t : Nat) : (ldW x cs ds).getD t 0 = if h : t < cs.length then cs[t].wd else if t < cs.length + ds.length then ds.getD (t - cs.length) 0 else 0 := by
  unfold ldW
  rw [List.getD_eq_getElem?_getD]
  by_cases h1 : t < cs.length
  · rw [dif_pos h1, List.getElem?_append_left (by simpa using h1)]
    simp [h1]
  · rw [dif_neg h1, List.getElem?_append_right (by simp; omega), List.length_map]
    by_cases h2 : t < cs.length + ds.length
    · rw [if_pos h2, List.getElem?_append_left (by omega), List.getD_eq_getElem?_getD]
    · rw [if_neg h2, List.getElem?_append_right (by omega), List.getElem?_replicate]
      split <;> rfl
theorem ldW_u {x : Nat} {cs : List Cd} {ds : List Int} (h : cs.length + ds.length ≤ x) (hc : ∀ e ∈ cs, e.ok) (hd : ∀ k, U64 (ds.getD k 0)) (t : Nat) : U64 ((ldW x cs ds).getD t 0) := by
  rw [ldW_get h]
  split
  · exact (hc _ (List.getElem_mem _)).wd
  · split
    · exact hd _
    · unfold U64; omega
/-- What Load answers. -/
def LdPost (x : Int) (cs : List Cd) (ds : List Int) (w : World) (e : Ending) (w' : World) : Prop :=
  ∃ sp n cap, e = .returned (.tuple #[.agg (mcA (lO x cs ds).1 sp n cap), .int .i64 (lO x cs ds).2]) ∧ (lO x cs ds).1.ok ∧ MS w'.heap.size w' sp n cap (lO x cs ds).1.me ∧ Below w.heap.size w w'
theorem ldNo {x : Int} {cs : List Cd} {ds : List Int} {w w' : World} {er : Int} (hr : lO x cs ds = (zM, er)) (hb : Below w.heap.size w w') : LdPost x cs ds w (.returned (.tuple #[.agg (mcA zM none 0 0), .int .i64 er])) w' :=
  ⟨none, 0, 0, by rw [hr], by rw [hr]; exact zM_ok, by rw [hr]; exact MS.nil0 _ _, hb⟩
theorem ldYes {x : Int} {X : Nat} {cs : List Cd} {ds : List Int} {w w' : World} {g : Nat} (hr : lO x cs ds = ({ zM with me := ldW X cs ds }, 0)) (hok : Mc.ok { zM with me := ldW X cs ds }) (hM : MW w' g (ldW X cs ds)) (hl : X = (ldW X cs ds).length) (hX : X ≤ 4096) (hb : Below w.heap.size w w') : LdPost x cs ds w (.returned (.tuple #[.agg (mcA { zM with me := ldW X cs ds } (some ⟨g, 0, none⟩) X X), .int .i64 0])) w' :=
  ⟨some ⟨g, 0, none⟩, X, X, by rw [hr], by rw [hr]; exact hok, by rw [hr]; exact hM.ms hl (by omega) ⟨Nat.le_refl _, by omega⟩, hb⟩
theorem built45 (sp : Option Addr) (n cap : Nat) (me : List Int) : Try.prog.built 45 [(3, .slice sp n cap)] = some (mcA { zM with me := me } sp n cap) := by kernel_rfl
theorem ld25 {ops : Array Oper} {rest : List Oper} {o : Oper} {a : Act} {w : World} {Q : Exit → Act → World → Prop} (hgd : o.guard = none) (x : Operand) (ho : o.op = .load 25 x)
    (b off : Nat) (hx : a.eval x = .pointer (some ⟨b, off, none⟩)) (e : Cd) (hc : w.rangeAt b off e.arr.toList)
    (h : wpList Try.prog ops Q rest (a.put o.dst (.agg e.arr)) w) : wpList Try.prog ops Q (o :: rest) a w :=
  wpList_load_mid hgd 25 x ho b off hx e.arr.toList _ hc Try.underlying25 rfl size25 (by simpa using h)
theorem st25n {ops : Array Oper} {rest : List Oper} {o : Oper} {a : Act} {Q : Exit → Act → World → Prop} (hgd : o.guard = none) (x y : Operand) (ho : o.op = .store 25 x y) (W : World) (g : Nat) (hgW : W.heap.size = g) {z : Array Value} (hz : z.size = 5)
    (e : Cd) (hx : a.eval x = .pointer (some ⟨g, 0, none⟩)) (hy : a.eval y = .agg e.arr)
    (h : wpList Try.prog ops Q rest (a.put o.dst undef) (W.alloc (.cells e.arr 25))) : wpList Try.prog ops Q (o :: rest) a (W.alloc (.cells z 25)) := by
  subst hgW
  exact wpList_store_new W z 25 hgd 25 x y ho e.arr hx hy size25 hz (one25 _ _ _ _ _) h
theorem wdc_any (e : Cd) (h : e.ok) (w : World) : Calls Try.prog 13 #[.agg e.arr] w fun r w' => r = .returned (.int .u64 e.wd) ∧ Below w.heap.size w w' := word_any w h.o h.a h.b h.c h.i
theorem refwdc_any (e : Cd) (h : e.ok) (w : World) : Calls Try.prog 14 #[.agg e.arr] w fun r w' => r = .returned (.int .u64 e.wd) ∧ Below w.heap.size w w' := refWord_any w h.o h.a h.b h.c h.i
/-- The first k words laid. -/
def lay (x : Nat) (cs : List Cd) (k : Nat) : List Int := (cs.take k).map Cd.wd ++ List.replicate (x - k) 0
theorem lay_zero (x : Nat) (cs : List Cd) : lay x cs 0 = List.replicate x 0 := by simp [lay]
theorem lay_len {x k : Nat} {cs : List Cd} (h : k ≤ cs.length) (hx : cs.length ≤ x) : (lay x cs k).length = x := by simp [lay]; omega
theorem lay_set {x k : Nat} {cs : List Cd} {e : Cd} (he : cs[k]? = some e) (hx : cs.length ≤ x) : (lay x cs k).set k e.wd = lay x cs (k + 1) := by
  have hk := (List.getElem?_eq_some_iff.1 he).1
  unfold lay
  rw [List.set_append_right _ _ (by simp; omega), List.take_add_one, he]
  simp only [List.length_map, List.length_take, Nat.min_eq_left (Nat.le_of_lt hk), Nat.sub_self, List.map_append, Option.toList_some, List.map_cons, List.map_nil, List.append_assoc]
  rw [show x - k = (x - (k + 1)) + 1 by omega, List.replicate_succ, List.set_cons_zero]
  rfl
theorem lay_all {x : Nat} {cs : List Cd} (hx : cs.length ≤ x) : lay x cs cs.length = ldW x cs [] := by simp [lay, ldW]
theorem made_mw (w : World) (n : Nat) : MW (w.alloc (.cells (madeCells #[.int .u64 0] n) 26)) w.heap.size (List.replicate n 0) :=
  ⟨_, Arr.new w 26 _, fun t ht => by
    have ht' : t < n := by simpa using ht
    rw [← Array.getElem?_toList, toList_madeCells_one]
    simp [List.getD_eq_getElem?_getD, ht']⟩

set_option maxHeartbeats 1000000 in
theorem load_no (x : Int) (sp : Option Addr) (n cap : Nat) (cs : List Cd) (sq : Option Addr) (nd cd : Nat) (ds : List Int) (N : Nat) (w : World) (hx : -9223372036854775808 ≤ x ∧ x ≤ 9223372036854775807) (hS : CS N w sp n cap cs) (hD : MS N w sq nd cd ds) (hU : ∀ k, U64 (ds.getD k 0)) (hbad : szI x = false ∨ x < cs.length + ds.length) :
    Calls Try.prog 25 #[.int .i64 x, .slice sp n cap, .slice sq nd cd] w (LdPost x cs ds w) := by
  have A0 := Arr.new w 45 (mcA zM none 0 0)
  have hsz := mcA_size zM_ok.r16 none 0 0
  have hoz := mcA_one zM none 0 0
  have hb0 := alloc_bel' w (.cells (mcA zM none 0 0) 45)
  have hn := hS.small
  have hn2 := hD.small
  cases hq : szI x with
  | false =>
    have hr : lO x cs ds = (zM, 2) := by simp [lO, hq]
    replace hr := Hid.mk' hr
    replace hq := Hid.mk' hq
    clear hbad
    go_enter Try.func25, Try.ntmps25
    go_wp2_with (first
      | (go_at_call 31; go_must (refine (maySize_any _ _ hx).mono ?_; rintro e w1 ⟨rfl, h⟩; subst h; rw [hq.out]))
      | (refine st45 (by rfl) (.tmp 6) (.tmp 14) (by rfl) w.heap.size (mcA zM none 0 0) (by rfl) (by rfl) hsz hoz _ hsz A0 ?_))
    exact bodyPost_ret (v := .tuple #[.agg (mcA zM none 0 0), .int .i64 2]) (res45b Try.results25 rfl rfl hsz (A0.setRow _)) rfl (ldNo hr.out (below_setRow hb0 (Nat.le_refl _) _))
  | true =>
    have hlt : x < cs.length + ds.length := by rcases hbad with h | h; rw [hq] at h; cases h; exact h
    have hr : lO x cs ds = (zM, 4) := by simp [lO, hq, hlt]
    have hlt2 : x - n < nd := by rw [hS.len.out, hD.len.out]; omega
    have hx4 := szB_le (by have := hq; unfold szI at this; exact (Bool.and_eq_true_iff.1 this).2)
    have hx0 : 0 ≤ x := by have := hq; unfold szI at this; exact of_decide_eq_true (Bool.and_eq_true_iff.1 this).1
    have hx4' : x ≤ 4096 := by omega
    replace hr := Hid.mk' hr
    replace hq := Hid.mk' hq
    clear hbad hlt
    go_enter Try.func25, Try.ntmps25
    go_wp2_with (first
      | (go_at_call 31; go_must (refine (maySize_any _ _ hx).mono ?_; rintro e w1 ⟨rfl, h⟩; subst h; rw [hq.out]))
      | (refine st45 (by rfl) (.tmp 6) (.tmp 22) (by rfl) w.heap.size (mcA zM none 0 0) (by rfl) (by rfl) hsz hoz _ hsz A0 ?_))
    exact bodyPost_ret (v := .tuple #[.agg (mcA zM none 0 0), .int .i64 4]) (res45b Try.results25 rfl rfl hsz (A0.setRow _)) rfl (ldNo hr.out (below_setRow hb0 (Nat.le_refl _) _))

theorem wp_bdT {o : Oper} {a : Act} {w : World} {K : Act → World → Prop} {Q : Exit → Act → World → Prop} (t : TypeId) (parts : Array (Nat × Operand)) (ho : o.op = .build t parts) {ps : List (Nat × Value)} (hp : parts.toList.map (fun p => (p.1, a.eval p.2)) = ps) {C : Array Value} (hb : Try.prog.built t ps = some C)
    (h : K (a.put o.dst (.agg C)) w) : o.wp Try.prog a w K Q := by
  have e : (parts.map fun (i, x) => (i, a.eval x)).toList = ps := by rw [Array.toList_map]; exact hp
  refine wp_build t parts ho (by rw [e, hb]; rfl) ?_
  rw [e, hb]; exact h
theorem ldW_splice {X : Nat} {cs : List Cd} {ds : List Int} {C : Array Value} (h : cs.length + ds.length ≤ X) (hC : ∀ t, t < (lay X cs cs.length).length → C[t]? = some (.int .u64 ((lay X cs cs.length).getD t 0))) :
    ∀ t, t < (ldW X cs ds).length → (C.toList.take cs.length ++ (by64 ds ++ C.toList.drop (cs.length + (by64 ds).length))).toArray[t]? = some (.int .u64 ((ldW X cs ds).getD t 0)) := by
  intro t ht
  rw [ldW_len h] at ht
  rw [lay_len (Nat.le_refl _) (by omega)] at hC
  have hsz : X ≤ C.size := by
    by_cases h0 : 0 < X
    · have := (Array.getElem?_eq_some_iff.1 (hC (X - 1) (by omega))).1
      omega
    · omega
  have ht0 : (C.toList.take cs.length).length = cs.length := by
    have e : C.toList.length = C.size := Array.length_toList
    rw [List.length_take, e]; exact Nat.min_eq_left (by omega)
  have hg := hC t ht
  rw [lay_all (by omega), ldW_get (by simp; omega)] at hg
  rw [ldW_get h, List.getElem?_toArray]
  by_cases h1 : t < cs.length
  · rw [dif_pos h1] at hg ⊢
    rw [List.getElem?_append_left (by rw [ht0]; exact h1), List.getElem?_take_of_lt h1, Array.getElem?_toList]
    exact hg
  · rw [dif_neg h1] at hg ⊢
    rw [if_neg (by simp; omega)] at hg
    rw [List.getElem?_append_right (by rw [ht0]; omega), ht0]
    by_cases h2 : t < cs.length + ds.length
    · rw [if_pos h2, List.getElem?_append_left (by rw [by64_len]; omega)]
      exact by64_get (by omega)
    · rw [if_neg h2, List.getElem?_append_right (by rw [by64_len]; omega), List.getElem?_drop, Array.getElem?_toList, by64_len]
      rw [show cs.length + ds.length + (t - cs.length - ds.length) = t by omega]
      exact hg
set_option maxHeartbeats 2000000 in
theorem load_ok (x : Int) (sp : Option Addr) (n cap : Nat) (cs : List Cd) (sq : Option Addr) (nd cd : Nat) (ds : List Int) (N : Nat) (w : World) (hx : -9223372036854775808 ≤ x ∧ x ≤ 9223372036854775807) (hS : CS N w sp n cap cs) (hD : MS N w sq nd cd ds) (hU : ∀ k, U64 (ds.getD k 0)) (hq : szI x = true) {X : Nat} (hX : x = (X : Int)) (hle : cs.length + ds.length ≤ X) :
    Calls Try.prog 25 #[.int .i64 x, .slice sp n cap, .slice sq nd cd] w (LdPost x cs ds w) := by
  subst hX
  obtain ⟨i0, hi, hz0, hz1, hz2⟩ := info_parts info26
  have A0 := Arr.new w 45 (mcA zM none 0 0)
  have hsz := mcA_size zM_ok.r16 none 0 0
  have hb0 := alloc_bel' w (.cells (mcA zM none 0 0) 45)
  have hn := hS.small
  have hl := hS.len
  have hl2 := hD.len
  have hX4 := szB_le (by rw [szI_nat] at hq; exact hq)
  have hnX : n ≤ X := by rw [hl.out]; omega
  have hndX : nd ≤ X - n := by rw [hl.out, hl2.out]; omega
  have hcmp : ¬ ((X : Int) - n < nd) := by omega
  have hr : lO (X : Int) cs ds = ({ zM with me := ldW X cs ds }, 0) := by
    unfold lO
    rw [if_neg (by rw [hq]; simp), if_neg (by omega), Int.toNat_natCast]
  have hokR : Mc.ok { zM with me := ldW X cs ds } := ⟨zM_ok.pc, zM_ok.r16, zM_ok.rg, zM_ok.st, ldW_u hle hS.ok hU⟩
  replace hr := Hid.mk' hr
  replace hq := Hid.mk' hq
  go_enter Try.func25, Try.ntmps25
  go_wp2_with (first
    | (go_at_call 31; go_must (refine (maySize_any _ _ hx).mono ?_; rintro e w1 ⟨rfl, h⟩; subst h; rw [hq.out]))
    | (at_make; go_must (refine wpList_make_row _ (by rfl) (.tmp 23) (.tmp 23) 43 (by rfl) 26 i0 (.int .u64 0) Try.underlying43 hi hz0 hz1 rfl .i64 .i64 X (by rfl) (by rfl) (by rw [hz2]; omega) (by omega) ?_)))
  go_loopw [27] (fun q wr => ∃ (k : Nat), q = .int .i64 (k : Int) ∧ k ≤ n ∧ Below w.heap.size w wr ∧ Arr wr w.heap.size 45 (mcA zM none 0 0) ∧ MW wr (w.heap.size + 1) (lay X cs k))
    (fun q _ => n - (intOf q).toNat)
  case atStart => exact ⟨0, rfl, by omega, hb0.alloc (by simp) _, A0.alloc _, by rw [lay_zero]; have h := made_mw (w.alloc (.cells (mcA zM none 0 0) 45)) X; simp only [World.size_alloc] at h; exact h⟩
  case round =>
    obtain ⟨k, rfl, hk, hbl, hA, hMW⟩ := hrel
    by_cases hlt : k < n
    · have hI : (k : Int) < n := by omega
      have hIX : (k : Int) < X := by omega
      have hSr := hS.here.below hbl
      obtain ⟨g, off, rfl, hgN, hR⟩ := hSr.at0 (by omega)
      obtain ⟨e, he⟩ : ∃ e, cs[k]? = some e := ⟨cs[k]'(by rw [← hl.out]; exact hlt), List.getElem?_eq_getElem _⟩
      have hok := hS.ok e (List.mem_of_getElem? he)
      have hRe := hR k e he
      have hset := lay_set he (show cs.length ≤ X by omega)
      have hlay : (lay X cs k).length = X := lay_len (by rw [← hl.out]; omega) (by omega)
      have hbW := hbl.alloc hbl.size (.cells e.arr 25)
      have AE := Arr.new wr 25 e.arr
      replace he := Hid.mk' he
      replace hset := Hid.mk' hset
      replace hlay := Hid.mk' hlay
      have hlts := hMW.lt
      go_wp2_with (first
        | (refine ld25 (by rfl) _ (by rfl) g (off + k * 5) (by rfl) e hRe ?_)
        | (refine st25n (by rfl) _ _ (by rfl) wr wr.heap.size rfl (by rfl) e (by rfl) (by rfl) ?_)
        | (refine ldA25 (by rfl) (.tmp 10) (by rfl) wr.heap.size (by rfl) e.arr rfl AE ?_)
        | (go_at_call 13; go_must (refine (wdc_any e hok _).mono ?_; rintro r w2 ⟨rfl, hb2⟩; have hM2 := (hMW.below (alloc_bel' wr _) hlts).below hb2 (by simp; omega); have f2 := hM2.frozen k; have c2 := hM2.cell (t := k) (by rw [hlay.out]; omega); have A2 := (hA.alloc _).below hb2 (by have := hA.lt; simp; omega); have B2 := hbW.trans (hb2.mono (by have := hbl.size; simp; omega)))))
      go_roundw
      case rel => exact ⟨k + 1, by go_num, by omega, B2.setCell (by simp) _, A2.setOther _ (by simp), by rw [← hset.out]; exact hM2.set (by rw [hlay.out]; omega) _⟩
      case measure => simp [intOf]; omega
    · obtain rfl : k = n := by omega
      have hnlt : ¬ (k : Int) < k := by omega
      have hkX : (k : Int) ≤ X := by omega
      have hkl : k = cs.length := hl.out
      by_cases hd0 : nd = 0
      · have hds : ds = [] := List.eq_nil_of_length_eq_zero (by rw [← hl2.out]; exact hd0)
        have hM2 : MW wr (w.heap.size + 1) (ldW X cs ds) := by rw [hds, ← lay_all (by omega), ← hkl]; exact hMW
        subst hd0
        replace hkl := Hid.mk' hkl
        replace hds := Hid.mk' hds
        by_cases hXk : X = k
        · subst hXk
          go_wp2_with (first | (refine wpList_copy_nothing (by rfl) (.tmp 41) (.tmp 42) 43 43 (by rfl) 26 Try.underlying43 size26 _ _ _ _ 0 cd (by rfl) (by rfl) (by simp) ?_) | (refine wpList_plain (by rfl) fun K hK => wp_bdT 45 #[(3, .tmp 44)] (by rfl) (by rfl) (built45 (some ⟨w.heap.size + 1, 0, none⟩) X X (ldW X cs ds)) (hK _ _ ?_)) | (refine st45 (by rfl) (.tmp 6) (.tmp 45) (by rfl) w.heap.size (mcA { zM with me := ldW X cs ds } (some ⟨w.heap.size + 1, 0, none⟩) X X) (by rfl) (by rfl) (mcA_size zM_ok.r16 _ _ _) (mcA_one _ _ _ _) _ hsz hA ?_))
          exact bodyPost_ret (v := .tuple #[.agg (mcA { zM with me := ldW X cs ds } (some ⟨w.heap.size + 1, 0, none⟩) X X), .int .i64 0]) (res45b Try.results25 rfl rfl (mcA_size zM_ok.r16 _ _ _) (hA.setRow _)) rfl (ldYes hr.out hokR (hM2.block (setRow_other _ _ _ _ (by omega))) (by rw [ldW_len hle]) (by omega) (below_setRow hbl (Nat.le_refl _) _))
        · go_wp2_with (first | (refine wpList_copy_nothing (by rfl) (.tmp 41) (.tmp 42) 43 43 (by rfl) 26 Try.underlying43 size26 _ _ _ _ 0 cd (by rfl) (by rfl) (by simp) ?_) | (refine wpList_plain (by rfl) fun K hK => wp_bdT 45 #[(3, .tmp 44)] (by rfl) (by rfl) (built45 (some ⟨w.heap.size + 1, 0, none⟩) X X (ldW X cs ds)) (hK _ _ ?_)) | (refine st45 (by rfl) (.tmp 6) (.tmp 45) (by rfl) w.heap.size (mcA { zM with me := ldW X cs ds } (some ⟨w.heap.size + 1, 0, none⟩) X X) (by rfl) (by rfl) (mcA_size zM_ok.r16 _ _ _) (mcA_one _ _ _ _) _ hsz hA ?_))
          exact bodyPost_ret (v := .tuple #[.agg (mcA { zM with me := ldW X cs ds } (some ⟨w.heap.size + 1, 0, none⟩) X X), .int .i64 0]) (res45b Try.results25 rfl rfl (mcA_size zM_ok.r16 _ _ _) (hA.setRow _)) rfl (ldYes hr.out hokR (hM2.block (setRow_other _ _ _ _ (by omega))) (by rw [ldW_len hle]) (by omega) (below_setRow hbl (Nat.le_refl _) _))
      · have hXk : ¬ X = k := by omega
        obtain ⟨gd, od, rfl, hgd, hcd⟩ := (hD.here.below hbl).at0 (by omega)
        obtain ⟨C, hCA, hC⟩ := hMW
        have hC' := hC
        rw [hkl] at hC'
        have hCs : X ≤ C.size := by
          have h1 : (lay X cs k).length = X := lay_len (by omega) (by omega)
          have := (Array.getElem?_eq_some_iff.1 (hC (X - 1) (by omega))).1
          omega
        have hsrc : ∀ j v, (by64 ds)[j]? = some v → wr.cell? ((⟨gd, od, none⟩ : Addr).add j) = some v := fun j v hv => by
          have hj : j < ds.length := by have := (List.getElem?_eq_some_iff.1 hv).1; rwa [by64_len] at this
          rw [by64_get hj] at hv
          rw [Addr.add_mid, hcd j (by rw [hl2.out]; exact hj)]; exact hv
        have hM2 : MW (wr.setRow (w.heap.size + 1) (C.toList.take k ++ (by64 ds ++ C.toList.drop (k + (by64 ds).length))).toArray) (w.heap.size + 1) (ldW X cs ds) := ⟨_, hCA.setRow _, by have := ldW_splice hle hC'; rw [← hkl] at this; exact this⟩
        have A2 : Arr (wr.setRow (w.heap.size + 1) (C.toList.take k ++ (by64 ds ++ C.toList.drop (k + (by64 ds).length))).toArray) w.heap.size 45 (mcA zM none 0 0) := hA.setRowOther _ (by omega)
        replace hsrc := Hid.mk' hsrc
        replace hkl := Hid.mk' hkl
        clear hC hC' hcd
        go_wp2_with (first | (refine wpList_copy_own (by rfl) (.tmp 41) (.tmp 42) 43 43 (by rfl) 26 Try.underlying43 size26 (w.heap.size + 1) k (X - k) (X - k) ⟨gd, od, none⟩ nd cd (by rfl) (by rfl) C 26 hCA (by64 ds) (by rw [by64_len, ← hl2.out]; exact (Nat.min_eq_left (by omega)).symm) hsrc.out (by rw [by64_len, ← hl2.out]; omega) (by64_one _) ?_) | (refine wpList_plain (by rfl) fun K hK => wp_bdT 45 #[(3, .tmp 44)] (by rfl) (by rfl) (built45 (some ⟨w.heap.size + 1, 0, none⟩) X X (ldW X cs ds)) (hK _ _ ?_)) | (refine st45 (by rfl) (.tmp 6) (.tmp 45) (by rfl) w.heap.size (mcA { zM with me := ldW X cs ds } (some ⟨w.heap.size + 1, 0, none⟩) X X) (by rfl) (by rfl) (mcA_size zM_ok.r16 _ _ _) (mcA_one _ _ _ _) _ hsz A2 ?_))
        exact bodyPost_ret (v := .tuple #[.agg (mcA { zM with me := ldW X cs ds } (some ⟨w.heap.size + 1, 0, none⟩) X X), .int .i64 0]) (res45b Try.results25 rfl rfl (mcA_size zM_ok.r16 _ _ _) (A2.setRow _)) rfl (ldYes hr.out hokR (hM2.block (setRow_other _ _ _ _ (by omega))) (by rw [ldW_len hle]) (by omega) (below_setRow (below_setRow hbl (by omega) _) (Nat.le_refl _) _))
end Go.Proofs.Ytnjbmffgbgbjmaa
/- Layer vm: are two machines the same? -/
namespace Go.Proofs.Ytnjbmffgbgbjmaa
open Go.RowKit
set_option maxRecDepth 100000
set_option linter.unusedVariables false
set_option linter.unusedSimpArgs false


theorem eqItems64 (w : World) (d : Nat) (C D : Array Value) (f g : Nat → Int) :
    ∀ is : List Nat, (∀ i ∈ is, C[i]? = some (.int .u64 (f i))) → (∀ i ∈ is, D[i]? = some (.int .u64 (g i))) → (Op.eqItems (d + 1) 26 1 C D is).run Try.prog w = .ok (is.all fun i => f i == g i) w
  | [], _, _ => by simp [Op.eqItems]
  | i :: is, h, h' => by
    have hi := h i (by simp)
    have hi' := h' i (by simp)
    have ih := eqItems64 w d C D f g is (fun j hj => h j (by simp [hj])) (fun j hj => h' j (by simp [hj]))
    have ha := @Try.isAgg26
    by_cases he : f i = g i
    · simp [Op.eqItems, part, ha, hi, hi', run_equalIn_int w d 26 .u64 .u64 _ _ Try.underlying26, ih, he]
    · simp [Op.eqItems, part, ha, hi, hi', run_equalIn_int w d 26 .u64 .u64 _ _ Try.underlying26, ih, he]
theorem getD_ext {X Y : List Int} {n : Nat} (hX : X.length = n) (hY : Y.length = n) : ((List.range n).all fun i => X.getD i 0 == Y.getD i 0) = decide (X = Y) := by
  rw [Bool.eq_iff_iff]
  simp only [List.all_eq_true, List.mem_range, beq_iff_eq, decide_eq_true_eq]
  constructor
  · intro h
    apply List.ext_getElem (by omega)
    intro i h1 h2
    have := h i (by omega)
    simpa [List.getD_eq_getElem?_getD, List.getElem?_eq_getElem, h1, h2] using this
  · rintro rfl i _; rfl
theorem info26i : ∃ i0, Try.prog.info? 26 = some i0 ∧ i0.size = 1 := by
  have h := size26
  cases hq : Try.prog.info? 26 with
  | none => rw [hq] at h; cases h
  | some i => rw [hq] at h; exact ⟨i, rfl, by simpa using h⟩
theorem run_eqIn41 {X Y : List Int} (hX : X.length = 16) (hY : Y.length = 16) (w : World) : (Op.equalIn 10000 41 (.agg (by64 X).toArray) (.agg (by64 Y).toArray)).run Try.prog w = .ok (decide (X = Y)) w := by
  obtain ⟨i0, hi, -⟩ := info26i
  have hc : Try.prog.cellsOf 26 = 1 := by kernel_rfl
  rw [run_equalIn_array w 9999 _ _ Try.underlying41 hi, hc, eqItems64 w 9998 _ _ (fun i => X.getD i 0) (fun i => Y.getD i 0) (List.range 16) (fun i h => by simpa using by64_get (L := X) (t := i) (by rw [hX]; simpa using h)) (fun i h => by simpa using by64_get (L := Y) (t := i) (by rw [hY]; simpa using h)), getD_ext hX hY]
theorem run_eq41 {X Y : List Int} (hX : X.length = 16) (hY : Y.length = 16) (w : World) : (binOp .eql 41 (.agg (by64 X).toArray) (.agg (by64 Y).toArray)).run Try.prog w = .ok (.bool (decide (X = Y))) w := by
  rw [run_eql_struct, run_eqIn41 hX hY]; rfl
theorem run_neq41 {X Y : List Int} (hX : X.length = 16) (hY : Y.length = 16) (w : World) : (binOp .neq 41 (.agg (by64 X).toArray) (.agg (by64 Y).toArray)).run Try.prog w = .ok (.bool (!decide (X = Y))) w := by
  rw [run_neq_struct, run_eqIn41 hX hY]; rfl
theorem size41 : (Try.prog.info? 41).map (·.size) = some 16 := by kernel_rfl
theorem ld41g {ops : Array Oper} {rest : List Oper} {o : Oper} {a : Act} {w : World} {Q : Exit → Act → World → Prop} (hgd : Region.wanted o (yielded ops a.tmps) = true) (x : Operand) (ho : o.op = .load 41 x)
    (b off : Nat) (hx : a.eval x = .pointer (some ⟨b, off, none⟩)) (X : List Int) (hX : X.length = 16) (hc : w.rangeAt b off (by64 X))
    (h : wpList Try.prog ops Q rest (a.put o.dst (.agg (by64 X).toArray)) w) : wpList Try.prog ops Q (o :: rest) a w :=
  wpList_want hgd fun _ hK => wp_load_mid 41 x ho b off hx (by64 X) _ hc Try.underlying41 rfl (by rw [by64_len, hX]; exact size41) (hK _ _ h)
theorem mcA_range {w : World} {g ty : Nat} {m : Mc} {sp : Option Addr} {n cap : Nat} (hr : m.rg.length = 16) (h : Arr w g ty (mcA m sp n cap)) : w.rangeAt g 1 (by64 m.rg) := fun j v hv => by
  have hj : j < 16 := by have := (List.getElem?_eq_some_iff.1 hv).1; rw [by64_len, hr] at this; exact this
  rw [h.cell, mcA_r hr sp n cap hj]
  rw [by64_get (by rw [hr]; exact hj)] at hv
  exact hv
/-- Is all the same? -/
def smB (m k : Mc) : Bool := decide (m.pc = k.pc) && (decide (m.rg = k.rg) && (decide (m.st = k.st) && decide (m.me = k.me)))
theorem smB_self (m : Mc) : smB m m = true := by simp [smB]
theorem smB_iff {m k : Mc} : smB m k = true ↔ m = k := by
  obtain ⟨a, b, c, d⟩ := m
  obtain ⟨a', b', c', d'⟩ := k
  simp [smB]
theorem ne_of_len {L M : List Int} (h : ¬ L.length = M.length) : decide (L = M) = false := by
  simp
  intro e
  exact h (by rw [e])
set_option maxHeartbeats 1000000 in
theorem equal64_any (sp : Option Addr) (n cap : Nat) (sq : Option Addr) (k ck : Nat) (L M : List Int) (N : Nat) (w : World) (hS : MS N w sp n cap L) (hT : MS N w sq k ck M) :
    Calls Try.prog 33 #[.slice sp n cap, .slice sq k ck] w fun e w' => e = .returned (.bool (decide (L = M))) ∧ Below w.heap.size w w' := by
  have hl := hS.len
  have hk := hT.len
  have hsm := hS.small
  by_cases hne : n = k
  · have hNe : ((n : Int) != (k : Int)) = false := by simp; omega
    subst hne
    go_enter Try.func33, Try.ntmps33
    go_wp2_with fail
    go_loopw [13] (fun q wr => ∃ (j : Nat), q = .int .i64 (j : Int) ∧ j ≤ n ∧ Below w.heap.size w wr ∧ Hid (∀ t, t < j → L.getD t 0 = M.getD t 0))
      (fun q _ => n - (intOf q).toNat)
    case atStart => exact ⟨0, rfl, by omega, Below.refl _ _, Hid.mk' (fun t ht => by omega)⟩
    case round =>
      obtain ⟨j, rfl, hj, hbl, hall⟩ := hrel
      by_cases hlt : j < n
      · have hI : (j : Int) < n := by omega
        obtain ⟨g, off, rfl, hg, hc⟩ := (hS.here.below hbl).at0 (by omega)
        obtain ⟨g2, off2, rfl, hg2, hc2⟩ := (hT.here.below hbl).at0 (by omega)
        have d1 := hc j hlt
        have d2 := hc2 j hlt
        by_cases he : L.getD j 0 = M.getD j 0
        · have he' : (L.getD j 0 != M.getD j 0) = false := by simpa using he
          have hn2 : Hid (∀ t, t < j + 1 → L.getD t 0 = M.getD t 0) := Hid.mk' (fun t ht => by
            by_cases e : t = j
            · subst e; exact he
            · exact hall.out t (by omega))
          generalize L.getD j 0 = a at *
          generalize M.getD j 0 = b at *
          replace he := Hid.mk' he
          clear hc hc2
          go_upto_region 6 with fail
          refine wp_region_held_drew (S := fun u => u = wr.drew) (by kernel_rfl) (rfl) (fun hHeld => ?_)
          refine wpAnyH_take (i := 0) (oi := ⟨_, _, _, _, _, _⟩) (v := ?_) rfl (by kernel_rfl) (by kernel_rfl) (by kernel_rfl) (fun _ _ _ h => h) (Or.inl ⟨by rfl, ?_⟩) (by assumption) ?_
          rotate_left
          · intro u hSw
            go_simp
            try (with_reducible rfl)
          try simp only [Act.put, List.setIfInBounds_toArray, List.set_cons_zero, List.set_cons_succ]
          refine wpAnyH_take (i := 1) (oi := ⟨_, _, _, _, _, _⟩) (v := ?_) rfl (by kernel_rfl) (by kernel_rfl) (by kernel_rfl) (fun _ _ _ h => h) (Or.inl ⟨by rfl, ?_⟩) (by assumption) ?_
          rotate_left
          · intro u hSw
            go_simp
            try (with_reducible rfl)
          try simp only [Act.put, List.setIfInBounds_toArray, List.set_cons_zero, List.set_cons_succ]
          refine wpAnyH_take (i := 2) (oi := ⟨_, _, _, _, _, _⟩) (v := ?_) rfl (by kernel_rfl) (by kernel_rfl) (by kernel_rfl) (fun _ _ _ h => h) (Or.inl ⟨by rfl, ?_⟩) (by assumption) ?_
          rotate_left
          · intro u hSw
            go_simp
            try (with_reducible rfl)
          try simp only [Act.put, List.setIfInBounds_toArray, List.set_cons_zero, List.set_cons_succ]
          refine wpAnyH_take (i := 3) (oi := ⟨_, _, _, _, _, _⟩) (v := ?_) rfl (by kernel_rfl) (by kernel_rfl) (by kernel_rfl) (fun _ _ _ h => h) (Or.inl ⟨by rfl, ?_⟩) (by assumption) ?_
          rotate_left
          · intro u hSw
            subst hSw
            go_simp
            try (with_reducible rfl)
          try simp only [Act.put, List.setIfInBounds_toArray, List.set_cons_zero, List.set_cons_succ]
          refine wpAnyH_take (i := 4) (oi := ⟨_, _, _, _, _, _⟩) (v := ?_) rfl (by kernel_rfl) (by kernel_rfl) (by kernel_rfl) (fun _ _ _ h => h) (Or.inl ⟨by rfl, ?_⟩) (by assumption) ?_
          rotate_left
          · intro u hSw
            go_simp
            try (with_reducible rfl)
          try simp only [Act.put, List.setIfInBounds_toArray, List.set_cons_zero, List.set_cons_succ]
          refine wpAnyH_take (i := 5) (oi := ⟨_, _, _, _, _, _⟩) (v := ?_) rfl (by kernel_rfl) (by kernel_rfl) (by kernel_rfl) (fun _ _ _ h => h) (Or.inl ⟨by rfl, ?_⟩) (by assumption) ?_
          rotate_left
          · intro u hSw
            go_simp
            try (with_reducible rfl)
          try simp only [Act.put, List.setIfInBounds_toArray, List.set_cons_zero, List.set_cons_succ]
          refine wpAnyH_take (i := 6) (oi := ⟨_, _, _, _, _, _⟩) (v := ?_) rfl (by kernel_rfl) (by kernel_rfl) (by kernel_rfl) (fun _ _ _ h => h) (Or.inl ⟨by rfl, ?_⟩) (by assumption) ?_
          rotate_left
          · intro u hSw
            go_simp
            try (with_reducible rfl)
          try simp only [Act.put, List.setIfInBounds_toArray, List.set_cons_zero, List.set_cons_succ]
          refine wpAnyH_take (i := 7) (oi := ⟨_, _, _, _, _, _⟩) (v := ?_) rfl (by kernel_rfl) (by kernel_rfl) (by kernel_rfl) (fun _ _ _ h => h) (Or.inl ⟨by rfl, ?_⟩) (by assumption) ?_
          rotate_left
          · intro u hSw
            subst hSw
            go_simp
            try (with_reducible rfl)
          try simp only [Act.put, List.setIfInBounds_toArray, List.set_cons_zero, List.set_cons_succ]
          refine wpAnyH_take (i := 8) (oi := ⟨_, _, _, _, _, _⟩) (v := ?_) rfl (by kernel_rfl) (by kernel_rfl) (by kernel_rfl) (fun _ _ _ h => h) (Or.inl ⟨by rfl, ?_⟩) (by assumption) ?_
          rotate_left
          · intro u hSw
            go_simp
            try (with_reducible rfl)
          try simp only [Act.put, List.setIfInBounds_toArray, List.set_cons_zero, List.set_cons_succ]
          refine wpAnyH_done (by kernel_rfl) ?_ _
          go_wp2_with fail
          go_roundw
          case rel => exact ⟨j + 1, by go_num, by omega, hbl.drew, hn2⟩
          case measure => simp [intOf]; omega
        · have he' : (L.getD j 0 != M.getD j 0) = true := by simpa using he
          have hf : Hid (decide (L = M) = false) := Hid.mk' (by simp; intro e; subst e; exact he rfl)
          generalize L.getD j 0 = a at *
          generalize M.getD j 0 = b at *
          replace he := Hid.mk' he
          clear hc hc2
          go_upto_region 6 with fail
          refine wp_region_held_drew (S := fun u => u = wr.drew) (by kernel_rfl) (rfl) (fun hHeld => ?_)
          refine wpAnyH_take (i := 0) (oi := ⟨_, _, _, _, _, _⟩) (v := ?_) rfl (by kernel_rfl) (by kernel_rfl) (by kernel_rfl) (fun _ _ _ h => h) (Or.inl ⟨by rfl, ?_⟩) (by assumption) ?_
          rotate_left
          · intro u hSw
            go_simp
            try (with_reducible rfl)
          try simp only [Act.put, List.setIfInBounds_toArray, List.set_cons_zero, List.set_cons_succ]
          refine wpAnyH_take (i := 1) (oi := ⟨_, _, _, _, _, _⟩) (v := ?_) rfl (by kernel_rfl) (by kernel_rfl) (by kernel_rfl) (fun _ _ _ h => h) (Or.inl ⟨by rfl, ?_⟩) (by assumption) ?_
          rotate_left
          · intro u hSw
            go_simp
            try (with_reducible rfl)
          try simp only [Act.put, List.setIfInBounds_toArray, List.set_cons_zero, List.set_cons_succ]
          refine wpAnyH_take (i := 2) (oi := ⟨_, _, _, _, _, _⟩) (v := ?_) rfl (by kernel_rfl) (by kernel_rfl) (by kernel_rfl) (fun _ _ _ h => h) (Or.inl ⟨by rfl, ?_⟩) (by assumption) ?_
          rotate_left
          · intro u hSw
            go_simp
            try (with_reducible rfl)
          try simp only [Act.put, List.setIfInBounds_toArray, List.set_cons_zero, List.set_cons_succ]
          refine wpAnyH_take (i := 3) (oi := ⟨_, _, _, _, _, _⟩) (v := ?_) rfl (by kernel_rfl) (by kernel_rfl) (by kernel_rfl) (fun _ _ _ h => h) (Or.inl ⟨by rfl, ?_⟩) (by assumption) ?_
          rotate_left
          · intro u hSw
            subst hSw
            go_simp
            try (with_reducible rfl)
          try simp only [Act.put, List.setIfInBounds_toArray, List.set_cons_zero, List.set_cons_succ]
          refine wpAnyH_take (i := 4) (oi := ⟨_, _, _, _, _, _⟩) (v := ?_) rfl (by kernel_rfl) (by kernel_rfl) (by kernel_rfl) (fun _ _ _ h => h) (Or.inl ⟨by rfl, ?_⟩) (by assumption) ?_
          rotate_left
          · intro u hSw
            go_simp
            try (with_reducible rfl)
          try simp only [Act.put, List.setIfInBounds_toArray, List.set_cons_zero, List.set_cons_succ]
          refine wpAnyH_take (i := 5) (oi := ⟨_, _, _, _, _, _⟩) (v := ?_) rfl (by kernel_rfl) (by kernel_rfl) (by kernel_rfl) (fun _ _ _ h => h) (Or.inl ⟨by rfl, ?_⟩) (by assumption) ?_
          rotate_left
          · intro u hSw
            go_simp
            try (with_reducible rfl)
          try simp only [Act.put, List.setIfInBounds_toArray, List.set_cons_zero, List.set_cons_succ]
          refine wpAnyH_take (i := 6) (oi := ⟨_, _, _, _, _, _⟩) (v := ?_) rfl (by kernel_rfl) (by kernel_rfl) (by kernel_rfl) (fun _ _ _ h => h) (Or.inl ⟨by rfl, ?_⟩) (by assumption) ?_
          rotate_left
          · intro u hSw
            go_simp
            try (with_reducible rfl)
          try simp only [Act.put, List.setIfInBounds_toArray, List.set_cons_zero, List.set_cons_succ]
          refine wpAnyH_take (i := 7) (oi := ⟨_, _, _, _, _, _⟩) (v := ?_) rfl (by kernel_rfl) (by kernel_rfl) (by kernel_rfl) (fun _ _ _ h => h) (Or.inl ⟨by rfl, ?_⟩) (by assumption) ?_
          rotate_left
          · intro u hSw
            subst hSw
            go_simp
            try (with_reducible rfl)
          try simp only [Act.put, List.setIfInBounds_toArray, List.set_cons_zero, List.set_cons_succ]
          refine wpAnyH_take (i := 8) (oi := ⟨_, _, _, _, _, _⟩) (v := ?_) rfl (by kernel_rfl) (by kernel_rfl) (by kernel_rfl) (fun _ _ _ h => h) (Or.inl ⟨by rfl, ?_⟩) (by assumption) ?_
          rotate_left
          · intro u hSw
            go_simp
            try (with_reducible rfl)
          try simp only [Act.put, List.setIfInBounds_toArray, List.set_cons_zero, List.set_cons_succ]
          refine wpAnyH_done (by kernel_rfl) ?_ _
          go_wp2_with fail
          go_ret
          exact ⟨by rw [hf.out]; rfl, hbl.drew⟩
      · obtain rfl : j = n := by omega
        have hf : Hid (decide (L = M) = true) := Hid.mk' (by
          rw [← getD_ext hl.out.symm hk.out.symm, List.all_eq_true]
          intro i hi
          have := hall.out i (by simpa using hi)
          simpa using this)
        go_wp2_with fail
        go_ret
        exact ⟨by rw [hf.out]; rfl, hbl⟩
  · have hNe : ((n : Int) != (k : Int)) = true := by simp; omega
    have hf : Hid (decide (L = M) = false) := Hid.mk' (ne_of_len (by rw [← hl.out, ← hk.out]; exact hne))
    go_enter Try.func33, Try.ntmps33
    go_wp2_with fail
    go_ret
    exact ⟨by rw [hf.out]; rfl, Below.refl _ _⟩

set_option maxHeartbeats 2000000 in
theorem same_any (m k : Mc) (sp : Option Addr) (n cap : Nat) (sq : Option Addr) (nq cq : Nat) (N : Nat) (w : World) (hok : m.ok) (hok2 : k.ok) (hS : MS N w sp n cap m.me) (hT : MS N w sq nq cq k.me) :
    Calls Try.prog 22 #[.agg (mcA m sp n cap), .agg (mcA k sq nq cq)] w fun e w' => e = .returned (.bool (smB m k)) ∧ Below w.heap.size w w' := by
  have A0 := (Arr.new w 45 (mcA m sp n cap)).alloc (.cells (mcA k sq nq cq) 45)
  have A1 := Arr.new (w.alloc (.cells (mcA m sp n cap) 45)) 45 (mcA k sq nq cq)
  simp only [World.size_alloc] at A1
  have hb0 := (alloc_bel' w (.cells (mcA m sp n cap) 45)).alloc (by simp) (.cells (mcA k sq nq cq) 45)
  have hS' := hS.here.below hb0
  have hT' := hT.here.below hb0
  have r1 := mcA_range hok.r16 A0
  have r2 := mcA_range hok2.r16 A1
  have a0 := (A0.cell 0).trans (mcA_0 m sp n cap)
  have a17 := (A0.cell 17).trans (mcA_17 hok.r16 sp n cap)
  have a18 := (A0.cell 18).trans (mcA_18 hok.r16 sp n cap)
  have b0 := (A1.cell 0).trans (mcA_0 k sq nq cq)
  have b17 := (A1.cell 17).trans (mcA_17 hok2.r16 sq nq cq)
  have b18 := (A1.cell 18).trans (mcA_18 hok2.r16 sq nq cq)
  have h16 := hok.r16
  have h16' := hok2.r16
  unfold smB
  generalize mcA m sp n cap = C at *
  generalize mcA k sq nq cq = D at *
  have q1 := run_eq41 h16 h16'
  by_cases e1 : m.pc = k.pc
  rotate_left
  · have e1' : (m.pc == k.pc) = false := by simpa using e1
    rw [decide_eq_false e1]
    replace e1 := Hid.mk' e1
    go_enter Try.func22, Try.ntmps22
    go_wp2_with fail
    go_ret
    exact ⟨rfl, hb0⟩
  have e1' : (m.pc == k.pc) = true := by simpa using e1
  rw [decide_eq_true e1]
  replace e1 := Hid.mk' e1
  by_cases e2 : m.rg = k.rg
  rotate_left
  · rw [decide_eq_false e2] at q1 ⊢
    replace e2 := Hid.mk' e2
    go_enter Try.func22, Try.ntmps22
    go_wp2_with (first
    | (refine ld41g (by rfl) (.tmp 11) (by rfl) w.heap.size 1 (by rfl) m.rg h16 r1 ?_)
    | (refine ld41g (by rfl) (.tmp 13) (by rfl) (w.heap.size + 1) 1 (by rfl) k.rg h16' r2 ?_))
    go_ret
    exact ⟨rfl, hb0⟩
  rw [decide_eq_true e2] at q1 ⊢
  replace e2 := Hid.mk' e2
  by_cases e3 : m.st = k.st
  rotate_left
  · have e3' : (m.st == k.st) = false := by simpa using e3
    rw [decide_eq_false e3]
    replace e3 := Hid.mk' e3
    go_enter Try.func22, Try.ntmps22
    go_wp2_with (first
    | (refine ld41g (by rfl) (.tmp 11) (by rfl) w.heap.size 1 (by rfl) m.rg h16 r1 ?_)
    | (refine ld41g (by rfl) (.tmp 13) (by rfl) (w.heap.size + 1) 1 (by rfl) k.rg h16' r2 ?_))
    go_ret
    exact ⟨rfl, hb0⟩
  have e3' : (m.st == k.st) = true := by simpa using e3
  rw [decide_eq_true e3]
  replace e3 := Hid.mk' e3
  go_enter Try.func22, Try.ntmps22
  go_wp2_with (first
    | (refine ld41g (by rfl) (.tmp 11) (by rfl) w.heap.size 1 (by rfl) m.rg h16 r1 ?_)
    | (refine ld41g (by rfl) (.tmp 13) (by rfl) (w.heap.size + 1) 1 (by rfl) k.rg h16' r2 ?_)
    | (go_at_call 33; go_must (refine (equal64_any sp n cap sq nq cq m.me k.me _ _ hS' hT').mono ?_; rintro e w1 ⟨rfl, hb1⟩)))
  go_ret
  exact ⟨by simp, hb0.trans (hb1.mono (by simp; omega))⟩
end Go.Proofs.Ytnjbmffgbgbjmaa
