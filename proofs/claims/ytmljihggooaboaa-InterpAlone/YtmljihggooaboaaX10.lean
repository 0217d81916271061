/- Im, In0. -/
import Derived.Test.YtmljihggooaboaaX09
import Derived.Handy
import Derived.BigQuiet
import Derived.BigRegion
import Derived.Laws.MakeOwn
import Derived.Laws.CopyOwn
import Derived.Laws.Rows
/- Layer interp: a function that goes on to its end. -/
namespace Go.Proofs.Ytmljihggooaboaa
open Go.RowKit
set_option maxRecDepth 100000
set_option linter.unusedVariables false
set_option linter.unusedSimpArgs false

theorem tm26 (p q : Addr) (v : Value) : (#[Value.pointer (some p), Value.pointer (some q)] ++ (Array.replicate 19 undef).setIfInBounds 5 v) = #[.pointer (some p), .pointer (some q), undef, undef, undef, undef, undef, v, undef, undef, undef, undef, undef, undef, undef, undef, undef, undef, undef, undef, undef] := by kernel_rfl
theorem nilI0 (w : World) : (binOp .eql 20 .nilIface .nilIface).run Try.prog w = .ok (.bool true) w := by kernel_rfl
theorem catch_idle26 (p q : Addr) (w : World) :
    CallsD Try.prog 26 #[.pointer (some p), .pointer (some q)] .returning w fun e u' w' => e = .returned (.tuple #[]) ∧ u' = .returning ∧ w' = w := by
  have h1 := nilI0
  refine callsD_of_wpS Try.func26 rfl fun c₀ cs hu => ?_
  apply wpS_seq
  apply wpS_region
  simp [wpOpsS, go_sem, recoverD, hu, Try.ntmps26, Exit.thenS]
  refine wpS_of_wp ?_
  rw [tm26]
  go_wp2
  cases c₀
  simp_all [bodyPostS, results, Try.results26]
theorem resF {f : Func} {w : World} {tmps : Array Value} {g k : Nat} {x y : Int} (hf : f.results = #[.cell 6 30, .cell 7 29]) (hp : tmps.getD 6 undef = .pointer (some ⟨g, 0, none⟩)) (hk : tmps.getD 7 undef = .pointer (some ⟨k, 0, none⟩)) (hx : w.cell? ⟨g, 0, none⟩ = some (.int .u64 x)) (hy : w.cell? ⟨k, 0, none⟩ = some (.int .u8 y)) :
    (results f tmps).run Try.prog w = .ok (.tuple #[.int .u64 x, .int .u8 y]) w := by
  have hp' : tmps[6]?.getD undef = .pointer (some ⟨g, 0, none⟩) := by simpa using hp
  have hk' : tmps[7]?.getD undef = .pointer (some ⟨k, 0, none⟩) := by simpa using hk
  have hl1 : (loadVar 30 ⟨g, 0, none⟩).run Try.prog w = .ok (.int .u64 x) w := by simp [go_sem, hx]
  have hl2 : (loadVar 29 ⟨k, 0, none⟩).run Try.prog w = .ok (.int .u8 y) w := by simp [go_sem, hy]
  simp [results, hf, hp', hk', asAddr, hl1, hl2]
theorem s30 : (Try.prog.info? 30).map (·.size) = some 1 := by kernel_rfl
theorem made_uA (n : Nat) : madeCells #[Value.int .u64 0] n = uA (List.replicate n 0) := by
  apply Array.ext_getElem?
  intro i
  by_cases h : i < n
  · rw [uA_get (by simpa using h)]
    simp [madeCells, h, Array.getElem?_eq_getElem, Nat.mod_one]
  · rw [Array.getElem?_eq_none (by rw [size_madeCells]; omega), Array.getElem?_eq_none (by rw [uA_size]; simp; omega)]
variable {N gr gw n : Nat} {p0 p1 kv mv : Value} {W : List Int} {lf : Nat} {d : Nat}
set_option maxHeartbeats 2000000 in
theorem function_on {p v : Int} {nv : Nat} {sp : Option Addr} {m cap : Nat} {l : List (StT (d + 1))} (S : Nat → SS) (w : World) (hN : N ≤ w.heap.size) (hI : RunI gr gw n p0 p1 kv mv W lf w) (hgr : N ≤ gr) (hgw : N ≤ gw) (hv : v = nv) (hnv : nv ≤ 64) (hS0 : S 0 = ⟨W, List.replicate nv 0, lf⟩) (hS : RS N w 7 (StM N w (d + 1)) sp m cap l)
    (hst : ∀ (gv j : Nat) (t : StT (d + 1)) (u : World) (cs : List Value), l[j]? = some t → N ≤ u.heap.size → StI N gr gw n p0 p1 kv mv gv nv (S j).W (S j).V (S j).lf u → StM N u (d + 1) cs t → Calls Try.prog 35 (stArgs gr gv nv cs) u (StP N gr gw n p0 p1 kv mv gv nv ⟨0, 0, S (j + 1)⟩ u)) :
    Calls Try.prog 18 #[.pointer (some ⟨gr, 0, none⟩), .agg (fuC p v (.slice sp m cap)).toArray, .slice none 0 0] w fun e w' => e = .returned (.tuple #[.int .u64 0, .int .u8 1]) ∧ RunI gr gw n p0 p1 kv mv (S m).W (S m).lf w' ∧ Ch (fun k => k = gr ∨ k = gw) w w' := by
  subst hv
  have hmf : ∀ (fn : Fn) (first cap : Array Value) (w : World), (Instr.makeFunc fn first cap).run Try.prog w = .ok (.func fn first cap) w := fun _ _ _ _ => rfl
  have hmk := fun (u : World) => mk25 nv nv u (by omega) (by omega)
  have hgl := hI.ar.lt
  have hwl := hI.aw.lt
  have b0 : Below w.heap.size w ((((w.alloc (.cells (fuC p nv (.slice sp m cap)).toArray 52)).alloc (.cells #[.int .u64 0] 30)).alloc (.cells #[.int .u8 0] 29)).alloc (.cells (madeCells #[.int .u64 0] nv) 30)) := (((ab w _).alloc (by simp) _).alloc (by simp; omega) _).alloc (by simp; omega) _
  have A1 := (((Arr.new (w.alloc (.cells (fuC p nv (.slice sp m cap)).toArray 52)) 30 #[.int .u64 0]).alloc (.cells #[.int .u8 0] 29))).alloc (.cells (madeCells #[.int .u64 0] nv) 30)
  have A2 := (Arr.new ((w.alloc (.cells (fuC p nv (.slice sp m cap)).toArray 52)).alloc (.cells #[.int .u64 0] 30)) 29 #[.int .u8 0]).alloc (.cells (madeCells #[.int .u64 0] nv) 30)
  have A3 := Arr.new (((w.alloc (.cells (fuC p nv (.slice sp m cap)).toArray 52)).alloc (.cells #[.int .u64 0] 30)).alloc (.cells #[.int .u8 0] 29)) 30 (madeCells #[.int .u64 0] nv)
  simp only [World.size_alloc] at A1 A2 A3
  rw [made_uA] at A3
  have hI1 := hI.bl b0
  have hSt : StI N gr gw n p0 p1 kv mv (w.heap.size + 1 + 1 + 1) nv (S 0).W (S 0).V (S 0).lf ((((w.alloc (.cells (fuC p nv (.slice sp m cap)).toArray 52)).alloc (.cells #[.int .u64 0] 30)).alloc (.cells #[.int .u8 0] 29)).alloc (.cells (madeCells #[.int .u64 0] nv) 30)) := by
    rw [hS0]
    refine ⟨hI1, ⟨by rw [made_uA] at *; exact A3, hid (by simp), hnv, fun x hx => by rw [(List.mem_replicate.1 hx).2]; simp [U64]⟩, by omega, by omega, hgr, hgw, by omega⟩
  have hon := stmts_on S _ (by simp; omega) hSt (hS.imp (b0.mono hN) (StM.below (b0.mono hN) (d + 1))) (hst (w.heap.size + 1 + 1 + 1))
  clear hS hst hI1 hSt A3
  unfold fuC at *
  go_enter_defers Try.func18, Try.ntmps18
  go_wp2_with (first
    | (refine wpList_copy_nothing (by rfl) (.tmp 13) (.tmp 14) 25 25 (by rfl) 30 Try.underlying25 (by exact s30) _ _ nv nv 0 0 (by rfl) (by rfl) (Nat.zero_min nv) ?_)
    | (go_at_call 27; go_must (refine hon.mono ?_; rintro e w2 ⟨he, hI2, hc2⟩; replace he : e = .returned (.tuple #[]) := he; subst he; have A1' := hc2.arr A1 (by rintro (e | e | e) <;> omega); have A2' := hc2.arr A2 (by rintro (e | e | e) <;> omega); have c1 := A1'.cell 0; have f1 := A1'.frozen 0; have c2 := (A2'.setOther (a := ⟨w.heap.size + 1, 0, none⟩) (.int .u64 0) (by show w.heap.size + 1 + 1 ≠ w.heap.size + 1; omega)).cell 0; have f2 := (A2'.setOther (a := ⟨w.heap.size + 1, 0, none⟩) (.int .u64 0) (by show w.heap.size + 1 + 1 ≠ w.heap.size + 1; omega)).frozen 0)))
  refine leaves_cons (f := 26) (args := #[.pointer (some ⟨w.heap.size + 1, 0, none⟩), .pointer (some ⟨w.heap.size + 1 + 1, 0, none⟩)]) (by simp) (by simp [go_sem]) ?_
  refine (catch_idle26 ⟨w.heap.size + 1, 0, none⟩ ⟨w.heap.size + 1 + 1, 0, none⟩ _).mono ?_
  rintro e u' w'' ⟨rfl, rfl, rfl⟩
  have B1 := (A1'.set 0 (.int .u64 0)).setOther (a := ⟨w.heap.size + 1 + 1, 0, none⟩) (.int .u8 1) (by show w.heap.size + 1 ≠ w.heap.size + 1 + 1; omega)
  have B2 := (A2'.setOther (a := ⟨w.heap.size + 1, 0, none⟩) (.int .u64 0) (by show w.heap.size + 1 + 1 ≠ w.heap.size + 1; omega)).set 0 (.int .u8 1)
  have hR := hI2.run
  refine ⟨.tuple #[.int .u64 0, .int .u8 1], resF Try.results18 rfl rfl (B1.cell 0) (B2.cell 0), rfl, ?_, ?_⟩
  · exact ⟨(hR.ar.setOther _ (by show gr ≠ w.heap.size + 1; omega)).setOther _ (by show gr ≠ w.heap.size + 1 + 1; omega), (hR.aw.setOther _ (by show gw ≠ w.heap.size + 1; omega)).setOther _ (by show gw ≠ w.heap.size + 1 + 1; omega), hR.ne, hR.len, hR.n10, hR.wU⟩
  · have h3 : Ch (fun k => k = gr ∨ k = gw ∨ w.heap.size ≤ k) w w2 := ((Ch.ob b0).mono fun i hi h => h).trans (hc2.mono fun i hi h => by
      rcases h with h | h | h
      · exact .inl h
      · exact .inr (.inl h)
      · exact .inr (.inr (by omega)))
    have h4 := (h3.st (g := w.heap.size + 1) (j := 0) (.int .u64 0) (fun h => by omega)).st (g := w.heap.size + 1 + 1) (j := 0) (.int .u8 1) (fun h => by omega)
    exact h4.mono fun i hi h => by
      rcases h with h | h | h
      · exact .inl h
      · exact .inr h
      · omega
end Go.Proofs.Ytmljihggooaboaa
/- Layer interp: what is known, at first. -/
namespace Go.Proofs.Ytmljihggooaboaa
open Go.RowKit
set_option maxRecDepth 100000
set_option linter.unusedVariables false
set_option linter.unusedSimpArgs false

theorem newShelf_any (sk : Option Addr) (nk ck : Nat) (w : World) :
    Calls Try.prog 17 #[.slice sk nk ck] w fun e w' => ∃ gp, e = .returned (.agg #[.slice sk nk ck, .map (some gp)]) ∧ w.heap.size ≤ gp ∧ w'.heap[gp]? = some (.map #[] 0) ∧ Below w.heap.size w w' := by
  have hmm := @run_makeMap Try.prog
  go_enter Try.func17, Try.ntmps17
  go_wp2
  exact bodyPost_ret (v := .agg #[.slice sk nk ck, .map (some (w.heap.size + 1))]) (results_cell_row Try.results17 _ _ w.heap.size 62 _ (0, 0) _ rfl ((Arr.new w 62 _).alloc _) Try.underlying62 rfl (by kernel_rfl)) rfl ⟨_, rfl, by omega, by simpa using heap_alloc_new (w.alloc (.cells #[.slice sk nk ck, .map (some (w.heap.size + 1))] 62)) (.map #[] 0), (ab w _).alloc (by simp) _⟩
end Go.Proofs.Ytmljihggooaboaa
