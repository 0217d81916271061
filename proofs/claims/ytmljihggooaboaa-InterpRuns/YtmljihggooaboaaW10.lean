/- Iz, Ja, Jb, Jc. -/
import Derived.Test.YtmljihggooaboaaW09
import Derived.Handy
import Derived.BigQuiet
import Derived.BigRegion
import Derived.Laws.MakeOwn
import Derived.Test.YtmljihggooaboaaW07
import Derived.Recover
import Derived.Laws.CopyOwn
/- Layer interp: a store beyond the data. -/
namespace Go.Proofs.Ytmljihggooaboaa
open Go.RowKit
set_option maxRecDepth 100000
set_option linter.unusedVariables false
set_option linter.unusedSimpArgs false

variable {X : World → Prop} {Z N gr gw n gm : Nat} {p0 p1 kv mv : Value} {gv nv : Nat} {W V : List Int} {d k : Nat} {t : StT (d + 1)} {cs : List Value} {ps : List Int}
set_option maxHeartbeats 1000000 in
theorem stmt_stno {q x : Int} (w : World) (hN : N ≤ w.heap.size) (hX : XK X Z gr gw) (h : KI X Z N gr gw n p0 p1 kv mv gv nv ⟨W, V, k + 1⟩ w) (hM : StM N w (d + 1) cs t) (hok : okS ps nv (d + 1) t) (hps : ∀ p ∈ ps, p ≤ 64) (h1 : t.nd.k = 2) (hev : evs W V 8 t.nd.a = some [q, x]) (hq : ¬ q < n) :
    Calls Try.prog 35 (stArgs gr gv nv cs) w (KP (KI X Z N gr gw n p0 p1 kv mv gv nv) (PP gr gw gm gv) ⟨2, 0, ⟨W, V, k⟩⟩ w) := by
  refine Calls.mono (R := StP N gr gw n p0 p1 kv mv gv nv ⟨2, 0, ⟨W, V, k⟩⟩ w) ?_ (fun e w' hp => h.of hX (by simp) hp)
  obtain ⟨hmy, hoa, -, -⟩ := okS_s hok
  obtain ⟨sa, na, ca, sb, nb, cb, sc, nc, cc, hcs, hk0, hSa, hSb, hSc⟩ := hM
  rw [h1] at hcs
  subst hcs
  have hI := h.st
  replace hI : StI N gr gw n p0 p1 kv mv gv nv W V ((k + 1 : Nat) : Int) w := hI
  have hk : k ≤ 4194304 := by have := h.lf; simp at this; omega
  have b0 := ab w (.cells (stC 2 t.nd.v t.nd.f t.nd.t (.slice sa na ca) (.slice sb nb cb) (.slice sc nc cc)).toArray 78)
  have hI1 := hI.bl b0
  have hbn := burn_ok _ hI1.run hk
  obtain ⟨hI2, hvs⟩ := begun (k := k) _ (by simp; omega) hI1 (hSa.imp (b0.mono hN) (ExM.below (b0.mono hN) 8)) hoa (by rw [hSa.len.out]; exact fewS hps hmy)
  have A := (Arr.new w 78 (stC 2 t.nd.v t.nd.f t.nd.t (.slice sa na ca) (.slice sb nb cb) (.slice sc nc cc)).toArray).setOther (a := ⟨gr, 3, none⟩) (.int .i64 (k : Int)) (by have := hI.run.ar.lt; show w.heap.size ≠ gr; omega)
  have a4 := A.cell 4
  have hc : Ch (fun k => k = gr ∨ k = gw ∨ k = gv) w ((w.alloc (.cells (stC 2 t.nd.v t.nd.f t.nd.t (.slice sa na ca) (.slice sb nb cb) (.slice sc nc cc)).toArray 78)).setCell ⟨gr, 3, none⟩ (.int .i64 (k : Int))) := (Ch.ob b0).st _ (fun _ => .inl rfl)
  rw [hev] at hvs
  clear hI hSa hSb hSc hoa hmy hok hI1 h1 hev h hX
  unfold stArgs
  generalize hQ : ((w.alloc (.cells (stC 2 t.nd.v t.nd.f t.nd.t (.slice sa na ca) (.slice sb nb cb) (.slice sc nc cc)).toArray 78)).setCell ⟨gr, 3, none⟩ (.int .i64 (k : Int))) = Q at *
  unfold stC at *
  go_enter Try.func35, Try.ntmps35
  go_upto_region 7 with (first
    | (go_at_call 42; go_must (refine hbn.mono ?_; rintro e w1 ⟨rfl, h, -⟩; replace h := h.symm; subst h))
    | (go_at_call 43; go_must (refine hvs.mono ?_; rintro e w2 ⟨hn, -, hb2⟩; obtain ⟨g, c, hn', hg, hcl, hlc, hgl⟩ := hn _ rfl; subst hn'; have A2 := A.bl hb2; have k0 := A2.cell 0; have x0 := hcl 0 _ rfl; have x1 := hcl 1 _ rfl; have hI3 := hI2.bl hb2)))
  have hwd := word_no (x := q) w2.drew hI3.dw.run hq
  refine rgn (fun u => u.cell? ⟨g, 0, none⟩ = some (.int .u64 q) ∧ u.cell? ⟨g, 1, none⟩ = some (.int .u64 x)) ⟨x0, x1⟩ (fun hS => ?_)
  refine tk2 0 rfl ?_
  refine tk2 1 rfl ?_
  refine tk2 2 rfl ?_
  refine tk2 3 rfl ?_
  refine tk2 5 rfl ?_
  refine tk2 6 rfl ?_
  refine tk2 7 rfl ?_
  refine rd 4 rfl (fun K hK => ?_)
  go_simp
  refine hwd.mono ?_
  rintro e w4 ⟨rfl, h⟩
  replace h := h.symm
  subst h
  exact ⟨rfl, rfl, hI3.dw, (hc.trans (Ch.ob hb2)).dw⟩
end Go.Proofs.Ytmljihggooaboaa
/- Layer interp: what is caught. -/
namespace Go.Proofs.Ytmljihggooaboaa
open Go.RowKit
set_option maxRecDepth 100000
set_option linter.unusedVariables false
set_option linter.unusedSimpArgs false

theorem zr91 (w : World) : (binOp .eql 20 (.iface 93 (.agg #[])) .nilIface).run Try.prog w = .ok (.bool false) w := by rfl
theorem zr94 (w : World) : (binOp .eql 20 (.iface 94 (.agg #[])) .nilIface).run Try.prog w = .ok (.bool false) w := by rfl
theorem zrre (x : Int) (w : World) : (binOp .eql 20 (.iface 91 (.agg #[.int .u64 x])) .nilIface).run Try.prog w = .ok (.bool false) w := by rfl
theorem as93 (w : World) : (Instr.typeAssert (.iface 93 (.agg #[])) 20 93 true).run Try.prog w = .ok (.tuple #[.agg #[], .bool true]) w := by kernel_rfl
theorem as9391 (w : World) : (Instr.typeAssert (.iface 93 (.agg #[])) 20 91 true).run Try.prog w = .ok (.tuple #[.agg #[.int .u64 0], .bool false]) w := by kernel_rfl
theorem as94 (w : World) : (Instr.typeAssert (.iface 94 (.agg #[])) 20 94 true).run Try.prog w = .ok (.tuple #[.agg #[], .bool true]) w := by kernel_rfl
theorem as9491 (w : World) : (Instr.typeAssert (.iface 94 (.agg #[])) 20 91 true).run Try.prog w = .ok (.tuple #[.agg #[.int .u64 0], .bool false]) w := by kernel_rfl
theorem as9493 (w : World) : (Instr.typeAssert (.iface 94 (.agg #[])) 20 93 true).run Try.prog w = .ok (.tuple #[.agg #[], .bool false]) w := by kernel_rfl
theorem as91 (x : Int) (w : World) : (Instr.typeAssert (.iface 91 (.agg #[.int .u64 x])) 20 91 true).run Try.prog w = .ok (.tuple #[.agg #[.int .u64 x], .bool true]) w := by kernel_rfl
set_option maxHeartbeats 1000000 in
theorem catch_tr (q1 q2 : Nat) (w : World) {z1 z2 : Value} (h1 : Arr w q1 30 #[z1]) (h2 : Arr w q2 29 #[z2]) (hne : q1 ≠ q2) :
    CallsD Try.prog 26 #[.pointer (some ⟨q1, 0, none⟩), .pointer (some ⟨q2, 0, none⟩)] (.panicking trI) w fun e u' w' => e = .returned (.tuple #[]) ∧ u' = .panicking [{ v := .iface 93 (.agg #[]), recovered := true }] ∧ w' = (w.alloc (.cells #[] 93)).setCell ⟨q2, 0, none⟩ (.int .u8 2) := by
  have a1 := zr91
  have a2 := as93
  have a3 := as9391
  have c2 := (h2.alloc (.cells #[] 93)).cell 0
  have f2 := (h2.alloc (.cells #[] 93)).frozen 0
  refine callsD_of_wpS Try.func26 rfl fun c₀ cs hu => ?_
  apply wpS_seq
  apply wpS_region
  simp [wpOpsS, go_sem, recoverD, hu, Try.ntmps26, Exit.thenS, trI]
  refine wpS_of_wp ?_
  rw [tm26]
  go_wp2
  exact ⟨rfl, _, rfl, _, results_none Try.results26 _ _ _, rfl, rfl, rfl⟩
set_option maxHeartbeats 1000000 in
theorem catch_sp (q1 q2 : Nat) (w : World) {z1 z2 : Value} (h1 : Arr w q1 30 #[z1]) (h2 : Arr w q2 29 #[z2]) (hne : q1 ≠ q2) :
    CallsD Try.prog 26 #[.pointer (some ⟨q1, 0, none⟩), .pointer (some ⟨q2, 0, none⟩)] (.panicking spI) w fun e u' w' => e = .returned (.tuple #[]) ∧ u' = .panicking [{ v := .iface 94 (.agg #[]), recovered := true }] ∧ w' = (w.alloc (.cells #[] 94)).setCell ⟨q2, 0, none⟩ (.int .u8 0) := by
  have a1 := zr94
  have a2 := as94
  have a3 := as9491
  have a4 := as9493
  have c2 := (h2.alloc (.cells #[] 94)).cell 0
  have f2 := (h2.alloc (.cells #[] 94)).frozen 0
  refine callsD_of_wpS Try.func26 rfl fun c₀ cs hu => ?_
  apply wpS_seq
  apply wpS_region
  simp [wpOpsS, go_sem, recoverD, hu, Try.ntmps26, Exit.thenS, spI]
  refine wpS_of_wp ?_
  rw [tm26]
  go_wp2
  exact ⟨rfl, _, rfl, _, results_none Try.results26 _ _ _, rfl, rfl, rfl⟩
set_option maxHeartbeats 1000000 in
theorem catch_re (x : Int) (q1 q2 : Nat) (w : World) {z1 z2 : Value} (h1 : Arr w q1 30 #[z1]) (h2 : Arr w q2 29 #[z2]) (hne : q1 ≠ q2) :
    CallsD Try.prog 26 #[.pointer (some ⟨q1, 0, none⟩), .pointer (some ⟨q2, 0, none⟩)] (.panicking (reI x)) w fun e u' w' => e = .returned (.tuple #[]) ∧ u' = .panicking [{ v := .iface 91 (.agg #[.int .u64 x]), recovered := true }] ∧ w' = ((w.setCell ⟨q1, 0, none⟩ (.int .u64 x)).alloc (.cells #[.int .u64 x] 91)).setCell ⟨q2, 0, none⟩ (.int .u8 1) := by
  have a1 := zrre x
  have a2 := as91 x
  have l1 := h1.lt
  have n1 : w.heap.size ≠ q1 := by omega
  have c1 := (h1.alloc (.cells #[.int .u64 x] 91)).cell 0
  have f1 := (h1.alloc (.cells #[.int .u64 x] 91)).frozen 0
  have H2 := (h2.alloc (.cells #[.int .u64 x] 91)).setOther (a := ⟨q1, 0, none⟩) (.int .u64 x) (fun e => hne e.symm)
  have c2 := H2.cell 0
  have f2 := H2.frozen 0
  have H3 := (h2.setOther (a := ⟨q1, 0, none⟩) (.int .u64 x) (fun e => hne e.symm)).alloc (.cells #[.int .u64 x] 91)
  have c3 : ((w.setCell ⟨q1, 0, none⟩ (.int .u64 x)).alloc (.cells #[.int .u64 x] 91)).cell? ⟨q2, 0, none⟩ = some z2 := H3.cell 0
  have f3 := H3.frozen 0
  refine callsD_of_wpS Try.func26 rfl fun c₀ cs hu => ?_
  apply wpS_seq
  apply wpS_region
  simp [wpOpsS, go_sem, recoverD, hu, Try.ntmps26, Exit.thenS, reI]
  refine wpS_of_wp ?_
  rw [tm26]
  go_wp2
  exact ⟨rfl, _, rfl, _, results_none Try.results26 _ _ _, rfl, rfl, rfl⟩
end Go.Proofs.Ytmljihggooaboaa
/- Layer interp: a function, however it ends. -/
namespace Go.Proofs.Ytmljihggooaboaa
open Go.RowKit
set_option maxRecDepth 100000
set_option linter.unusedVariables false
set_option linter.unusedSimpArgs false

/-- A function's value, and its status. -/
def fvB (r : RR) : Int := if r.k = 1 then r.x else 0
def fsB (r : RR) : Int := if r.k = 0 then 1 else if r.k = 1 then 1 else if r.k = 2 then 2 else 0
variable {X : World → Prop} {Z N gr gw n gm : Nat} {p0 p1 kv mv : Value} {W : List Int} {d lf : Nat}
/-- A run between functions. -/
structure RX (X : World → Prop) (Z N gr gw n gm : Nat) (p0 p1 kv mv : Value) (W : List Int) (lf : Nat) (w : World) : Prop where
  run : RunI gr gw n p0 p1 kv mv W lf w
  x : X w
  z : Z ≤ w.heap.size
  lf : lf ≤ 4194304
  l1 : N ≤ gr
  l2 : N ≤ gw
  m1 : N ≤ gm
  m2 : gm < Z
  r1 : gr < Z
  r2 : gw < Z
def FP (X : World → Prop) (Z N gr gw n gm : Nat) (p0 p1 kv mv : Value) (B : RR) (w : World) (e : Ending) (w' : World) : Prop :=
  e = .returned (.tuple #[.int .u64 (fvB B), .int .u8 (fsB B)]) ∧ RX X Z N gr gw n gm p0 p1 kv mv B.s.W B.s.lf w' ∧ Ch (fun k => k = gr ∨ k = gw ∨ k = gm) w w'
/-- Arguments, somewhere. -/
def AG (sx : Option Addr) (na : Nat) (L : List Int) (w : World) : Prop := Hid (L.length = na) ∧ (0 < L.length → ∃ ad, sx = some ad ∧ ∀ j x, L[j]? = some x → w.cell? (ad.add j) = some (.int .u64 x))
theorem uL_len2 (L : List Int) : (L.map fun x => Value.int .u64 x).length = L.length := by simp
theorem uA_list (L : List Int) : (uA L).toList = L.map fun x => Value.int .u64 x := by simp [uA]
theorem spl {nv : Nat} {L : List Int} (h : L.length ≤ nv) : (splice (madeCells #[Value.int .u64 0] nv).toList 0 (L.map fun x => Value.int .u64 x)).toArray = uA (L ++ List.replicate (nv - L.length) 0) := by
  rw [made_uA, uA_list]
  simp [splice, uA]
theorem fn_start (hX : XK X Z gr gw) {w w1 : World} {gv nv : Nat} {V : List Int} (hR : RX X Z N gr gw n gm p0 p1 kv mv W lf w) (hb : Below w.heap.size w w1) (hN : N ≤ w.heap.size) (hgv : w.heap.size ≤ gv) (hA : Arr w1 gv 30 (uA V)) (hl : V.length = nv) (hnv : nv ≤ 64) (hU : ∀ x ∈ V, U64 x) : KI X Z N gr gw n p0 p1 kv mv gv nv ⟨W, V, lf⟩ w1 := by
  have q1 := hR.r1; have q2 := hR.r2; have q3 := hR.z
  exact ⟨⟨hR.run.bl hb, ⟨hA, hid hl, hnv, hU⟩, by omega, by omega, hR.l1, hR.l2, by omega⟩, hX _ _ hR.x hR.z (Ch.ob hb), by omega, hR.lf⟩
theorem fn_end (hX : XK X Z gr gw) {w w1 w2 w3 : World} {gv nv : Nat} {B : RR} (hR : RX X Z N gr gw n gm p0 p1 kv mv W lf w) (hb : Below w.heap.size w w1) (hgv : w.heap.size ≤ gv) (hK : KI X Z N gr gw n p0 p1 kv mv gv nv B.s w2) (hc : Ch (PP gr gw gm gv) w1 w2) (hc3 : Ch (fun k => w.heap.size ≤ k ∧ NB w2 k) w2 w3) : RX X Z N gr gw n gm p0 p1 kv mv B.s.W B.s.lf w3 ∧ Ch (fun k => k = gr ∨ k = gw ∨ k = gm) w w3 := by
  have q1 := hR.r1; have q2 := hR.r2; have q3 := hR.z; have q4 := hR.m2
  have hr := hK.st.run
  refine ⟨⟨⟨hc3.arr hr.ar (fun h => by have := h.1; omega), hc3.arr hr.aw (fun h => by have := h.1; omega), hr.ne, hr.len, hr.n10, hr.wU⟩, hX _ _ hK.x hK.zz (hc3.imp fun k hk => .inr (.inr ⟨by have := hk.1; omega, hk.2⟩)), by have := hK.zz; have := hc3.size; omega, hK.lf, hR.l1, hR.l2, hR.m1, hR.m2, hR.r1, hR.r2⟩, ?_⟩
  have h1 : Ch (fun k => k = gr ∨ k = gw ∨ k = gm ∨ w.heap.size ≤ k) w w3 := ((Ch.ob hb).trans (hc.imp fun k hk => by
    rcases hk with h | h | h | h
    · exact .inl h
    · exact .inr (.inl h)
    · exact .inr (.inr (.inl h))
    · exact .inr (.inr (.inr (by omega))))).trans (hc3.imp fun k hk => .inr (.inr (.inr hk.1)))
  exact h1.mono fun i hi h => by
    rcases h with h | h | h | h
    · exact .inl h
    · exact .inr (.inl h)
    · exact .inr (.inr h)
    · omega
set_option maxHeartbeats 2000000 in
theorem function_any {p v : Int} {nv : Nat} {sp sx : Option Addr} {m cap na ca : Nat} {l : List (StT d)} {L : List Int} {B : RR} (w : World) (hN : N ≤ w.heap.size) (hX : XK X Z gr gw) (hR : RX X Z N gr gw n gm p0 p1 kv mv W lf w) (hv : v = nv) (hnv : nv ≤ 64) (hL : AG sx na L w) (hLn : L.length ≤ nv) (hLU : ∀ x ∈ L, U64 x) (hBl : B.s.lf ≤ 4194304) (hS : RS N w 7 (StM N w d) sp m cap l)
    (hB : ∀ (gv : Nat) (u : World) , N ≤ u.heap.size → KI X Z N gr gw n p0 p1 kv mv gv nv ⟨W, L ++ List.replicate (nv - L.length) 0, lf⟩ u → RS N u 7 (StM N u d) sp m cap l → Calls Try.prog 27 #[.pointer (some ⟨gr, 0, none⟩), .slice sp m cap, .slice (some ⟨gv, 0, none⟩) nv nv] u (KP (KI X Z N gr gw n p0 p1 kv mv gv nv) (PP gr gw gm gv) B u)) :
    Calls Try.prog 18 #[.pointer (some ⟨gr, 0, none⟩), .agg (fuC p v (.slice sp m cap)).toArray, .slice sx na ca] w (FP X Z N gr gw n gm p0 p1 kv mv B w) := by
  subst hv
  have hmf : ∀ (fn : Fn) (first cap : Array Value) (w : World), (Instr.makeFunc fn first cap).run Try.prog w = .ok (.func fn first cap) w := fun _ _ _ _ => rfl
  have hmk := fun (u : World) => mk25 nv nv u (by omega) (by omega)
  have hI := hR.run
  have hgl := hI.ar.lt
  have hwl := hI.aw.lt
  have hzz := hR.z
  have hm2 := hR.m2
  have hr1 := hR.r1
  have hr2 := hR.r2
  have b0 : Below w.heap.size w ((((w.alloc (.cells (fuC p nv (.slice sp m cap)).toArray 52)).alloc (.cells #[.int .u64 0] 30)).alloc (.cells #[.int .u8 0] 29)).alloc (.cells (madeCells #[.int .u64 0] nv) 30)) := (((ab w _).alloc (by simp) _).alloc (by simp; omega) _).alloc (by simp; omega) _
  have A1 := (((Arr.new (w.alloc (.cells (fuC p nv (.slice sp m cap)).toArray 52)) 30 #[.int .u64 0]).alloc (.cells #[.int .u8 0] 29))).alloc (.cells (madeCells #[.int .u64 0] nv) 30)
  have A2 := (Arr.new ((w.alloc (.cells (fuC p nv (.slice sp m cap)).toArray 52)).alloc (.cells #[.int .u64 0] 30)) 29 #[.int .u8 0]).alloc (.cells (madeCells #[.int .u64 0] nv) 30)
  have A3 := Arr.new (((w.alloc (.cells (fuC p nv (.slice sp m cap)).toArray 52)).alloc (.cells #[.int .u64 0] 30)).alloc (.cells #[.int .u8 0] 29)) 30 (madeCells #[.int .u64 0] nv)
  simp only [World.size_alloc] at A1 A2 A3
  have hA3 : (((((w.alloc (.cells (fuC p nv (.slice sp m cap)).toArray 52)).alloc (.cells #[.int .u64 0] 30)).alloc (.cells #[.int .u8 0] 29)).alloc (.cells (madeCells #[.int .u64 0] nv) 30))).heap[w.heap.size + 1 + 1 + 1]? = some (.cells ((madeCells #[.int .u64 0] nv).toList).toArray 30 (0, 0)) := A3
  have hLs : Hid (L.length = na) := hL.1
  have hsrc : 0 < (L.map fun x => Value.int .u64 x).length → (some (⟨w.heap.size + 1 + 1 + 1, 0, none⟩ : Addr)) = some ⟨w.heap.size + 1 + 1 + 1, 0, none⟩ ∧ ∃ ad, sx = some ad ∧ ∀ j v, (L.map fun x => Value.int .u64 x)[j]? = some v → (((((w.alloc (.cells (fuC p nv (.slice sp m cap)).toArray 52)).alloc (.cells #[.int .u64 0] 30)).alloc (.cells #[.int .u8 0] 29)).alloc (.cells (madeCells #[.int .u64 0] nv) 30))).cell? (ad.add j) = some v := by
    intro h0
    obtain ⟨ad, e, hc⟩ := hL.2 (by simpa using h0)
    refine ⟨rfl, ad, e, fun j v hv => ?_⟩
    rw [List.getElem?_map] at hv
    obtain ⟨x, hx, rfl⟩ := Option.map_eq_some_iff.1 hv
    have := hc j x hx
    exact (b0.cell (block_lt_of_cell this)).trans this
  obtain ⟨C, hC⟩ : ∃ C, C = (L.map fun x => Value.int .u64 x) := ⟨_, rfl⟩
  rw [← hC] at hsrc
  have hCl : C.length = L.length := by rw [hC]; simp
  have hmin : C.length = Nat.min na nv := by rw [hCl, hLs.out]; exact (Nat.min_eq_left (by rw [← hLs.out]; exact hLn)).symm
  have hfit : 0 + C.length ≤ (madeCells #[Value.int .u64 0] nv).toList.length := by rw [hCl, made_uA, uA_list]; simp; omega
  have hone : ∀ v ∈ C, v.oneCell' = true := by
    rw [hC]
    intro v hv
    obtain ⟨x, -, rfl⟩ := List.mem_map.1 hv
    rfl
  have hk2 : (((((w.alloc (.cells (fuC p nv (.slice sp m cap)).toArray 52)).alloc (.cells #[.int .u64 0] 30)).alloc (.cells #[.int .u8 0] 29)).alloc (.cells (madeCells #[.int .u64 0] nv) 30))).cell? ⟨w.heap.size, 2, none⟩ = some (.slice sp m cap) := (((Arr.new w 52 (fuC p nv (.slice sp m cap)).toArray).alloc _).alloc _ |>.alloc _).cell 2
  have hst : ∀ w1, Hid (w1.heap[w.heap.size + 1 + 1 + 1]? = some (.cells (splice (madeCells #[.int .u64 0] nv).toList 0 C).toArray 30 (0, 0))) → Below (w.heap.size + 1 + 1 + 1) ((((w.alloc (.cells (fuC p nv (.slice sp m cap)).toArray 52)).alloc (.cells #[.int .u64 0] 30)).alloc (.cells #[.int .u8 0] 29)).alloc (.cells (madeCells #[.int .u64 0] nv) 30)) w1 → Calls Try.prog 27 #[.pointer (some ⟨gr, 0, none⟩), .slice sp m cap, .slice (some ⟨w.heap.size + 1 + 1 + 1, 0, none⟩) nv nv] w1 (KP (KI X Z N gr gw n p0 p1 kv mv (w.heap.size + 1 + 1 + 1) nv) (PP gr gw gm (w.heap.size + 1 + 1 + 1)) B w1) ∧ Below w.heap.size w w1 := by
    intro w1 h1 h2
    have h3 : Below w.heap.size w w1 := b0.trans (h2.mono (by omega))
    have h4 := h1.out
    rw [hC, spl hLn] at h4
    refine ⟨hB _ w1 (by have := h3.size; omega) (fn_start hX hR h3 hN (by omega) h4 (by simp; omega) hnv (fun x hx => ?_)) (hS.imp (h3.mono hN) (StM.below (h3.mono hN) d)), h3⟩
    rcases List.mem_append.1 hx with h | h
    · exact hLU x h
    · rw [(List.mem_replicate.1 h).2]; simp [U64]
  clear hS hB hL hLs hC hCl hLU hLn hI
  unfold fuC at *
  by_cases hBk : B.k = 0
  · have hee := RR.end_on hBk
    have hfv : fvB B = 0 := by unfold fvB; rw [if_neg (by omega)]
    have hfs : fsB B = 1 := by unfold fsB; rw [if_pos hBk]
    clear hBk
    go_enter_defers Try.func18, Try.ntmps18
    go_wp2_with (first
      | (refine wpList_copy_splice (by rfl) (.tmp 13) (.tmp 14) 25 25 (by rfl) 30 Try.underlying25 (by exact s30) (some ⟨w.heap.size + 1 + 1 + 1, 0, none⟩) sx nv nv na ca (by rfl) (by rfl) (w.heap.size + 1 + 1 + 1) 0 (madeCells #[.int .u64 0] nv).toList 30 hA3 C hmin hsrc hfit hone (w.heap.size + 1 + 1 + 1) _ (Below.refl _ _) (Nat.le_refl _) ?_; intro w1 hg1 hb1; obtain ⟨hon, hb01⟩ := hst w1 hg1 hb1; have A1' : Arr w1 (w.heap.size + 1) 30 #[.int .u64 0] := (hb1.block _ (by omega)).trans A1; have A2' : Arr w1 (w.heap.size + 1 + 1) 29 #[.int .u8 0] := (hb1.block _ (by omega)).trans A2; have kf : w1.cell? ⟨w.heap.size, 2, none⟩ = some (.slice sp m cap) := (hb1.cell (show w.heap.size < w.heap.size + 1 + 1 + 1 from by omega)).trans hk2)
      | (go_at_call 27; go_must (refine hon.mono ?_; rintro e w2 ⟨he, hK2, hc2⟩; replace he := he.trans hee; subst he; have A1'' := hc2.arr A1' (by rintro (e | e | e | e) <;> omega); have A2'' := hc2.arr A2' (by rintro (e | e | e | e) <;> omega); have c1 := A1''.cell 0; have f1 := A1''.frozen 0; have AS := A2''.setOther (a := ⟨w.heap.size + 1, 0, none⟩) (.int .u64 0) (by show w.heap.size + 1 + 1 ≠ w.heap.size + 1; omega); have c2 := AS.cell 0; have f2 := AS.frozen 0)))
    refine leaves_cons (f := 26) (args := #[.pointer (some ⟨w.heap.size + 1, 0, none⟩), .pointer (some ⟨w.heap.size + 1 + 1, 0, none⟩)]) (by simp) (by simp [go_sem]) ?_
    refine (catch_idle26 ⟨w.heap.size + 1, 0, none⟩ ⟨w.heap.size + 1 + 1, 0, none⟩ _).mono ?_
    rintro e u' w'' ⟨rfl, rfl, rfl⟩
    have B1 := (A1''.set 0 (.int .u64 0)).setOther (a := ⟨w.heap.size + 1 + 1, 0, none⟩) (.int .u8 1) (by show w.heap.size + 1 ≠ w.heap.size + 1 + 1; omega)
    have B2 := AS.set 0 (.int .u8 1)
    refine ⟨.tuple #[.int .u64 0, .int .u8 1], resF Try.results18 rfl rfl (B1.cell 0) (B2.cell 0), ?_⟩
    exact ⟨by rw [hfv, hfs], fn_end hX hR hb01 (by omega) hK2 hc2 (((Ch.refl _ w2).st _ (fun _ => ⟨by omega, nb_of A1'' (by omega)⟩)).st _ (fun _ => ⟨by omega, nb_of A2'' (by omega)⟩))⟩
  by_cases hBk1 : B.k = 1
  · have hee : B.end = .panicked (reI B.x) := by unfold RR.end; rw [if_neg hBk, if_pos hBk1]
    have hfv : fvB B = B.x := by unfold fvB; rw [if_pos hBk1]
    have hfs : fsB B = 1 := by unfold fsB; rw [if_neg hBk, if_pos hBk1]
    clear hBk1
    clear hBk
    go_enter_defers Try.func18, Try.ntmps18
    go_wp2_with (first
      | (refine wpList_copy_splice (by rfl) (.tmp 13) (.tmp 14) 25 25 (by rfl) 30 Try.underlying25 (by exact s30) (some ⟨w.heap.size + 1 + 1 + 1, 0, none⟩) sx nv nv na ca (by rfl) (by rfl) (w.heap.size + 1 + 1 + 1) 0 (madeCells #[.int .u64 0] nv).toList 30 hA3 C hmin hsrc hfit hone (w.heap.size + 1 + 1 + 1) _ (Below.refl _ _) (Nat.le_refl _) ?_; intro w1 hg1 hb1; obtain ⟨hon, hb01⟩ := hst w1 hg1 hb1; have A1' : Arr w1 (w.heap.size + 1) 30 #[.int .u64 0] := (hb1.block _ (by omega)).trans A1; have A2' : Arr w1 (w.heap.size + 1 + 1) 29 #[.int .u8 0] := (hb1.block _ (by omega)).trans A2; have kf : w1.cell? ⟨w.heap.size, 2, none⟩ = some (.slice sp m cap) := (hb1.cell (show w.heap.size < w.heap.size + 1 + 1 + 1 from by omega)).trans hk2)
      | (go_at_call 27; go_must (refine hon.mono ?_; rintro e w2 ⟨he, hK2, hc2⟩; replace he := he.trans hee; subst he; have A1'' := hc2.arr A1' (by rintro (e | e | e | e) <;> omega); have A2'' := hc2.arr A2' (by rintro (e | e | e | e) <;> omega))))
    refine leaves_cons (f := 26) (args := #[.pointer (some ⟨w.heap.size + 1, 0, none⟩), .pointer (some ⟨w.heap.size + 1 + 1, 0, none⟩)]) (by simp) (by simp [go_sem]) ?_
    refine (catch_re B.x (w.heap.size + 1) (w.heap.size + 1 + 1) w2 A1'' A2'' (by omega)).mono ?_
    rintro e u' w'' ⟨rfl, rfl, rfl⟩
    have B1 := ((A1''.set 0 (.int .u64 B.x)).alloc (.cells #[.int .u64 B.x] 91)).setOther (a := ⟨w.heap.size + 1 + 1, 0, none⟩) (.int .u8 1) (by show w.heap.size + 1 ≠ w.heap.size + 1 + 1; omega)
    have B2 := ((A2''.setOther (a := ⟨w.heap.size + 1, 0, none⟩) (.int .u64 B.x) (by show w.heap.size + 1 + 1 ≠ w.heap.size + 1; omega)).alloc (.cells #[.int .u64 B.x] 91)).set 0 (.int .u8 1)
    refine ⟨.tuple #[.int .u64 B.x, .int .u8 1], resF Try.results18 rfl rfl (B1.cell 0) (B2.cell 0), ?_⟩
    exact ⟨by rw [hfv, hfs], fn_end hX hR hb01 (by omega) hK2 hc2 ((((Ch.refl _ w2).st _ (fun _ => ⟨by omega, nb_of A1'' (by omega)⟩)).al _).st _ (fun _ => ⟨by omega, nb_of A2'' (by omega)⟩))⟩
  by_cases hBk2 : B.k = 2
  · have hee : B.end = .panicked trI := by unfold RR.end; rw [if_neg hBk, if_neg hBk1, if_pos hBk2]
    have hfv : fvB B = 0 := by unfold fvB; rw [if_neg hBk1]
    have hfs : fsB B = 2 := by unfold fsB; rw [if_neg hBk, if_neg hBk1, if_pos hBk2]
    clear hBk1 hBk2
    clear hBk
    go_enter_defers Try.func18, Try.ntmps18
    go_wp2_with (first
      | (refine wpList_copy_splice (by rfl) (.tmp 13) (.tmp 14) 25 25 (by rfl) 30 Try.underlying25 (by exact s30) (some ⟨w.heap.size + 1 + 1 + 1, 0, none⟩) sx nv nv na ca (by rfl) (by rfl) (w.heap.size + 1 + 1 + 1) 0 (madeCells #[.int .u64 0] nv).toList 30 hA3 C hmin hsrc hfit hone (w.heap.size + 1 + 1 + 1) _ (Below.refl _ _) (Nat.le_refl _) ?_; intro w1 hg1 hb1; obtain ⟨hon, hb01⟩ := hst w1 hg1 hb1; have A1' : Arr w1 (w.heap.size + 1) 30 #[.int .u64 0] := (hb1.block _ (by omega)).trans A1; have A2' : Arr w1 (w.heap.size + 1 + 1) 29 #[.int .u8 0] := (hb1.block _ (by omega)).trans A2; have kf : w1.cell? ⟨w.heap.size, 2, none⟩ = some (.slice sp m cap) := (hb1.cell (show w.heap.size < w.heap.size + 1 + 1 + 1 from by omega)).trans hk2)
      | (go_at_call 27; go_must (refine hon.mono ?_; rintro e w2 ⟨he, hK2, hc2⟩; replace he := he.trans hee; subst he; have A1'' := hc2.arr A1' (by rintro (e | e | e | e) <;> omega); have A2'' := hc2.arr A2' (by rintro (e | e | e | e) <;> omega))))
    refine leaves_cons (f := 26) (args := #[.pointer (some ⟨w.heap.size + 1, 0, none⟩), .pointer (some ⟨w.heap.size + 1 + 1, 0, none⟩)]) (by simp) (by simp [go_sem]) ?_
    refine (catch_tr (w.heap.size + 1) (w.heap.size + 1 + 1) w2 A1'' A2'' (by omega)).mono ?_
    rintro e u' w'' ⟨rfl, rfl, rfl⟩
    have B1 := (A1''.alloc (.cells #[] 93)).setOther (a := ⟨w.heap.size + 1 + 1, 0, none⟩) (.int .u8 2) (by show w.heap.size + 1 ≠ w.heap.size + 1 + 1; omega)
    have B2 := (A2''.alloc (.cells #[] 93)).set 0 (.int .u8 2)
    refine ⟨.tuple #[.int .u64 0, .int .u8 2], resF Try.results18 rfl rfl (B1.cell 0) (B2.cell 0), ?_⟩
    exact ⟨by rw [hfv, hfs], fn_end hX hR hb01 (by omega) hK2 hc2 (((Ch.refl _ w2).al _).st _ (fun _ => ⟨by omega, nb_of A2'' (by omega)⟩))⟩
  · have hee : B.end = .panicked spI := by unfold RR.end; rw [if_neg hBk, if_neg hBk1, if_neg hBk2]
    have hfv : fvB B = 0 := by unfold fvB; rw [if_neg hBk1]
    have hfs : fsB B = 0 := by unfold fsB; rw [if_neg hBk, if_neg hBk1, if_neg hBk2]
    clear hBk1 hBk2
    clear hBk
    go_enter_defers Try.func18, Try.ntmps18
    go_wp2_with (first
      | (refine wpList_copy_splice (by rfl) (.tmp 13) (.tmp 14) 25 25 (by rfl) 30 Try.underlying25 (by exact s30) (some ⟨w.heap.size + 1 + 1 + 1, 0, none⟩) sx nv nv na ca (by rfl) (by rfl) (w.heap.size + 1 + 1 + 1) 0 (madeCells #[.int .u64 0] nv).toList 30 hA3 C hmin hsrc hfit hone (w.heap.size + 1 + 1 + 1) _ (Below.refl _ _) (Nat.le_refl _) ?_; intro w1 hg1 hb1; obtain ⟨hon, hb01⟩ := hst w1 hg1 hb1; have A1' : Arr w1 (w.heap.size + 1) 30 #[.int .u64 0] := (hb1.block _ (by omega)).trans A1; have A2' : Arr w1 (w.heap.size + 1 + 1) 29 #[.int .u8 0] := (hb1.block _ (by omega)).trans A2; have kf : w1.cell? ⟨w.heap.size, 2, none⟩ = some (.slice sp m cap) := (hb1.cell (show w.heap.size < w.heap.size + 1 + 1 + 1 from by omega)).trans hk2)
      | (go_at_call 27; go_must (refine hon.mono ?_; rintro e w2 ⟨he, hK2, hc2⟩; replace he := he.trans hee; subst he; have A1'' := hc2.arr A1' (by rintro (e | e | e | e) <;> omega); have A2'' := hc2.arr A2' (by rintro (e | e | e | e) <;> omega))))
    refine leaves_cons (f := 26) (args := #[.pointer (some ⟨w.heap.size + 1, 0, none⟩), .pointer (some ⟨w.heap.size + 1 + 1, 0, none⟩)]) (by simp) (by simp [go_sem]) ?_
    refine (catch_sp (w.heap.size + 1) (w.heap.size + 1 + 1) w2 A1'' A2'' (by omega)).mono ?_
    rintro e u' w'' ⟨rfl, rfl, rfl⟩
    have B1 := (A1''.alloc (.cells #[] 94)).setOther (a := ⟨w.heap.size + 1 + 1, 0, none⟩) (.int .u8 0) (by show w.heap.size + 1 ≠ w.heap.size + 1 + 1; omega)
    have B2 := (A2''.alloc (.cells #[] 94)).set 0 (.int .u8 0)
    refine ⟨.tuple #[.int .u64 0, .int .u8 0], resF Try.results18 rfl rfl (B1.cell 0) (B2.cell 0), ?_⟩
    exact ⟨by rw [hfv, hfs], fn_end hX hR hb01 (by omega) hK2 hc2 (((Ch.refl _ w2).al _).st _ (fun _ => ⟨by omega, nb_of A2'' (by omega)⟩))⟩
end Go.Proofs.Ytmljihggooaboaa
/- Layer interp: a call of a function. -/
namespace Go.Proofs.Ytmljihggooaboaa
open Go.RowKit
set_option maxRecDepth 100000
set_option linter.unusedVariables false
set_option linter.unusedSimpArgs false

variable {X : World → Prop} {Z N gr gw n gm : Nat} {p0 p1 kv mv : Value} {W : List Int} {d lf : Nat}
def CP (X : World → Prop) (Z N gr gw n gm : Nat) (p0 p1 kv mv : Value) (B : RR) (w : World) (e : Ending) (w' : World) : Prop :=
  e = (if B.k = 0 ∨ B.k = 1 then .returned (.int .u64 (fvB B)) else if B.k = 2 then .panicked trI else .panicked spI) ∧ RX X Z N gr gw n gm p0 p1 kv mv B.s.W B.s.lf w' ∧ Ch (fun k => k = gr ∨ k = gw ∨ k = gm) w w'
theorem RX.bl (hX : XK X Z gr gw) {w w' : World} (h : RX X Z N gr gw n gm p0 p1 kv mv W lf w) (hb : Below w.heap.size w w') : RX X Z N gr gw n gm p0 p1 kv mv W lf w' :=
  ⟨h.run.bl hb, hX _ _ h.x h.z (Ch.ob hb), by have := h.z; have := hb.size; omega, h.lf, h.l1, h.l2, h.m1, h.m2, h.r1, h.r2⟩
theorem AG.bl {sx : Option Addr} {na : Nat} {L : List Int} {w w' : World} (h : AG sx na L w) (hb : Below w.heap.size w w') : AG sx na L w' :=
  ⟨h.1, fun h0 => let ⟨ad, e, hc⟩ := h.2 h0; ⟨ad, e, fun j x hx => (hb.cell (block_lt_of_cell (hc j x hx))).trans (hc j x hx)⟩⟩
set_option maxHeartbeats 2000000 in
theorem call_any {p v : Int} {nv : Nat} {sp sx : Option Addr} {m cap na ca : Nat} {l : List (StT d)} {L : List Int} {B : RR} (w : World) (hN : N ≤ w.heap.size) (hX : XK X Z gr gw) (hR : RX X Z N gr gw n gm p0 p1 kv mv W lf w) (hv : v = nv) (hnv : nv ≤ 64) (hL : AG sx na L w) (hLn : L.length ≤ nv) (hLU : ∀ x ∈ L, U64 x) (hBl : B.s.lf ≤ 4194304) (hS : RS N w 7 (StM N w d) sp m cap l)
    (hB : ∀ (gv : Nat) (u : World) , N ≤ u.heap.size → KI X Z N gr gw n p0 p1 kv mv gv nv ⟨W, L ++ List.replicate (nv - L.length) 0, lf⟩ u → RS N u 7 (StM N u d) sp m cap l → Calls Try.prog 27 #[.pointer (some ⟨gr, 0, none⟩), .slice sp m cap, .slice (some ⟨gv, 0, none⟩) nv nv] u (KP (KI X Z N gr gw n p0 p1 kv mv gv nv) (PP gr gw gm gv) B u)) :
    Calls Try.prog 45 #[.pointer (some ⟨gr, 0, none⟩), .agg (fuC p v (.slice sp m cap)).toArray, .slice sx na ca] w (CP X Z N gr gw n gm p0 p1 kv mv B w) := by
  have b0 := ab w (.cells (fuC p v (.slice sp m cap)).toArray 52)
  have hf := function_any (p := p) (ca := ca) _ (by have := b0.size; omega) hX (hR.bl hX b0) hv hnv (hL.bl b0) hLn hLU hBl (hS.imp (b0.mono hN) (StM.below (b0.mono hN) d)) hB
  have hc0 : Ch (fun k => k = gr ∨ k = gw ∨ k = gm) w _ := Ch.ob b0
  clear hS hB hL hLU hLn hR hv
  unfold CP
  unfold fuC at *
  by_cases hBk : B.k = 0
  · have hfv : fvB B = 0 := by unfold fvB; rw [if_neg (by omega)]
    have hfs : fsB B = 1 := by unfold fsB; rw [if_pos hBk]
    rw [if_pos (.inl hBk), hfv]
    clear hBk
    go_enter Try.func45, Try.ntmps45
    go_wp2_with (go_at_call 18; go_must (refine hf.mono ?_; rintro e w2 ⟨he, hR2, hc2⟩; rw [hfv, hfs] at he; subst he))
    go_ret
    exact ⟨rfl, hR2, hc0.trans hc2⟩
  by_cases hBk1 : B.k = 1
  · have hfv : fvB B = B.x := by unfold fvB; rw [if_pos hBk1]
    have hfs : fsB B = 1 := by unfold fsB; rw [if_neg hBk, if_pos hBk1]
    rw [if_pos (.inr hBk1), hfv]
    clear hBk hBk1
    go_enter Try.func45, Try.ntmps45
    go_wp2_with (go_at_call 18; go_must (refine hf.mono ?_; rintro e w2 ⟨he, hR2, hc2⟩; rw [hfv, hfs] at he; subst he))
    go_ret
    exact ⟨rfl, hR2, hc0.trans hc2⟩
  have hn : ¬ (B.k = 0 ∨ B.k = 1) := by omega
  have hfv : fvB B = 0 := by unfold fvB; rw [if_neg hBk1]
  rw [if_neg hn]
  by_cases hBk2 : B.k = 2
  · have hfs : fsB B = 2 := by unfold fsB; rw [if_neg hBk, if_neg hBk1, if_pos hBk2]
    rw [if_pos hBk2]
    clear hBk hBk1 hBk2 hn
    go_enter Try.func45, Try.ntmps45
    go_wp2_with (go_at_call 18; go_must (refine hf.mono ?_; rintro e w2 ⟨he, hR2, hc2⟩; rw [hfv, hfs] at he; subst he))
    exact ⟨rfl, rfl, hR2, hc0.trans hc2⟩
  · have hfs : fsB B = 0 := by unfold fsB; rw [if_neg hBk, if_neg hBk1, if_neg hBk2]
    rw [if_neg hBk2]
    clear hBk hBk1 hBk2 hn
    go_enter Try.func45, Try.ntmps45
    go_wp2_with (go_at_call 18; go_must (refine hf.mono ?_; rintro e w2 ⟨he, hR2, hc2⟩; rw [hfv, hfs] at he; subst he))
    exact ⟨rfl, rfl, hR2, hc0.trans hc2⟩
end Go.Proofs.Ytmljihggooaboaa
