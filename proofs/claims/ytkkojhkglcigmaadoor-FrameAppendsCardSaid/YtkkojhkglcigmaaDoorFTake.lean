/-
  The walk through frame.Take.
-/
import Derived.Test.YtkkojhkglcigmaaDoorFAny
import Derived.StillTailTactics
import Derived.Deep.RegionHeld3
namespace Go.Proofs.YtkkojhkglcigmaaDoor
open Go.RowKit
set_option linter.unusedVariables false

theorem alloc_size (w : World) (o : Obj) : (w.alloc o).heap.size = w.heap.size + 1 := by simp

/-- Four new blocks. -/
theorem four_new (w : World) (t1 t2 t3 t4 : TypeId) (c1 c2 c3 c4 : Array Value) :
    Wh ((((w.alloc (.cells c1 t1)).alloc (.cells c2 t2)).alloc (.cells c3 t3)).alloc (.cells c4 t4)) w.heap.size t1 c1 ∧
    Wh ((((w.alloc (.cells c1 t1)).alloc (.cells c2 t2)).alloc (.cells c3 t3)).alloc (.cells c4 t4)) (w.heap.size + 1) t2 c2 ∧
    Wh ((((w.alloc (.cells c1 t1)).alloc (.cells c2 t2)).alloc (.cells c3 t3)).alloc (.cells c4 t4)) (w.heap.size + 1 + 1) t3 c3 ∧
    Wh ((((w.alloc (.cells c1 t1)).alloc (.cells c2 t2)).alloc (.cells c3 t3)).alloc (.cells c4 t4)) (w.heap.size + 1 + 1 + 1) t4 c4 ∧
    Below w.heap.size w ((((w.alloc (.cells c1 t1)).alloc (.cells c2 t2)).alloc (.cells c3 t3)).alloc (.cells c4 t4)) := by
  have h2 := Wh.new (w.alloc (.cells c1 t1)) t2 c2
  have h3 := Wh.new ((w.alloc (.cells c1 t1)).alloc (.cells c2 t2)) t3 c3
  have h4 := Wh.new (((w.alloc (.cells c1 t1)).alloc (.cells c2 t2)).alloc (.cells c3 t3)) t4 c4
  simp only [alloc_size] at h2 h3 h4
  exact ⟨(((Wh.new w t1 c1).alloc _).alloc _).alloc _, (h2.alloc _).alloc _, h3.alloc _, h4, ((((Below.refl _ _).alloc (Nat.le_refl _) _).alloc (by simp) _).alloc (by simp; omega) _).alloc (by simp; omega) _⟩

theorem results3 {P : Program} {fn : Func} {a b c : Tmp} {ta tb tc : TypeId} (h : fn.results = #[.cell a ta, .cell b tb, .cell c tc]) (tmps : Array Value) (w : World) (pa pb pc : Addr) (va vb vc : Value)
    (ha : tmps.getD a undef = .pointer (some pa)) (hb : tmps.getD b undef = .pointer (some pb)) (hc : tmps.getD c undef = .pointer (some pc))
    (la : (loadVar ta pa).run P w = .ok va w) (lb : (loadVar tb pb).run P w = .ok vb w) (lc : (loadVar tc pc).run P w = .ok vc w) : (results fn tmps).run P w = .ok (.tuple #[va, vb, vc]) w := by
  have ha' : tmps[a]?.getD undef = .pointer (some pa) := by simpa using ha
  have hb' : tmps[b]?.getD undef = .pointer (some pb) := by simpa using hb
  have hc' : tmps[c]?.getD undef = .pointer (some pc) := by simpa using hc
  simp [results, h, ha', hb', hc', asAddr, la, lb, lc]

theorem load_int {w : World} {g : Nat} {v : Value} (h : w.cell? ⟨g, 0, none⟩ = some v) : (loadVar 3 ⟨g, 0, none⟩).run Tryd.prog w = .ok v w := by
  simp [loadVar, Tryd.isAgg3, h]

theorem load_errno {w : World} {g : Nat} {v : Value} (h : w.cell? ⟨g, 0, none⟩ = some v) : (loadVar 40 ⟨g, 0, none⟩).run Tryd.prog w = .ok v w := by
  simp [loadVar, Tryd.isAgg40, h]

theorem load_frame {w : World} {g : Nat} {cs : Array Value} (h : Wh w g 32 cs) (hs : cs.size = 30) : (loadVar 32 ⟨g, 0, none⟩).run Tryd.prog w = .ok (.agg cs) w :=
  run_loadVar_row w g _ _ cs (0, 0) _ h Tryd.underlying32 rfl (by rw [hs]; exact info_frame)

theorem wpStill_load {P : Program} {ops : Array Oper} {w : World} {Q : Act → Prop} {a : Act} {o : Oper} {rest : List Oper} (ty : TypeId) (x : Operand) (ho : o.op = .load ty x) (hgd : o.guard = none)
    (g : Nat) (hx : a.eval x = .pointer (some ⟨g, 0, none⟩)) (t : TypeId) (cs : Array Value) (d : TypeDesc) (hg : Wh w g t cs)
    (hu : P.underlying ty = some d) (hd : (match d with | .struct _ | .array _ _ => true | _ => false) = true) (hi : (P.info? ty).map (·.size) = some cs.size)
    (h : wpStill P ops w Q rest (a.put o.dst (.agg cs))) : wpStill P ops w Q (o :: rest) a := by
  unfold wpStill
  rw [if_pos (by simp [Region.wanted, hgd])]
  unfold Oper.still execOp
  simp only [ho, hx, Instr.loadAt, Instr.sureAddr, Sem.run_bind, Sem.run_pure, Result.andThen_ok, run_loadVar_row w g t ty cs (0, 0) d hg hu hd hi]
  exact ⟨rfl, h⟩

theorem row_range {w : World} {g : Nat} {t : TypeId} {l : List Value} (h : Wh w g t l.toArray) : w.rangeAt g 0 l := fun j v hv => by
  rw [Nat.zero_add, h.cell]
  simpa using hv

theorem act_norm {P : Program} {md : Region.Mode} {ops : Array Oper} {Q : Exit → Act → World → Prop} {S : World → Prop} {fuel : Nat} {listed : Array Bool} {a b : Act} {w : World} (h : a = b) (k : wpAnyH P md ops Q S fuel listed b w) : wpAnyH P md ops Q S fuel listed a w := h ▸ k

theorem wanted_go {o : Oper} {y : Nat → Option Bool} {A B : Prop} (h : Region.wanted o y = true) (k : A) : if Region.wanted o y = true then A else B := by rw [if_pos h]; exact k

/-- A frame's load and store, out of the walk's sight. -/
def ldF (g : Nat) : Sem Value := Instr.loadAt 32 (.pointer (some ⟨g, 0, none⟩))
def stF (g : Nat) (R : Array Value) : Sem Unit := Instr.storeAt 32 (.pointer (some ⟨g, 0, none⟩)) (.agg R)

theorem ldF_run {w : World} {g : Nat} {cs : Array Value} (h : Wh w g 32 cs) (hs : cs.size = 30) : (ldF g).run Tryd.prog w = .ok (.agg cs) w := by
  unfold ldF
  simp only [Instr.loadAt, Instr.sureAddr, Sem.run_bind, Sem.run_pure, Result.andThen_ok]
  exact load_frame h hs

theorem stF_run {w : World} {g : Nat} {cs : Array Value} (h : Wh w g 32 cs) (hs : cs.size = 30) (h1 : cs.all (·.oneCell') = true) : (stF g cs).run Tryd.prog w = .ok () w := by
  unfold stF
  simp only [Instr.storeAt, Instr.sureAddr, Sem.run_bind, Sem.run_pure, Result.andThen_ok]
  rw [run_storeVar_row w g _ _ cs cs h (by rw [hs]; exact info_frame) rfl h1, setRow_self w g cs _ (0, 0) h]

/-- What Take answers. -/
def TakeGave (w : World) (l : List UInt8) (r : Option (PF × List UInt8)) (e : Ending) (w' : World) : Prop :=
  Below w.heap.size w w' ∧ match r with
  | none => e = .returned (.tuple #[.agg (zRow 0), .int .i64 0, .int .i64 2])
  | some (f, l') => ∃ a, e = .returned (.tuple #[.agg (rowF f a).toArray, .int .i64 ((l.length : Int) - (l'.length : Int)), .int .i64 0]) ∧ FrAt w' w'.heap.size f a

set_option maxRecDepth 100000 in
set_option maxHeartbeats 1000000 in
theorem take_any (l : List UInt8) (A : Option Addr) (len c : Nat) (w : World) (hl : l.length = len) (hr : Sl w w.heap.size A l) (hc : len ≤ c) (hm : c ≤ maxLen) (hT : PT w) (hlen : l.length ≤ 16777216) :
    Calls Tryd.prog 19 #[.slice A len c] w (TakeGave w l (frame_ l)) := by
  have hmf : ∀ (fn : Fn) (first cap : Array Value) (w : World), (Instr.makeFunc fn first cap).run Tryd.prog w = .ok (.func fn first cap) w := fun _ _ _ _ => rfl
  have hzr : (#[.int .u64 0, .int .u64 0, .int .u64 0, .int .u64 0, .int .u64 0, .int .u64 0, .bool false, .slice none 0 0, .slice none 0 0, .int .u8 0, .int .u8 0, .int .u8 0, .int .u8 0, .int .u8 0, .int .u8 0, .int .u8 0, .int .u8 0, .int .u8 0, .int .u8 0, .int .u8 0, .int .u8 0, .int .u8 0, .int .u8 0, .int .u8 0, .int .u8 0, .slice none 0 0, .int .u64 0, .int .u64 0, .int .u64 0, .int .u64 0] : Array Value) = zRow 0 := rfl
  have HL := Lib.hid hl
  have HR := Lib.hid hr
  have HM : Hid (c ≤ maxLen) := hm
  have hgB := hT.lt
  unfold maxLen at hm
  clear hl hr
  go_enter_defers Tryd.func19, Tryd.ntmps19
  go_wp2_with fail
  obtain ⟨hW1, hW2, hW3, hW4, hb0⟩ := four_new w 32 3 40 69 (zRow 0) #[.int .i64 0] #[.int .i64 0] #[.slice A len c]
  generalize (((w.alloc (.cells (zRow 0) 32)).alloc (.cells #[.int .i64 0] 3)).alloc (.cells #[.int .i64 0] 40)).alloc (.cells #[.slice A len c] 69) = w3 at *
  have hrd : Rd w3 w.heap.size (w.heap.size + 1 + 1 + 1) l := ⟨A, len, c, hW4, HL.out, hc, HM.out, HR.out.below hb0, by omega⟩
  have hFA := frame_any l w3 w.heap.size (w.heap.size + 1 + 1 + 1) hrd (hT.below hb0 hgB) hgB hlen
  rcases hf : frame_ l with _ | ⟨f, l'⟩
  · rw [hf] at hFA
    have HFA := Lib.hid hFA
    clear hFA hf hrd
    refine HFA.out.mono ?_
    rintro e w4 ⟨rfl, hg4⟩
    have hx1 := hW1.grown hg4 (by simp; omega)
    have hx2 := hW2.grown hg4 (by simp)
    have hx3 := hW3.grown hg4 (by simp)
    have hb4 : Below w.heap.size w w4 := hb0.grown hg4 hb0.size (fun k hk => by obtain rfl := Option.some.inj hk; omega)
    clear hW1 hW2 hW3 hW4 hg4 HFA
    have hc2 := hx2.cell 0
    have hc3 := hx3.cell 0
    have hz2 := hx2.frozen 0
    have hz3 := hx3.frozen 0
    simp only [List.getElem?_toArray, List.getElem?_cons_zero] at hc2 hc3
    go_wp2_with fail
    refine leaves_cons (f := 35) (args := #[.pointer (some ⟨w.heap.size, 0, none⟩), .pointer (some ⟨w.heap.size + 1, 0, none⟩), .pointer (some ⟨w.heap.size + 1 + 1, 0, none⟩)]) (by simp) (by simp [go_sem]) ?_
    refine (takeCatch_panic w.heap.size (w.heap.size + 1) (w.heap.size + 1 + 1) 0 0 (zRow 0) 89 _ [] w4 hx1 rfl hc2 hz2 hc3 hz3 (by omega) (by omega) (by omega) (by omega)).mono ?_
    rintro e u' w'' ⟨rfl, rfl, rfl⟩
    have hy1 : Wh (((w4.setRow w.heap.size (zRow 0)).setCell ⟨w.heap.size + 1, 0, none⟩ (.int .i64 0)).setCell ⟨w.heap.size + 1 + 1, 0, none⟩ (.int .i64 2)) w.heap.size 32 (zRow 0) := ((hx1.row (zRow 0)).far (by simp) _).far (by simp; omega) _
    have hy2 : Wh (((w4.setRow w.heap.size (zRow 0)).setCell ⟨w.heap.size + 1, 0, none⟩ (.int .i64 0)).setCell ⟨w.heap.size + 1 + 1, 0, none⟩ (.int .i64 2)) (w.heap.size + 1) 3 #[.int .i64 0] := ((hx2.grown (grown_row w4 w.heap.size (zRow 0)) (by simp)).put 0 _).far (by simp) _
    have hy3 : Wh (((w4.setRow w.heap.size (zRow 0)).setCell ⟨w.heap.size + 1, 0, none⟩ (.int .i64 0)).setCell ⟨w.heap.size + 1 + 1, 0, none⟩ (.int .i64 2)) (w.heap.size + 1 + 1) 40 #[.int .i64 2] := ((hx3.grown (grown_row w4 w.heap.size (zRow 0)) (by simp; omega)).far (by simp) _).put 0 _
    refine ⟨.tuple #[.agg (zRow 0), .int .i64 0, .int .i64 2], results3 Tryd.results19 _ _ ⟨w.heap.size, 0, none⟩ ⟨w.heap.size + 1, 0, none⟩ ⟨w.heap.size + 1 + 1, 0, none⟩ _ _ _ rfl rfl rfl (load_frame hy1 rfl) (load_int (by have := hy2.cell 0; simpa using this)) (load_errno (by have := hy3.cell 0; simpa using this)), ?_, rfl⟩
    exact ((hb4.grown (grown_row w4 w.heap.size (zRow 0)) hb4.size (fun k hk => by obtain rfl := Option.some.inj hk; exact Nat.le_refl _)).setCell (p := ⟨w.heap.size + 1, 0, none⟩) (by simp) _).setCell (p := ⟨w.heap.size + 1 + 1, 0, none⟩) (by simp; omega) _
  · rw [hf] at hFA
    have HFA := Lib.hid hFA
    have HF := Lib.hid hf
    clear hFA hf hrd
    refine HFA.out.mono ?_
    rintro e w4 ⟨a, rfl, hfr, hfd, hfc, hfa, hrd4, hg4⟩
    have hx1 := hW1.grown hg4 (by simp; omega)
    have hx2 := hW2.grown hg4 (by simp)
    have hx3 := hW3.grown hg4 (by simp)
    have hb4 : Below w.heap.size w w4 := hb0.grown hg4 hb0.size (fun k hk => by obtain rfl := Option.some.inj hk; omega)
    have hsz : (rowF f a).toArray.size = 30 := by simp [rowF_length a hfr.tok]
    have HI : Hid ((Tryd.prog.info? 32).map (·.size) = some (rowF f a).toArray.size) := by show _ = _; rw [hsz]; exact info_frame
    have HS30 := Lib.hid hsz
    have HFR : Hid (FA w4 (w.heap.size + 1 + 1) f a) := ⟨hfr, fun p hp => by have := hfd p hp; have := hW4.lt; omega, fun p hp => by have := hfc p hp; have := hW4.lt; omega, fun p hp => by have := hfa p hp; have := hW4.lt; omega⟩
    obtain ⟨A4, len4, c4, hW44, hl4, hc44, hm4, hs4, _⟩ := hrd4
    have HL4 := Lib.hid hl4
    clear hW1 hW2 hW3 hW4 hg4 HFA hfr hfd hfc hfa hsz hl4 hs4
    unfold maxLen at hm4
    have hgr := grown_row w4 w.heap.size (rowF f a).toArray
    have hY1 := hx1.row (rowF f a).toArray
    have hY2 := hx2.grown hgr (by simp)
    have hY3 := hx3.grown hgr (by simp; omega)
    have hY4 := hW44.grown hgr (by simp; omega)
    have hb5 := hb4.grown hgr hb4.size (fun k hk => by obtain rfl := Option.some.inj hk; exact Nat.le_refl _)
    have HX1 := Lib.hid hx1
    have HFA5 := Lib.hid (HFR.out.apart hgr (fun k hk => by obtain rfl := Option.some.inj hk; omega))
    clear hx1 hx2 hx3 hW44 hgr hb4 HFR
    go_wp2_with (refine wpList_store_row rfl 32 (.tmp 2) (.tmp 9) rfl w.heap.size (rowF f a).toArray rfl rfl _ _ HX1.out HI.out (by rw [HS30.out]; rfl) (rowF_one f a) ?_)
    generalize w4.setRow w.heap.size (rowF f a).toArray = w5 at *
    have hc4 := hY4.cell 0
    simp only [List.getElem?_toArray, List.getElem?_cons_zero] at hc4
    have hc2 := hY2.cell 0
    have hc3 := hY3.cell 0
    have hz2 := hY2.frozen 0
    have hz3 := hY3.frozen 0
    simp only [List.getElem?_toArray, List.getElem?_cons_zero] at hc2 hc3
    have hS0 : (fun w' : World => Wh w' w.heap.size 32 (rowF f a).toArray ∧ w'.cell? ⟨w.heap.size + 1 + 1 + 1, 0, none⟩ = some (.slice A4 len4 c4)) w5.drew := ⟨hY1, hc4⟩
    refine wp_region_noPanic ?_
    refine wp_region_held_drew (S := fun w' : World => Wh w' w.heap.size 32 (rowF f a).toArray ∧ w'.cell? ⟨w.heap.size + 1 + 1 + 1, 0, none⟩ = some (.slice A4 len4 c4)) (by kernel_rfl) hS0 (fun _ => ?_)
    refine wpAnyH_take (i := 0) (List.getElem?_toArray.trans rfl) (by kernel_rfl) (by kernel_rfl) (by kernel_rfl) (fun _ _ _ h => h) (yieldsIf_load_mid (by rfl) 32 (.tmp 2) rfl w.heap.size 0 rfl (rowF f a) _ (fun w' hS => row_range hS.1) Tryd.underlying32 rfl (by rw [rowF_length a HFA5.out.at_.tok]; exact info_frame)) hS0 ?_
    refine act_norm (by simp only [Act.put, List.setIfInBounds_toArray, List.set_cons_zero, List.set_cons_succ]; rfl) ?_
    refine wpAnyH_take (i := 1) (v := .slice A len c) (List.getElem?_toArray.trans rfl) (by kernel_rfl) (by kernel_rfl) (by kernel_rfl) (fun _ _ _ h => h) (.inl ⟨rfl, fun w' hS => rfl⟩) hS0 ?_
    refine act_norm (by simp only [Act.put, List.setIfInBounds_toArray, List.set_cons_zero, List.set_cons_succ]; rfl) ?_
    refine wpAnyH_take (i := 2) (v := .int .i64 (len : Int)) (List.getElem?_toArray.trans rfl) (by kernel_rfl) (by kernel_rfl) (by kernel_rfl) (fun _ _ _ h => h) (.inl ⟨rfl, fun w' hS => by simp [go_sem]⟩) hS0 ?_
    refine act_norm (by simp only [Act.put, List.setIfInBounds_toArray, List.set_cons_zero, List.set_cons_succ]; rfl) ?_
    refine wpAnyH_take (i := 3) (v := .pointer (some ⟨w.heap.size + 1 + 1 + 1, 0, none⟩)) (List.getElem?_toArray.trans rfl) (by kernel_rfl) (by kernel_rfl) (by kernel_rfl) (fun _ _ _ h => h) (.inl ⟨rfl, fun w' hS => by simp [go_sem]⟩) hS0 ?_
    refine act_norm (by simp only [Act.put, List.setIfInBounds_toArray, List.set_cons_zero, List.set_cons_succ]; rfl) ?_
    refine wpAnyH_take (i := 4) (v := .slice A4 len4 c4) (List.getElem?_toArray.trans rfl) (by kernel_rfl) (by kernel_rfl) (by kernel_rfl) (fun _ _ _ h => h) (.inl ⟨rfl, fun w' hS => by have hc := hS.2; simp [go_sem, hc]⟩) hS0 ?_
    refine act_norm (by simp only [Act.put, List.setIfInBounds_toArray, List.set_cons_zero, List.set_cons_succ]; rfl) ?_
    refine wpAnyH_take (i := 5) (v := .int .i64 (len4 : Int)) (List.getElem?_toArray.trans rfl) (by kernel_rfl) (by kernel_rfl) (by kernel_rfl) (fun _ _ _ h => h) (.inl ⟨rfl, fun w' hS => by simp [go_sem]⟩) hS0 ?_
    refine act_norm (by simp only [Act.put, List.setIfInBounds_toArray, List.set_cons_zero, List.set_cons_succ]; rfl) ?_
    have hl44 : len4 ≤ 9223372036854775807 := by omega
    have hwr : IntKind.i64.wrap ((len : Int) - (len4 : Int)) = (len : Int) - (len4 : Int) := IntWalk.i64_in _ (by omega)
    refine wpAnyH_take (i := 6) (v := .int .i64 ((len : Int) - (len4 : Int))) (List.getElem?_toArray.trans rfl) (by kernel_rfl) (by kernel_rfl) (by kernel_rfl) (fun _ _ _ h => h) (.inl ⟨rfl, fun w' hS => by simp [go_sem, hwr]⟩) hS0 ?_
    refine act_norm (by simp only [Act.put, List.setIfInBounds_toArray, List.set_cons_zero, List.set_cons_succ]; rfl) ?_
    refine wpAnyH_ready (rs := [7]) (by kernel_rfl) (by simp) (AllReadyH.cons (List.getElem?_toArray.trans rfl) (fun K' hK => ?_) AllReadyH.nil)
    refine wanted_go rfl ?_
    refine wp_store_row 32 (.tmp 2) (.tmp 10) rfl w.heap.size (rowF f a).toArray rfl rfl _ _ hS0.1 HI.out rfl (rowF_one f a) ?_
    rw [setRow_self w5.drew w.heap.size (rowF f a).toArray _ (0, 0) hS0.1]
    refine hK.out _ _ hS0 (fun _ => ?_)
    clear hK K'
    have hS1 : (fun w' : World => Wh w' w.heap.size 32 (rowF f a).toArray ∧ w'.cell? ⟨w.heap.size + 1 + 1 + 1, 0, none⟩ = some (.slice A4 len4 c4)) (w5.drew.setCell ⟨w.heap.size + 1, 0, none⟩ (.int .i64 ((len : Int) - (len4 : Int)))) :=
      ⟨hS0.1.far (by simp) _, (World.cell?_setCell_other _ _ _ _ (by simp)).trans hS0.2⟩
    have hc2d : w5.drew.cell? ⟨w.heap.size + 1, 0, none⟩ = some (.int .i64 0) := hc2
    have hz2d : w5.drew.frozen? ⟨w.heap.size + 1, 0, none⟩ = false := hz2
    refine wpAnyH_ready (rs := [8]) (by kernel_rfl) (by simp) (AllReadyH.cons (List.getElem?_toArray.trans rfl) (fun K' hK => ?_) AllReadyH.nil)
    refine wanted_go rfl ?_
    go_simp
    refine hK.out _ _ hS1 (fun _ => ?_)
    clear hK K'
    have hS2 : (fun w' : World => Wh w' w.heap.size 32 (rowF f a).toArray ∧ w'.cell? ⟨w.heap.size + 1 + 1 + 1, 0, none⟩ = some (.slice A4 len4 c4)) ((w5.drew.setCell ⟨w.heap.size + 1, 0, none⟩ (.int .i64 ((len : Int) - (len4 : Int)))).setCell ⟨w.heap.size + 1 + 1, 0, none⟩ (.int .i64 0)) :=
      ⟨hS1.1.far (by simp; omega) _, (World.cell?_setCell_other _ _ _ _ (by simp)).trans hS1.2⟩
    have hc3d : (w5.drew.setCell ⟨w.heap.size + 1, 0, none⟩ (.int .i64 ((len : Int) - (len4 : Int)))).cell? ⟨w.heap.size + 1 + 1, 0, none⟩ = some (.int .i64 0) := (World.cell?_setCell_other _ _ _ _ (by simp)).trans hc3
    refine wpAnyH_ready (rs := [9]) (by kernel_rfl) (by simp) (AllReadyH.cons (List.getElem?_toArray.trans rfl) (fun K' hK => ?_) AllReadyH.nil)
    refine wanted_go rfl ?_
    go_simp
    refine hK.out _ _ hS2 (fun _ => ?_)
    clear hK K'
    refine wpAnyH_done (by kernel_rfl) ?_ _
    refine NoPanic.normal ?_
    have HY1 := Lib.hid hS2.1
    have hfd : FA w5.drew (w.heap.size + 1 + 1) f a := HFA5.out.apart (row := none) ⟨rfl, rfl, rfl, Nat.le_refl _, fun _ _ _ => rfl⟩ (by simp)
    have HFA6 := Lib.hid ((hfd.apart (grown_set w5.drew (w.heap.size + 1) 0 (.int .i64 ((len : Int) - (len4 : Int)))) (fun k hk => by obtain rfl := Option.some.inj hk; omega)).apart (grown_set _ (w.heap.size + 1 + 1) 0 (.int .i64 0)) (fun k hk => by obtain rfl := Option.some.inj hk; omega))
    have HB6 := Lib.hid ((hb5.drew.setCell (p := ⟨w.heap.size + 1, 0, none⟩) (by simp) (.int .i64 ((len : Int) - (len4 : Int)))).setCell (p := ⟨w.heap.size + 1 + 1, 0, none⟩) (by simp; omega) (.int .i64 0))
    have hY2d : Wh w5.drew (w.heap.size + 1) 3 #[.int .i64 0] := hY2
    have hY3d : Wh w5.drew (w.heap.size + 1 + 1) 40 #[.int .i64 0] := hY3
    have HY2 := Lib.hid ((hY2d.put 0 (.int .i64 ((len : Int) - (len4 : Int)))).far (p := ⟨w.heap.size + 1 + 1, 0, none⟩) (by simp) (.int .i64 0))
    have HY3 := Lib.hid ((hY3d.far (p := ⟨w.heap.size + 1, 0, none⟩) (by simp) (.int .i64 ((len : Int) - (len4 : Int)))).put 0 (.int .i64 0))
    go_wp2_with fail
    refine leaves_cons (f := 35) (args := #[.pointer (some ⟨w.heap.size, 0, none⟩), .pointer (some ⟨w.heap.size + 1, 0, none⟩), .pointer (some ⟨w.heap.size + 1 + 1, 0, none⟩)]) (by simp) (by simp [go_sem]) ?_
    refine (takeCatch_idle ⟨w.heap.size, 0, none⟩ ⟨w.heap.size + 1, 0, none⟩ ⟨w.heap.size + 1 + 1, 0, none⟩ _).mono ?_
    rintro e u' w'' ⟨rfl, rfl, rfl⟩
    refine ⟨.tuple #[.agg (rowF f a).toArray, .int .i64 ((len : Int) - (len4 : Int)), .int .i64 0], results3 Tryd.results19 _ _ ⟨w.heap.size, 0, none⟩ ⟨w.heap.size + 1, 0, none⟩ ⟨w.heap.size + 1 + 1, 0, none⟩ _ _ _ rfl rfl rfl (load_frame HY1.out HS30.out) (load_int ((HY2.out.cell 0).trans rfl)) (load_errno ((HY3.out.cell 0).trans rfl)), HB6.out, ?_⟩
    rw [HF.out]
    exact ⟨a, by rw [HL.out, HL4.out], HFA6.out.at_⟩

end Go.Proofs.YtkkojhkglcigmaaDoor
