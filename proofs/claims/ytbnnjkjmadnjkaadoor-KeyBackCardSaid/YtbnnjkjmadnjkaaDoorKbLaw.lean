/-
  The walk through the statement KeyBack, where it asks. Printed by tools/gen_kblaw.py.
-/
import Derived.Test.YtbnnjkjmadnjkaaDoorSk44
import Derived.Test.YtbnnjkjmadnjkaaDoorKbUnm
import Derived.Test.YtbnnjkjmadnjkaaDoorSk49
import Derived.Test.YtbnnjkjmadnjkaaDoorSk50
namespace Go.Proofs.YtbnnjkjmadnjkaaDoor
open Go.RowKit
set_option linter.unusedVariables false

theorem wpList_loadKb {P : Program} {ops : Array Oper} {rest : List Oper} {o : Oper} {a : Act} {w : World} {Q : Exit → Act → World → Prop} (ty : TypeId) (x : Operand) (ho : o.op = .load ty x) (hw : Region.wanted o (yielded ops a.tmps) = true)
    (g : Nat) (hx : a.eval x = .pointer (some ⟨g, 0, none⟩)) (cs : List Value) (d : TypeDesc) (hg : w.rangeAt g 0 cs)
    (hu : P.underlying ty = some d) (hd : d.isRow = true) (hi : (P.info? ty).map (·.size) = some cs.length)
    (h : wpList P ops Q rest (a.put o.dst (.agg cs.toArray)) w) : wpList P ops Q (o :: rest) a w :=
  wpList_step fun K hK => by
    rw [if_pos hw]
    exact wp_load_mid ty x ho g 0 hx cs d hg hu hd hi (hK _ _ h)

/-- What the law's calls want of the world. -/
structure BK (w wr : World) (b h : Nat) (k : KS) (R : Array Value) (dst src tok pl : List UInt8) (A1 A2 A3 A : Option Addr) : Prop where
  bel : Below w.heap.size w wr
  kb : Wh wr b 27 (kyRow k)
  hh : Wh wr h 30 R
  s1 : Sl wr wr.heap.size A1 dst
  s2 : Sl wr wr.heap.size A2 src
  s3 : Sl wr wr.heap.size A3 tok
  s0 : Sl wr wr.heap.size A pl
  tab : Tab wr
  kt : Kt wr
theorem BK.since {w a c : World} {b h : Nat} {k : KS} {R : Array Value} {dst src tok pl : List UInt8} {A1 A2 A3 A : Option Addr} (p : BK w a b h k R dst src tok pl A1 A2 A3 A) (hb : Below a.heap.size a c) : BK w c b h k R dst src tok pl A1 A2 A3 A :=
  ⟨p.bel.trans (hb.mono p.bel.size), p.kb.below hb p.kb.lt, p.hh.below hb p.hh.lt, SinceK.sl hb p.s1, SinceK.sl hb p.s2, SinceK.sl hb p.s3, SinceK.sl hb p.s0, p.tab.below hb p.tab.lt, p.kt.since hb⟩
/-- A part that Split made. -/
structure PtB (wr : World) (r sp a t : Nat) (C1 : Option Addr) (k1 : Nat) (C2 : Option Addr) (k2 : Nat) (C3 : Option Addr) (k3 : Nat) (C4 : Option Addr) (dst src tok P : List UInt8) : Prop where
  box : Wh wr r 37 (partC sp C1 dst.length k1 C2 src.length k2 C3 tok.length k3 a C4 t t)
  s1 : Sl wr wr.heap.size C1 dst
  s2 : Sl wr wr.heap.size C2 src
  s3 : Sl wr wr.heap.size C3 tok
  s4 : Sl wr wr.heap.size C4 P
theorem PtB.since {a c : World} {r sp a' t : Nat} {C1 : Option Addr} {k1 : Nat} {C2 : Option Addr} {k2 : Nat} {C3 : Option Addr} {k3 : Nat} {C4 : Option Addr} {dst src tok P : List UInt8} (p : PtB a r sp a' t C1 k1 C2 k2 C3 k3 C4 dst src tok P) (hb : Below a.heap.size a c) : PtB c r sp a' t C1 k1 C2 k2 C3 k3 C4 dst src tok P :=
  ⟨p.box.below hb p.box.lt, SinceK.sl hb p.s1, SinceK.sl hb p.s2, SinceK.sl hb p.s3, SinceK.sl hb p.s4⟩
/-- What Unmask made, in a box. -/
structure UnB (wr : World) (g : Nat) (sp n X : Nat) (ph : Bool) (dst src tok H BX : List UInt8) (B1 : Option Addr) (d1 : Nat) (B2 : Option Addr) (d2 : Nat) (B3 : Option Addr) (d3 : Nat) (B4 : Option Addr) (d4 : Nat) (B5 : Option Addr) (d5 : Nat) : Prop where
  box : Wh wr g 41 (bareL9 sp B1 dst.length d1 B2 src.length d2 B3 tok.length d3 ph (X : Int) (n : Int) B4 H.length d4 B5 BX.length d5).toArray
  s1 : Sl wr wr.heap.size B1 dst
  s2 : Sl wr wr.heap.size B2 src
  s3 : Sl wr wr.heap.size B3 tok
  s4 : Sl wr wr.heap.size B4 H
  s5 : Sl wr wr.heap.size B5 BX
theorem UnB.since {a c : World} {g : Nat} {sp n X : Nat} {ph : Bool} {dst src tok H BX : List UInt8} {B1 : Option Addr} {d1 : Nat} {B2 : Option Addr} {d2 : Nat} {B3 : Option Addr} {d3 : Nat} {B4 : Option Addr} {d4 : Nat} {B5 : Option Addr} {d5 : Nat} (p : UnB a g sp n X ph dst src tok H BX B1 d1 B2 d2 B3 d3 B4 d4 B5 d5) (hb : Below a.heap.size a c) : UnB c g sp n X ph dst src tok H BX B1 d1 B2 d2 B3 d3 B4 d4 B5 d5 :=
  ⟨p.box.below hb p.box.lt, SinceK.sl hb p.s1, SinceK.sl hb p.s2, SinceK.sl hb p.s3, SinceK.sl hb p.s4, SinceK.sl hb p.s5⟩
theorem UnB.head {a : World} {g : Nat} {sp n X : Nat} {ph : Bool} {dst src tok H BX : List UInt8} {B1 : Option Addr} {d1 : Nat} {B2 : Option Addr} {d2 : Nat} {B3 : Option Addr} {d3 : Nat} {B4 : Option Addr} {d4 : Nat} {B5 : Option Addr} {d5 : Nat} (p : UnB a g sp n X ph dst src tok H BX B1 d1 B2 d2 B3 d3 B4 d4 B5 d5) :
    a.rangeAt g 0 (hdL sp B1 dst.length d1 B2 src.length d2 B3 tok.length d3 ph (X : Int) (n : Int)) := fun j v hv => by
  have hj : j < 7 := by have := (List.getElem?_eq_some_iff.1 hv).1; simpa [hdL] using this
  rw [Nat.zero_add, p.box.cell, List.getElem?_toArray, ← hv]
  match j, hj with
  | 0, _ => rfl
  | 1, _ => rfl
  | 2, _ => rfl
  | 3, _ => rfl
  | 4, _ => rfl
  | 5, _ => rfl
  | 6, _ => rfl
theorem UnB.c1 {a : World} {g : Nat} {sp n X : Nat} {ph : Bool} {dst src tok H BX : List UInt8} {B1 : Option Addr} {d1 : Nat} {B2 : Option Addr} {d2 : Nat} {B3 : Option Addr} {d3 : Nat} {B4 : Option Addr} {d4 : Nat} {B5 : Option Addr} {d5 : Nat} (p : UnB a g sp n X ph dst src tok H BX B1 d1 B2 d2 B3 d3 B4 d4 B5 d5) :
    a.cell? ⟨g, 7, none⟩ = some (.slice B4 H.length d4) ∧ a.cell? ⟨g, 8, none⟩ = some (.slice B5 BX.length d5) := ⟨(p.box.cell 7).trans rfl, (p.box.cell 8).trans rfl⟩
def UnmB (w : World) (sp n X : Nat) (dst src tok H BX : List UInt8) (ph : Bool) (e : Ending) (w' : World) : Prop :=
  ∃ B1 d1 B2 d2 B3 d3 B4 d4 B5 d5, e = .returned (.tuple #[.agg (bareL9 sp B1 dst.length d1 B2 src.length d2 B3 tok.length d3 ph (X : Int) (n : Int) B4 H.length d4 B5 BX.length d5).toArray, .int .i64 0]) ∧ H.length ≤ d4 ∧ d4 ≤ maxLen ∧ BX.length ≤ d5 ∧ d5 ≤ maxLen ∧
    Sy w' w.heap.size B1 (dst.map cell8) ∧ Sy w' w.heap.size B2 (src.map cell8) ∧ Sy w' w.heap.size B3 (tok.map cell8) ∧ Sy w' w.heap.size B4 (H.map cell8) ∧ Sy w' w.heap.size B5 (BX.map cell8) ∧ Below w.heap.size w w'
def part0 : Array Value := #[.int .u8 0, .slice none 0 0, .slice none 0 0, .slice none 0 0, .int .i64 0, .slice none 0 0]
set_option maxRecDepth 100000 in
theorem zero_part (w : World) : (zeroValue 37).run Tryd.prog w = .ok (.agg part0) w := by kernel_rfl
theorem info_partR (sp : Nat) (A1 : Option Addr) (n1 c1 : Nat) (A2 : Option Addr) (n2 c2 : Nat) (A3 : Option Addr) (n3 c3 at_ : Nat) (A4 : Option Addr) (n4 c4 : Nat) : (Tryd.prog.info? 37).map (·.size) = some (partC sp A1 n1 c1 A2 n2 c2 A3 n3 c3 at_ A4 n4 c4).size := by kernel_rfl
theorem part_one (sp : Nat) (A1 : Option Addr) (n1 c1 : Nat) (A2 : Option Addr) (n2 c2 : Nat) (A3 : Option Addr) (n3 c3 at_ : Nat) (A4 : Option Addr) (n4 c4 : Nat) : (partC sp A1 n1 c1 A2 n2 c2 A3 n3 c3 at_ A4 n4 c4).all (·.oneCell') = true := by kernel_rfl
theorem info_head7 : (Tryd.prog.info? 30).map (·.size) = some 7 := by kernel_rfl
theorem head_set (sp : Nat) (A1 : Option Addr) (n1 c1 : Nat) (A2 : Option Addr) (n2 c2 : Nat) (A3 : Option Addr) (n3 c3 : Nat) (ph : Bool) (pn pnb x : Int) : (headC sp A1 n1 c1 A2 n2 c2 A3 n3 c3 ph pn pnb).setIfInBounds 5 (.int .u64 x) = headC sp A1 n1 c1 A2 n2 c2 A3 n3 c3 ph x pnb := rfl

set_option maxRecDepth 100000 in
set_option maxHeartbeats 6400000 in
theorem kback_in (k : KS) (sp n pn next : Nat) (dst src tok pl : List UInt8) (ph : Bool) (A1 : Option Addr) (c1 : Nat) (A2 : Option Addr) (c2 : Nat) (A3 : Option Addr) (c3 : Nat) (A : Option Addr) (c : Nat) (w : World)
    (hk : k.Ok) (hK : Kt w) (hT : Tab w) (hs1 : Sl w w.heap.size A1 dst) (hs2 : Sl w w.heap.size A2 src) (hs3 : Sl w w.heap.size A3 tok) (hs : Sl w w.heap.size A pl) (hlc : pl.length ≤ c) (hcm : c ≤ maxLen)
    (hp : pl.length ≤ 300) (ht : tok.length ≤ 300) (hmay : mayB sp dst.length src.length tok.length ph (pn : Int) (n : Int) = true) (h4 : 4 ≤ n + pl.length) :
    Calls Tryd.prog 3 #[.agg (kyRow k), .agg (headC sp A1 dst.length c1 A2 src.length c2 A3 tok.length c3 ph (pn : Int) (n : Int)), .slice A pl.length c, .int .u64 (next : Int)] w fun e w' => e = .returned (.bool true) ∧ Below w.heap.size w w' := by
  obtain ⟨a, fa⟩ := pack_facts k sp n pn dst src tok pl ph hmay h4 hp ht
  obtain ⟨f1, f2, f3, f4, f5, f6, f7, f8, f9⟩ := may_facts hmay
  have hn : n = 1 ∨ n = 2 ∨ n = 3 ∨ n = 4 := by omega
  have hn1 : 1 ≤ n := by omega
  have hn4 : n ≤ 4 := by omega
  have hpn : pn ≤ 4611686018427387903 := by omega
  obtain ⟨H, hH⟩ : ∃ H, H = headB sp n dst src tok ph pn (pl.length + 16) := ⟨_, rfl⟩
  obtain ⟨P, hP⟩ : ∃ P, P = packK k sp n pn H pl := ⟨_, rfl⟩
  obtain ⟨BX, hBX⟩ : ∃ BX, BX = sealK k.key (nonK k.iv pn) H pl := ⟨_, rfl⟩
  obtain ⟨X, hX⟩ : ∃ X, X = expN next (pn % 256 ^ n) (256 ^ n) := ⟨_, rfl⟩
  rw [← hH, ← hP] at fa
  have ha1 := fa.a1
  have han := fa.an
  have hfew := fa.few
  have hPl : P.length = a + n + (pl.length + 16) := by rw [hP, pack_len, ← han]
  have hHl : H.length = a + n := han.symm
  have hBl : BX.length = pl.length + 16 := by rw [hBX, sealK_len]
  have hun := unL_pack k sp n pn H pl hn1 hn4 (by omega) h4
  rw [show H.length - n = a by omega, ← hP, ← hBX] at hun
  have HSE : Hid (∀ w' : World, Tab w' → Sl w' w'.heap.size A1 dst → Sl w' w'.heap.size A2 src → Sl w' w'.heap.size A3 tok → Sl w' w'.heap.size A pl → Calls Tryd.prog 6 #[.agg (kyRow k), .agg (headC sp A1 dst.length c1 A2 src.length c2 A3 tok.length c3 ph (pn : Int) (n : Int)), .slice A pl.length c] w' (Gave w' P fun v => .tuple #[v, .int .i64 0])) := Lib.hid fun w' q1 q2 q3 q4 q5 => by
    rw [hP, hH]
    exact kseal_in k sp n pn dst src tok pl ph A1 c1 A2 c2 A3 c3 A c w' hk hmay h4 (by omega) hlc hcm (by omega) q1 q2 q3 q4 q5
  have HSP : Hid (∀ (B : Option Addr) (d : Nat) (w' : World), P.length ≤ d → d ≤ maxLen → Sl w' w'.heap.size B P → Calls Tryd.prog 7 #[.slice B P.length d, .int .i64 (dst.length : Int)] w' (SplitOk w' P ⟨sp, dst, src, tok⟩ a P.length)) := Lib.hid fun B d w' q1 q2 q3 => by
    have := split_ok fa.t fa.at_ (by omega) B P.length d w' rfl q3 q1 q2 (by omega)
    rwa [fa.p] at this
  have hex : ∀ w' : World, Calls Tryd.prog 11 #[.int .u64 (next : Int), .int .u64 ((pn % 256 ^ n : Nat) : Int), .int .i64 (n : Int)] w' fun e w2 => e = .returned (.int .u64 (X : Int)) ∧ Below w'.heap.size w' w2 := fun w' => by
    rw [hX]
    exact expand_k hn next _ w'
  have htr : ∀ w' : World, Calls Tryd.prog 12 #[.int .u64 (pn : Int), .int .i64 (n : Int)] w' fun e w2 => e = .returned (.int .u64 ((pn % 256 ^ n : Nat) : Int)) ∧ w' = w2 := fun w' => trunc_k hn pn w'
  have HUN : Hid (∀ (k' : KS), k'.Ok → k'.hp = k.hp → ∀ (C1 : Option Addr) (k1 : Nat) (C2 : Option Addr) (k2 : Nat) (C3 : Option Addr) (k3 : Nat) (C4 : Option Addr) (w' : World), Sl w' w'.heap.size C1 dst → Sl w' w'.heap.size C2 src → Sl w' w'.heap.size C3 tok → Sl w' w'.heap.size C4 P →
      Calls Tryd.prog 8 #[.agg (kyRow k'), .agg (partC sp C1 dst.length k1 C2 src.length k2 C3 tok.length k3 a C4 P.length P.length), .int .u64 (next : Int)] w' (UnmB w' sp n X dst src tok H BX ph)) := Lib.hid fun k' hk' hkp C1 k1 C2 k2 C3 k3 C4 w' q1 q2 q3 q4 => by
    obtain ⟨bt, hbt⟩ : ∃ bt, ((sp : Int) == 2) = bt := ⟨_, rfl⟩
    have := kunm_in k' sp n a P.length next X dst src tok P ph C1 k1 C2 k2 C3 k3 C4 P.length w' hk' hn1 hn4 ha1 (by omega) rfl (Nat.le_refl _) (by unfold maxLen; omega) (by omega) f1 f2 (by omega) q1 q2 q3 q4
      (unL k P sp a) (by rw [hkp]; rfl) (H.getD 0 0) hun.2.2.1.symm bt hbt (fa.x bt hbt) fa.sz (fa.res bt hbt) fa.phs (fun w2 => by rw [hun.2.2.2.1, fa.num, val_low]; exact hex w2)
    rw [hun.2.1, hun.2.2.2.2] at this
    exact this
  have HOP : Hid (pn = X → ∀ (B1 : Option Addr) (d1 : Nat) (B2 : Option Addr) (d2 : Nat) (B3 : Option Addr) (d3 : Nat) (B4 : Option Addr) (d4 : Nat) (B5 : Option Addr) (d5 : Nat) (w' : World), H.length ≤ d4 → d4 ≤ maxLen → BX.length ≤ d5 → d5 ≤ maxLen → Sl w' w'.heap.size B4 H → Sl w' w'.heap.size B5 BX →
      Calls Tryd.prog 13 #[.agg (kyRow k), .agg (bareL9 sp B1 dst.length d1 B2 src.length d2 B3 tok.length d3 ph (X : Int) (n : Int) B4 H.length d4 B5 BX.length d5).toArray] w' (Gave w' pl fun v => .tuple #[v, .int .i64 0])) := Lib.hid fun hq B1 d1 B2 d2 B3 d3 B4 d4 B5 d5 w' q1 q2 q3 q4 q5 q6 => by
    rw [← hq]
    have := kopen_in k sp pn H BX B1 dst.length d1 B2 src.length d2 B3 tok.length d3 ph (n : Int) B4 d4 B5 d5 w' hk hpn q5 q6 q1 q2 q3 q4 (by omega) (by omega) (by rw [hBX]; exact seal_ok _ _ _ _)
    rwa [show txK k.key (nonK k.iv pn) BX = pl by rw [hBX]; exact seal_tx _ _ _ _] at this
  have HNX : Hid (∀ w' : World, Kt w' → Calls Tryd.prog 9 #[.agg (kyRow k)] w' fun e w2 => e = .returned (.agg (kyRow (nextK k))) ∧ Below w'.heap.size w' w2) := Lib.hid fun w' q => next_any k w' q hk
  have HNO : Hid ((nextK k).Ok ∧ (nextK k).hp = k.hp) := Lib.hid ⟨nextK_ok hk, rfl⟩
  have hmy := hmay_any sp dst.length src.length tok.length ph A1 c1 A2 c2 A3 c3 (pn : Int) (n : Int)
  rw [hmay] at hmy
  have HM := Lib.hid hmy
  have HEX := Lib.hid hex
  have HTR := Lib.hid htr
  obtain ⟨hbe, h2, h3, hsz⟩ := made2K w (kyRow k) (headC sp A1 dst.length c1 A2 src.length c2 A3 tok.length c3 ph (pn : Int) (n : Int)) 27 30
  have HKN := Lib.hid (kyknown_any _ (hK.since hbe))
  obtain ⟨b, hb⟩ : ∃ b, b = w.heap.size := ⟨_, rfl⟩
  rw [← hb] at h2 h3
  obtain ⟨h, hh⟩ : ∃ h, h = b + 1 := ⟨_, rfl⟩
  rw [← hh] at h3
  have HP0 : Hid (BK w _ b h k _ dst src tok pl A1 A2 A3 A) := Lib.hid ⟨hbe, h2, h3, SinceK.sl hbe hs1, SinceK.sl hbe hs2, SinceK.sl hbe hs3, SinceK.sl hbe hs, hT.below hbe hT.lt, hK.since hbe⟩
  have HIR := Lib.hid (info_headR sp A1 dst.length c1 A2 src.length c2 A3 tok.length c3 ph (pn : Int) (n : Int))
  have HIU := Lib.hid (info_headU sp A1 dst.length c1 A2 src.length c2 A3 tok.length c3 ph (pn : Int) (n : Int))
  have HHS := Lib.hid (head_set sp A1 dst.length c1 A2 src.length c2 A3 tok.length c3 ph (pn : Int) (n : Int) (X : Int))
  have HR1 : Hid ((headC sp A1 dst.length c1 A2 src.length c2 A3 tok.length c3 ph (pn : Int) (n : Int))[1]? = some (.slice A1 dst.length c1)) := Lib.hid rfl
  have HR3 : Hid ((headC sp A1 dst.length c1 A2 src.length c2 A3 tok.length c3 ph (pn : Int) (n : Int))[3]? = some (.slice A3 tok.length c3)) := Lib.hid rfl
  have HR5 : Hid ((headC sp A1 dst.length c1 A2 src.length c2 A3 tok.length c3 ph (pn : Int) (n : Int))[5]? = some (.int .u64 (pn : Int))) := Lib.hid rfl
  have HR6 : Hid ((headC sp A1 dst.length c1 A2 src.length c2 A3 tok.length c3 ph (pn : Int) (n : Int))[6]? = some (.int .i64 (n : Int))) := Lib.hid rfl
  have HR7 : Hid ((headC sp A1 dst.length c1 A2 src.length c2 A3 tok.length c3 ph (pn : Int) (n : Int)).toList.length = 7) := Lib.hid rfl
  have HK := Deep.mk hk
  obtain ⟨p, hpq⟩ : ∃ p, p = pl.length := ⟨_, rfl⟩
  obtain ⟨q, hqq⟩ : ∃ q, q = tok.length := ⟨_, rfl⟩
  obtain ⟨S, hS⟩ : ∃ S, S = strB pl := ⟨_, rfl⟩
  have t1 : decide ((300 : Int) < (p : Int)) = false := decide_eq_false (by omega)
  have t2 : decide ((300 : Int) < (q : Int)) = false := decide_eq_false (by omega)
  have t3 : decide ((n : Int) + (p : Int) < 4) = false := decide_eq_false (by omega)
  generalize hRg : headC sp A1 dst.length c1 A2 src.length c2 A3 tok.length c3 ph (pn : Int) (n : Int) = R at *
  rw [← hpq] at HSE ⊢
  rw [← hqq] at HR3
  have HPQ := Deep.mk hpq
  have HSL := Deep.mk hS
  have HRG := Deep.mk hRg
  have HF := Deep.mk (And.intro hPl (And.intro hHl hBl))
  have hpb : p ≤ 300 := by omega
  have hqb : q ≤ 300 := by omega
  have hdl : dst.length ≤ 20 := f1
  clear hbe h2 h3 hsz hs1 hs2 hs3 hs hT hK hk hp ht h4 hmay hmy f1 f2 f3 f4 f5 f6 f7 f8 f9 hn hH hP hBX hX fa hun hex htr hlc hcm hpq hqq hS hRg hPl hHl hBl han hfew ha1
  go_enter Tryd.func3, Tryd.ntmps3
  go_upto_region 1 with (fail)
  rw [← hb, ← hh]
  clear hb hh
  go_wp2_with fail
  refine HKN.out.mono ?_
  rintro e w1 ⟨rfl, hb1⟩
  have HP1 := Lib.hid (HP0.out.since hb1)
  have hc3 := (HP1.out.hh.cell 3).trans HR3.out
  have hrr : w1.rangeAt h 0 R.toList := row_rangeS HP1.out.hh
  have HRR := Lib.hid hrr
  clear hb1 HP0 HKN hrr
  go_wp2_with (refine wpList_loadKb 30 (.tmp 5) rfl rfl h rfl R.toList _ HRR.out Tryd.underlying30 rfl (by rw [HR7.out]; exact info_head7) ?_)
  rw [Array.toArray_toList]
  refine (HM.out w1).mono ?_
  rintro e w2 ⟨rfl, hb2⟩
  have HP2 := Lib.hid (HP1.out.since hb2)
  have hc6 := (HP2.out.hh.cell 6).trans HR6.out
  have hst2 : (convert 28 9 (.slice A p c)).run Tryd.prog w2 = .ok (.string S) w2 := by
    rw [HSL.out]
    exact run_string_sl (P := Tryd.prog) w2 28 9 5 Tryd.underlying28 Tryd.underlying5 Tryd.underlying9 w2.heap.size A p c pl HP2.out.s0 HPQ.out.symm
  clear hb2 HP1 HM hc3 HRR
  go_wp2_with (first
    | (refine wpList_load_row rfl 27 (.tmp 4) rfl b rfl _ (kyRow k) _ _ HP2.out.kb Tryd.underlying27 rfl (info_kyRow HK.out) ?_)
    | (refine wpList_load_row rfl 30 (.tmp 5) rfl h rfl _ R _ _ HP2.out.hh Tryd.underlying30 rfl HIR.out ?_))
  refine (HSE.out w2 HP2.out.tab HP2.out.s1 HP2.out.s2 HP2.out.s3 HP2.out.s0).mono ?_
  rintro e w3 ⟨B, d, rfl, hBd, hdm, hown, hb3⟩
  have HP3 := Lib.hid (HP2.out.since hb3)
  have HB3 : Hid (Sl w3 w3.heap.size B P) := Lib.hid (Sv.of_own hown)
  have hst3 : (convert 28 9 (.slice A p c)).run Tryd.prog w3 = .ok (.string S) w3 := by
    rw [HSL.out]
    exact run_string_sl (P := Tryd.prog) w3 28 9 5 Tryd.underlying28 Tryd.underlying5 Tryd.underlying9 w3.heap.size A p c pl HP3.out.s0 HPQ.out.symm
  have hc1 := (HP3.out.hh.cell 1).trans HR1.out
  clear hb3 hown hst2 hc6 HP2 HSE
  go_upto_region 10 with (first
    | (go_at_call 7
       refine (HSP.out B d w3 hBd hdm HB3.out).mono ?_
       rintro e w4 ⟨C1, k1, C2, k2, C3, k3, C4, C5, hle, rfl, y1, y2, y3, y4, y5, hb4⟩
       dsimp only at y1 y2 y3 ⊢
       rw [Nat.sub_self]
       rw [List.take_length] at y4
       have HP4 := Lib.hid (HP3.out.since hb4)
       have HB4 := Lib.hid (SinceK.sl hb4 HB3.out)
       have Y1 := Lib.hid y1
       have Y2 := Lib.hid y2
       have Y3 := Lib.hid y3
       have Y4 := Lib.hid y4
       clear y1 y2 y3 y4 y5 hb4 hle hst3 hc1 HP3 HB3 HSP)
    | (refine wpList_allocZ rfl 37 rfl part0 (zero_part _) ?_)
    | (refine wpList_store_row rfl 37 (.tmp 12) (.tmp 66) rfl w4.heap.size (partC sp C1 dst.length k1 C2 src.length k2 C3 tok.length k3 a C4 P.length P.length) rfl rfl _ _ (heap_alloc_new w4 _) (info_partR _ _ _ _ _ _ _ _ _ _ _ _ _ _) rfl (part_one _ _ _ _ _ _ _ _ _ _ _ _ _ _) ?_; rw [World.setRow_alloc_new]))
  obtain ⟨r, hr⟩ : ∃ r, r = w4.heap.size := ⟨_, rfl⟩
  have hbn : Below w4.heap.size w4 (w4.alloc (.cells (partC sp C1 dst.length k1 C2 src.length k2 C3 tok.length k3 a C4 P.length P.length) 37)) := (Below.refl _ _).alloc (Nat.le_refl _) _
  have h5 := Wh.new w4 37 (partC sp C1 dst.length k1 C2 src.length k2 C3 tok.length k3 a C4 P.length P.length)
  rw [← hr] at h5
  rw [← hr]
  have HP5 := Lib.hid (HP4.out.since hbn)
  have HB5 := Lib.hid (SinceK.sl hbn HB4.out)
  have HT5 : Hid (PtB (w4.alloc (.cells (partC sp C1 dst.length k1 C2 src.length k2 C3 tok.length k3 a C4 P.length P.length) 37)) r sp a P.length C1 k1 C2 k2 C3 k3 C4 dst src tok P) := Lib.hid ⟨h5, SinceK.sl hbn Y1.out, SinceK.sl hbn Y2.out, SinceK.sl hbn Y3.out, SinceK.sl hbn Y4.out⟩
  generalize w4.alloc (.cells (partC sp C1 dst.length k1 C2 src.length k2 C3 tok.length k3 a C4 P.length P.length) 37) = w5 at *
  clear hbn h5 hr HP4 HB4 Y1 Y2 Y3 Y4
  obtain ⟨T, hT⟩ : ∃ T, T = strB P := ⟨_, rfl⟩
  have HTS := Deep.mk hT
  clear hT
  have hc5 : w5.cell? ⟨r, 5, none⟩ = some (.slice C4 P.length P.length) := (HT5.out.box.cell 5).trans rfl
  have hsa : (convert 28 9 (.slice C4 P.length P.length)).run Tryd.prog w5 = .ok (.string T) w5 := by
    rw [HTS.out]
    exact run_string_sl (P := Tryd.prog) w5 28 9 5 Tryd.underlying28 Tryd.underlying5 Tryd.underlying9 w5.heap.size C4 P.length P.length _ HT5.out.s4 rfl
  have hsb : (convert 28 9 (.slice B P.length d)).run Tryd.prog w5 = .ok (.string T) w5 := by
    rw [HTS.out]
    exact run_string_sl (P := Tryd.prog) w5 28 9 5 Tryd.underlying28 Tryd.underlying5 Tryd.underlying9 w5.heap.size B P.length d _ HB5.out rfl
  go_upto_region 12 with fail
  clear hsa hsb hc5 HB5 HTS hBd hdm
  go_upto_region 13 with (first
    | (refine wpList_load_row rfl 27 (.tmp 4) rfl b rfl _ (kyRow k) _ _ HP5.out.kb Tryd.underlying27 rfl (info_kyRow HK.out) ?_)
    | (refine wpList_load_row rfl 37 (.tmp 12) rfl r rfl _ (partC sp C1 dst.length k1 C2 src.length k2 C3 tok.length k3 a C4 P.length P.length) _ _ HT5.out.box Tryd.underlying37 rfl (info_partR _ _ _ _ _ _ _ _ _ _ _ _ _ _) ?_)
    | (go_at_call 8
       refine (HUN.out k HK.out rfl C1 k1 C2 k2 C3 k3 C4 w5 HT5.out.s1 HT5.out.s2 HT5.out.s3 HT5.out.s4).mono ?_
       rintro e w6 ⟨B11, d11, B12, d12, B13, d13, B14, d14, B15, d15, rfl, x11, x12, x13, x14, z11, z12, z13, z14, z15, hbu⟩
       have HP6 := Lib.hid (HP5.out.since hbu)
       have HT6 := Lib.hid (HT5.out.since hbu)
       have Z1 := Lib.hid z11.sv
       have Z2 := Lib.hid z12.sv
       have Z3 := Lib.hid z13.sv
       have Z4 := Lib.hid z14.sv
       have Z5 := Lib.hid z15.sv
       clear z11 z12 z13 z14 z15 hbu HP5 HT5)
    | (refine wpList_allocZ rfl 41 rfl bare0 (zero_bare _) ?_)
    | (refine wpList_store_row rfl 41 (.tmp 14) (.tmp 89) rfl w6.heap.size (bareL9 sp B11 dst.length d11 B12 src.length d12 B13 tok.length d13 ph (X : Int) (n : Int) B14 H.length d14 B15 BX.length d15).toArray rfl rfl _ _ (heap_alloc_new w6 _) info_bare9 rfl (bare_one _ _ _ _ _ _ _ _ _ _ _ _ _ _ _ _ _ _ _) ?_; rw [World.setRow_alloc_new]))
  obtain ⟨g, hg⟩ : ∃ g, g = w6.heap.size := ⟨_, rfl⟩
  have hbn : Below w6.heap.size w6 (w6.alloc (.cells (bareL9 sp B11 dst.length d11 B12 src.length d12 B13 tok.length d13 ph (X : Int) (n : Int) B14 H.length d14 B15 BX.length d15).toArray 41)) := (Below.refl _ _).alloc (Nat.le_refl _) _
  have h7 := Wh.new w6 41 (bareL9 sp B11 dst.length d11 B12 src.length d12 B13 tok.length d13 ph (X : Int) (n : Int) B14 H.length d14 B15 BX.length d15).toArray
  rw [← hg] at h7
  rw [← hg]
  have hp7 := HP6.out.since hbn
  have ht7 := HT6.out.since hbn
  have hu7 : UnB (w6.alloc (.cells (bareL9 sp B11 dst.length d11 B12 src.length d12 B13 tok.length d13 ph (X : Int) (n : Int) B14 H.length d14 B15 BX.length d15).toArray 41)) g sp n X ph dst src tok H BX B11 d11 B12 d12 B13 d13 B14 d14 B15 d15 := ⟨h7, SinceK.sl hbn Z1.out, SinceK.sl hbn Z2.out, SinceK.sl hbn Z3.out, SinceK.sl hbn Z4.out, SinceK.sl hbn Z5.out⟩
  generalize w6.alloc (.cells (bareL9 sp B11 dst.length d11 B12 src.length d12 B13 tok.length d13 ph (X : Int) (n : Int) B14 H.length d14 B15 BX.length d15).toArray 41) = w7 at *
  clear hbn h7 hg HP6 HT6 Z1 Z2 Z3 Z4 Z5
  have HP7 := Lib.hid hp7
  have HT7 := Lib.hid ht7
  have HU7 := Lib.hid hu7
  clear hp7 ht7 hu7
  go_cut [15, 16] (fun v ev wx => ∃ gy B21 d21 B22 d22 B23 d23 B24 d24 B25 d25, v = .pointer (some ⟨gy, 0, none⟩) ∧ ev = .int .i64 0 ∧ Hid (BK w wx b h k R dst src tok pl A1 A2 A3 A) ∧ Hid (UnB wx g sp n X ph dst src tok H BX B11 d11 B12 d12 B13 d13 B14 d14 B15 d15) ∧ Hid (UnB wx gy sp n X ph dst src tok H BX B21 d21 B22 d22 B23 d23 B24 d24 B25 d25))
  case first =>
    have hdr : Below w7.heap.size w7 w7.drew := (Below.refl _ _).drew
    have hp0 := HP7.out.since hdr
    have ht0 := HT7.out.since hdr
    have hu0 := HU7.out.since hdr
    clear HP7 HT7 HU7 hdr
    refine wp_region_held_drew (S := fun w' => SinceK w7.drew w') (by kernel_rfl) (SinceK.self _) (fun _ => ?_)
    generalize w7.drew = w0 at *
    have lb := hp0.kb.lt
    have lr := ht0.box.lt
    have rb := row_rangeS hp0.kb
    have rr := row_rangeS ht0.box
    refine wpAnyH_take (i := 0) (v := .agg (kyRow k)) (List.getElem?_toArray.trans rfl) (by kernel_rfl) (by kernel_rfl) (by kernel_rfl) (fun _ _ _ h => h) (yieldsIf_load_mid (by rfl) 27 (.tmp 4) rfl b 0 rfl (kyRow k).toList _ (fun w' hS => SinceK.range hS rb lb) Tryd.underlying27 rfl ((info_kyRow HK.out).trans rfl)) (SinceK.self _) ?_
    refine act_normS (by simp only [Act.put, List.setIfInBounds_toArray, List.set_cons_zero, List.set_cons_succ]; rfl) ?_
    refine wpAnyH_take (i := 2) (v := .agg (partC sp C1 dst.length k1 C2 src.length k2 C3 tok.length k3 a C4 P.length P.length)) (List.getElem?_toArray.trans rfl) (by kernel_rfl) (by kernel_rfl) (by kernel_rfl) (fun _ _ _ h => h) (yieldsIf_load_mid (by rfl) 37 (.tmp 12) rfl r 0 rfl (partC sp C1 dst.length k1 C2 src.length k2 C3 tok.length k3 a C4 P.length P.length).toList _ (fun w' hS => SinceK.range hS rr lr) Tryd.underlying37 rfl (info_partR _ _ _ _ _ _ _ _ _ _ _ _ _ _)) (SinceK.self _) ?_
    refine act_normS (by simp only [Act.put, List.setIfInBounds_toArray, List.set_cons_zero, List.set_cons_succ]; rfl) ?_
    refine wpAnyH_take (i := 3) (v := .int .u64 (next : Int)) (List.getElem?_toArray.trans rfl) (by kernel_rfl) (by kernel_rfl) (by kernel_rfl) (fun _ _ _ h => h) (.inl ⟨rfl, fun w' hS => rfl⟩) (SinceK.self _) ?_
    refine act_normS (by simp only [Act.put, List.setIfInBounds_toArray, List.set_cons_zero, List.set_cons_succ]; rfl) ?_
    refine wpAnyH_ready (rs := [1, 8]) (by kernel_rfl) (by simp) (AllReadyH.cons (List.getElem?_toArray.trans rfl) (fun K' hK => ?_) (AllReadyH.cons (List.getElem?_toArray.trans rfl) (fun K' hK => ?_) AllReadyH.nil))
    · refine wanted_goS rfl ?_
      go_simp
      refine (HNX.out w0 (hp0.kt.since (SinceK.self _))).mono ?_
      rintro e v1 ⟨rfl, hbv⟩
      have hS1 : SinceK w0 v1 := SinceK.trans (SinceK.self _) hbv
      clear hbv
      refine hK.out _ _ hS1 (fun _ => ?_)
      clear hK K'
      refine wpAnyH_ready (rs := [4, 8]) (by kernel_rfl) (by simp) (AllReadyH.cons (List.getElem?_toArray.trans rfl) (fun K' hK => ?_) (AllReadyH.cons (List.getElem?_toArray.trans rfl) (fun K' hK => ?_) AllReadyH.nil))
      · refine wanted_goS rfl ?_
        go_simp
        have htc := ht0.since hS1
        refine (HUN.out (nextK k) HNO.out.1 HNO.out.2 C1 k1 C2 k2 C3 k3 C4 v1 htc.s1 htc.s2 htc.s3 htc.s4).mono ?_
        rintro e v2 ⟨B21, d21, B22, d22, B23, d23, B24, d24, B25, d25, rfl, x21, x22, x23, x24, z21, z22, z23, z24, z25, hbu⟩
        have hS2 : SinceK w0 v2 := SinceK.trans hS1 hbu
        refine hK.out _ _ hS2 (fun _ => ?_)
        clear hK K'
        refine wpAnyH_take (i := 5) (v := .tuple #[.agg (bareL9 sp B21 dst.length d21 B22 src.length d22 B23 tok.length d23 ph (X : Int) (n : Int) B24 H.length d24 B25 BX.length d25).toArray, .int .i64 0]) (List.getElem?_toArray.trans rfl) (by kernel_rfl) (by kernel_rfl) (by kernel_rfl) (fun _ _ _ h => h) (.inl ⟨rfl, fun w' hS => rfl⟩) hS2 ?_
        refine act_normS (by simp only [Act.put, List.setIfInBounds_toArray, List.set_cons_zero, List.set_cons_succ]; rfl) ?_
        refine wpAnyH_take (i := 6) (v := .agg (bareL9 sp B21 dst.length d21 B22 src.length d22 B23 tok.length d23 ph (X : Int) (n : Int) B24 H.length d24 B25 BX.length d25).toArray) (List.getElem?_toArray.trans rfl) (by kernel_rfl) (by kernel_rfl) (by kernel_rfl) (fun _ _ _ h => h) (.inl ⟨rfl, fun w' hS => by simp [go_sem]⟩) hS2 ?_
        refine act_normS (by simp only [Act.put, List.setIfInBounds_toArray, List.set_cons_zero, List.set_cons_succ]; rfl) ?_
        refine wpAnyH_take (i := 7) (v := .int .i64 0) (List.getElem?_toArray.trans rfl) (by kernel_rfl) (by kernel_rfl) (by kernel_rfl) (fun _ _ _ h => h) (.inl ⟨rfl, fun w' hS => by simp [go_sem]⟩) hS2 ?_
        refine act_normS (by simp only [Act.put, List.setIfInBounds_toArray, List.set_cons_zero, List.set_cons_succ]; rfl) ?_
        refine wpAnyH_ready (rs := [8]) (by kernel_rfl) (by simp) (AllReadyH.cons (List.getElem?_toArray.trans rfl) (fun K' hK => ?_) AllReadyH.nil)
        refine wanted_goS rfl ?_
        refine wp_allocZ 41 rfl bare0 (zero_bare _) ?_
        obtain ⟨gy, hgy⟩ : ∃ gy, gy = v2.heap.size := ⟨_, rfl⟩
        have hz := Wh.new v2 41 bare0
        have hbn : Below v2.heap.size v2 (v2.alloc (.cells bare0 41)) := (Below.refl _ _).alloc (Nat.le_refl _) _
        rw [← hgy] at hz
        rw [← hgy]
        have hwy : w0.heap.size ≤ gy := by rw [hgy]; exact Below.size hS2
        generalize v2.alloc (.cells bare0 41) = v3 at *
        have hS3 : SinceK w0 v3 := SinceK.trans hS2 hbn
        have q1 := (Sz.of_sy z21 (Nat.le_of_eq hgy.symm)).below hbn
        have q2 := (Sz.of_sy z22 (Nat.le_of_eq hgy.symm)).below hbn
        have q3 := (Sz.of_sy z23 (Nat.le_of_eq hgy.symm)).below hbn
        have q4 := (Sz.of_sy z24 (Nat.le_of_eq hgy.symm)).below hbn
        have q5 := (Sz.of_sy z25 (Nat.le_of_eq hgy.symm)).below hbn
        refine hK.out _ _ hS3 (fun _ => ?_)
        clear hK K'
        obtain ⟨s1, s2⟩ := Wh.allL (ds := bareL9 sp B21 dst.length d21 B22 src.length d22 B23 tok.length d23 ph (X : Int) (n : Int) B24 H.length d24 B25 BX.length d25) hz rfl
        have hSE : SinceK w0 (v3.setCells gy 0 (bareL9 sp B21 dst.length d21 B22 src.length d22 B23 tok.length d23 ph (X : Int) (n : Int) B24 H.length d24 B25 BX.length d25)) := SinceK.put hS3 s2 hwy
        refine wpAnyH_ready (rs := [9]) (by kernel_rfl) (by simp) (AllReadyH.cons (List.getElem?_toArray.trans rfl) (fun K' hK => ?_) AllReadyH.nil)
        refine wanted_goS rfl ?_
        refine wp_store_mid 41 (.tmp 15) (.tmp 97) rfl gy 0 (bareL9 sp B21 dst.length d21 B22 src.length d22 B23 tok.length d23 ph (X : Int) (n : Int) B24 H.length d24 B25 BX.length d25).toArray (by first | rfl | (rw [hgy]; rfl)) rfl (Wh.thereL hz 0 9 (by simp)) info_bare9 (bare_one _ _ _ _ _ _ _ _ _ _ _ _ _ _ _ _ _ _ _) ?_
        rw [show (bareL9 sp B21 dst.length d21 B22 src.length d22 B23 tok.length d23 ph (X : Int) (n : Int) B24 H.length d24 B25 BX.length d25).toArray.toList = bareL9 sp B21 dst.length d21 B22 src.length d22 B23 tok.length d23 ph (X : Int) (n : Int) B24 H.length d24 B25 BX.length d25 from rfl]
        refine hK.out _ _ hSE (fun _ => ?_)
        clear hK K'
        have hpE := Lib.hid (hp0.since hSE)
        have huE := Lib.hid (hu0.since hSE)
        have hyE : Hid (UnB (v3.setCells gy 0 (bareL9 sp B21 dst.length d21 B22 src.length d22 B23 tok.length d23 ph (X : Int) (n : Int) B24 H.length d24 B25 BX.length d25)) gy sp n X ph dst src tok H BX B21 d21 B22 d22 B23 d23 B24 d24 B25 d25) := Lib.hid ⟨s1, (q1.grown s2 (.inl rfl)).sv, (q2.grown s2 (.inl rfl)).sv, (q3.grown s2 (.inl rfl)).sv, (q4.grown s2 (.inl rfl)).sv, (q5.grown s2 (.inl rfl)).sv⟩
        clear s1 s2 q1 q2 q3 q4 q5
        generalize v3.setCells gy 0 (bareL9 sp B21 dst.length d21 B22 src.length d22 B23 tok.length d23 ph (X : Int) (n : Int) B24 H.length d24 B25 BX.length d25) = wE at *
        refine wpAnyH_take (i := 10) (v := .int .i64 0) (List.getElem?_toArray.trans rfl) (by kernel_rfl) (by kernel_rfl) (by kernel_rfl) (fun _ _ _ h => h) (.inl ⟨rfl, fun w' hS => rfl⟩) hSE ?_
        refine act_normS (by simp only [Act.put, List.setIfInBounds_toArray, List.set_cons_zero, List.set_cons_succ]; rfl) ?_
        refine wpAnyH_done (by kernel_rfl) ?_ _
        go_wp2_with fail
        go_meet
        exact ⟨gy, B21, d21, B22, d22, B23, d23, B24, d24, B25, d25, by first | rfl | (rw [hgy]), rfl, hpE, huE, hyE⟩
      · refine wanted_goS rfl ?_
        refine wp_allocZ 41 rfl bare0 (zero_bare _) ?_
        obtain ⟨gy, hgy⟩ : ∃ gy, gy = v1.heap.size := ⟨_, rfl⟩
        have hz := Wh.new v1 41 bare0
        have hbn : Below v1.heap.size v1 (v1.alloc (.cells bare0 41)) := (Below.refl _ _).alloc (Nat.le_refl _) _
        rw [← hgy] at hz
        rw [← hgy]
        have hwy : w0.heap.size ≤ gy := by rw [hgy]; exact Below.size hS1
        generalize v1.alloc (.cells bare0 41) = v3 at *
        have hS3 : SinceK w0 v3 := SinceK.trans hS1 hbn
        refine hK.out _ _ hS3 (fun _ => ?_)
        clear hK K'
        refine wpAnyH_ready (rs := [4]) (by kernel_rfl) (by simp) (AllReadyH.cons (List.getElem?_toArray.trans rfl) (fun K' hK => ?_) AllReadyH.nil)
        refine wanted_goS rfl ?_
        go_simp
        have htc := ht0.since hS3
        refine (HUN.out (nextK k) HNO.out.1 HNO.out.2 C1 k1 C2 k2 C3 k3 C4 v3 htc.s1 htc.s2 htc.s3 htc.s4).mono ?_
        rintro e v2 ⟨B21, d21, B22, d22, B23, d23, B24, d24, B25, d25, rfl, x21, x22, x23, x24, z21, z22, z23, z24, z25, hbu⟩
        have hS2 : SinceK w0 v2 := SinceK.trans hS3 hbu
        have hlu := hz.lt
        replace hz := hz.below hbu hz.lt
        have q1 := Sz.of_new (lo := 0) z21 hlu (Nat.zero_le _)
        have q2 := Sz.of_new (lo := 0) z22 hlu (Nat.zero_le _)
        have q3 := Sz.of_new (lo := 0) z23 hlu (Nat.zero_le _)
        have q4 := Sz.of_new (lo := 0) z24 hlu (Nat.zero_le _)
        have q5 := Sz.of_new (lo := 0) z25 hlu (Nat.zero_le _)
        refine hK.out _ _ hS2 (fun _ => ?_)
        clear hK K'
        refine wpAnyH_take (i := 5) (v := .tuple #[.agg (bareL9 sp B21 dst.length d21 B22 src.length d22 B23 tok.length d23 ph (X : Int) (n : Int) B24 H.length d24 B25 BX.length d25).toArray, .int .i64 0]) (List.getElem?_toArray.trans rfl) (by kernel_rfl) (by kernel_rfl) (by kernel_rfl) (fun _ _ _ h => h) (.inl ⟨rfl, fun w' hS => rfl⟩) hS2 ?_
        refine act_normS (by simp only [Act.put, List.setIfInBounds_toArray, List.set_cons_zero, List.set_cons_succ]; rfl) ?_
        refine wpAnyH_take (i := 6) (v := .agg (bareL9 sp B21 dst.length d21 B22 src.length d22 B23 tok.length d23 ph (X : Int) (n : Int) B24 H.length d24 B25 BX.length d25).toArray) (List.getElem?_toArray.trans rfl) (by kernel_rfl) (by kernel_rfl) (by kernel_rfl) (fun _ _ _ h => h) (.inl ⟨rfl, fun w' hS => by simp [go_sem]⟩) hS2 ?_
        refine act_normS (by simp only [Act.put, List.setIfInBounds_toArray, List.set_cons_zero, List.set_cons_succ]; rfl) ?_
        refine wpAnyH_take (i := 7) (v := .int .i64 0) (List.getElem?_toArray.trans rfl) (by kernel_rfl) (by kernel_rfl) (by kernel_rfl) (fun _ _ _ h => h) (.inl ⟨rfl, fun w' hS => by simp [go_sem]⟩) hS2 ?_
        refine act_normS (by simp only [Act.put, List.setIfInBounds_toArray, List.set_cons_zero, List.set_cons_succ]; rfl) ?_
        obtain ⟨s1, s2⟩ := Wh.allL (ds := bareL9 sp B21 dst.length d21 B22 src.length d22 B23 tok.length d23 ph (X : Int) (n : Int) B24 H.length d24 B25 BX.length d25) hz rfl
        have hSE : SinceK w0 (v2.setCells gy 0 (bareL9 sp B21 dst.length d21 B22 src.length d22 B23 tok.length d23 ph (X : Int) (n : Int) B24 H.length d24 B25 BX.length d25)) := SinceK.put hS2 s2 hwy
        refine wpAnyH_ready (rs := [9]) (by kernel_rfl) (by simp) (AllReadyH.cons (List.getElem?_toArray.trans rfl) (fun K' hK => ?_) AllReadyH.nil)
        refine wanted_goS rfl ?_
        refine wp_store_mid 41 (.tmp 15) (.tmp 97) rfl gy 0 (bareL9 sp B21 dst.length d21 B22 src.length d22 B23 tok.length d23 ph (X : Int) (n : Int) B24 H.length d24 B25 BX.length d25).toArray (by first | rfl | (rw [hgy]; rfl)) rfl (Wh.thereL hz 0 9 (by simp)) info_bare9 (bare_one _ _ _ _ _ _ _ _ _ _ _ _ _ _ _ _ _ _ _) ?_
        rw [show (bareL9 sp B21 dst.length d21 B22 src.length d22 B23 tok.length d23 ph (X : Int) (n : Int) B24 H.length d24 B25 BX.length d25).toArray.toList = bareL9 sp B21 dst.length d21 B22 src.length d22 B23 tok.length d23 ph (X : Int) (n : Int) B24 H.length d24 B25 BX.length d25 from rfl]
        refine hK.out _ _ hSE (fun _ => ?_)
        clear hK K'
        have hpE := Lib.hid (hp0.since hSE)
        have huE := Lib.hid (hu0.since hSE)
        have hyE : Hid (UnB (v2.setCells gy 0 (bareL9 sp B21 dst.length d21 B22 src.length d22 B23 tok.length d23 ph (X : Int) (n : Int) B24 H.length d24 B25 BX.length d25)) gy sp n X ph dst src tok H BX B21 d21 B22 d22 B23 d23 B24 d24 B25 d25) := Lib.hid ⟨s1, (q1.grown s2 (.inl rfl)).sv, (q2.grown s2 (.inl rfl)).sv, (q3.grown s2 (.inl rfl)).sv, (q4.grown s2 (.inl rfl)).sv, (q5.grown s2 (.inl rfl)).sv⟩
        clear s1 s2 q1 q2 q3 q4 q5
        generalize v2.setCells gy 0 (bareL9 sp B21 dst.length d21 B22 src.length d22 B23 tok.length d23 ph (X : Int) (n : Int) B24 H.length d24 B25 BX.length d25) = wE at *
        refine wpAnyH_take (i := 10) (v := .int .i64 0) (List.getElem?_toArray.trans rfl) (by kernel_rfl) (by kernel_rfl) (by kernel_rfl) (fun _ _ _ h => h) (.inl ⟨rfl, fun w' hS => rfl⟩) hSE ?_
        refine act_normS (by simp only [Act.put, List.setIfInBounds_toArray, List.set_cons_zero, List.set_cons_succ]; rfl) ?_
        refine wpAnyH_done (by kernel_rfl) ?_ _
        go_wp2_with fail
        go_meet
        exact ⟨gy, B21, d21, B22, d22, B23, d23, B24, d24, B25, d25, by first | rfl | (rw [hgy]), rfl, hpE, huE, hyE⟩
    · refine wanted_goS rfl ?_
      refine wp_allocZ 41 rfl bare0 (zero_bare _) ?_
      obtain ⟨gy, hgy⟩ : ∃ gy, gy = w0.heap.size := ⟨_, rfl⟩
      have hz := Wh.new w0 41 bare0
      have hbn : Below w0.heap.size w0 (w0.alloc (.cells bare0 41)) := (Below.refl _ _).alloc (Nat.le_refl _) _
      rw [← hgy] at hz
      rw [← hgy]
      have hwy : w0.heap.size ≤ gy := by rw [hgy]; exact Below.size (SinceK.self _)
      generalize w0.alloc (.cells bare0 41) = v3 at *
      have hS3 : SinceK w0 v3 := SinceK.trans (SinceK.self _) hbn
      refine hK.out _ _ hS3 (fun _ => ?_)
      clear hK K'
      refine wpAnyH_ready (rs := [1]) (by kernel_rfl) (by simp) (AllReadyH.cons (List.getElem?_toArray.trans rfl) (fun K' hK => ?_) AllReadyH.nil)
      refine wanted_goS rfl ?_
      go_simp
      refine (HNX.out v3 (hp0.kt.since hS3)).mono ?_
      rintro e v1 ⟨rfl, hbv⟩
      have hS1 : SinceK w0 v1 := SinceK.trans hS3 hbv
      replace hz := hz.below hbv hz.lt
      clear hbv
      refine hK.out _ _ hS1 (fun _ => ?_)
      clear hK K'
      refine wpAnyH_ready (rs := [4]) (by kernel_rfl) (by simp) (AllReadyH.cons (List.getElem?_toArray.trans rfl) (fun K' hK => ?_) AllReadyH.nil)
      refine wanted_goS rfl ?_
      go_simp
      have htc := ht0.since hS1
      refine (HUN.out (nextK k) HNO.out.1 HNO.out.2 C1 k1 C2 k2 C3 k3 C4 v1 htc.s1 htc.s2 htc.s3 htc.s4).mono ?_
      rintro e v2 ⟨B21, d21, B22, d22, B23, d23, B24, d24, B25, d25, rfl, x21, x22, x23, x24, z21, z22, z23, z24, z25, hbu⟩
      have hS2 : SinceK w0 v2 := SinceK.trans hS1 hbu
      have hlu := hz.lt
      replace hz := hz.below hbu hz.lt
      have q1 := Sz.of_new (lo := 0) z21 hlu (Nat.zero_le _)
      have q2 := Sz.of_new (lo := 0) z22 hlu (Nat.zero_le _)
      have q3 := Sz.of_new (lo := 0) z23 hlu (Nat.zero_le _)
      have q4 := Sz.of_new (lo := 0) z24 hlu (Nat.zero_le _)
      have q5 := Sz.of_new (lo := 0) z25 hlu (Nat.zero_le _)
      refine hK.out _ _ hS2 (fun _ => ?_)
      clear hK K'
      refine wpAnyH_take (i := 5) (v := .tuple #[.agg (bareL9 sp B21 dst.length d21 B22 src.length d22 B23 tok.length d23 ph (X : Int) (n : Int) B24 H.length d24 B25 BX.length d25).toArray, .int .i64 0]) (List.getElem?_toArray.trans rfl) (by kernel_rfl) (by kernel_rfl) (by kernel_rfl) (fun _ _ _ h => h) (.inl ⟨rfl, fun w' hS => rfl⟩) hS2 ?_
      refine act_normS (by simp only [Act.put, List.setIfInBounds_toArray, List.set_cons_zero, List.set_cons_succ]; rfl) ?_
      refine wpAnyH_take (i := 6) (v := .agg (bareL9 sp B21 dst.length d21 B22 src.length d22 B23 tok.length d23 ph (X : Int) (n : Int) B24 H.length d24 B25 BX.length d25).toArray) (List.getElem?_toArray.trans rfl) (by kernel_rfl) (by kernel_rfl) (by kernel_rfl) (fun _ _ _ h => h) (.inl ⟨rfl, fun w' hS => by simp [go_sem]⟩) hS2 ?_
      refine act_normS (by simp only [Act.put, List.setIfInBounds_toArray, List.set_cons_zero, List.set_cons_succ]; rfl) ?_
      refine wpAnyH_take (i := 7) (v := .int .i64 0) (List.getElem?_toArray.trans rfl) (by kernel_rfl) (by kernel_rfl) (by kernel_rfl) (fun _ _ _ h => h) (.inl ⟨rfl, fun w' hS => by simp [go_sem]⟩) hS2 ?_
      refine act_normS (by simp only [Act.put, List.setIfInBounds_toArray, List.set_cons_zero, List.set_cons_succ]; rfl) ?_
      obtain ⟨s1, s2⟩ := Wh.allL (ds := bareL9 sp B21 dst.length d21 B22 src.length d22 B23 tok.length d23 ph (X : Int) (n : Int) B24 H.length d24 B25 BX.length d25) hz rfl
      have hSE : SinceK w0 (v2.setCells gy 0 (bareL9 sp B21 dst.length d21 B22 src.length d22 B23 tok.length d23 ph (X : Int) (n : Int) B24 H.length d24 B25 BX.length d25)) := SinceK.put hS2 s2 hwy
      refine wpAnyH_ready (rs := [9]) (by kernel_rfl) (by simp) (AllReadyH.cons (List.getElem?_toArray.trans rfl) (fun K' hK => ?_) AllReadyH.nil)
      refine wanted_goS rfl ?_
      refine wp_store_mid 41 (.tmp 15) (.tmp 97) rfl gy 0 (bareL9 sp B21 dst.length d21 B22 src.length d22 B23 tok.length d23 ph (X : Int) (n : Int) B24 H.length d24 B25 BX.length d25).toArray (by first | rfl | (rw [hgy]; rfl)) rfl (Wh.thereL hz 0 9 (by simp)) info_bare9 (bare_one _ _ _ _ _ _ _ _ _ _ _ _ _ _ _ _ _ _ _) ?_
      rw [show (bareL9 sp B21 dst.length d21 B22 src.length d22 B23 tok.length d23 ph (X : Int) (n : Int) B24 H.length d24 B25 BX.length d25).toArray.toList = bareL9 sp B21 dst.length d21 B22 src.length d22 B23 tok.length d23 ph (X : Int) (n : Int) B24 H.length d24 B25 BX.length d25 from rfl]
      refine hK.out _ _ hSE (fun _ => ?_)
      clear hK K'
      have hpE := Lib.hid (hp0.since hSE)
      have huE := Lib.hid (hu0.since hSE)
      have hyE : Hid (UnB (v2.setCells gy 0 (bareL9 sp B21 dst.length d21 B22 src.length d22 B23 tok.length d23 ph (X : Int) (n : Int) B24 H.length d24 B25 BX.length d25)) gy sp n X ph dst src tok H BX B21 d21 B22 d22 B23 d23 B24 d24 B25 d25) := Lib.hid ⟨s1, (q1.grown s2 (.inl rfl)).sv, (q2.grown s2 (.inl rfl)).sv, (q3.grown s2 (.inl rfl)).sv, (q4.grown s2 (.inl rfl)).sv, (q5.grown s2 (.inl rfl)).sv⟩
      clear s1 s2 q1 q2 q3 q4 q5
      generalize v2.setCells gy 0 (bareL9 sp B21 dst.length d21 B22 src.length d22 B23 tok.length d23 ph (X : Int) (n : Int) B24 H.length d24 B25 BX.length d25) = wE at *
      refine wpAnyH_take (i := 10) (v := .int .i64 0) (List.getElem?_toArray.trans rfl) (by kernel_rfl) (by kernel_rfl) (by kernel_rfl) (fun _ _ _ h => h) (.inl ⟨rfl, fun w' hS => rfl⟩) hSE ?_
      refine act_normS (by simp only [Act.put, List.setIfInBounds_toArray, List.set_cons_zero, List.set_cons_succ]; rfl) ?_
      refine wpAnyH_done (by kernel_rfl) ?_ _
      go_wp2_with fail
      go_meet
      exact ⟨gy, B21, d21, B22, d22, B23, d23, B24, d24, B25, d25, by first | rfl | (rw [hgy]), rfl, hpE, huE, hyE⟩
  case rest =>
  obtain ⟨gy, B21, d21, B22, d22, B23, d23, B24, d24, B25, d25, rfl, rfl, HPc, HUc, HYc⟩ := hcut
  clear HP7 HT7 HU7 HNX HNO HUN
  have HSM := Lib.hid (same_yes sp dst src tok ph (X : Int) (n : Int) B11 d11 B12 d12 B13 d13 B21 d21 B22 d22 B23 d23 wc HUc.out.s1 HUc.out.s2 HUc.out.s3 HYc.out.s1 HYc.out.s2 HYc.out.s3)
  go_wp2_with (first
    | (refine wpList_loadKb 30 (.tmp 106) rfl rfl g rfl (hdL sp B11 dst.length d11 B12 src.length d12 B13 tok.length d13 ph (X : Int) (n : Int)) _ HUc.out.head Tryd.underlying30 rfl (info_head7.trans rfl) ?_)
    | (refine wpList_loadKb 30 (.tmp 108) rfl rfl gy rfl (hdL sp B21 dst.length d21 B22 src.length d22 B23 tok.length d23 ph (X : Int) (n : Int)) _ HYc.out.head Tryd.underlying30 rfl (info_head7.trans rfl) ?_))
  refine HSM.out.mono ?_
  rintro e w8 ⟨rfl, hb8⟩
  have HP8 := Lib.hid (HPc.out.since hb8)
  have HU8 := Lib.hid (HUc.out.since hb8)
  have HY8 := Lib.hid (HYc.out.since hb8)
  clear hb8 HPc HUc HYc HSM
  obtain ⟨TH, hTH⟩ : ∃ T, T = strB H := ⟨_, rfl⟩
  obtain ⟨TX, hTX⟩ : ∃ T, T = strB BX := ⟨_, rfl⟩
  have HTH := Deep.mk hTH
  have HTX := Deep.mk hTX
  clear hTH hTX
  have g7 := HU8.out.c1.1
  have g8 := HU8.out.c1.2
  have y7 := HY8.out.c1.1
  have y8 := HY8.out.c1.2
  have hs1 : (convert 28 9 (.slice B14 H.length d14)).run Tryd.prog w8 = .ok (.string TH) w8 := by
    rw [HTH.out]
    exact run_string_sl (P := Tryd.prog) w8 28 9 5 Tryd.underlying28 Tryd.underlying5 Tryd.underlying9 w8.heap.size B14 H.length d14 _ HU8.out.s4 rfl
  have hs2 : (convert 28 9 (.slice B24 H.length d24)).run Tryd.prog w8 = .ok (.string TH) w8 := by
    rw [HTH.out]
    exact run_string_sl (P := Tryd.prog) w8 28 9 5 Tryd.underlying28 Tryd.underlying5 Tryd.underlying9 w8.heap.size B24 H.length d24 _ HY8.out.s4 rfl
  have hs3 : (convert 28 9 (.slice B15 BX.length d15)).run Tryd.prog w8 = .ok (.string TX) w8 := by
    rw [HTX.out]
    exact run_string_sl (P := Tryd.prog) w8 28 9 5 Tryd.underlying28 Tryd.underlying5 Tryd.underlying9 w8.heap.size B15 BX.length d15 _ HU8.out.s5 rfl
  have hs4 : (convert 28 9 (.slice B25 BX.length d25)).run Tryd.prog w8 = .ok (.string TX) w8 := by
    rw [HTX.out]
    exact run_string_sl (P := Tryd.prog) w8 28 9 5 Tryd.underlying28 Tryd.underlying5 Tryd.underlying9 w8.heap.size B25 BX.length d25 _ HY8.out.s5 rfl
  go_upto_region 16 with fail
  clear g7 g8 y7 y8 hs1 hs2 hs3 hs4 HTH HTX HY8
  go_upto_region 17 with (first
    | (refine wpList_load_row rfl 30 (.tmp 5) rfl h rfl _ R _ _ HP8.out.hh Tryd.underlying30 rfl HIR.out ?_)
    | (refine wpList_allocZ rfl 30 rfl zHL.toArray (zero_headK _) ?_)
    | (refine wpList_store_row rfl 30 (.tmp 17) (.tmp 131) rfl w8.heap.size R rfl rfl _ _ (heap_alloc_new w8 _) HIR.out (by rw [← HRG.out]; rfl) (by rw [← HRG.out]; exact head_one _ _ _ _ _ _ _ _ _ _ _ _ _) ?_; rw [World.setRow_alloc_new]))
  obtain ⟨gw, hgw⟩ : ∃ gw, gw = w8.heap.size := ⟨_, rfl⟩
  have hbn : Below w8.heap.size w8 (w8.alloc (.cells R 30)) := (Below.refl _ _).alloc (Nat.le_refl _) _
  have hz := Wh.new w8 30 R
  rw [← hgw] at hz
  rw [← hgw]
  have hwg : w8.heap.size ≤ gw := Nat.le_of_eq hgw.symm
  generalize w8.alloc (.cells R 30) = w9 at *
  have hdr : Below w9.heap.size w9 w9.drew := (Below.refl _ _).drew
  have hS0 : SinceK w8 w9.drew := SinceK.trans hbn hdr
  replace hz := hz.below hdr hz.lt
  have lh := HP8.out.hh.lt
  have HC5 := Lib.hid ((HP8.out.hh.cell 5).trans HR5.out)
  have HC6 := Lib.hid ((HP8.out.hh.cell 6).trans HR6.out)
  clear hbn hdr hgw
  refine wp_region_held_drew (S := fun w' => SinceK w8 w') (by kernel_rfl) hS0 (fun _ => ?_)
  generalize w9.drew = w0 at *
  refine wpAnyH_take (i := 0) (v := .int .u64 (next : Int)) (List.getElem?_toArray.trans rfl) (by kernel_rfl) (by kernel_rfl) (by kernel_rfl) (fun _ _ _ h => h) (.inl ⟨rfl, fun w' hS => rfl⟩) hS0 ?_
  refine act_normS (by simp only [Act.put, List.setIfInBounds_toArray, List.set_cons_zero, List.set_cons_succ]; rfl) ?_
  refine wpAnyH_take (i := 1) (v := .pointer (some ⟨h, 5, none⟩)) (List.getElem?_toArray.trans rfl) (by kernel_rfl) (by kernel_rfl) (by kernel_rfl) (fun _ _ _ h => h) (.inl ⟨rfl, fun w' hS => by simp [go_sem]⟩) hS0 ?_
  refine act_normS (by simp only [Act.put, List.setIfInBounds_toArray, List.set_cons_zero, List.set_cons_succ]; rfl) ?_
  refine wpAnyH_take (i := 2) (v := .int .u64 (pn : Int)) (List.getElem?_toArray.trans rfl) (by kernel_rfl) (by kernel_rfl) (by kernel_rfl) (fun _ _ _ h => h) (.inl ⟨rfl, fun w' hS => by have hc := (Below.cell (p := ⟨h, 5, none⟩) hS lh).trans HC5.out; simp [go_sem, hc]⟩) hS0 ?_
  refine act_normS (by simp only [Act.put, List.setIfInBounds_toArray, List.set_cons_zero, List.set_cons_succ]; rfl) ?_
  refine wpAnyH_take (i := 3) (v := .pointer (some ⟨h, 6, none⟩)) (List.getElem?_toArray.trans rfl) (by kernel_rfl) (by kernel_rfl) (by kernel_rfl) (fun _ _ _ h => h) (.inl ⟨rfl, fun w' hS => by simp [go_sem]⟩) hS0 ?_
  refine act_normS (by simp only [Act.put, List.setIfInBounds_toArray, List.set_cons_zero, List.set_cons_succ]; rfl) ?_
  refine wpAnyH_take (i := 4) (v := .int .i64 (n : Int)) (List.getElem?_toArray.trans rfl) (by kernel_rfl) (by kernel_rfl) (by kernel_rfl) (fun _ _ _ h => h) (.inl ⟨rfl, fun w' hS => by have hc := (Below.cell (p := ⟨h, 6, none⟩) hS lh).trans HC6.out; simp [go_sem, hc]⟩) hS0 ?_
  refine act_normS (by simp only [Act.put, List.setIfInBounds_toArray, List.set_cons_zero, List.set_cons_succ]; rfl) ?_
  refine wpAnyH_take (i := 6) (v := .pointer (some ⟨h, 6, none⟩)) (List.getElem?_toArray.trans rfl) (by kernel_rfl) (by kernel_rfl) (by kernel_rfl) (fun _ _ _ h => h) (.inl ⟨rfl, fun w' hS => by simp [go_sem]⟩) hS0 ?_
  refine act_normS (by simp only [Act.put, List.setIfInBounds_toArray, List.set_cons_zero, List.set_cons_succ]; rfl) ?_
  refine wpAnyH_take (i := 7) (v := .int .i64 (n : Int)) (List.getElem?_toArray.trans rfl) (by kernel_rfl) (by kernel_rfl) (by kernel_rfl) (fun _ _ _ h => h) (.inl ⟨rfl, fun w' hS => by have hc := (Below.cell (p := ⟨h, 6, none⟩) hS lh).trans HC6.out; simp [go_sem, hc]⟩) hS0 ?_
  refine act_normS (by simp only [Act.put, List.setIfInBounds_toArray, List.set_cons_zero, List.set_cons_succ]; rfl) ?_
  refine wpAnyH_ready (rs := [5]) (by kernel_rfl) (by simp) (AllReadyH.cons (List.getElem?_toArray.trans rfl) (fun K' hK => ?_) AllReadyH.nil)
  refine wanted_goS rfl ?_
  go_simp
  refine (HTR.out w0).mono ?_
  rintro e u1 ⟨rfl, rfl⟩
  refine hK.out _ _ hS0 (fun _ => ?_)
  clear hK K'
  refine wpAnyH_ready (rs := [8]) (by kernel_rfl) (by simp) (AllReadyH.cons (List.getElem?_toArray.trans rfl) (fun K' hK => ?_) AllReadyH.nil)
  refine wanted_goS rfl ?_
  go_simp
  refine (HEX.out w0).mono ?_
  rintro e u2 ⟨rfl, hbu⟩
  have hS2 : SinceK w8 u2 := SinceK.trans hS0 hbu
  replace hz := hz.below hbu hz.lt
  refine hK.out _ _ hS2 (fun _ => ?_)
  clear hK K'
  refine wpAnyH_take (i := 9) (v := .pointer (some ⟨gw, 5, none⟩)) (List.getElem?_toArray.trans rfl) (by kernel_rfl) (by kernel_rfl) (by kernel_rfl) (fun _ _ _ h => h) (.inl ⟨rfl, fun w' hS => by simp [go_sem]⟩) hS2 ?_
  refine act_normS (by simp only [Act.put, List.setIfInBounds_toArray, List.set_cons_zero, List.set_cons_succ]; rfl) ?_
  have hz2 := hz.put 5 (.int .u64 (X : Int))
  rw [HHS.out] at hz2
  have hSE : SinceK w8 (u2.setCell ⟨gw, 5, none⟩ (.int .u64 (X : Int))) := SinceK.put hS2 (grown_set u2 gw 5 _) hwg
  have hcg : u2.cell? ⟨gw, 5, none⟩ = some (.int .u64 (pn : Int)) := (hz.cell 5).trans HR5.out
  have hfg := hz.frozen 5
  refine wpAnyH_ready (rs := [10]) (by kernel_rfl) (by simp) (AllReadyH.cons (List.getElem?_toArray.trans rfl) (fun K' hK => ?_) AllReadyH.nil)
  refine wanted_goS rfl ?_
  go_simp
  refine hK.out _ _ hSE (fun _ => ?_)
  clear hK K'
  generalize u2.setCell ⟨gw, 5, none⟩ (.int .u64 (X : Int)) = wE at *
  refine wpAnyH_done (by kernel_rfl) ?_ _
  have HPE := Lib.hid (HP8.out.since hSE)
  have HUE := Lib.hid (HU8.out.since hSE)
  have HWE := Lib.hid hz2
  clear hz hz2 hbu hS2 hS0 hSE hcg hfg HP8 HU8 HC5 HC6
  have HSM2 := Lib.hid (same_yes sp dst src tok ph (X : Int) (n : Int) B11 d11 B12 d12 B13 d13 A1 c1 A2 c2 A3 c3 wE HUE.out.s1 HUE.out.s2 HUE.out.s3 HPE.out.s1 HPE.out.s2 HPE.out.s3)
  go_wp2_with (first
    | (refine wpList_loadKb 30 (.tmp 142) rfl rfl g rfl (hdL sp B11 dst.length d11 B12 src.length d12 B13 tok.length d13 ph (X : Int) (n : Int)) _ HUE.out.head Tryd.underlying30 rfl (info_head7.trans rfl) ?_)
    | (refine wpList_load_row rfl 30 (.tmp 17) rfl gw rfl _ (headC sp A1 dst.length c1 A2 src.length c2 A3 tok.length c3 ph (X : Int) (n : Int)) _ _ HWE.out Tryd.underlying30 rfl (info_headR _ _ _ _ _ _ _ _ _ _ _ _ _) ?_))
  refine HSM2.out.mono ?_
  rintro e wF ⟨rfl, hbF⟩
  have HPF := Lib.hid (HPE.out.since hbF)
  have HUF := Lib.hid (HUE.out.since hbF)
  have c5 : wF.cell? ⟨gw, 5, none⟩ = some (.int .u64 (X : Int)) := ((HWE.out.below hbF HWE.out.lt).cell 5).trans rfl
  have d5 := (HPF.out.hh.cell 5).trans HR5.out
  clear hbF HPE HUE HWE HSM2
  by_cases hq : pn = X
  rotate_left
  · have e1 : ((X : Int) == (pn : Int)) = false := beq_eq_false_iff_ne.2 (by omega)
    clear hq
    go_wp2_with fail
    go_ret
    exact ⟨rfl, HPF.out.bel⟩
  have e1 : ((X : Int) == (pn : Int)) = true := beq_iff_eq.2 (by omega)
  have HOQ := Lib.hid (HOP.out hq)
  clear hq HOP
  go_wp2_with (first
    | (refine wpList_load_row rfl 27 (.tmp 4) rfl b rfl _ (kyRow k) _ _ HPF.out.kb Tryd.underlying27 rfl (info_kyRow HK.out) ?_)
    | (refine wpList_load_row rfl 41 (.tmp 14) rfl g rfl _ (bareL9 sp B11 dst.length d11 B12 src.length d12 B13 tok.length d13 ph (X : Int) (n : Int) B14 H.length d14 B15 BX.length d15).toArray _ _ HUF.out.box Tryd.underlying41 rfl info_bare9 ?_))
  refine (HOQ.out B11 d11 B12 d12 B13 d13 B14 d14 B15 d15 wF x11 x12 x13 x14 HUF.out.s4 HUF.out.s5).mono ?_
  rintro e wG ⟨BO, dO, rfl, hdo, hdm, hown, hbG⟩
  have HBG := Lib.hid (HPF.out.bel.trans (hbG.mono HPF.out.bel.size))
  rw [← HPQ.out] at hown ⊢
  have hst : (convert 28 9 (.slice BO p dO)).run Tryd.prog wG = .ok (.string S) wG := by
    rw [HSL.out]
    exact run_string_sl (P := Tryd.prog) wG 28 9 5 Tryd.underlying28 Tryd.underlying5 Tryd.underlying9 wG.heap.size BO p dO pl (Sv.of_own hown) HPQ.out.symm
  clear hdo hdm hown hbG HPF HUF c5 d5
  go_wp2
  go_ret
  exact ⟨rfl, HBG.out⟩

set_option maxRecDepth 100000 in
set_option maxHeartbeats 1600000 in
theorem kback_free (k : KS) (sp pn : Nat) (next : Int) (dst src tok pl : List UInt8) (ph : Bool) (pnb : Int) (A1 : Option Addr) (c1 : Nat) (A2 : Option Addr) (c2 : Nat) (A3 : Option Addr) (c3 : Nat) (A : Option Addr) (c : Nat) (w : World)
    (hK : Kt w) (hf : 300 < pl.length ∨ (pl.length ≤ 300 ∧ (300 < tok.length ∨ (tok.length ≤ 300 ∧ (mayB sp dst.length src.length tok.length ph (pn : Int) pnb = false ∨ (mayB sp dst.length src.length tok.length ph (pn : Int) pnb = true ∧ pnb + pl.length < 4)))))) :
    Calls Tryd.prog 3 #[.agg (kyRow k), .agg (headC sp A1 dst.length c1 A2 src.length c2 A3 tok.length c3 ph (pn : Int) pnb), .slice A pl.length c, .int .u64 next] w fun e w' => e = .returned (.bool true) ∧ Below w.heap.size w w' := by
  obtain ⟨hbe, h2, h3, hsz⟩ := made2K w (kyRow k) (headC sp A1 dst.length c1 A2 src.length c2 A3 tok.length c3 ph (pn : Int) pnb) 27 30
  have HKN := Lib.hid (kyknown_any _ (hK.since hbe))
  have HM := Lib.hid (hmay_any sp dst.length src.length tok.length ph A1 c1 A2 c2 A3 c3 (pn : Int) pnb)
  have hmf : mayB sp dst.length src.length tok.length ph (pn : Int) pnb = true → 1 ≤ pnb ∧ pnb ≤ 4 := fun h => ⟨(may_facts h).2.2.1, (may_facts h).2.2.2.1⟩
  obtain ⟨b, hb⟩ : ∃ b, b = w.heap.size := ⟨_, rfl⟩
  rw [← hb] at h2 h3
  obtain ⟨h, hh⟩ : ∃ h, h = b + 1 := ⟨_, rfl⟩
  rw [← hh] at h3
  have HR3 : Hid ((headC sp A1 dst.length c1 A2 src.length c2 A3 tok.length c3 ph (pn : Int) pnb)[3]? = some (.slice A3 tok.length c3)) := Lib.hid rfl
  have HR6 : Hid ((headC sp A1 dst.length c1 A2 src.length c2 A3 tok.length c3 ph (pn : Int) pnb)[6]? = some (.int .i64 pnb)) := Lib.hid rfl
  have HR7 : Hid ((headC sp A1 dst.length c1 A2 src.length c2 A3 tok.length c3 ph (pn : Int) pnb).toList.length = 7) := Lib.hid rfl
  obtain ⟨p, hpq⟩ : ∃ p, p = pl.length := ⟨_, rfl⟩
  obtain ⟨q, hqq⟩ : ∃ q, q = tok.length := ⟨_, rfl⟩
  generalize mayB sp dst.length src.length tok.length ph (pn : Int) pnb = mb at *
  generalize headC sp A1 dst.length c1 A2 src.length c2 A3 tok.length c3 ph (pn : Int) pnb = R at *
  rw [← hpq] at hf ⊢
  rw [← hqq] at hf HR3
  have H3 := Lib.hid h3
  have HBE := Lib.hid hbe
  clear hpq hqq hbe h2 h3 hsz hK
  rcases hf with h1 | ⟨h1, h4⟩
  · have t1 : decide ((300 : Int) < (p : Int)) = true := decide_eq_true (by omega)
    clear h1 hmf
    go_enter Tryd.func3, Tryd.ntmps3
    go_upto_region 1 with (fail)
    rw [← hb, ← hh]
    clear hb hh
    go_wp2_with fail
    refine HKN.out.mono ?_
    rintro e w1 ⟨rfl, hb1⟩
    have HBF := Lib.hid (HBE.out.trans (hb1.mono HBE.out.size))
    clear hb1 HKN H3 HBE HR3 HR6
    go_wp2
    go_ret
    exact ⟨rfl, HBF.out⟩
  have t1 : decide ((300 : Int) < (p : Int)) = false := decide_eq_false (by omega)
  rcases h4 with h4 | ⟨h4, h5⟩
  · have t2 : decide ((300 : Int) < (q : Int)) = true := decide_eq_true (by omega)
    clear h1 h4 hmf
    go_enter Tryd.func3, Tryd.ntmps3
    go_upto_region 1 with (fail)
    rw [← hb, ← hh]
    clear hb hh
    go_wp2_with fail
    refine HKN.out.mono ?_
    rintro e w1 ⟨rfl, hb1⟩
    have hH := H3.out.below hb1 H3.out.lt
    have hc3 := (hH.cell 3).trans HR3.out
    have HBF := Lib.hid (HBE.out.trans (hb1.mono HBE.out.size))
    clear hb1 HKN hH H3 HBE HR3 HR6
    go_wp2
    go_ret
    exact ⟨rfl, HBF.out⟩
  have t2 : decide ((300 : Int) < (q : Int)) = false := decide_eq_false (by omega)
  rcases h5 with rfl | ⟨rfl, h5⟩
  · clear h1 h4 hmf
    go_enter Tryd.func3, Tryd.ntmps3
    go_upto_region 1 with (fail)
    rw [← hb, ← hh]
    clear hb hh
    go_wp2_with fail
    refine HKN.out.mono ?_
    rintro e w1 ⟨rfl, hb1⟩
    have hH := H3.out.below hb1 H3.out.lt
    have hc3 := (hH.cell 3).trans HR3.out
    have HRR := Lib.hid (row_rangeS hH)
    have HBF := Lib.hid (HBE.out.trans (hb1.mono HBE.out.size))
    clear hb1 HKN hH H3 HBE HR3
    go_wp2_with (refine wpList_loadKb 30 (.tmp 5) rfl rfl h rfl R.toList _ HRR.out Tryd.underlying30 rfl (by rw [HR7.out]; exact info_head7) ?_)
    rw [Array.toArray_toList]
    refine (HM.out w1).mono ?_
    rintro e w2 ⟨rfl, hb2⟩
    have HBG := Lib.hid (HBF.out.trans (hb2.mono HBF.out.size))
    clear hb2 HRR HBF HM
    go_wp2
    go_ret
    exact ⟨rfl, HBG.out⟩
  · obtain ⟨q1, q2⟩ := hmf rfl
    have t3 : decide (pnb + (p : Int) < 4) = true := decide_eq_true (by omega)
    clear hmf
    go_enter Tryd.func3, Tryd.ntmps3
    go_upto_region 1 with (fail)
    rw [← hb, ← hh]
    clear hb hh
    go_wp2_with fail
    refine HKN.out.mono ?_
    rintro e w1 ⟨rfl, hb1⟩
    have hH := H3.out.below hb1 H3.out.lt
    have hc3 := (hH.cell 3).trans HR3.out
    have HRR := Lib.hid (row_rangeS hH)
    have HH1 := Lib.hid hH
    have HBF := Lib.hid (HBE.out.trans (hb1.mono HBE.out.size))
    clear hb1 HKN hH H3 HBE HR3
    go_wp2_with (refine wpList_loadKb 30 (.tmp 5) rfl rfl h rfl R.toList _ HRR.out Tryd.underlying30 rfl (by rw [HR7.out]; exact info_head7) ?_)
    rw [Array.toArray_toList]
    refine (HM.out w1).mono ?_
    rintro e w2 ⟨rfl, hb2⟩
    have hc6 := ((HH1.out.below hb2 HH1.out.lt).cell 6).trans HR6.out
    have HBG := Lib.hid (HBF.out.trans (hb2.mono HBF.out.size))
    clear hb2 HRR HBF HM HH1 hc3
    go_wp2
    go_ret
    exact ⟨rfl, HBG.out⟩

theorem kback_any (k : KS) (sp pn next : Nat) (dst src tok pl : List UInt8) (ph : Bool) (pnb : Int) (A1 : Option Addr) (c1 : Nat) (A2 : Option Addr) (c2 : Nat) (A3 : Option Addr) (c3 : Nat) (A : Option Addr) (c : Nat) (w : World)
    (hk : k.Ok) (hK : Kt w) (hT : Tab w) (hs1 : Sl w w.heap.size A1 dst) (hs2 : Sl w w.heap.size A2 src) (hs3 : Sl w w.heap.size A3 tok) (hs : Sl w w.heap.size A pl) (hlc : pl.length ≤ c) (hcm : c ≤ maxLen) :
    Calls Tryd.prog 3 #[.agg (kyRow k), .agg (headC sp A1 dst.length c1 A2 src.length c2 A3 tok.length c3 ph (pn : Int) pnb), .slice A pl.length c, .int .u64 (next : Int)] w fun e w' => e = .returned (.bool true) ∧ Below w.heap.size w w' := by
  by_cases h1 : pl.length ≤ 300
  case neg => exact kback_free k sp pn next dst src tok pl ph pnb A1 c1 A2 c2 A3 c3 A c w hK (.inl (by omega))
  by_cases h2 : tok.length ≤ 300
  case neg => exact kback_free k sp pn next dst src tok pl ph pnb A1 c1 A2 c2 A3 c3 A c w hK (.inr ⟨h1, .inl (by omega)⟩)
  cases hm : mayB sp dst.length src.length tok.length ph (pn : Int) pnb
  · exact kback_free k sp pn next dst src tok pl ph pnb A1 c1 A2 c2 A3 c3 A c w hK (.inr ⟨h1, .inr ⟨h2, .inl hm⟩⟩)
  by_cases h4 : pnb + pl.length < 4
  · exact kback_free k sp pn next dst src tok pl ph pnb A1 c1 A2 c2 A3 c3 A c w hK (.inr ⟨h1, .inr ⟨h2, .inr ⟨hm, h4⟩⟩⟩)
  obtain ⟨f1, f2, f3, f4, _⟩ := may_facts hm
  obtain ⟨n, rfl⟩ : ∃ n : Nat, pnb = (n : Int) := ⟨pnb.toNat, by omega⟩
  exact kback_in k sp n pn next dst src tok pl ph A1 c1 A2 c2 A3 c3 A c w hk hK hT hs1 hs2 hs3 hs hlc hcm h1 h2 hm (by omega)
end Go.Proofs.YtbnnjkjmadnjkaaDoor
