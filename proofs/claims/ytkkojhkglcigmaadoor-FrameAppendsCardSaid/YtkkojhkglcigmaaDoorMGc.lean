/-
  The walk through hostlerref02.u.
  The walk through hostlerref02.stream: made by tools/gen_stream.py.
  The walk through hostlerref02.acks: made by tools/gen_refacks.py.
  The walk through hostlerref02.Bytes: made by tools/gen_refbytes.py.
  The document's bytes of a frame and the program's are one, in plain mathematics: made by tools/gen_eq.py.
-/
import Derived.Test.YtkkojhkglcigmaaDoorRefBytes
import Derived.Test.YtkkojhkglcigmaaDoorFPut
import Derived.Deep.MidRow
import Derived.Deep.RegionHeld3
import Derived.Deep.DeepCutAuto
import Derived.Deep.QuietTactic
import Derived.WalkLawsBesides
import Derived.Test.YtkkojhkglcigmaaDoorNumsMay
import Derived.Test.YtkkojhkglcigmaaDoorMGa
namespace Go.Proofs.YtkkojhkglcigmaaDoor

section
open Go.RowKit
set_option linter.unusedVariables false

set_option maxRecDepth 10000 in
set_option maxHeartbeats 400000 in
theorem u_any {n : Nat} (h : n ≤ 4611686018427387903) (w : World) :
    Calls Tryd.prog 24 #[.int .u64 (n : Int)] w (Gave w (enc n) fun v => v) := by
  have HS := Lib.hid (short_some h w)
  clear h
  generalize enc n = g at *
  go_enter Tryd.func24, Tryd.ntmps24
  go_wp2_with (go_at_call 37; refine HS.out.mono ?_; rintro e w' ⟨A', c', rfl, q1, q2, hown, hbel⟩)
  go_ret
  exact ⟨A', c', rfl, q1, q2, hown, hbel⟩
end

section
open Go.RowKit
set_option linter.unusedVariables false

theorem wpAnyH_moreG {P : Program} {md : Region.Mode} {ops : Array Oper} {Q : Exit → Act → World → Prop} {S S' : World → Prop} (hSS : ∀ w, S' w → S w) :
    ∀ (fuel : Nat) (listed : Array Bool) (a : Act) (w : World), wpAnyH P md ops Q S' fuel listed a w → wpAnyH P md ops Q S fuel listed a w
  | 0, _, _, _, h => h
  | fuel + 1, _, _, _, h => ⟨h.1, fun i hi => wpOp_mono (fun a' w' h' => ⟨hSS _ h'.1, wpAnyH_moreG hSS fuel _ a' w' h'.2⟩) (h.2 i hi)⟩

def SinceG (w0 wr : World) : Prop := Below w0.heap.size w0 wr
theorem SinceG.self (w : World) : SinceG w w := Below.refl _ _
theorem SinceG.trans {a b c : World} (h : SinceG a b) (k : SinceG b c) : SinceG a c := Below.trans h (k.mono h.size)
theorem SinceG.of {a b : World} (h : Below a.heap.size a b) : SinceG a b := h
theorem SinceG.wh {a b : World} (h : SinceG a b) {g : Nat} {t : TypeId} {cs : Array Value} (hw : Wh a g t cs) : Wh b g t cs := hw.below h hw.lt
theorem act_normG {P : Program} {md : Region.Mode} {ops : Array Oper} {Q : Exit → Act → World → Prop} {S : World → Prop} {fuel : Nat} {listed : Array Bool} {a b : Act} {w : World} (h : a = b) (k : wpAnyH P md ops Q S fuel listed b w) : wpAnyH P md ops Q S fuel listed a w := h ▸ k
theorem wanted_goG {o : Oper} {y : Nat → Option Bool} {A B : Prop} (h : Region.wanted o y = true) (k : A) : if Region.wanted o y = true then A else B := by rw [if_pos h]; exact k

/-- What PSt holds, the box's place apart. -/
theorem PSt.below {w wx w' : World} {base g : Nat} {R : Array Value} {v : Value} {l : List UInt8} (h : PSt w base g R v l wx) (hq : base ≤ w.heap.size) (hb : Below wx.heap.size wx w') : PSt w base g R v l w' :=
  ⟨own_below h.1 hb, h.2.1.trans (hb.mono (Nat.le_trans hq h.2.1.size)), h.2.2.1.below hb h.2.2.1.lt, h.2.2.2⟩

/-- A stream's bytes. -/
def streamL (f : PF) : List UInt8 := enc (10 + (if f.fin then 1 else 0) + (if 0 < f.off then 4 else 0)) ++ enc f.id ++ (if 0 < f.off then enc f.off else []) ++ enc f.data.length ++ f.data

theorem enc_le (n : Nat) : (enc n).length ≤ 8 := by
  rw [enc_length]
  unfold szN
  split <;> (try omega)
  split <;> (try omega)
  split <;> (try omega)
  split <;> omega

theorem own_sl {w : World} {b : Nat} {A : Option Addr} {c : Nat} {l : List UInt8} (h : w.ownsRow b 5 1 (.slice A l.length c) l.length (l.map cell8)) : Sl w w.heap.size A l := Sv.of_own h

set_option maxRecDepth 100000 in
set_option maxHeartbeats 4000000 in
theorem stream_any (R : Array Value) (f : PF) (a : SA) (w : World) (B : Nat) (hR : RowIs R f a) (hf : FrAt w B f a) (hB : B ≤ w.heap.size) (h1 : f.id ≤ 4611686018427387903) (h2 : f.off ≤ 4611686018427387903) (hd : f.data.length ≤ 1099511627776) :
    Calls Tryd.prog 23 #[.agg R] w (PutGave w w.heap.size (streamL f)) := by
  obtain ⟨i0, hi0, hz0, hz1, hz2⟩ := info_parts info8
  have hw0 : Wh (w.alloc (.cells R 32)) w.heap.size 32 R := Wh.new w _ R
  have hb0 : Below w.heap.size w (w.alloc (.cells R 32)) := (Below.refl _ _).alloc (Nat.le_refl _) _
  have HR := Lib.hid hR
  have HF := Lib.hid hf
  have HW := Lib.hid hw0
  have HB := Lib.hid hb0
  have H1 := Lib.hid h1
  have H2 := Lib.hid h2
  have HD := Lib.hid (show f.data.length ≤ 4611686018427387903 by omega)
  have L1 := enc_le f.id
  have L2 := enc_le f.off
  have L3 := enc_le f.data.length
  have c6 := (hw0.cell 6).trans hR.fin
  have c2 := (hw0.cell 2).trans hR.off
  have z1 : IntKind.u64.wrap (f.data.length : Int) = (f.data.length : Int) := IntWalk.u64_in _ (by omega)
  have HSL : Hid (streamL f = enc (10 + (if f.fin then 1 else 0) + (if 0 < f.off then 4 else 0)) ++ enc f.id ++ (if 0 < f.off then enc f.off else []) ++ enc f.data.length ++ f.data) := rfl
  obtain ⟨g, hg⟩ : ∃ g, g = w.heap.size := ⟨_, rfl⟩
  have HG := Lib.hid hg
  clear hR hf hw0 hb0 h1 h2
  cases hfin : f.fin
  · by_cases hoff : 0 < f.off
    · have HS : Hid (streamL f = enc 14 ++ enc f.id ++ enc f.off ++ enc f.data.length ++ f.data) := by
        show _ = _
        rw [HSL.out, hfin, if_pos hoff, if_pos hoff]
        rfl
      have L0 := enc_le 14
      have ht : decide ((f.off : Int) > 0) = true := decide_eq_true (by omega)
      have ht2 : decide (0 < f.off) = true := decide_eq_true (by omega)
      clear hoff HSL
      rw [hfin] at c6
      clear hfin
      go_enter Tryd.func23, Tryd.ntmps23
      go_upto_region 6 with fail
      clear c2 c6
      rw [← hg] at HW ⊢
      generalize w.alloc (.cells R 32) = W at *
      clear hg
      refine wp_region_held_drew (S := fun w' => SinceG W.drew w') (by kernel_rfl) (SinceG.self _) (fun _ => ?_)
      have HWX : Hid (Wh W.drew g 32 R) := HW.out.below (Below.refl _ _).drew HW.out.lt
      have HBX : Hid (Below w.heap.size w W.drew) := HB.out.drew
      clear HW HB
      generalize W.drew = X at *
      have hgX : g < X.heap.size := HWX.out.lt
      refine wpAnyH_take (i := 0) (v := .int .u64 14) (List.getElem?_toArray.trans rfl) (by kernel_rfl) (by kernel_rfl) (by kernel_rfl) (fun _ _ _ h => h) (.inl ⟨rfl, fun w' hS => rfl⟩) (SinceG.self _) ?_
      refine act_normG (by simp only [Act.put, List.setIfInBounds_toArray, List.set_cons_zero, List.set_cons_succ]; rfl) ?_
      refine wpAnyH_take (i := 2) (v := .pointer (some ⟨g, 1, none⟩)) (List.getElem?_toArray.trans rfl) (by kernel_rfl) (by kernel_rfl) (by kernel_rfl) (fun _ _ _ h => h) (.inl ⟨rfl, fun w' hS => by simp [go_sem]⟩) (SinceG.self _) ?_
      refine act_normG (by simp only [Act.put, List.setIfInBounds_toArray, List.set_cons_zero, List.set_cons_succ]; rfl) ?_
      refine wpAnyH_take (i := 3) (v := .int .u64 (f.id : Int)) (List.getElem?_toArray.trans rfl) (by kernel_rfl) (by kernel_rfl) (by kernel_rfl) (fun _ _ _ h => h) (.inl ⟨rfl, fun w' hS => by have hc := ((SinceG.wh hS HWX.out).cell 1).trans HR.out.id; simp [go_sem, hc]⟩) (SinceG.self _) ?_
      refine act_normG (by simp only [Act.put, List.setIfInBounds_toArray, List.set_cons_zero, List.set_cons_succ]; rfl) ?_
      refine wpAnyH_ready (rs := [1]) (by kernel_rfl) (by simp) (AllReadyH.cons (List.getElem?_toArray.trans rfl) (fun K' hK => ?_) AllReadyH.nil)
      refine wanted_goG rfl ?_
      go_simp
      refine (u_any (n := 14) (by omega) X).mono ?_
      rintro e w5 ⟨A5, c5, rfl, qa5, qb5, ho5, hb5⟩
      refine hK.out _ _ (SinceG.of hb5) (fun _ => ?_)
      clear hK K'
      refine wpAnyH_ready (rs := [4]) (by kernel_rfl) (by simp) (AllReadyH.cons (List.getElem?_toArray.trans rfl) (fun K' hK => ?_) AllReadyH.nil)
      refine wanted_goG rfl ?_
      go_simp
      refine (u_any (n := f.id) H1.out w5).mono ?_
      rintro e w6 ⟨A6, c6, rfl, qa6, qb6, ho6, hb6⟩
      refine hK.out _ _ (SinceG.trans hb5 hb6) (fun _ => ?_)
      clear hK K'
      have hsz6 : X.heap.size ≤ w5.heap.size := hb5.size
      have hsz7 : w5.heap.size ≤ w6.heap.size := hb6.size
      have hP5 : PSt X X.heap.size g R (.slice A5 (enc 14).length c5) (enc 14) w6 := ⟨own_below ho5 hb6, hb5.trans (hb6.mono hb5.size), (HWX.out.below hb5 HWX.out.lt).below hb6 (HWX.out.below hb5 HWX.out.lt).lt, fun e => by have := (ho5.lt g e).1; omega⟩
      refine wpAnyH_ready (rs := [5]) (by kernel_rfl) (by simp) (AllReadyH.cons (List.getElem?_toArray.trans rfl) (fun K' hK => ?_) AllReadyH.nil)
      refine step_append_sv rfl (.tmp 15) (.tmp 18) 22 rfl X.heap.size 5 i0 _ 1 Tryd.underlying22 hi0 hz0 hz1 hz2 rfl (.slice A5 (enc 14).length c5) (enc 14).length _ rfl hP5.1 w6.heap.size A6 (enc f.id).length c6 ((enc f.id).map cell8) rfl (own_sl ho6) (List.length_map _) (cell8_one _) (by unfold maxLen; omega) (by omega) (by omega) ?_
      intro v7 w7 hown7 hg7 hat7
      have hP7 := hP5.more (Nat.le_refl _) (enc f.id) hown7 hg7 hat7
      have HP7 := Lib.hid hP7
      refine hK.out _ _ hP7.2.1 (fun _ => ?_)
      clear hK K'
      refine wpAnyH_ready (rs := [6]) (by kernel_rfl) (by simp) (AllReadyH.cons (List.getElem?_toArray.trans rfl) (fun K' hK => ?_) AllReadyH.nil)
      refine wanted_goG rfl ?_
      go_simp
      refine hK.out _ _ hP7.2.1 (fun _ => ?_)
      clear hK K'
      refine wpAnyH_done (by kernel_rfl) ?_ _
      clear hP7 hown7 hg7 hat7 hP5 hsz6 hsz7 ho5 hb5 ho6 hb6 qa5 qb5 qa6 qb6
      have c2 := (HP7.out.2.2.1.cell 2).trans HR.out.off
      go_wp2_with fail
      refine (u_any (n := f.off) H2.out w7).mono ?_
      rintro e w8 ⟨A8, c8, rfl, qa8, qb8, ho8, hb8⟩
      have HP8 : Hid (PSt X X.heap.size g R v7 (enc 14 ++ enc f.id) w8) := HP7.out.below (Nat.le_refl _) hb8
      have HS8 := Lib.hid (own_sl ho8)
      clear c2 qa8 qb8 ho8 hb8
      go_wp2_with (first
        | (at_builtin; refine wpList_append_sv _ rfl (.tmp 23) (.tmp 26) _ rfl X.heap.size 5 i0 _ 1 Tryd.underlying22 hi0 hz0 hz1 hz2 rfl v7 (enc 14 ++ enc f.id).length ((enc 14 ++ enc f.id).map cell8) rfl HP8.out.1 w8.heap.size A8 (enc f.off).length c8 ((enc f.off).map cell8) rfl HS8.out (List.length_map _) (cell8_one _) (by (try simp only [List.length_append]); unfold maxLen; omega) (by (try simp only [List.length_append]); omega) HP8.out.2.1.size ?_; intro v9 w9 hown9 hg9 hat9; have HP9 := Lib.hid (HP8.out.more (Nat.le_refl _) (enc f.off) hown9 hg9 hat9); clear hown9 hg9 hat9; have c7 := (HP9.out.2.2.1.cell 7).trans HR.out.data)
        | fail)
      refine (u_any (n := f.data.length) HD.out w9).mono ?_
      rintro e w10 ⟨A10, c10, rfl, qa10, qb10, ho10, hb10⟩
      have HP10 : Hid (PSt X X.heap.size g R v9 (enc 14 ++ enc f.id ++ enc f.off) w10) := HP9.out.below (Nat.le_refl _) hb10
      have HS10 := Lib.hid (own_sl ho10)
      clear c7 qa10 qb10 ho10 hb10
      go_wp2_with (first
        | (at_builtin; refine wpList_append_sv _ rfl (.tmp 28) (.tmp 33) _ rfl X.heap.size 5 i0 _ 1 Tryd.underlying22 hi0 hz0 hz1 hz2 rfl v9 (enc 14 ++ enc f.id ++ enc f.off).length ((enc 14 ++ enc f.id ++ enc f.off).map cell8) rfl HP10.out.1 w10.heap.size A10 (enc f.data.length).length c10 ((enc f.data.length).map cell8) rfl HS10.out (List.length_map _) (cell8_one _) (by (try simp only [List.length_append]); unfold maxLen; omega) (by (try simp only [List.length_append]); omega) HP10.out.2.1.size ?_; intro v11 w11 hown11 hg11 hat11; have HP11 := Lib.hid (HP10.out.more (Nat.le_refl _) (enc f.data.length) hown11 hg11 hat11); clear hown11 hg11 hat11; have c7 := (HP11.out.2.2.1.cell 7).trans HR.out.data)
        | (at_builtin; refine wpList_append_sv _ rfl (.tmp 35) (.tmp 37) _ rfl X.heap.size 5 i0 _ 1 Tryd.underlying22 hi0 hz0 hz1 hz2 rfl v11 (enc 14 ++ enc f.id ++ enc f.off ++ enc f.data.length).length ((enc 14 ++ enc f.id ++ enc f.off ++ enc f.data.length).map cell8) rfl HP11.out.1 B a.dA (f.data).length a.dc ((f.data).map cell8) rfl ((HF.out.data.below (HBX.out.mono hB)).below (HP11.out.2.1.mono (Nat.le_trans hB HBX.out.size))) (List.length_map _) (cell8_one _) (by (try simp only [List.length_append]); unfold maxLen; omega) (by (try simp only [List.length_append]); omega) HP11.out.2.1.size ?_; intro v12 w12 hown12 hg12 hat12; have HP12 := Lib.hid (HP11.out.more (Nat.le_refl _) (f.data) hown12 hg12 hat12); clear hown12 hg12 hat12; clear c7)
        | fail)
      go_ret
      refine ⟨v12, rfl, ?_, HBX.out.trans (HP12.out.2.1.mono HBX.out.size)⟩
      rw [HS.out]
      have h := own_mono HP12.out.1 HBX.out.size
      simp only [List.append_assoc] at h ⊢
      exact h
    · have HS : Hid (streamL f = enc 10 ++ enc f.id ++ enc f.data.length ++ f.data) := by
        show _ = _
        rw [HSL.out, hfin, if_neg hoff, if_neg hoff, List.append_nil]
        rfl
      have L0 := enc_le 10
      have ht : decide ((f.off : Int) > 0) = false := decide_eq_false (by omega)
      have ht2 : decide (0 < f.off) = false := decide_eq_false (by omega)
      clear hoff HSL
      rw [hfin] at c6
      clear hfin
      go_enter Tryd.func23, Tryd.ntmps23
      go_upto_region 6 with fail
      clear c2 c6
      rw [← hg] at HW ⊢
      generalize w.alloc (.cells R 32) = W at *
      clear hg
      refine wp_region_held_drew (S := fun w' => SinceG W.drew w') (by kernel_rfl) (SinceG.self _) (fun _ => ?_)
      have HWX : Hid (Wh W.drew g 32 R) := HW.out.below (Below.refl _ _).drew HW.out.lt
      have HBX : Hid (Below w.heap.size w W.drew) := HB.out.drew
      clear HW HB
      generalize W.drew = X at *
      have hgX : g < X.heap.size := HWX.out.lt
      refine wpAnyH_take (i := 0) (v := .int .u64 10) (List.getElem?_toArray.trans rfl) (by kernel_rfl) (by kernel_rfl) (by kernel_rfl) (fun _ _ _ h => h) (.inl ⟨rfl, fun w' hS => rfl⟩) (SinceG.self _) ?_
      refine act_normG (by simp only [Act.put, List.setIfInBounds_toArray, List.set_cons_zero, List.set_cons_succ]; rfl) ?_
      refine wpAnyH_take (i := 2) (v := .pointer (some ⟨g, 1, none⟩)) (List.getElem?_toArray.trans rfl) (by kernel_rfl) (by kernel_rfl) (by kernel_rfl) (fun _ _ _ h => h) (.inl ⟨rfl, fun w' hS => by simp [go_sem]⟩) (SinceG.self _) ?_
      refine act_normG (by simp only [Act.put, List.setIfInBounds_toArray, List.set_cons_zero, List.set_cons_succ]; rfl) ?_
      refine wpAnyH_take (i := 3) (v := .int .u64 (f.id : Int)) (List.getElem?_toArray.trans rfl) (by kernel_rfl) (by kernel_rfl) (by kernel_rfl) (fun _ _ _ h => h) (.inl ⟨rfl, fun w' hS => by have hc := ((SinceG.wh hS HWX.out).cell 1).trans HR.out.id; simp [go_sem, hc]⟩) (SinceG.self _) ?_
      refine act_normG (by simp only [Act.put, List.setIfInBounds_toArray, List.set_cons_zero, List.set_cons_succ]; rfl) ?_
      refine wpAnyH_ready (rs := [1]) (by kernel_rfl) (by simp) (AllReadyH.cons (List.getElem?_toArray.trans rfl) (fun K' hK => ?_) AllReadyH.nil)
      refine wanted_goG rfl ?_
      go_simp
      refine (u_any (n := 10) (by omega) X).mono ?_
      rintro e w5 ⟨A5, c5, rfl, qa5, qb5, ho5, hb5⟩
      refine hK.out _ _ (SinceG.of hb5) (fun _ => ?_)
      clear hK K'
      refine wpAnyH_ready (rs := [4]) (by kernel_rfl) (by simp) (AllReadyH.cons (List.getElem?_toArray.trans rfl) (fun K' hK => ?_) AllReadyH.nil)
      refine wanted_goG rfl ?_
      go_simp
      refine (u_any (n := f.id) H1.out w5).mono ?_
      rintro e w6 ⟨A6, c6, rfl, qa6, qb6, ho6, hb6⟩
      refine hK.out _ _ (SinceG.trans hb5 hb6) (fun _ => ?_)
      clear hK K'
      have hsz6 : X.heap.size ≤ w5.heap.size := hb5.size
      have hsz7 : w5.heap.size ≤ w6.heap.size := hb6.size
      have hP5 : PSt X X.heap.size g R (.slice A5 (enc 10).length c5) (enc 10) w6 := ⟨own_below ho5 hb6, hb5.trans (hb6.mono hb5.size), (HWX.out.below hb5 HWX.out.lt).below hb6 (HWX.out.below hb5 HWX.out.lt).lt, fun e => by have := (ho5.lt g e).1; omega⟩
      refine wpAnyH_ready (rs := [5]) (by kernel_rfl) (by simp) (AllReadyH.cons (List.getElem?_toArray.trans rfl) (fun K' hK => ?_) AllReadyH.nil)
      refine step_append_sv rfl (.tmp 15) (.tmp 18) 22 rfl X.heap.size 5 i0 _ 1 Tryd.underlying22 hi0 hz0 hz1 hz2 rfl (.slice A5 (enc 10).length c5) (enc 10).length _ rfl hP5.1 w6.heap.size A6 (enc f.id).length c6 ((enc f.id).map cell8) rfl (own_sl ho6) (List.length_map _) (cell8_one _) (by unfold maxLen; omega) (by omega) (by omega) ?_
      intro v7 w7 hown7 hg7 hat7
      have hP7 := hP5.more (Nat.le_refl _) (enc f.id) hown7 hg7 hat7
      have HP7 := Lib.hid hP7
      refine hK.out _ _ hP7.2.1 (fun _ => ?_)
      clear hK K'
      refine wpAnyH_ready (rs := [6]) (by kernel_rfl) (by simp) (AllReadyH.cons (List.getElem?_toArray.trans rfl) (fun K' hK => ?_) AllReadyH.nil)
      refine wanted_goG rfl ?_
      go_simp
      refine hK.out _ _ hP7.2.1 (fun _ => ?_)
      clear hK K'
      refine wpAnyH_done (by kernel_rfl) ?_ _
      clear hP7 hown7 hg7 hat7 hP5 hsz6 hsz7 ho5 hb5 ho6 hb6 qa5 qb5 qa6 qb6
      have c2 := (HP7.out.2.2.1.cell 2).trans HR.out.off
      have c7 := (HP7.out.2.2.1.cell 7).trans HR.out.data
      go_wp2_with fail
      refine (u_any (n := f.data.length) HD.out w7).mono ?_
      rintro e w10 ⟨A10, c10, rfl, qa10, qb10, ho10, hb10⟩
      have HP10 : Hid (PSt X X.heap.size g R v7 (enc 10 ++ enc f.id) w10) := HP7.out.below (Nat.le_refl _) hb10
      have HS10 := Lib.hid (own_sl ho10)
      clear c7 qa10 qb10 ho10 hb10
      go_wp2_with (first
        | (at_builtin; refine wpList_append_sv _ rfl (.tmp 28) (.tmp 33) _ rfl X.heap.size 5 i0 _ 1 Tryd.underlying22 hi0 hz0 hz1 hz2 rfl v7 (enc 10 ++ enc f.id).length ((enc 10 ++ enc f.id).map cell8) rfl HP10.out.1 w10.heap.size A10 (enc f.data.length).length c10 ((enc f.data.length).map cell8) rfl HS10.out (List.length_map _) (cell8_one _) (by (try simp only [List.length_append]); unfold maxLen; omega) (by (try simp only [List.length_append]); omega) HP10.out.2.1.size ?_; intro v11 w11 hown11 hg11 hat11; have HP11 := Lib.hid (HP10.out.more (Nat.le_refl _) (enc f.data.length) hown11 hg11 hat11); clear hown11 hg11 hat11; have c7 := (HP11.out.2.2.1.cell 7).trans HR.out.data)
        | (at_builtin; refine wpList_append_sv _ rfl (.tmp 35) (.tmp 37) _ rfl X.heap.size 5 i0 _ 1 Tryd.underlying22 hi0 hz0 hz1 hz2 rfl v11 (enc 10 ++ enc f.id ++ enc f.data.length).length ((enc 10 ++ enc f.id ++ enc f.data.length).map cell8) rfl HP11.out.1 B a.dA (f.data).length a.dc ((f.data).map cell8) rfl ((HF.out.data.below (HBX.out.mono hB)).below (HP11.out.2.1.mono (Nat.le_trans hB HBX.out.size))) (List.length_map _) (cell8_one _) (by (try simp only [List.length_append]); unfold maxLen; omega) (by (try simp only [List.length_append]); omega) HP11.out.2.1.size ?_; intro v12 w12 hown12 hg12 hat12; have HP12 := Lib.hid (HP11.out.more (Nat.le_refl _) (f.data) hown12 hg12 hat12); clear hown12 hg12 hat12; clear c7)
        | fail)
      go_ret
      refine ⟨v12, rfl, ?_, HBX.out.trans (HP12.out.2.1.mono HBX.out.size)⟩
      rw [HS.out]
      have h := own_mono HP12.out.1 HBX.out.size
      simp only [List.append_assoc] at h ⊢
      exact h
  · by_cases hoff : 0 < f.off
    · have HS : Hid (streamL f = enc 15 ++ enc f.id ++ enc f.off ++ enc f.data.length ++ f.data) := by
        show _ = _
        rw [HSL.out, hfin, if_pos hoff, if_pos hoff]
        rfl
      have L0 := enc_le 15
      have ht : decide ((f.off : Int) > 0) = true := decide_eq_true (by omega)
      have ht2 : decide (0 < f.off) = true := decide_eq_true (by omega)
      clear hoff HSL
      rw [hfin] at c6
      clear hfin
      go_enter Tryd.func23, Tryd.ntmps23
      go_upto_region 6 with fail
      clear c2 c6
      rw [← hg] at HW ⊢
      generalize w.alloc (.cells R 32) = W at *
      clear hg
      refine wp_region_held_drew (S := fun w' => SinceG W.drew w') (by kernel_rfl) (SinceG.self _) (fun _ => ?_)
      have HWX : Hid (Wh W.drew g 32 R) := HW.out.below (Below.refl _ _).drew HW.out.lt
      have HBX : Hid (Below w.heap.size w W.drew) := HB.out.drew
      clear HW HB
      generalize W.drew = X at *
      have hgX : g < X.heap.size := HWX.out.lt
      refine wpAnyH_take (i := 0) (v := .int .u64 15) (List.getElem?_toArray.trans rfl) (by kernel_rfl) (by kernel_rfl) (by kernel_rfl) (fun _ _ _ h => h) (.inl ⟨rfl, fun w' hS => rfl⟩) (SinceG.self _) ?_
      refine act_normG (by simp only [Act.put, List.setIfInBounds_toArray, List.set_cons_zero, List.set_cons_succ]; rfl) ?_
      refine wpAnyH_take (i := 2) (v := .pointer (some ⟨g, 1, none⟩)) (List.getElem?_toArray.trans rfl) (by kernel_rfl) (by kernel_rfl) (by kernel_rfl) (fun _ _ _ h => h) (.inl ⟨rfl, fun w' hS => by simp [go_sem]⟩) (SinceG.self _) ?_
      refine act_normG (by simp only [Act.put, List.setIfInBounds_toArray, List.set_cons_zero, List.set_cons_succ]; rfl) ?_
      refine wpAnyH_take (i := 3) (v := .int .u64 (f.id : Int)) (List.getElem?_toArray.trans rfl) (by kernel_rfl) (by kernel_rfl) (by kernel_rfl) (fun _ _ _ h => h) (.inl ⟨rfl, fun w' hS => by have hc := ((SinceG.wh hS HWX.out).cell 1).trans HR.out.id; simp [go_sem, hc]⟩) (SinceG.self _) ?_
      refine act_normG (by simp only [Act.put, List.setIfInBounds_toArray, List.set_cons_zero, List.set_cons_succ]; rfl) ?_
      refine wpAnyH_ready (rs := [1]) (by kernel_rfl) (by simp) (AllReadyH.cons (List.getElem?_toArray.trans rfl) (fun K' hK => ?_) AllReadyH.nil)
      refine wanted_goG rfl ?_
      go_simp
      refine (u_any (n := 15) (by omega) X).mono ?_
      rintro e w5 ⟨A5, c5, rfl, qa5, qb5, ho5, hb5⟩
      refine hK.out _ _ (SinceG.of hb5) (fun _ => ?_)
      clear hK K'
      refine wpAnyH_ready (rs := [4]) (by kernel_rfl) (by simp) (AllReadyH.cons (List.getElem?_toArray.trans rfl) (fun K' hK => ?_) AllReadyH.nil)
      refine wanted_goG rfl ?_
      go_simp
      refine (u_any (n := f.id) H1.out w5).mono ?_
      rintro e w6 ⟨A6, c6, rfl, qa6, qb6, ho6, hb6⟩
      refine hK.out _ _ (SinceG.trans hb5 hb6) (fun _ => ?_)
      clear hK K'
      have hsz6 : X.heap.size ≤ w5.heap.size := hb5.size
      have hsz7 : w5.heap.size ≤ w6.heap.size := hb6.size
      have hP5 : PSt X X.heap.size g R (.slice A5 (enc 15).length c5) (enc 15) w6 := ⟨own_below ho5 hb6, hb5.trans (hb6.mono hb5.size), (HWX.out.below hb5 HWX.out.lt).below hb6 (HWX.out.below hb5 HWX.out.lt).lt, fun e => by have := (ho5.lt g e).1; omega⟩
      refine wpAnyH_ready (rs := [5]) (by kernel_rfl) (by simp) (AllReadyH.cons (List.getElem?_toArray.trans rfl) (fun K' hK => ?_) AllReadyH.nil)
      refine step_append_sv rfl (.tmp 15) (.tmp 18) 22 rfl X.heap.size 5 i0 _ 1 Tryd.underlying22 hi0 hz0 hz1 hz2 rfl (.slice A5 (enc 15).length c5) (enc 15).length _ rfl hP5.1 w6.heap.size A6 (enc f.id).length c6 ((enc f.id).map cell8) rfl (own_sl ho6) (List.length_map _) (cell8_one _) (by unfold maxLen; omega) (by omega) (by omega) ?_
      intro v7 w7 hown7 hg7 hat7
      have hP7 := hP5.more (Nat.le_refl _) (enc f.id) hown7 hg7 hat7
      have HP7 := Lib.hid hP7
      refine hK.out _ _ hP7.2.1 (fun _ => ?_)
      clear hK K'
      refine wpAnyH_ready (rs := [6]) (by kernel_rfl) (by simp) (AllReadyH.cons (List.getElem?_toArray.trans rfl) (fun K' hK => ?_) AllReadyH.nil)
      refine wanted_goG rfl ?_
      go_simp
      refine hK.out _ _ hP7.2.1 (fun _ => ?_)
      clear hK K'
      refine wpAnyH_done (by kernel_rfl) ?_ _
      clear hP7 hown7 hg7 hat7 hP5 hsz6 hsz7 ho5 hb5 ho6 hb6 qa5 qb5 qa6 qb6
      have c2 := (HP7.out.2.2.1.cell 2).trans HR.out.off
      go_wp2_with fail
      refine (u_any (n := f.off) H2.out w7).mono ?_
      rintro e w8 ⟨A8, c8, rfl, qa8, qb8, ho8, hb8⟩
      have HP8 : Hid (PSt X X.heap.size g R v7 (enc 15 ++ enc f.id) w8) := HP7.out.below (Nat.le_refl _) hb8
      have HS8 := Lib.hid (own_sl ho8)
      clear c2 qa8 qb8 ho8 hb8
      go_wp2_with (first
        | (at_builtin; refine wpList_append_sv _ rfl (.tmp 23) (.tmp 26) _ rfl X.heap.size 5 i0 _ 1 Tryd.underlying22 hi0 hz0 hz1 hz2 rfl v7 (enc 15 ++ enc f.id).length ((enc 15 ++ enc f.id).map cell8) rfl HP8.out.1 w8.heap.size A8 (enc f.off).length c8 ((enc f.off).map cell8) rfl HS8.out (List.length_map _) (cell8_one _) (by (try simp only [List.length_append]); unfold maxLen; omega) (by (try simp only [List.length_append]); omega) HP8.out.2.1.size ?_; intro v9 w9 hown9 hg9 hat9; have HP9 := Lib.hid (HP8.out.more (Nat.le_refl _) (enc f.off) hown9 hg9 hat9); clear hown9 hg9 hat9; have c7 := (HP9.out.2.2.1.cell 7).trans HR.out.data)
        | fail)
      refine (u_any (n := f.data.length) HD.out w9).mono ?_
      rintro e w10 ⟨A10, c10, rfl, qa10, qb10, ho10, hb10⟩
      have HP10 : Hid (PSt X X.heap.size g R v9 (enc 15 ++ enc f.id ++ enc f.off) w10) := HP9.out.below (Nat.le_refl _) hb10
      have HS10 := Lib.hid (own_sl ho10)
      clear c7 qa10 qb10 ho10 hb10
      go_wp2_with (first
        | (at_builtin; refine wpList_append_sv _ rfl (.tmp 28) (.tmp 33) _ rfl X.heap.size 5 i0 _ 1 Tryd.underlying22 hi0 hz0 hz1 hz2 rfl v9 (enc 15 ++ enc f.id ++ enc f.off).length ((enc 15 ++ enc f.id ++ enc f.off).map cell8) rfl HP10.out.1 w10.heap.size A10 (enc f.data.length).length c10 ((enc f.data.length).map cell8) rfl HS10.out (List.length_map _) (cell8_one _) (by (try simp only [List.length_append]); unfold maxLen; omega) (by (try simp only [List.length_append]); omega) HP10.out.2.1.size ?_; intro v11 w11 hown11 hg11 hat11; have HP11 := Lib.hid (HP10.out.more (Nat.le_refl _) (enc f.data.length) hown11 hg11 hat11); clear hown11 hg11 hat11; have c7 := (HP11.out.2.2.1.cell 7).trans HR.out.data)
        | (at_builtin; refine wpList_append_sv _ rfl (.tmp 35) (.tmp 37) _ rfl X.heap.size 5 i0 _ 1 Tryd.underlying22 hi0 hz0 hz1 hz2 rfl v11 (enc 15 ++ enc f.id ++ enc f.off ++ enc f.data.length).length ((enc 15 ++ enc f.id ++ enc f.off ++ enc f.data.length).map cell8) rfl HP11.out.1 B a.dA (f.data).length a.dc ((f.data).map cell8) rfl ((HF.out.data.below (HBX.out.mono hB)).below (HP11.out.2.1.mono (Nat.le_trans hB HBX.out.size))) (List.length_map _) (cell8_one _) (by (try simp only [List.length_append]); unfold maxLen; omega) (by (try simp only [List.length_append]); omega) HP11.out.2.1.size ?_; intro v12 w12 hown12 hg12 hat12; have HP12 := Lib.hid (HP11.out.more (Nat.le_refl _) (f.data) hown12 hg12 hat12); clear hown12 hg12 hat12; clear c7)
        | fail)
      go_ret
      refine ⟨v12, rfl, ?_, HBX.out.trans (HP12.out.2.1.mono HBX.out.size)⟩
      rw [HS.out]
      have h := own_mono HP12.out.1 HBX.out.size
      simp only [List.append_assoc] at h ⊢
      exact h
    · have HS : Hid (streamL f = enc 11 ++ enc f.id ++ enc f.data.length ++ f.data) := by
        show _ = _
        rw [HSL.out, hfin, if_neg hoff, if_neg hoff, List.append_nil]
        rfl
      have L0 := enc_le 11
      have ht : decide ((f.off : Int) > 0) = false := decide_eq_false (by omega)
      have ht2 : decide (0 < f.off) = false := decide_eq_false (by omega)
      clear hoff HSL
      rw [hfin] at c6
      clear hfin
      go_enter Tryd.func23, Tryd.ntmps23
      go_upto_region 6 with fail
      clear c2 c6
      rw [← hg] at HW ⊢
      generalize w.alloc (.cells R 32) = W at *
      clear hg
      refine wp_region_held_drew (S := fun w' => SinceG W.drew w') (by kernel_rfl) (SinceG.self _) (fun _ => ?_)
      have HWX : Hid (Wh W.drew g 32 R) := HW.out.below (Below.refl _ _).drew HW.out.lt
      have HBX : Hid (Below w.heap.size w W.drew) := HB.out.drew
      clear HW HB
      generalize W.drew = X at *
      have hgX : g < X.heap.size := HWX.out.lt
      refine wpAnyH_take (i := 0) (v := .int .u64 11) (List.getElem?_toArray.trans rfl) (by kernel_rfl) (by kernel_rfl) (by kernel_rfl) (fun _ _ _ h => h) (.inl ⟨rfl, fun w' hS => rfl⟩) (SinceG.self _) ?_
      refine act_normG (by simp only [Act.put, List.setIfInBounds_toArray, List.set_cons_zero, List.set_cons_succ]; rfl) ?_
      refine wpAnyH_take (i := 2) (v := .pointer (some ⟨g, 1, none⟩)) (List.getElem?_toArray.trans rfl) (by kernel_rfl) (by kernel_rfl) (by kernel_rfl) (fun _ _ _ h => h) (.inl ⟨rfl, fun w' hS => by simp [go_sem]⟩) (SinceG.self _) ?_
      refine act_normG (by simp only [Act.put, List.setIfInBounds_toArray, List.set_cons_zero, List.set_cons_succ]; rfl) ?_
      refine wpAnyH_take (i := 3) (v := .int .u64 (f.id : Int)) (List.getElem?_toArray.trans rfl) (by kernel_rfl) (by kernel_rfl) (by kernel_rfl) (fun _ _ _ h => h) (.inl ⟨rfl, fun w' hS => by have hc := ((SinceG.wh hS HWX.out).cell 1).trans HR.out.id; simp [go_sem, hc]⟩) (SinceG.self _) ?_
      refine act_normG (by simp only [Act.put, List.setIfInBounds_toArray, List.set_cons_zero, List.set_cons_succ]; rfl) ?_
      refine wpAnyH_ready (rs := [1]) (by kernel_rfl) (by simp) (AllReadyH.cons (List.getElem?_toArray.trans rfl) (fun K' hK => ?_) AllReadyH.nil)
      refine wanted_goG rfl ?_
      go_simp
      refine (u_any (n := 11) (by omega) X).mono ?_
      rintro e w5 ⟨A5, c5, rfl, qa5, qb5, ho5, hb5⟩
      refine hK.out _ _ (SinceG.of hb5) (fun _ => ?_)
      clear hK K'
      refine wpAnyH_ready (rs := [4]) (by kernel_rfl) (by simp) (AllReadyH.cons (List.getElem?_toArray.trans rfl) (fun K' hK => ?_) AllReadyH.nil)
      refine wanted_goG rfl ?_
      go_simp
      refine (u_any (n := f.id) H1.out w5).mono ?_
      rintro e w6 ⟨A6, c6, rfl, qa6, qb6, ho6, hb6⟩
      refine hK.out _ _ (SinceG.trans hb5 hb6) (fun _ => ?_)
      clear hK K'
      have hsz6 : X.heap.size ≤ w5.heap.size := hb5.size
      have hsz7 : w5.heap.size ≤ w6.heap.size := hb6.size
      have hP5 : PSt X X.heap.size g R (.slice A5 (enc 11).length c5) (enc 11) w6 := ⟨own_below ho5 hb6, hb5.trans (hb6.mono hb5.size), (HWX.out.below hb5 HWX.out.lt).below hb6 (HWX.out.below hb5 HWX.out.lt).lt, fun e => by have := (ho5.lt g e).1; omega⟩
      refine wpAnyH_ready (rs := [5]) (by kernel_rfl) (by simp) (AllReadyH.cons (List.getElem?_toArray.trans rfl) (fun K' hK => ?_) AllReadyH.nil)
      refine step_append_sv rfl (.tmp 15) (.tmp 18) 22 rfl X.heap.size 5 i0 _ 1 Tryd.underlying22 hi0 hz0 hz1 hz2 rfl (.slice A5 (enc 11).length c5) (enc 11).length _ rfl hP5.1 w6.heap.size A6 (enc f.id).length c6 ((enc f.id).map cell8) rfl (own_sl ho6) (List.length_map _) (cell8_one _) (by unfold maxLen; omega) (by omega) (by omega) ?_
      intro v7 w7 hown7 hg7 hat7
      have hP7 := hP5.more (Nat.le_refl _) (enc f.id) hown7 hg7 hat7
      have HP7 := Lib.hid hP7
      refine hK.out _ _ hP7.2.1 (fun _ => ?_)
      clear hK K'
      refine wpAnyH_ready (rs := [6]) (by kernel_rfl) (by simp) (AllReadyH.cons (List.getElem?_toArray.trans rfl) (fun K' hK => ?_) AllReadyH.nil)
      refine wanted_goG rfl ?_
      go_simp
      refine hK.out _ _ hP7.2.1 (fun _ => ?_)
      clear hK K'
      refine wpAnyH_done (by kernel_rfl) ?_ _
      clear hP7 hown7 hg7 hat7 hP5 hsz6 hsz7 ho5 hb5 ho6 hb6 qa5 qb5 qa6 qb6
      have c2 := (HP7.out.2.2.1.cell 2).trans HR.out.off
      have c7 := (HP7.out.2.2.1.cell 7).trans HR.out.data
      go_wp2_with fail
      refine (u_any (n := f.data.length) HD.out w7).mono ?_
      rintro e w10 ⟨A10, c10, rfl, qa10, qb10, ho10, hb10⟩
      have HP10 : Hid (PSt X X.heap.size g R v7 (enc 11 ++ enc f.id) w10) := HP7.out.below (Nat.le_refl _) hb10
      have HS10 := Lib.hid (own_sl ho10)
      clear c7 qa10 qb10 ho10 hb10
      go_wp2_with (first
        | (at_builtin; refine wpList_append_sv _ rfl (.tmp 28) (.tmp 33) _ rfl X.heap.size 5 i0 _ 1 Tryd.underlying22 hi0 hz0 hz1 hz2 rfl v7 (enc 11 ++ enc f.id).length ((enc 11 ++ enc f.id).map cell8) rfl HP10.out.1 w10.heap.size A10 (enc f.data.length).length c10 ((enc f.data.length).map cell8) rfl HS10.out (List.length_map _) (cell8_one _) (by (try simp only [List.length_append]); unfold maxLen; omega) (by (try simp only [List.length_append]); omega) HP10.out.2.1.size ?_; intro v11 w11 hown11 hg11 hat11; have HP11 := Lib.hid (HP10.out.more (Nat.le_refl _) (enc f.data.length) hown11 hg11 hat11); clear hown11 hg11 hat11; have c7 := (HP11.out.2.2.1.cell 7).trans HR.out.data)
        | (at_builtin; refine wpList_append_sv _ rfl (.tmp 35) (.tmp 37) _ rfl X.heap.size 5 i0 _ 1 Tryd.underlying22 hi0 hz0 hz1 hz2 rfl v11 (enc 11 ++ enc f.id ++ enc f.data.length).length ((enc 11 ++ enc f.id ++ enc f.data.length).map cell8) rfl HP11.out.1 B a.dA (f.data).length a.dc ((f.data).map cell8) rfl ((HF.out.data.below (HBX.out.mono hB)).below (HP11.out.2.1.mono (Nat.le_trans hB HBX.out.size))) (List.length_map _) (cell8_one _) (by (try simp only [List.length_append]); unfold maxLen; omega) (by (try simp only [List.length_append]); omega) HP11.out.2.1.size ?_; intro v12 w12 hown12 hg12 hat12; have HP12 := Lib.hid (HP11.out.more (Nat.le_refl _) (f.data) hown12 hg12 hat12); clear hown12 hg12 hat12; clear c7)
        | fail)
      go_ret
      refine ⟨v12, rfl, ?_, HBX.out.trans (HP12.out.2.1.mono HBX.out.size)⟩
      rw [HS.out]
      have h := own_mono HP12.out.1 HBX.out.size
      simp only [List.append_assoc] at h ⊢
      exact h
end

section
open Go.RowKit
set_option linter.unusedVariables false

/-- An ACK's bytes, behind its kind. -/
def acksL (f : PF) : List UInt8 := encs (ackNums f) ++ (if f.kind = 3 then enc f.e0 ++ enc f.e1 ++ enc f.e2 else [])

theorem SinceG.cellb {a b : World} (h : SinceG a b) {p : Addr} {v : Value} (hp : p.block < a.heap.size) (hv : a.cell? p = some v) : b.cell? p = some v := (Below.cell h hp).trans hv

theorem encs_app (l m : List Nat) : encs (l ++ m) = encs l ++ encs m := by simp [encs]
theorem low_succ (l : List (Nat × Nat)) (i : Nat) : lowNums l (i + 1) = [(l.getD (i + 1) (0, 0)).1 - (l.getD i (0, 0)).2 - 1, (l.getD i (0, 0)).2 - 1 - (l.getD i (0, 0)).1] ++ lowNums l i := rfl
theorem encs_cons (n : Nat) (l : List Nat) : encs (n :: l) = enc n ++ encs l := by simp [encs]
theorem encs_le (l : List Nat) : (encs l).length ≤ 8 * l.length := by
  induction l with
  | nil => simp [encs]
  | cons n t ih => rw [encs_cons, List.length_append, List.length_cons]; have := enc_le n; omega

set_option maxRecDepth 100000 in
set_option maxHeartbeats 8000000 in
theorem refacks_any (R : Array Value) (f : PF) (a : SA) (w : World) (B : Nat) (hR : RowIs R f a) (hf : FrAt w B f a) (hB : B ≤ w.heap.size) (hne : f.acks ≠ []) (hok : OkR f.acks) (hlen : f.acks.length ≤ 4000)
    (hd : f.delay ≤ 4611686018427387903) (he0 : f.e0 ≤ 4611686018427387903) (he1 : f.e1 ≤ 4611686018427387903) (he2 : f.e2 ≤ 4611686018427387903) :
    Calls Tryd.prog 25 #[.agg R] w (PutGave w w.heap.size (acksL f)) := by
  obtain ⟨i0, hi0, hz0, hz1, hz2⟩ := info_parts info8
  have h25 := hR.acks
  obtain ⟨b, off, hA, hb, hc⟩ := hf.acks hne
  rw [hA] at h25
  obtain ⟨k, hk⟩ : ∃ k, f.acks.length = k + 1 := ⟨f.acks.length - 1, by have := List.length_pos_iff.2 hne; omega⟩
  rw [hk] at h25
  obtain ⟨top, htop⟩ : ∃ x, f.acks[k]? = some x := ⟨_, List.getElem?_eq_getElem (by omega)⟩
  have hct := hc k top htop
  have hot := hok k top htop
  have hto1 := hot.1
  have hto2 := hot.2.1
  have hac := hf.ac
  have ham := hf.am
  unfold maxLen at ham
  rw [hk] at hac
  have HN : Hid (ackNums f = [top.2 - 1, f.delay, k, top.2 - 1 - top.1] ++ lowNums f.acks k) := by
    show ackNums f = _
    unfold ackNums
    simp only [hk, Nat.add_sub_cancel]
    rw [show f.acks.getD k (0, 0) = top by simp [List.getD, htop]]
  have HAL : Hid (acksL f = encs (ackNums f) ++ (if f.kind = 3 then enc f.e0 ++ enc f.e1 ++ enc f.e2 else [])) := rfl
  have hk4 : k ≤ 3999 := by omega
  have hw0 : Wh (w.alloc (.cells R 32)) w.heap.size 32 R := Wh.new w _ R
  have hb0 : Below w.heap.size w (w.alloc (.cells R 32)) := (Below.refl _ _).alloc (Nat.le_refl _) _
  have HC := Lib.hid hc
  have HOK := Lib.hid hok
  have HK := Lib.hid hk
  have HTOP := Lib.hid htop
  have HR := Lib.hid hR
  have HF := Lib.hid hf
  have HW := Lib.hid hw0
  have HB := Lib.hid hb0
  have H25 := Lib.hid h25
  have c25 := (hw0.cell 25).trans h25
  have HD := Lib.hid hd
  have HE0 := Lib.hid he0
  have HE1 := Lib.hid he1
  have HE2 := Lib.hid he2
  have hbw : b < w.heap.size := by omega
  have T1 : ((top.2 - 1 : Nat) : Int) = (top.2 : Int) - 1 := by omega
  have T2 : ((top.2 - 1 - top.1 : Nat) : Int) = (top.2 : Int) - 1 - (top.1 : Int) := by omega
  have y1 : IntKind.u64.wrap ((top.2 : Int) - 1) = (top.2 : Int) - 1 := IntWalk.u64_in _ (by omega)
  have y2 : IntKind.u64.wrap ((top.2 : Int) - 1 - (top.1 : Int)) = (top.2 : Int) - 1 - (top.1 : Int) := IntWalk.u64_in _ (by omega)
  have y3 : IntKind.i64.wrap (k : Int) = (k : Int) := IntWalk.i64_in _ (by omega)
  have y4 : IntKind.u64.wrap (k : Int) = (k : Int) := IntWalk.u64_in _ (by omega)
  have HY := Lib.hid (⟨T1, T2⟩ : _ ∧ _)
  have hbt1 := hct.1
  have hbt2 := hct.2
  have HT1 := Lib.hid hbt1
  have HT2 := Lib.hid hbt2
  have Hto1 := Lib.hid hto1
  have Hto2 := Lib.hid hto2
  have E1 := enc_le (top.2 - 1)
  have E2 := enc_le f.delay
  have E3 := enc_le k
  have E4 := enc_le (top.2 - 1 - top.1)
  obtain ⟨g, hg⟩ : ∃ g, g = w.heap.size := ⟨_, rfl⟩
  have HG := Lib.hid hg
  clear hR hf hne hok hA hc htop hct hot hw0 hb0 h25 hd he0 he1 he2 T1 T2 hbt1 hbt2 hk
  go_enter Tryd.func25, Tryd.ntmps25
  go_upto_region 2 with fail
  clear c25
  rw [← hg] at HW ⊢
  generalize w.alloc (.cells R 32) = W at *
  refine wp_region_held_drew (S := fun w' => SinceG W.drew w') (by kernel_rfl) (SinceG.self _) (fun _ => ?_)
  have HWX : Hid (Wh W.drew g 32 R) := HW.out.below (Below.refl _ _).drew HW.out.lt
  have HBX : Hid (Below w.heap.size w W.drew) := HB.out.drew
  clear HW HB
  generalize W.drew = X at *
  have hgX : g < X.heap.size := HWX.out.lt
  have hwX : w.heap.size ≤ X.heap.size := HBX.out.size
  have hbX : b < X.heap.size := by omega
  have x1 : X.cell? ⟨b, off + k * 2, none⟩ = some (.int .u64 (top.1 : Int)) := (HBX.out.cell (p := ⟨b, _, none⟩) hbw).trans HT1.out
  have x2 : X.cell? ⟨b, off + k * 2 + 1, none⟩ = some (.int .u64 (top.2 : Int)) := (HBX.out.cell (p := ⟨b, _, none⟩) hbw).trans HT2.out
  have X1 := Lib.hid x1
  have X2 := Lib.hid x2
  have hkk : (k : Int) < (k : Int) + 1 := by omega
  clear x1 x2 hg
  refine wpAnyH_take (i := 0) (v := .pointer (some ⟨g, 25, none⟩)) (List.getElem?_toArray.trans rfl) (by kernel_rfl) (by kernel_rfl) (by kernel_rfl) (fun _ _ _ h => h) (.inl ⟨rfl, fun w' hS => by simp [go_sem]⟩) (SinceG.self _) ?_
  refine act_normG (by simp only [Act.put, List.setIfInBounds_toArray, List.set_cons_zero, List.set_cons_succ]; rfl) ?_
  refine wpAnyH_take (i := 1) (v := .slice (some ⟨b, off, none⟩) (k + 1) a.ac) (List.getElem?_toArray.trans rfl) (by kernel_rfl) (by kernel_rfl) (by kernel_rfl) (fun _ _ _ h => h) (.inl ⟨rfl, fun w' hS => by have hc := ((SinceG.wh hS HWX.out).cell 25).trans H25.out; simp [go_sem, hc]⟩) (SinceG.self _) ?_
  refine act_normG (by simp only [Act.put, List.setIfInBounds_toArray, List.set_cons_zero, List.set_cons_succ]; rfl) ?_
  refine wpAnyH_take (i := 2) (v := .int .i64 (k : Int)) (List.getElem?_toArray.trans rfl) (by kernel_rfl) (by kernel_rfl) (by kernel_rfl) (fun _ _ _ h => h) (.inl ⟨rfl, fun w' hS => rfl⟩) (SinceG.self _) ?_
  refine act_normG (by simp only [Act.put, List.setIfInBounds_toArray, List.set_cons_zero, List.set_cons_succ]; rfl) ?_
  refine wpAnyH_take (i := 3) (v := .pointer (some ⟨b, off + k * 2, none⟩)) (List.getElem?_toArray.trans rfl) (by kernel_rfl) (by kernel_rfl) (by kernel_rfl) (fun _ _ _ h => h) (.inl ⟨rfl, fun w' hS => by simp [go_sem]; (try (intro h; omega))⟩) (SinceG.self _) ?_
  refine act_normG (by simp only [Act.put, List.setIfInBounds_toArray, List.set_cons_zero, List.set_cons_succ]; rfl) ?_
  refine wpAnyH_take (i := 4) (v := .pointer (some ⟨b, off + k * 2 + 1, none⟩)) (List.getElem?_toArray.trans rfl) (by kernel_rfl) (by kernel_rfl) (by kernel_rfl) (fun _ _ _ h => h) (.inl ⟨rfl, fun w' hS => by simp [go_sem]⟩) (SinceG.self _) ?_
  refine act_normG (by simp only [Act.put, List.setIfInBounds_toArray, List.set_cons_zero, List.set_cons_succ]; rfl) ?_
  refine wpAnyH_take (i := 5) (v := .int .u64 (top.2 : Int)) (List.getElem?_toArray.trans rfl) (by kernel_rfl) (by kernel_rfl) (by kernel_rfl) (fun _ _ _ h => h) (.inl ⟨rfl, fun w' hS => by have hc := (SinceG.cellb hS hbX X2.out); simp [go_sem, hc]⟩) (SinceG.self _) ?_
  refine act_normG (by simp only [Act.put, List.setIfInBounds_toArray, List.set_cons_zero, List.set_cons_succ]; rfl) ?_
  refine wpAnyH_take (i := 6) (v := .int .u64 ((top.2 : Int) - 1)) (List.getElem?_toArray.trans rfl) (by kernel_rfl) (by kernel_rfl) (by kernel_rfl) (fun _ _ _ h => h) (.inl ⟨rfl, fun w' hS => by simp [go_sem, y1]⟩) (SinceG.self _) ?_
  refine act_normG (by simp only [Act.put, List.setIfInBounds_toArray, List.set_cons_zero, List.set_cons_succ]; rfl) ?_
  refine wpAnyH_take (i := 8) (v := .pointer (some ⟨g, 26, none⟩)) (List.getElem?_toArray.trans rfl) (by kernel_rfl) (by kernel_rfl) (by kernel_rfl) (fun _ _ _ h => h) (.inl ⟨rfl, fun w' hS => by simp [go_sem]⟩) (SinceG.self _) ?_
  refine act_normG (by simp only [Act.put, List.setIfInBounds_toArray, List.set_cons_zero, List.set_cons_succ]; rfl) ?_
  refine wpAnyH_take (i := 9) (v := .int .u64 (f.delay : Int)) (List.getElem?_toArray.trans rfl) (by kernel_rfl) (by kernel_rfl) (by kernel_rfl) (fun _ _ _ h => h) (.inl ⟨rfl, fun w' hS => by have hc := ((SinceG.wh hS HWX.out).cell 26).trans HR.out.delay; simp [go_sem, hc]⟩) (SinceG.self _) ?_
  refine act_normG (by simp only [Act.put, List.setIfInBounds_toArray, List.set_cons_zero, List.set_cons_succ]; rfl) ?_
  have HU1 := Lib.hid (u_any (n := top.2 - 1) (by have := Hto2.out; omega) X)
  rw [HY.out.1] at HU1
  refine wpAnyH_ready (rs := [7]) (by kernel_rfl) (by simp) (AllReadyH.cons (List.getElem?_toArray.trans rfl) (fun K' hK => ?_) AllReadyH.nil)
  refine wanted_goG rfl ?_
  go_simp
  refine HU1.out.mono ?_
  rintro e w5 ⟨A5, c5, rfl, qa5, qb5, ho5, hb5⟩
  refine hK.out _ _ (SinceG.of hb5) (fun _ => ?_)
  clear hK K'
  refine wpAnyH_ready (rs := [10]) (by kernel_rfl) (by simp) (AllReadyH.cons (List.getElem?_toArray.trans rfl) (fun K' hK => ?_) AllReadyH.nil)
  refine wanted_goG rfl ?_
  go_simp
  refine (u_any (n := f.delay) HD.out w5).mono ?_
  rintro e w6 ⟨A6, c6, rfl, qa6, qb6, ho6, hb6⟩
  refine hK.out _ _ (SinceG.trans hb5 hb6) (fun _ => ?_)
  clear hK K'
  have hsz6 : X.heap.size ≤ w5.heap.size := hb5.size
  have hsz7 : w5.heap.size ≤ w6.heap.size := hb6.size
  have hP5 : PSt X X.heap.size g R (.slice A5 (enc (top.2 - 1)).length c5) (enc (top.2 - 1)) w6 := ⟨own_below ho5 hb6, hb5.trans (hb6.mono hb5.size), (HWX.out.below hb5 HWX.out.lt).below hb6 (HWX.out.below hb5 HWX.out.lt).lt, fun e => by have := (ho5.lt g e).1; omega⟩
  refine wpAnyH_ready (rs := [11]) (by kernel_rfl) (by simp) (AllReadyH.cons (List.getElem?_toArray.trans rfl) (fun K' hK => ?_) AllReadyH.nil)
  refine step_append_sv rfl (.tmp 18) (.tmp 21) 22 rfl X.heap.size 5 i0 _ 1 Tryd.underlying22 hi0 hz0 hz1 hz2 rfl (.slice A5 (enc (top.2 - 1)).length c5) (enc (top.2 - 1)).length _ rfl hP5.1 w6.heap.size A6 (enc f.delay).length c6 ((enc f.delay).map cell8) rfl (own_sl ho6) (List.length_map _) (cell8_one _) (by (try simp only [List.length_append]); unfold maxLen; omega) (by (try simp only [List.length_append]); omega) hP5.2.1.size ?_
  intro v7 w7 hown7 hg7 hat7
  have hP7 := hP5.more (Nat.le_refl _) (enc f.delay) hown7 hg7 hat7
  have HP7 := Lib.hid hP7
  refine hK.out _ _ hP7.2.1 (fun _ => ?_)
  clear hK K'
  refine wpAnyH_ready (rs := [12]) (by kernel_rfl) (by simp) (AllReadyH.cons (List.getElem?_toArray.trans rfl) (fun K' hK => ?_) AllReadyH.nil)
  refine wanted_goG rfl ?_
  go_simp
  refine hK.out _ _ hP7.2.1 (fun _ => ?_)
  clear hK K'
  refine wpAnyH_done (by kernel_rfl) ?_ _
  clear hP7 hown7 hg7 hat7 hP5 hsz6 hsz7 ho5 hb5 ho6 hb6 qa5 qb5 qa6 qb6 HU1
  go_wp2_with fail
  refine (u_any (n := k) (by omega) w7).mono ?_
  rintro e w8 ⟨A8, c8, rfl, qa8, qb8, ho8, hb8⟩
  have HP8 : Hid (PSt X X.heap.size g R v7 (enc (top.2 - 1) ++ enc f.delay) w8) := HP7.out.below (Nat.le_refl _) hb8
  have HS8 := Lib.hid (own_sl ho8)
  clear qa8 qb8 ho8 hb8
  go_upto_region 4 with (at_builtin; refine wpList_append_sv _ rfl (.tmp 23) (.tmp 26) _ rfl X.heap.size 5 i0 _ 1 Tryd.underlying22 hi0 hz0 hz1 hz2 rfl v7 (enc (top.2 - 1) ++ enc f.delay).length ((enc (top.2 - 1) ++ enc f.delay).map cell8) rfl HP8.out.1 w8.heap.size A8 (enc k).length c8 ((enc k).map cell8) rfl HS8.out (List.length_map _) (cell8_one _) (by (try simp only [List.length_append]); unfold maxLen; omega) (by (try simp only [List.length_append]); omega) HP8.out.2.1.size ?_; intro v9 w9 hown9 hg9 hat9; have HP9 := Lib.hid (HP8.out.more (Nat.le_refl _) (enc k) hown9 hg9 hat9); clear hown9 hg9 hat9)
  refine wp_region_held_drew (S := fun w' => SinceG X w') (by kernel_rfl) HP9.out.2.1.drew (fun _ => ?_)
  have HD9 : Hid (PSt X X.heap.size g R v9 (enc (top.2 - 1) ++ enc f.delay ++ enc k) w9.drew) := HP9.out.below (Nat.le_refl _) (Below.refl _ _).drew
  clear HP9 HP8 HS8 HP7
  have hS9 : SinceG X w9.drew := HD9.out.2.1
  generalize w9.drew = w9d at *
  refine wpAnyH_take (i := 0) (v := v9) (List.getElem?_toArray.trans rfl) (by kernel_rfl) (by kernel_rfl) (by kernel_rfl) (fun _ _ _ h => h) (.inl ⟨rfl, fun w' hS => rfl⟩) hS9 ?_
  refine act_normG (by simp only [Act.put, List.setIfInBounds_toArray, List.set_cons_zero, List.set_cons_succ]; rfl) ?_
  refine wpAnyH_take (i := 1) (v := .pointer (some ⟨g, 25, none⟩)) (List.getElem?_toArray.trans rfl) (by kernel_rfl) (by kernel_rfl) (by kernel_rfl) (fun _ _ _ h => h) (.inl ⟨rfl, fun w' hS => by simp [go_sem]⟩) hS9 ?_
  refine act_normG (by simp only [Act.put, List.setIfInBounds_toArray, List.set_cons_zero, List.set_cons_succ]; rfl) ?_
  refine wpAnyH_take (i := 2) (v := .slice (some ⟨b, off, none⟩) (k + 1) a.ac) (List.getElem?_toArray.trans rfl) (by kernel_rfl) (by kernel_rfl) (by kernel_rfl) (fun _ _ _ h => h) (.inl ⟨rfl, fun w' hS => by have hc := ((SinceG.wh hS HWX.out).cell 25).trans H25.out; simp [go_sem, hc]⟩) hS9 ?_
  refine act_normG (by simp only [Act.put, List.setIfInBounds_toArray, List.set_cons_zero, List.set_cons_succ]; rfl) ?_
  refine wpAnyH_take (i := 3) (v := .int .i64 (k : Int)) (List.getElem?_toArray.trans rfl) (by kernel_rfl) (by kernel_rfl) (by kernel_rfl) (fun _ _ _ h => h) (.inl ⟨rfl, fun w' hS => rfl⟩) hS9 ?_
  refine act_normG (by simp only [Act.put, List.setIfInBounds_toArray, List.set_cons_zero, List.set_cons_succ]; rfl) ?_
  refine wpAnyH_take (i := 4) (v := .pointer (some ⟨b, off + k * 2, none⟩)) (List.getElem?_toArray.trans rfl) (by kernel_rfl) (by kernel_rfl) (by kernel_rfl) (fun _ _ _ h => h) (.inl ⟨rfl, fun w' hS => by simp [go_sem]; (try (intro h; omega))⟩) hS9 ?_
  refine act_normG (by simp only [Act.put, List.setIfInBounds_toArray, List.set_cons_zero, List.set_cons_succ]; rfl) ?_
  refine wpAnyH_take (i := 5) (v := .pointer (some ⟨b, off + k * 2 + 1, none⟩)) (List.getElem?_toArray.trans rfl) (by kernel_rfl) (by kernel_rfl) (by kernel_rfl) (fun _ _ _ h => h) (.inl ⟨rfl, fun w' hS => by simp [go_sem]⟩) hS9 ?_
  refine act_normG (by simp only [Act.put, List.setIfInBounds_toArray, List.set_cons_zero, List.set_cons_succ]; rfl) ?_
  refine wpAnyH_take (i := 6) (v := .int .u64 (top.2 : Int)) (List.getElem?_toArray.trans rfl) (by kernel_rfl) (by kernel_rfl) (by kernel_rfl) (fun _ _ _ h => h) (.inl ⟨rfl, fun w' hS => by have hc := (SinceG.cellb hS hbX X2.out); simp [go_sem, hc]⟩) hS9 ?_
  refine act_normG (by simp only [Act.put, List.setIfInBounds_toArray, List.set_cons_zero, List.set_cons_succ]; rfl) ?_
  refine wpAnyH_take (i := 7) (v := .int .u64 ((top.2 : Int) - 1)) (List.getElem?_toArray.trans rfl) (by kernel_rfl) (by kernel_rfl) (by kernel_rfl) (fun _ _ _ h => h) (.inl ⟨rfl, fun w' hS => by simp [go_sem, y1]⟩) hS9 ?_
  refine act_normG (by simp only [Act.put, List.setIfInBounds_toArray, List.set_cons_zero, List.set_cons_succ]; rfl) ?_
  refine wpAnyH_take (i := 8) (v := .pointer (some ⟨g, 25, none⟩)) (List.getElem?_toArray.trans rfl) (by kernel_rfl) (by kernel_rfl) (by kernel_rfl) (fun _ _ _ h => h) (.inl ⟨rfl, fun w' hS => by simp [go_sem]⟩) hS9 ?_
  refine act_normG (by simp only [Act.put, List.setIfInBounds_toArray, List.set_cons_zero, List.set_cons_succ]; rfl) ?_
  refine wpAnyH_take (i := 9) (v := .slice (some ⟨b, off, none⟩) (k + 1) a.ac) (List.getElem?_toArray.trans rfl) (by kernel_rfl) (by kernel_rfl) (by kernel_rfl) (fun _ _ _ h => h) (.inl ⟨rfl, fun w' hS => by have hc := ((SinceG.wh hS HWX.out).cell 25).trans H25.out; simp [go_sem, hc]⟩) hS9 ?_
  refine act_normG (by simp only [Act.put, List.setIfInBounds_toArray, List.set_cons_zero, List.set_cons_succ]; rfl) ?_
  refine wpAnyH_take (i := 10) (v := .int .i64 (k : Int)) (List.getElem?_toArray.trans rfl) (by kernel_rfl) (by kernel_rfl) (by kernel_rfl) (fun _ _ _ h => h) (.inl ⟨rfl, fun w' hS => rfl⟩) hS9 ?_
  refine act_normG (by simp only [Act.put, List.setIfInBounds_toArray, List.set_cons_zero, List.set_cons_succ]; rfl) ?_
  refine wpAnyH_take (i := 11) (v := .pointer (some ⟨b, off + k * 2, none⟩)) (List.getElem?_toArray.trans rfl) (by kernel_rfl) (by kernel_rfl) (by kernel_rfl) (fun _ _ _ h => h) (.inl ⟨rfl, fun w' hS => by simp [go_sem]; (try (intro h; omega))⟩) hS9 ?_
  refine act_normG (by simp only [Act.put, List.setIfInBounds_toArray, List.set_cons_zero, List.set_cons_succ]; rfl) ?_
  refine wpAnyH_take (i := 12) (v := .pointer (some ⟨b, off + k * 2, none⟩)) (List.getElem?_toArray.trans rfl) (by kernel_rfl) (by kernel_rfl) (by kernel_rfl) (fun _ _ _ h => h) (.inl ⟨rfl, fun w' hS => by simp [go_sem]⟩) hS9 ?_
  refine act_normG (by simp only [Act.put, List.setIfInBounds_toArray, List.set_cons_zero, List.set_cons_succ]; rfl) ?_
  refine wpAnyH_take (i := 13) (v := .int .u64 (top.1 : Int)) (List.getElem?_toArray.trans rfl) (by kernel_rfl) (by kernel_rfl) (by kernel_rfl) (fun _ _ _ h => h) (.inl ⟨rfl, fun w' hS => by have hc := (SinceG.cellb hS hbX X1.out); simp [go_sem, hc]⟩) hS9 ?_
  refine act_normG (by simp only [Act.put, List.setIfInBounds_toArray, List.set_cons_zero, List.set_cons_succ]; rfl) ?_
  refine wpAnyH_take (i := 14) (v := .int .u64 ((top.2 : Int) - 1 - (top.1 : Int))) (List.getElem?_toArray.trans rfl) (by kernel_rfl) (by kernel_rfl) (by kernel_rfl) (fun _ _ _ h => h) (.inl ⟨rfl, fun w' hS => by simp [go_sem, y2]⟩) hS9 ?_
  refine act_normG (by simp only [Act.put, List.setIfInBounds_toArray, List.set_cons_zero, List.set_cons_succ]; rfl) ?_
  have HU2 := Lib.hid (u_any (n := top.2 - 1 - top.1) (by have := Hto2.out; omega) w9d)
  rw [HY.out.2] at HU2
  refine wpAnyH_ready (rs := [15]) (by kernel_rfl) (by simp) (AllReadyH.cons (List.getElem?_toArray.trans rfl) (fun K' hK => ?_) AllReadyH.nil)
  refine wanted_goG rfl ?_
  go_simp
  refine HU2.out.mono ?_
  rintro e w10 ⟨A10, c10, rfl, qa10, qb10, ho10, hb10⟩
  have hP10 : PSt X X.heap.size g R v9 (enc (top.2 - 1) ++ enc f.delay ++ enc k) w10 := HD9.out.below (Nat.le_refl _) hb10
  refine hK.out _ _ hP10.2.1 (fun _ => ?_)
  clear hK K'
  refine wpAnyH_ready (rs := [16]) (by kernel_rfl) (by simp) (AllReadyH.cons (List.getElem?_toArray.trans rfl) (fun K' hK => ?_) AllReadyH.nil)
  refine step_append_sv rfl (.tmp 28) (.tmp 43) 22 rfl X.heap.size 5 i0 _ 1 Tryd.underlying22 hi0 hz0 hz1 hz2 rfl v9 (enc (top.2 - 1) ++ enc f.delay ++ enc k).length _ rfl hP10.1 w10.heap.size A10 (enc (top.2 - 1 - top.1)).length c10 ((enc (top.2 - 1 - top.1)).map cell8) rfl (own_sl ho10) (List.length_map _) (cell8_one _) (by (try simp only [List.length_append]); unfold maxLen; omega) (by (try simp only [List.length_append]); omega) hP10.2.1.size ?_
  intro v11 w11 hown11 hg11 hat11
  have hP11 := hP10.more (Nat.le_refl _) (enc (top.2 - 1 - top.1)) hown11 hg11 hat11
  have HP11 := Lib.hid hP11
  refine hK.out _ _ hP11.2.1 (fun _ => ?_)
  clear hK K'
  refine wpAnyH_ready (rs := [17]) (by kernel_rfl) (by simp) (AllReadyH.cons (List.getElem?_toArray.trans rfl) (fun K' hK => ?_) AllReadyH.nil)
  refine wanted_goG rfl ?_
  go_simp
  refine hK.out _ _ hP11.2.1 (fun _ => ?_)
  clear hK K'
  refine wpAnyH_done (by kernel_rfl) ?_ _
  clear hP11 hown11 hg11 hat11 hP10 ho10 hb10 qa10 qb10 HU2 HD9 hS9

  obtain ⟨L, hL⟩ : ∃ L, L = enc (top.2 - 1) ++ enc f.delay ++ enc k ++ enc (top.2 - 1 - top.1) := ⟨_, rfl⟩
  have HLE : Hid (L = enc (top.2 - 1) ++ enc f.delay ++ enc k ++ enc (top.2 - 1 - top.1)) := hL
  have hLl : L.length ≤ 32 := by rw [hL]; simp only [List.length_append]; omega
  rw [← hL] at HP11
  have HLL := Lib.hid hLl
  clear hL hLl E1 E2 E3 E4
  go_wp2_with fail
  go_loopw [4, 5] (fun v i wr => ∃ (j : Nat) (pre : List UInt8), j ≤ k ∧ i = .int .i64 ((j : Int) - 1) ∧ Hid (encs (lowNums f.acks k) = pre ++ encs (lowNums f.acks j)) ∧ Hid (PSt X X.heap.size g R v (L ++ pre) wr)) (fun _ i _ => (intOf i + 1).toNat)
  case atStart => exact ⟨k, [], Nat.le_refl _, by simp, Lib.hid rfl, Lib.hid (by rw [List.append_nil]; exact HP11.out)⟩
  case round =>
    obtain ⟨j, pre, hj, rfl, hsplit, hps⟩ := hrel
    have hpl : pre.length ≤ 64000 := by
      have h := congrArg List.length hsplit.out
      rw [List.length_append] at h
      have h2 := encs_le (lowNums f.acks k)
      rw [lowNums_len] at h2
      omega
    have hLl := HLL.out
    have hbox := ((hps.out.2.2.1).cell 25).trans H25.out
    by_cases h0 : j = 0
    · subst h0
      have HPRE : Hid (encs (lowNums f.acks k) = pre) := by
        have h := hsplit.out
        rw [show encs (lowNums f.acks 0) = [] from rfl, List.append_nil] at h
        exact h
      have HQ : Hid (encs (ackNums f) = L ++ pre) := by
        show _ = _
        rw [HN.out, encs_app, HPRE.out, HLE.out, encs_cons, encs_cons, encs_cons, encs_one]
        simp only [List.append_assoc]
      have ck := ((hps.out.2.2.1).cell 0).trans HR.out.kind
      clear hsplit hbox
      by_cases hk3 : f.kind = 3
      · have t3 : ((f.kind : Int) == 3) = true := by rw [hk3]; rfl
        have HFIN : Hid (acksL f = L ++ pre ++ (enc f.e0 ++ enc f.e1 ++ enc f.e2)) := by show _ = _; rw [HAL.out, if_pos hk3, HQ.out]
        clear hk3
        go_wp2_with fail
        refine wp_region_held_drew (S := fun w' => SinceG X w') (by kernel_rfl) hps.out.2.1.drew (fun _ => ?_)
        have HDb : Hid (PSt X X.heap.size g R u4 (L ++ pre) wr.drew) := hps.out.below (Nat.le_refl _) (Below.refl _ _).drew
        clear hps HPRE HQ
        have hSb : SinceG X wr.drew := HDb.out.2.1
        generalize wr.drew = wd at *
        have EZ0 := enc_le f.e0
        have EZ1 := enc_le f.e1
        have EZ2 := enc_le f.e2
        refine wpAnyH_take (i := 0) (v := u4) (List.getElem?_toArray.trans rfl) (by kernel_rfl) (by kernel_rfl) (by kernel_rfl) (fun _ _ _ h => h) (.inl ⟨rfl, fun w' hS => rfl⟩) hSb ?_
        refine act_normG (by simp only [Act.put, List.setIfInBounds_toArray, List.set_cons_zero, List.set_cons_succ]; rfl) ?_
        refine wpAnyH_take (i := 1) (v := .pointer (some ⟨g, 27, none⟩)) (List.getElem?_toArray.trans rfl) (by kernel_rfl) (by kernel_rfl) (by kernel_rfl) (fun _ _ _ h => h) (.inl ⟨rfl, fun w' hS => by simp [go_sem]⟩) hSb ?_
        refine act_normG (by simp only [Act.put, List.setIfInBounds_toArray, List.set_cons_zero, List.set_cons_succ]; rfl) ?_
        refine wpAnyH_take (i := 2) (v := .pointer (some ⟨g, 27, none⟩)) (List.getElem?_toArray.trans rfl) (by kernel_rfl) (by kernel_rfl) (by kernel_rfl) (fun _ _ _ h => h) (.inl ⟨rfl, fun w' hS => by simp [go_sem]⟩) hSb ?_
        refine act_normG (by simp only [Act.put, List.setIfInBounds_toArray, List.set_cons_zero, List.set_cons_succ]; rfl) ?_
        refine wpAnyH_take (i := 3) (v := .int .u64 (f.e0 : Int)) (List.getElem?_toArray.trans rfl) (by kernel_rfl) (by kernel_rfl) (by kernel_rfl) (fun _ _ _ h => h) (.inl ⟨rfl, fun w' hS => by have hc := ((SinceG.wh hS HWX.out).cell 27).trans HR.out.e0; simp [go_sem, hc]⟩) hSb ?_
        refine act_normG (by simp only [Act.put, List.setIfInBounds_toArray, List.set_cons_zero, List.set_cons_succ]; rfl) ?_
        refine wpAnyH_take (i := 6) (v := .pointer (some ⟨g, 27, none⟩)) (List.getElem?_toArray.trans rfl) (by kernel_rfl) (by kernel_rfl) (by kernel_rfl) (fun _ _ _ h => h) (.inl ⟨rfl, fun w' hS => by simp [go_sem]⟩) hSb ?_
        refine act_normG (by simp only [Act.put, List.setIfInBounds_toArray, List.set_cons_zero, List.set_cons_succ]; rfl) ?_
        refine wpAnyH_take (i := 7) (v := .pointer (some ⟨g, 28, none⟩)) (List.getElem?_toArray.trans rfl) (by kernel_rfl) (by kernel_rfl) (by kernel_rfl) (fun _ _ _ h => h) (.inl ⟨rfl, fun w' hS => by simp [go_sem]⟩) hSb ?_
        refine act_normG (by simp only [Act.put, List.setIfInBounds_toArray, List.set_cons_zero, List.set_cons_succ]; rfl) ?_
        refine wpAnyH_take (i := 8) (v := .int .u64 (f.e1 : Int)) (List.getElem?_toArray.trans rfl) (by kernel_rfl) (by kernel_rfl) (by kernel_rfl) (fun _ _ _ h => h) (.inl ⟨rfl, fun w' hS => by have hc := ((SinceG.wh hS HWX.out).cell 28).trans HR.out.e1; simp [go_sem, hc]⟩) hSb ?_
        refine act_normG (by simp only [Act.put, List.setIfInBounds_toArray, List.set_cons_zero, List.set_cons_succ]; rfl) ?_
        refine wpAnyH_take (i := 11) (v := .pointer (some ⟨g, 27, none⟩)) (List.getElem?_toArray.trans rfl) (by kernel_rfl) (by kernel_rfl) (by kernel_rfl) (fun _ _ _ h => h) (.inl ⟨rfl, fun w' hS => by simp [go_sem]⟩) hSb ?_
        refine act_normG (by simp only [Act.put, List.setIfInBounds_toArray, List.set_cons_zero, List.set_cons_succ]; rfl) ?_
        refine wpAnyH_take (i := 12) (v := .pointer (some ⟨g, 29, none⟩)) (List.getElem?_toArray.trans rfl) (by kernel_rfl) (by kernel_rfl) (by kernel_rfl) (fun _ _ _ h => h) (.inl ⟨rfl, fun w' hS => by simp [go_sem]⟩) hSb ?_
        refine act_normG (by simp only [Act.put, List.setIfInBounds_toArray, List.set_cons_zero, List.set_cons_succ]; rfl) ?_
        refine wpAnyH_take (i := 13) (v := .int .u64 (f.e2 : Int)) (List.getElem?_toArray.trans rfl) (by kernel_rfl) (by kernel_rfl) (by kernel_rfl) (fun _ _ _ h => h) (.inl ⟨rfl, fun w' hS => by have hc := ((SinceG.wh hS HWX.out).cell 29).trans HR.out.e2; simp [go_sem, hc]⟩) hSb ?_
        refine act_normG (by simp only [Act.put, List.setIfInBounds_toArray, List.set_cons_zero, List.set_cons_succ]; rfl) ?_
        refine wpAnyH_ready (rs := [4]) (by kernel_rfl) (by simp) (AllReadyH.cons (List.getElem?_toArray.trans rfl) (fun K' hK => ?_) AllReadyH.nil)
        refine wanted_goG rfl ?_
        go_simp
        refine (u_any (n := f.e0) HE0.out wd).mono ?_
        rintro e wc0 ⟨Ac0, cc0, rfl, qac0, qbc0, hoc0, hbc0⟩
        have hPc0 : PSt X X.heap.size g R u4 (L ++ pre) wc0 := HDb.out.below (Nat.le_refl _) hbc0
        refine hK.out _ _ hPc0.2.1 (fun _ => ?_)
        clear hK K'
        refine wpAnyH_ready (rs := [5]) (by kernel_rfl) (by simp) (AllReadyH.cons (List.getElem?_toArray.trans rfl) (fun K' hK => ?_) AllReadyH.nil)
        refine step_append_sv rfl (.tmp 90) (.tmp 94) 22 rfl X.heap.size 5 i0 _ 1 Tryd.underlying22 hi0 hz0 hz1 hz2 rfl u4 (L ++ pre).length _ rfl hPc0.1 wc0.heap.size Ac0 (enc f.e0).length cc0 ((enc f.e0).map cell8) rfl (own_sl hoc0) (List.length_map _) (cell8_one _) (by (try simp only [List.length_append]); unfold maxLen; omega) (by (try simp only [List.length_append]); omega) hPc0.2.1.size ?_
        intro vz0 wz0 hownz0 hgz0 hatz0
        have hPz0 := hPc0.more (Nat.le_refl _) (enc f.e0) hownz0 hgz0 hatz0
        have HPz0 := Lib.hid hPz0
        refine hK.out _ _ hPz0.2.1 (fun _ => ?_)
        clear hK K'
        refine wpAnyH_ready (rs := [9]) (by kernel_rfl) (by simp) (AllReadyH.cons (List.getElem?_toArray.trans rfl) (fun K' hK => ?_) AllReadyH.nil)
        refine wanted_goG rfl ?_
        go_simp
        refine (u_any (n := f.e1) HE1.out wz0).mono ?_
        rintro e wc1 ⟨Ac1, cc1, rfl, qac1, qbc1, hoc1, hbc1⟩
        have hPc1 : PSt X X.heap.size g R vz0 (L ++ pre ++ enc f.e0) wc1 := hPz0.below (Nat.le_refl _) hbc1
        refine hK.out _ _ hPc1.2.1 (fun _ => ?_)
        clear hK K'
        refine wpAnyH_ready (rs := [10]) (by kernel_rfl) (by simp) (AllReadyH.cons (List.getElem?_toArray.trans rfl) (fun K' hK => ?_) AllReadyH.nil)
        refine step_append_sv rfl (.tmp 95) (.tmp 99) 22 rfl X.heap.size 5 i0 _ 1 Tryd.underlying22 hi0 hz0 hz1 hz2 rfl vz0 (L ++ pre ++ enc f.e0).length _ rfl hPc1.1 wc1.heap.size Ac1 (enc f.e1).length cc1 ((enc f.e1).map cell8) rfl (own_sl hoc1) (List.length_map _) (cell8_one _) (by (try simp only [List.length_append]); unfold maxLen; omega) (by (try simp only [List.length_append]); omega) hPc1.2.1.size ?_
        intro vz1 wz1 hownz1 hgz1 hatz1
        have hPz1 := hPc1.more (Nat.le_refl _) (enc f.e1) hownz1 hgz1 hatz1
        have HPz1 := Lib.hid hPz1
        refine hK.out _ _ hPz1.2.1 (fun _ => ?_)
        clear hK K'
        refine wpAnyH_ready (rs := [14]) (by kernel_rfl) (by simp) (AllReadyH.cons (List.getElem?_toArray.trans rfl) (fun K' hK => ?_) AllReadyH.nil)
        refine wanted_goG rfl ?_
        go_simp
        refine (u_any (n := f.e2) HE2.out wz1).mono ?_
        rintro e wc2 ⟨Ac2, cc2, rfl, qac2, qbc2, hoc2, hbc2⟩
        have hPc2 : PSt X X.heap.size g R vz1 (L ++ pre ++ enc f.e0 ++ enc f.e1) wc2 := hPz1.below (Nat.le_refl _) hbc2
        refine hK.out _ _ hPc2.2.1 (fun _ => ?_)
        clear hK K'
        refine wpAnyH_ready (rs := [15]) (by kernel_rfl) (by simp) (AllReadyH.cons (List.getElem?_toArray.trans rfl) (fun K' hK => ?_) AllReadyH.nil)
        refine step_append_sv rfl (.tmp 100) (.tmp 104) 22 rfl X.heap.size 5 i0 _ 1 Tryd.underlying22 hi0 hz0 hz1 hz2 rfl vz1 (L ++ pre ++ enc f.e0 ++ enc f.e1).length _ rfl hPc2.1 wc2.heap.size Ac2 (enc f.e2).length cc2 ((enc f.e2).map cell8) rfl (own_sl hoc2) (List.length_map _) (cell8_one _) (by (try simp only [List.length_append]); unfold maxLen; omega) (by (try simp only [List.length_append]); omega) hPc2.2.1.size ?_
        intro vz2 wz2 hownz2 hgz2 hatz2
        have hPz2 := hPc2.more (Nat.le_refl _) (enc f.e2) hownz2 hgz2 hatz2
        have HPz2 := Lib.hid hPz2
        refine hK.out _ _ hPz2.2.1 (fun _ => ?_)
        clear hK K'
        refine wpAnyH_ready (rs := [16]) (by kernel_rfl) (by simp) (AllReadyH.cons (List.getElem?_toArray.trans rfl) (fun K' hK => ?_) AllReadyH.nil)
        refine wanted_goG rfl ?_
        go_simp
        refine hK.out _ _ hPz2.2.1 (fun _ => ?_)
        clear hK K'
        refine wpAnyH_done (by kernel_rfl) ?_ _
        clear hPz0 hPz1 hPz2 hPc0 hPc1 hPc2
        go_wp2_with fail
        go_ret
        refine ⟨_, rfl, ?_, HBX.out.trans (HPz2.out.2.1.mono HBX.out.size)⟩
        rw [HFIN.out]
        have h := own_mono HPz2.out.1 HBX.out.size
        simp only [List.append_assoc] at h ⊢
        exact h
      · have t3 : ((f.kind : Int) == 3) = false := by rw [beq_eq_false_iff_ne]; omega
        have HFIN : Hid (acksL f = L ++ pre) := by show _ = _; rw [HAL.out, if_neg hk3, List.append_nil, HQ.out]
        clear hk3
        go_wp2_with fail
        go_ret
        refine ⟨_, rfl, ?_, HBX.out.trans (hps.out.2.1.mono HBX.out.size)⟩
        rw [HFIN.out]
        exact own_mono hps.out.1 HBX.out.size
    · obtain ⟨m, rfl⟩ : ∃ m, j = m + 1 := ⟨j - 1, by omega⟩
      rw [show ((m + 1 : Nat) : Int) - 1 = (m : Int) by omega]
      obtain ⟨x, hx⟩ : ∃ x, f.acks[m]? = some x := ⟨_, List.getElem?_eq_getElem (by have := HK.out; omega)⟩
      obtain ⟨y, hy⟩ : ∃ y, f.acks[m + 1]? = some y := ⟨_, List.getElem?_eq_getElem (by have := HK.out; omega)⟩
      have ox := HOK.out m x hx
      have oy := (HOK.out (m + 1) y hy)
      have g1 := ox.1
      have g2 := ox.2.1
      have g3 : x.2 < y.1 := oy.2.2 x (by omega) (by simpa using hx)
      have g4 : y.1 < 4611686018427387905 := by have := oy.1; have := oy.2.1; omega
      have HLOW : Hid (encs (lowNums f.acks (m + 1)) = enc (y.1 - x.2 - 1) ++ enc (x.2 - 1 - x.1) ++ encs (lowNums f.acks m)) := by
        show _ = _
        rw [low_succ, encs_app, encs_cons, encs_one, show f.acks.getD (m + 1) (0, 0) = y by simp [List.getD, hy], show f.acks.getD m (0, 0) = x by simp [List.getD, hx]]
      have u1 : X.cell? ⟨b, off + m * 2, none⟩ = some (.int .u64 (x.1 : Int)) := (HBX.out.cell (p := ⟨b, _, none⟩) hbw).trans (HC.out m x hx).1
      have u2 : X.cell? ⟨b, off + m * 2 + 1, none⟩ = some (.int .u64 (x.2 : Int)) := (HBX.out.cell (p := ⟨b, _, none⟩) hbw).trans (HC.out m x hx).2
      have u3 : X.cell? ⟨b, off + (m + 1) * 2, none⟩ = some (.int .u64 (y.1 : Int)) := (HBX.out.cell (p := ⟨b, _, none⟩) hbw).trans (HC.out (m + 1) y hy).1
      have U1 := Lib.hid u1
      have U2 := Lib.hid u2
      have d1 : wr.cell? ⟨b, off + m * 2, none⟩ = some (.int .u64 (x.1 : Int)) := SinceG.cellb hps.out.2.1 hbX u1
      have d2 : wr.cell? ⟨b, off + m * 2 + 1, none⟩ = some (.int .u64 (x.2 : Int)) := SinceG.cellb hps.out.2.1 hbX u2
      have d3 : wr.cell? ⟨b, off + (m + 1) * 2, none⟩ = some (.int .u64 (y.1 : Int)) := SinceG.cellb hps.out.2.1 hbX u3
      have hm : m < k := by omega
      have hmk : (m : Int) < (k : Int) := by omega
      have e1 : IntKind.i64.wrap ((m : Int) + 1) = (m : Int) + 1 := IntWalk.i64_in _ (by omega)
      have e2 : IntKind.u64.wrap ((y.1 : Int) - (x.2 : Int)) = (y.1 : Int) - (x.2 : Int) := IntWalk.u64_in _ (by omega)
      have e3 : IntKind.u64.wrap ((y.1 : Int) - (x.2 : Int) - 1) = (y.1 : Int) - (x.2 : Int) - 1 := IntWalk.u64_in _ (by omega)
      have e4 : IntKind.u64.wrap ((x.2 : Int) - 1) = (x.2 : Int) - 1 := IntWalk.u64_in _ (by omega)
      have e5 : IntKind.u64.wrap ((x.2 : Int) - 1 - (x.1 : Int)) = (x.2 : Int) - 1 - (x.1 : Int) := IntWalk.u64_in _ (by omega)
      have e6 : IntKind.i64.wrap (m : Int) = (m : Int) := IntWalk.i64_in _ (by omega)
      have e7 : IntKind.i64.wrap ((m : Int) - 1) = (m : Int) - 1 := IntWalk.i64_in _ (by omega)
      have EP := Lib.hid (enc_le (y.1 - x.2 - 1))
      have EQ := Lib.hid (enc_le (x.2 - 1 - x.1))
      have HP1 := Lib.hid fun w => u_any (n := y.1 - x.2 - 1) (by omega) w
      rw [show ((y.1 - x.2 - 1 : Nat) : Int) = (y.1 : Int) - (x.2 : Int) - 1 by omega] at HP1
      have HP2 := Lib.hid fun w => u_any (n := x.2 - 1 - x.1) (by omega) w
      rw [show ((x.2 - 1 - x.1 : Nat) : Int) = (x.2 : Int) - 1 - (x.1 : Int) by omega] at HP2
      generalize y.1 - x.2 - 1 = pn at *
      generalize x.2 - 1 - x.1 = qn at *
      clear hx hy u1 u2 u3 ox oy
      go_wp2
      go_quiet (fail)
      go_wp2_with fail
      refine (HP1.out _).mono ?_
      rintro e wa ⟨Aa, ca, rfl, qaa, qba, hoa, hba⟩
      have HPa : Hid (PSt X X.heap.size g R u4 (L ++ pre) wa) := (hps.out.below (Nat.le_refl _) (below_drewN (Below.refl _ _) _)).below (Nat.le_refl _) hba
      have HSa := Lib.hid (own_sl hoa)
      have EPP := EP.out
      have EQQ := EQ.out
      clear qaa qba hoa hba d1 d2 d3 hbox
      go_upto_region 10 with (at_builtin; refine wpList_append_sv _ rfl (.tmp 65) (.tmp 68) _ rfl X.heap.size 5 i0 _ 1 Tryd.underlying22 hi0 hz0 hz1 hz2 rfl u4 (L ++ pre).length ((L ++ pre).map cell8) rfl HPa.out.1 wa.heap.size Aa (enc pn).length ca ((enc pn).map cell8) rfl HSa.out (List.length_map _) (cell8_one _) (by (try simp only [List.length_append]); unfold maxLen; omega) (by (try simp only [List.length_append]); omega) HPa.out.2.1.size ?_; intro vb wb hownb hgb hatb; have HPb := Lib.hid (HPa.out.more (Nat.le_refl _) (enc pn) hownb hgb hatb); clear hownb hgb hatb)
      refine wp_region_held_drew (S := fun w' => SinceG X w') (by kernel_rfl) HPb.out.2.1.drew (fun _ => ?_)
      have HDb : Hid (PSt X X.heap.size g R vb (L ++ pre ++ enc pn) wb.drew) := HPb.out.below (Nat.le_refl _) (Below.refl _ _).drew
      clear HPb HPa HSa hps
      have hSb : SinceG X wb.drew := HDb.out.2.1
      generalize wb.drew = wd at *
      refine wpAnyH_take (i := 0) (v := vb) (List.getElem?_toArray.trans rfl) (by kernel_rfl) (by kernel_rfl) (by kernel_rfl) (fun _ _ _ h => h) (.inl ⟨rfl, fun w' hS => rfl⟩) hSb ?_
      refine act_normG (by simp only [Act.put, List.setIfInBounds_toArray, List.set_cons_zero, List.set_cons_succ]; rfl) ?_
      refine wpAnyH_take (i := 1) (v := .pointer (some ⟨g, 25, none⟩)) (List.getElem?_toArray.trans rfl) (by kernel_rfl) (by kernel_rfl) (by kernel_rfl) (fun _ _ _ h => h) (.inl ⟨rfl, fun w' hS => by simp [go_sem]⟩) hSb ?_
      refine act_normG (by simp only [Act.put, List.setIfInBounds_toArray, List.set_cons_zero, List.set_cons_succ]; rfl) ?_
      refine wpAnyH_take (i := 2) (v := .slice (some ⟨b, off, none⟩) (k + 1) a.ac) (List.getElem?_toArray.trans rfl) (by kernel_rfl) (by kernel_rfl) (by kernel_rfl) (fun _ _ _ h => h) (.inl ⟨rfl, fun w' hS => by have hc := ((SinceG.wh hS HWX.out).cell 25).trans H25.out; simp [go_sem, hc]⟩) hSb ?_
      refine act_normG (by simp only [Act.put, List.setIfInBounds_toArray, List.set_cons_zero, List.set_cons_succ]; rfl) ?_
      refine wpAnyH_take (i := 3) (v := .int .i64 (m : Int)) (List.getElem?_toArray.trans rfl) (by kernel_rfl) (by kernel_rfl) (by kernel_rfl) (fun _ _ _ h => h) (.inl ⟨rfl, fun w' hS => rfl⟩) hSb ?_
      refine act_normG (by simp only [Act.put, List.setIfInBounds_toArray, List.set_cons_zero, List.set_cons_succ]; rfl) ?_
      refine wpAnyH_take (i := 4) (v := .pointer (some ⟨b, off + m * 2, none⟩)) (List.getElem?_toArray.trans rfl) (by kernel_rfl) (by kernel_rfl) (by kernel_rfl) (fun _ _ _ h => h) (.inl ⟨rfl, fun w' hS => by simp [go_sem]; (try (intro h; omega))⟩) hSb ?_
      refine act_normG (by simp only [Act.put, List.setIfInBounds_toArray, List.set_cons_zero, List.set_cons_succ]; rfl) ?_
      refine wpAnyH_take (i := 5) (v := .pointer (some ⟨b, off + m * 2 + 1, none⟩)) (List.getElem?_toArray.trans rfl) (by kernel_rfl) (by kernel_rfl) (by kernel_rfl) (fun _ _ _ h => h) (.inl ⟨rfl, fun w' hS => by simp [go_sem]⟩) hSb ?_
      refine act_normG (by simp only [Act.put, List.setIfInBounds_toArray, List.set_cons_zero, List.set_cons_succ]; rfl) ?_
      refine wpAnyH_take (i := 6) (v := .int .u64 (x.2 : Int)) (List.getElem?_toArray.trans rfl) (by kernel_rfl) (by kernel_rfl) (by kernel_rfl) (fun _ _ _ h => h) (.inl ⟨rfl, fun w' hS => by have hc := (SinceG.cellb hS hbX U2.out); simp [go_sem, hc]⟩) hSb ?_
      refine act_normG (by simp only [Act.put, List.setIfInBounds_toArray, List.set_cons_zero, List.set_cons_succ]; rfl) ?_
      refine wpAnyH_take (i := 7) (v := .int .u64 ((x.2 : Int) - 1)) (List.getElem?_toArray.trans rfl) (by kernel_rfl) (by kernel_rfl) (by kernel_rfl) (fun _ _ _ h => h) (.inl ⟨rfl, fun w' hS => by simp [go_sem, e4]⟩) hSb ?_
      refine act_normG (by simp only [Act.put, List.setIfInBounds_toArray, List.set_cons_zero, List.set_cons_succ]; rfl) ?_
      refine wpAnyH_take (i := 8) (v := .pointer (some ⟨g, 25, none⟩)) (List.getElem?_toArray.trans rfl) (by kernel_rfl) (by kernel_rfl) (by kernel_rfl) (fun _ _ _ h => h) (.inl ⟨rfl, fun w' hS => by simp [go_sem]⟩) hSb ?_
      refine act_normG (by simp only [Act.put, List.setIfInBounds_toArray, List.set_cons_zero, List.set_cons_succ]; rfl) ?_
      refine wpAnyH_take (i := 9) (v := .slice (some ⟨b, off, none⟩) (k + 1) a.ac) (List.getElem?_toArray.trans rfl) (by kernel_rfl) (by kernel_rfl) (by kernel_rfl) (fun _ _ _ h => h) (.inl ⟨rfl, fun w' hS => by have hc := ((SinceG.wh hS HWX.out).cell 25).trans H25.out; simp [go_sem, hc]⟩) hSb ?_
      refine act_normG (by simp only [Act.put, List.setIfInBounds_toArray, List.set_cons_zero, List.set_cons_succ]; rfl) ?_
      refine wpAnyH_take (i := 10) (v := .int .i64 (m : Int)) (List.getElem?_toArray.trans rfl) (by kernel_rfl) (by kernel_rfl) (by kernel_rfl) (fun _ _ _ h => h) (.inl ⟨rfl, fun w' hS => rfl⟩) hSb ?_
      refine act_normG (by simp only [Act.put, List.setIfInBounds_toArray, List.set_cons_zero, List.set_cons_succ]; rfl) ?_
      refine wpAnyH_take (i := 11) (v := .pointer (some ⟨b, off + m * 2, none⟩)) (List.getElem?_toArray.trans rfl) (by kernel_rfl) (by kernel_rfl) (by kernel_rfl) (fun _ _ _ h => h) (.inl ⟨rfl, fun w' hS => by simp [go_sem]; (try (intro h; omega))⟩) hSb ?_
      refine act_normG (by simp only [Act.put, List.setIfInBounds_toArray, List.set_cons_zero, List.set_cons_succ]; rfl) ?_
      refine wpAnyH_take (i := 12) (v := .pointer (some ⟨b, off + m * 2, none⟩)) (List.getElem?_toArray.trans rfl) (by kernel_rfl) (by kernel_rfl) (by kernel_rfl) (fun _ _ _ h => h) (.inl ⟨rfl, fun w' hS => by simp [go_sem]⟩) hSb ?_
      refine act_normG (by simp only [Act.put, List.setIfInBounds_toArray, List.set_cons_zero, List.set_cons_succ]; rfl) ?_
      refine wpAnyH_take (i := 13) (v := .int .u64 (x.1 : Int)) (List.getElem?_toArray.trans rfl) (by kernel_rfl) (by kernel_rfl) (by kernel_rfl) (fun _ _ _ h => h) (.inl ⟨rfl, fun w' hS => by have hc := (SinceG.cellb hS hbX U1.out); simp [go_sem, hc]⟩) hSb ?_
      refine act_normG (by simp only [Act.put, List.setIfInBounds_toArray, List.set_cons_zero, List.set_cons_succ]; rfl) ?_
      refine wpAnyH_take (i := 14) (v := .int .u64 ((x.2 : Int) - 1 - (x.1 : Int))) (List.getElem?_toArray.trans rfl) (by kernel_rfl) (by kernel_rfl) (by kernel_rfl) (fun _ _ _ h => h) (.inl ⟨rfl, fun w' hS => by simp [go_sem, e5]⟩) hSb ?_
      refine act_normG (by simp only [Act.put, List.setIfInBounds_toArray, List.set_cons_zero, List.set_cons_succ]; rfl) ?_
      refine wpAnyH_ready (rs := [15]) (by kernel_rfl) (by simp) (AllReadyH.cons (List.getElem?_toArray.trans rfl) (fun K' hK => ?_) AllReadyH.nil)
      refine wanted_goG rfl ?_
      go_simp
      refine (HP2.out wd).mono ?_
      rintro e wc ⟨Ac, cc, rfl, qac, qbc, hoc, hbc⟩
      have hPc : PSt X X.heap.size g R vb (L ++ pre ++ enc pn) wc := HDb.out.below (Nat.le_refl _) hbc
      refine hK.out _ _ hPc.2.1 (fun _ => ?_)
      clear hK K'
      refine wpAnyH_ready (rs := [16]) (by kernel_rfl) (by simp) (AllReadyH.cons (List.getElem?_toArray.trans rfl) (fun K' hK => ?_) AllReadyH.nil)
      refine step_append_sv rfl (.tmp 70) (.tmp 85) 22 rfl X.heap.size 5 i0 _ 1 Tryd.underlying22 hi0 hz0 hz1 hz2 rfl vb (L ++ pre ++ enc pn).length _ rfl hPc.1 wc.heap.size Ac (enc qn).length cc ((enc qn).map cell8) rfl (own_sl hoc) (List.length_map _) (cell8_one _) (by (try simp only [List.length_append]); unfold maxLen; omega) (by (try simp only [List.length_append]); omega) hPc.2.1.size ?_
      intro vf wf hownf hgf hatf
      have hPf := hPc.more (Nat.le_refl _) (enc qn) hownf hgf hatf
      have HPf := Lib.hid hPf
      refine hK.out _ _ hPf.2.1 (fun _ => ?_)
      clear hK K'
      refine wpAnyH_ready (rs := [17]) (by kernel_rfl) (by simp) (AllReadyH.cons (List.getElem?_toArray.trans rfl) (fun K' hK => ?_) AllReadyH.nil)
      refine wanted_goG rfl ?_
      go_simp
      refine hK.out _ _ hPf.2.1 (fun _ => ?_)
      clear hK K'
      refine wpAnyH_done (by kernel_rfl) ?_ _
      clear hPf hownf hgf hatf hPc hoc hbc qac qbc HDb hSb
      go_wp2_with fail
      go_roundw
      case rel =>
        refine ⟨m, pre ++ (enc pn ++ enc qn), by omega, rfl, ?_, ?_⟩
        · refine Lib.hid ?_
          rw [hsplit.out, HLOW.out]
          simp only [List.append_assoc]
        · refine Lib.hid ?_
          have h := HPf.out
          simp only [List.append_assoc] at h ⊢
          exact h
      case measure => simp [intOf]
end

section
open Go.RowKit
set_option linter.unusedVariables false
set_option linter.unusedSimpArgs false

/-- What a letter of a form gives. -/
def letB (f : PF) (c : UInt8) : List UInt8 :=
  if c.toNat = 105 then enc f.id else if c.toNat = 111 then enc f.off else if c.toNat = 109 then enc f.max else if c.toNat = 99 then enc f.code
  else if c.toNat = 100 then enc f.data.length ++ f.data else if c.toNat = 68 then f.data else if c.toNat = 67 then UInt8.ofNat f.cid.length :: (f.cid ++ f.token) else []
def formB (f : PF) (l : List UInt8) : List UInt8 := l.flatMap (letB f)
theorem formB_next (f : PF) (l : List UInt8) (k : Nat) (x : UInt8) (h : l[k]? = some x) : formB f (l.take (k + 1)) = formB f (l.take k) ++ letB f x := by
  unfold formB
  rw [List.take_add_one, h, List.flatMap_append]
  simp

/-- A frame's bytes, as the document's answer has them. -/
def bytesR (f : PF) : List UInt8 :=
  if f.kind = 0 then List.replicate f.n 0 else if f.kind = 8 then streamL f else if f.kind = 2 ∨ f.kind = 3 then enc f.kind ++ acksL f else enc f.kind ++ formB f (formL f.kind)

theorem form_P : ∀ k : Nat, k < 31 → ((strV (formL k)).toList == [80]) = decide (k = 0) := by decide +kernel
theorem form_S : ∀ k : Nat, k < 31 → ((strV (formL k)).toList == [83]) = decide (k = 8) := by decide +kernel
theorem form_A : ∀ k : Nat, k < 31 → ((strV (formL k)).toList == [65]) = decide (k = 2) := by decide +kernel
theorem form_E : ∀ k : Nat, k < 31 → ((strV (formL k)).toList == [69]) = decide (k = 3) := by decide +kernel
theorem form_len3 : ∀ k : Nat, k < 31 → (formL k).length ≤ 3 := by decide +kernel

theorem madeCells_G (n : Nat) : (madeCells (Value.int .u8 0).cells (n * 1)).toList = List.replicate n (cell8 0) := by
  rw [Nat.mul_one]
  apply List.ext_getElem?
  intro i
  by_cases hi : i < n
  · simp [madeCells, Value.cells, hi, Nat.mod_one]; rfl
  · simp [madeCells, Value.cells, hi]

theorem cell_natG {k : Nat} (h : k < 256) : cell8 (UInt8.ofNat k) = Value.int .u8 (k : Int) := by
  unfold cell8
  rw [UInt8.toNat_ofNat', Nat.mod_eq_of_lt (by omega)]

theorem sv_newG (w : World) (v : Value) (t : TypeId) : Sv (w.alloc (.cells #[v] t)) (w.heap.size + 1) (some ⟨w.heap.size, 0, none⟩) [v] := sv_blk w #[v] t _ (Nat.lt_succ_self _)

theorem row_rangeG {w : World} {g : Nat} {t : TypeId} {cs : Array Value} (h : Wh w g t cs) : w.rangeAt g 0 cs.toList := fun j v hv => by
  rw [Nat.zero_add, h.cell j]
  rwa [Array.getElem?_toList] at hv

/-- What the walk wants of a frame. -/
structure GoodF (f : PF) : Prop where
  k : f.kind < 31
  id : f.id ≤ 4611686018427387903
  off : f.off ≤ 4611686018427387903
  max : f.max ≤ 4611686018427387903
  code : f.code ≤ 4611686018427387903
  delay : f.delay ≤ 4611686018427387903
  e0 : f.e0 ≤ 4611686018427387903
  e1 : f.e1 ≤ 4611686018427387903
  e2 : f.e2 ≤ 4611686018427387903
  dl : f.data.length ≤ 1048576
  cl : f.cid.length ≤ 1048576
  n : f.kind = 0 → f.n ≤ 65536
  acks : f.kind = 2 ∨ f.kind = 3 → OkR f.acks ∧ f.acks ≠ [] ∧ f.acks.length ≤ 4000
  c20 : f.kind = 24 → f.cid.length ≤ 20

set_option maxRecDepth 100000 in
set_option maxHeartbeats 8000000 in
theorem refbytes_0 (R : Array Value) (f : PF) (a : SA) (w : World) (B : Nat) (hR : RowIs R f a) (hf : FrAt w B f a) (hB : B ≤ w.heap.size) (hg : GoodF f) (hk : f.kind = 0) :
    Calls Tryd.prog 9 #[.agg R] w (PutGave w w.heap.size (bytesR f)) := by
  obtain ⟨i0, hi0, hz0, hz1, hz2⟩ := info_parts info8
  have hw0 : Wh (w.alloc (.cells R 32)) w.heap.size 32 R := Wh.new w _ R
  have hb0 : Below w.heap.size w (w.alloc (.cells R 32)) := (Below.refl _ _).alloc (Nat.le_refl _) _
  have hsz := hR.size
  have HI : Hid ((Tryd.prog.info? 32).map (·.size) = some R.size) := by rw [hsz]; exact info_frame
  have HP := Lib.hid (form_any f.kind)
  have tP := form_P f.kind hg.k
  have tS := form_S f.kind hg.k
  have tA := form_A f.kind hg.k
  have tE := form_E f.kind hg.k
  have c0 := (hw0.cell 0).trans hR.kind
  have HR := Lib.hid hR
  have HF := Lib.hid hf
  have HW := Lib.hid hw0
  have HB := Lib.hid hb0
  have HGD := Lib.hid hg
  have HBR : Hid (bytesR f = List.replicate f.n 0) := if_pos hk
  rw [decide_eq_true hk] at tP
  have hn := hg.n hk
  have c5 := (hw0.cell 5).trans hR.n
  clear tS tA tE hk
  generalize formL f.kind = fl at *
  generalize strV fl = s at *
  clear hR hf hw0 hb0 hg hsz
  go_enter Tryd.func9, Tryd.ntmps9
  go_upto_region 1 with fail
  obtain ⟨W, hW⟩ : ∃ W, W = w.alloc (.cells R 32) := ⟨_, rfl⟩
  rw [← hW] at HW HB c0 c5 ⊢
  clear hW
  go_wp2_with fail
  refine (HP.out _).mono ?_
  rintro e w' ⟨rfl, rfl⟩
  go_wp2_with (at_make; (refine wpList_make_full _ rfl _ _ _ rfl W.heap.size 5 i0 _ 1 Tryd.underlying22 hi0 hz0 hz1 _ _ _ _ f.n rfl rfl rfl rfl (by rw [hz2]; omega) (by unfold maxLen; omega) (Nat.le_refl _) ?_); intro w1 hown1 hg1)
  go_ret
  refine ⟨_, rfl, ?_, HB.out.grown hg1 HB.out.size (fun _ h => by cases h)⟩
  rw [HBR.out, List.length_replicate, List.map_replicate]
  have h := own_mono hown1 HB.out.size
  rw [show (madeCells (Value.int .u8 0).cells (f.n * 1)).toList = List.replicate f.n (cell8 0) from madeCells_G f.n] at h
  exact h

set_option maxRecDepth 100000 in
set_option maxHeartbeats 8000000 in
theorem refbytes_8 (R : Array Value) (f : PF) (a : SA) (w : World) (B : Nat) (hR : RowIs R f a) (hf : FrAt w B f a) (hB : B ≤ w.heap.size) (hg : GoodF f) (hk : f.kind = 8) :
    Calls Tryd.prog 9 #[.agg R] w (PutGave w w.heap.size (bytesR f)) := by
  obtain ⟨i0, hi0, hz0, hz1, hz2⟩ := info_parts info8
  have hw0 : Wh (w.alloc (.cells R 32)) w.heap.size 32 R := Wh.new w _ R
  have hb0 : Below w.heap.size w (w.alloc (.cells R 32)) := (Below.refl _ _).alloc (Nat.le_refl _) _
  have hsz := hR.size
  have HI : Hid ((Tryd.prog.info? 32).map (·.size) = some R.size) := by rw [hsz]; exact info_frame
  have HP := Lib.hid (form_any f.kind)
  have tP := form_P f.kind hg.k
  have tS := form_S f.kind hg.k
  have tA := form_A f.kind hg.k
  have tE := form_E f.kind hg.k
  have c0 := (hw0.cell 0).trans hR.kind
  have HR := Lib.hid hR
  have HF := Lib.hid hf
  have HW := Lib.hid hw0
  have HB := Lib.hid hb0
  have HGD := Lib.hid hg
  have HBR : Hid (bytesR f = streamL f) := by show _ = _; unfold bytesR; rw [if_neg (by omega), if_pos hk]
  rw [decide_eq_false (by omega)] at tP
  rw [decide_eq_true hk] at tS
  have HST := Lib.hid (stream_any R f a (w.alloc (.cells R 32)) B hR (hf.below (hb0.mono hB)) (Nat.le_trans hB hb0.size) hg.id hg.off (by have := hg.dl; omega))
  have c5 := (hw0.cell 5).trans hR.n
  clear tA tE hk
  generalize formL f.kind = fl at *
  generalize strV fl = s at *
  clear hR hf hw0 hb0 hg hsz
  go_enter Tryd.func9, Tryd.ntmps9
  go_upto_region 1 with fail
  obtain ⟨W, hW⟩ : ∃ W, W = w.alloc (.cells R 32) := ⟨_, rfl⟩
  rw [← hW] at HW HB c0 c5 HST ⊢
  clear hW
  go_wp2_with fail
  refine (HP.out _).mono ?_
  rintro e w' ⟨rfl, rfl⟩
  go_wp2_with (refine wpList_load_any 32 (.tmp 1) rfl rfl w.heap.size rfl _ R _ HW.out Tryd.underlying32 rfl HI.out ?_)
  refine HST.out.mono ?_
  rintro e w1 ⟨v1, rfl, hown1, hb1⟩
  have HO1 := Lib.hid hown1
  have HB1 := Lib.hid hb1
  clear hown1 hb1
  go_wp2_with fail
  go_ret
  refine ⟨_, rfl, ?_, HB.out.trans (HB1.out.mono HB.out.size)⟩
  rw [HBR.out]
  exact own_mono HO1.out HB.out.size

set_option maxRecDepth 100000 in
set_option maxHeartbeats 8000000 in
theorem refbytes_23 (R : Array Value) (f : PF) (a : SA) (w : World) (B : Nat) (hR : RowIs R f a) (hf : FrAt w B f a) (hB : B ≤ w.heap.size) (hg : GoodF f) (hk : f.kind = 2 ∨ f.kind = 3) :
    Calls Tryd.prog 9 #[.agg R] w (PutGave w w.heap.size (bytesR f)) := by
  obtain ⟨i0, hi0, hz0, hz1, hz2⟩ := info_parts info8
  have hw0 : Wh (w.alloc (.cells R 32)) w.heap.size 32 R := Wh.new w _ R
  have hb0 : Below w.heap.size w (w.alloc (.cells R 32)) := (Below.refl _ _).alloc (Nat.le_refl _) _
  have hsz := hR.size
  have HI : Hid ((Tryd.prog.info? 32).map (·.size) = some R.size) := by rw [hsz]; exact info_frame
  have HP := Lib.hid (form_any f.kind)
  have tP := form_P f.kind hg.k
  have tS := form_S f.kind hg.k
  have tA := form_A f.kind hg.k
  have tE := form_E f.kind hg.k
  have c0 := (hw0.cell 0).trans hR.kind
  have HR := Lib.hid hR
  have HF := Lib.hid hf
  have HW := Lib.hid hw0
  have HB := Lib.hid hb0
  have HGD := Lib.hid hg
  have HBR : Hid (bytesR f = enc f.kind ++ acksL f) := by show _ = _; unfold bytesR; rw [if_neg (by omega), if_neg (by omega), if_pos hk]
  rw [decide_eq_false (by omega)] at tP tS
  obtain ⟨hok, hne, h4⟩ := hg.acks hk
  have hsh : f.kind < 31 := hg.k
  have HU := Lib.hid fun w => u_any (n := f.kind) (by omega) w
  have HAK := Lib.hid (fun (w1 : World) (h : Below w.heap.size w w1) => refacks_any R f a w1 B hR (hf.below (h.mono hB)) (Nat.le_trans hB h.size) hne hok h4 hg.delay hg.e0 hg.e1 hg.e2)
  have HLN : Hid ((acksL f).length ≤ 64100) := by
    show _ ≤ _
    have h1 := encs_le (ackNums f)
    rw [ackNums_len] at h1
    have h2 := enc_le f.e0
    have h3 := enc_le f.e1
    have h5 := enc_le f.e2
    unfold acksL
    rw [List.length_append]
    split
    · simp only [List.length_append]; omega
    · simp only [List.length_nil]; omega
  have EK := enc_le f.kind
  have hor : ∃ q : Bool, ((strV (formL f.kind)).toList == [65]) = q ∧ (q = true ∨ ((strV (formL f.kind)).toList == [69]) = true) := ⟨_, rfl, by
    rcases hk with h | h
    · exact .inl (tA.trans (decide_eq_true h))
    · exact .inr (tE.trans (decide_eq_true h))⟩
  obtain ⟨q, hq1, hq2⟩ := hor
  have hq2 : q = true ∨ (q = false ∧ ((strV (formL f.kind)).toList == [69]) = true) := by cases q; exact .inr ⟨rfl, hq2.resolve_left (by simp)⟩; exact .inl rfl
  have c5 := (hw0.cell 5).trans hR.n
  obtain ⟨g, hgq⟩ : ∃ g, g = w.heap.size := ⟨_, rfl⟩
  clear tA tE hk hok hne h4 hsh
  generalize formL f.kind = fl at *
  generalize strV fl = s at *
  rcases hq2 with rfl | ⟨rfl, hq3⟩
  all_goals
    clear hR hf hw0 hb0 hg hsz
    go_enter Tryd.func9, Tryd.ntmps9
    go_upto_region 1 with fail
    obtain ⟨W, hW⟩ : ∃ W, W = w.alloc (.cells R 32) := ⟨_, rfl⟩
    rw [← hW] at HW HB c0 c5 ⊢
    clear hW
    go_wp2_with fail
    refine (HP.out _).mono ?_
    rintro e w' ⟨rfl, rfl⟩
    go_upto_region 9 with fail
    rw [← hgq] at HW c0 ⊢
    clear c0 c5 hgq
    refine wp_region_held_drew (S := fun w' => SinceG W.drew w') (by kernel_rfl) (SinceG.self _) (fun _ => ?_)
    have HWX : Hid (Wh W.drew g 32 R) := HW.out.below (Below.refl _ _).drew HW.out.lt
    have HBX : Hid (Below w.heap.size w W.drew) := HB.out.drew
    clear HW HB
    generalize W.drew = X at *
    have hgX : g < X.heap.size := HWX.out.lt
    refine wpAnyH_take (i := 0) (v := .pointer (some ⟨g, 0, none⟩)) (List.getElem?_toArray.trans rfl) (by kernel_rfl) (by kernel_rfl) (by kernel_rfl) (fun _ _ _ h => h) (.inl ⟨rfl, fun w' hS => by simp [go_sem]⟩) (SinceG.self _) ?_
    refine act_normG (by simp only [Act.put, List.setIfInBounds_toArray, List.set_cons_zero, List.set_cons_succ]; rfl) ?_
    refine wpAnyH_take (i := 1) (v := .int .u64 (f.kind : Int)) (List.getElem?_toArray.trans rfl) (by kernel_rfl) (by kernel_rfl) (by kernel_rfl) (fun _ _ _ h => h) (.inl ⟨rfl, fun w' hS => by have hc := ((SinceG.wh hS HWX.out).cell 0).trans HR.out.kind; simp [go_sem, hc]⟩) (SinceG.self _) ?_
    refine act_normG (by simp only [Act.put, List.setIfInBounds_toArray, List.set_cons_zero, List.set_cons_succ]; rfl) ?_
    refine wpAnyH_take (i := 3) (v := .agg R) (List.getElem?_toArray.trans rfl) (by kernel_rfl) (by kernel_rfl) (by kernel_rfl) (fun _ _ _ h => h) (yieldsIf_load_mid (by rfl) 32 (.tmp 1) rfl g 0 rfl R.toList _ (fun w' hS => row_rangeG (SinceG.wh hS HWX.out)) Tryd.underlying32 rfl (by rw [Array.length_toList]; exact HI.out)) (SinceG.self _) ?_
    refine act_normG (by simp only [Act.put, List.setIfInBounds_toArray, List.set_cons_zero, List.set_cons_succ]; rfl) ?_
    refine wpAnyH_ready (rs := [2]) (by kernel_rfl) (by simp) (AllReadyH.cons (List.getElem?_toArray.trans rfl) (fun K' hK => ?_) AllReadyH.nil)
    refine wanted_goG rfl ?_
    go_simp
    refine (HU.out X).mono ?_
    rintro e w5 ⟨A5, c5, rfl, qa5, qb5, ho5, hb5⟩
    refine hK.out _ _ (SinceG.of hb5) (fun _ => ?_)
    clear hK K'
    refine wpAnyH_ready (rs := [4]) (by kernel_rfl) (by simp) (AllReadyH.cons (List.getElem?_toArray.trans rfl) (fun K' hK => ?_) AllReadyH.nil)
    refine wanted_goG rfl ?_
    go_simp
    refine (HAK.out w5 (HBX.out.trans (hb5.mono HBX.out.size))).mono ?_
    rintro e w6 ⟨v6, rfl, ho6, hb6⟩
    obtain ⟨A6, c6, rfl, _, _⟩ := own_form ho6
    refine hK.out _ _ (SinceG.trans hb5 hb6) (fun _ => ?_)
    clear hK K'
    have hsz6 : X.heap.size ≤ w5.heap.size := hb5.size
    have hLn := HLN.out
    have hP5 : PSt X X.heap.size g R (.slice A5 (enc f.kind).length c5) (enc f.kind) w6 := ⟨own_below ho5 hb6, hb5.trans (hb6.mono hb5.size), (HWX.out.below hb5 HWX.out.lt).below hb6 (HWX.out.below hb5 HWX.out.lt).lt, fun e => by have := (ho5.lt g e).1; omega⟩
    refine wpAnyH_ready (rs := [5]) (by kernel_rfl) (by simp) (AllReadyH.cons (List.getElem?_toArray.trans rfl) (fun K' hK => ?_) AllReadyH.nil)
    refine step_append_sv rfl (.tmp 29) (.tmp 31) 22 rfl X.heap.size 5 i0 _ 1 Tryd.underlying22 hi0 hz0 hz1 hz2 rfl (.slice A5 (enc f.kind).length c5) (enc f.kind).length _ rfl hP5.1 w6.heap.size A6 (acksL f).length c6 ((acksL f).map cell8) rfl (own_sl ho6) (List.length_map _) (cell8_one _) (by unfold maxLen; omega) (by omega) hP5.2.1.size ?_
    intro v7 w7 hown7 hg7 hat7
    have hP7 := hP5.more (Nat.le_refl _) (acksL f) hown7 hg7 hat7
    have HP7 := Lib.hid hP7
    refine hK.out _ _ hP7.2.1 (fun _ => ?_)
    clear hK K'
    refine wpAnyH_ready (rs := [6]) (by kernel_rfl) (by simp) (AllReadyH.cons (List.getElem?_toArray.trans rfl) (fun K' hK => ?_) AllReadyH.nil)
    refine wanted_goG rfl ?_
    go_simp
    refine hK.out _ _ hP7.2.1 (fun _ => ?_)
    clear hK K'
    refine wpAnyH_done (by kernel_rfl) ?_ _
    clear hP7 hP5
    go_wp2_with fail
    go_ret
    refine ⟨_, rfl, ?_, HBX.out.trans (HP7.out.2.1.mono HBX.out.size)⟩
    rw [HBR.out]
    exact own_mono HP7.out.1 HBX.out.size

theorem form_67 : ∀ k : Nat, k < 31 → hasB (formL k) 67 = true → k = 24 := by decide +kernel

set_option maxRecDepth 100000 in
set_option maxHeartbeats 8000000 in
theorem refbytes_form (R : Array Value) (f : PF) (a : SA) (w : World) (B : Nat) (hR : RowIs R f a) (hf : FrAt w B f a) (hB : B ≤ w.heap.size) (hg : GoodF f) (h0 : f.kind ≠ 0) (h8 : f.kind ≠ 8) (h2 : f.kind ≠ 2) (h3 : f.kind ≠ 3) :
    Calls Tryd.prog 9 #[.agg R] w (PutGave w w.heap.size (bytesR f)) := by
  obtain ⟨i0, hi0, hz0, hz1, hz2⟩ := info_parts info8
  have hw0 : Wh (w.alloc (.cells R 32)) w.heap.size 32 R := Wh.new w _ R
  have hb0 : Below w.heap.size w (w.alloc (.cells R 32)) := (Below.refl _ _).alloc (Nat.le_refl _) _
  have hsz := hR.size
  have HI : Hid ((Tryd.prog.info? 32).map (·.size) = some R.size) := by rw [hsz]; exact info_frame
  have HP := Lib.hid (form_any f.kind)
  have tP := form_P f.kind hg.k
  have tS := form_S f.kind hg.k
  have tA := form_A f.kind hg.k
  have tE := form_E f.kind hg.k
  have c0 := (hw0.cell 0).trans hR.kind
  have HR := Lib.hid hR
  have HF := Lib.hid hf
  have HW := Lib.hid hw0
  have HB := Lib.hid hb0
  have HGD := Lib.hid hg
  have HBR : Hid (bytesR f = enc f.kind ++ formB f (formL f.kind)) := by show _ = _; unfold bytesR; rw [if_neg h0, if_neg h8, if_neg (by omega)]
  rw [decide_eq_false h0] at tP
  rw [decide_eq_false h8] at tS
  rw [decide_eq_false h2] at tA
  rw [decide_eq_false h3] at tE
  have hsh : f.kind < 31 := hg.k
  have HU := Lib.hid fun w => u_any (n := f.kind) (by omega) w
  have EK := enc_le f.kind
  have E1 := enc_le f.id
  have E2 := enc_le f.off
  have E3 := enc_le f.max
  have E4 := enc_le f.code
  have E5 := enc_le f.data.length
  have hdl := hg.dl
  have hcl := hg.cl
  have HTK := Lib.hid hf.tok
  have z1 : IntKind.u64.wrap (f.data.length : Int) = (f.data.length : Int) := IntWalk.u64_in _ (by omega)
  have HC67 := Lib.hid fun h => hg.c20 (form_67 f.kind hg.k h)
  have c5 := (hw0.cell 5).trans hR.n
  have hl3 := form_len3 f.kind hg.k
  obtain ⟨g, hgq⟩ : ∃ g, g = w.heap.size := ⟨_, rfl⟩
  have HS := Lib.hid (strV_size (formL f.kind))
  have HGT := Lib.hid (strV_get (formL f.kind))
  clear h0 h8 h2 h3 hsh
  generalize hfl : formL f.kind = fl at *
  have hs3 : (strV fl).size ≤ 3 := hl3
  clear hfl
  generalize strV fl = s at *
  clear hR hf hw0 hb0 hg hsz
  go_enter Tryd.func9, Tryd.ntmps9
  go_upto_region 1 with fail
  obtain ⟨W, hW⟩ : ∃ W, W = w.alloc (.cells R 32) := ⟨_, rfl⟩
  rw [← hW] at HW HB c0 c5 ⊢
  clear hW
  go_wp2_with fail
  refine (HP.out _).mono ?_
  rintro e w' ⟨rfl, rfl⟩
  go_wp2_with fail
  clear c5 c0
  rw [← hgq] at HW ⊢
  clear hgq
  generalize W = X at *
  have HWX := HW
  have HBX := HB
  clear HW HB
  have hgX : g < X.heap.size := HWX.out.lt
  refine (HU.out X).mono ?_
  rintro e w5 ⟨A5, c5, rfl, qa5, qb5, ho5, hb5⟩
  have HP5 : Hid (PSt X X.heap.size g R (.slice A5 (enc f.kind).length c5) (enc f.kind) w5) := ⟨ho5, hb5, HWX.out.below hb5 HWX.out.lt, fun e => by have := (ho5.lt g e).1; omega⟩
  clear qa5 qb5 ho5 hb5 tP tS tA tE
  go_wp2_with fail
  go_loopw [5, 6] (fun v i wr => ∃ k : Nat, k ≤ s.size ∧ i = .int .i64 (k : Int) ∧ Hid ((formB f (fl.take k)).length ≤ k * 2097400) ∧ Hid (PSt X X.heap.size g R v (enc f.kind ++ formB f (fl.take k)) wr)) (fun _ i _ => s.size - (intOf i).toNat)
  case atStart => exact ⟨0, Nat.zero_le _, rfl, Lib.hid (Nat.zero_le _), Lib.hid (by rw [show formB f (fl.take 0) = [] from rfl, List.append_nil]; exact HP5.out)⟩
  case round =>
    obtain ⟨k, hk, rfl, hlb, hps⟩ := hrel
    by_cases hlt : k < s.size
    · have d1 : decide ((k : Int) < (s.size : Int)) = true := decide_eq_true (by omega)
      obtain ⟨x, hx⟩ : ∃ x, fl[k]? = some x := ⟨_, List.getElem?_eq_getElem (by rw [← HS.out]; exact hlt)⟩
      have hget : ∀ h, s[k]'h = x := fun h => HGT.out k x hx h
      have HX : Hid (formB f (fl.take (k + 1)) = formB f (fl.take k) ++ letB f x) := formB_next f fl k x hx
      have HIN : Hid (x ∈ fl) := List.mem_of_getElem? hx
      have hll := hlb.out
      have hb6 : k * 2097400 ≤ 6292200 := by omega
      generalize hlq : formB f (fl.take k) = q at *
      have HLB : Hid (letB f x = (if x.toNat = 105 then enc f.id else if x.toNat = 111 then enc f.off else if x.toNat = 109 then enc f.max else if x.toNat = 99 then enc f.code else if x.toNat = 100 then enc f.data.length ++ f.data else if x.toNat = 68 then f.data else if x.toNat = 67 then UInt8.ofNat f.cid.length :: (f.cid ++ f.token) else [])) := rfl
      clear hx hlq hlb
      by_cases e105 : x.toNat = 105
      · have t105 : ((x.toNat : Int) == 105) = true := by rw [e105]; rfl
        have HLX : Hid (letB f x = enc f.id) := by show _ = _; rw [HLB.out, if_pos e105]
        clear e105 HLB
        have cx := (hps.out.2.2.1.cell 1).trans HR.out.id
        go_wp2_with fail
        refine (u_any (n := f.id) HGD.out.id wr).mono ?_
        rintro e wa ⟨Aa, ca, rfl, qaa, qba, hoa, hba⟩
        have HPa : Hid (PSt X X.heap.size g R u5 (enc f.kind ++ q) wa) := hps.out.below (Nat.le_refl _) hba
        have HSa := Lib.hid (own_sl hoa)
        clear qaa qba hoa hba cx hps
        go_wp2_with (first
          | (at_builtin; refine wpList_append_sv _ rfl (.tmp 47) (.tmp 50) _ rfl X.heap.size 5 i0 _ 1 Tryd.underlying22 hi0 hz0 hz1 hz2 rfl u5 (enc f.kind ++ q).length ((enc f.kind ++ q).map cell8) rfl HPa.out.1 wa.heap.size Aa (enc f.id).length ca ((enc f.id).map cell8) rfl HSa.out (List.length_map _) (cell8_one _) (by (try simp only [List.length_append, List.length_cons, List.length_nil]); unfold maxLen; omega) (by (try simp only [List.length_append, List.length_cons, List.length_nil]); omega) HPa.out.2.1.size ?_; intro vb wb hownb hgb hatb; have HPb := Lib.hid (HPa.out.more (Nat.le_refl _) (enc f.id) hownb hgb hatb); clear hownb hgb hatb)
          | fail)
        go_roundw
        case rel =>
          refine ⟨k + 1, by omega, by go_num, Lib.hid ?_, Lib.hid ?_⟩
          · rw [HX.out, HLX.out, List.length_append]; (try simp only [List.length_append, List.length_nil, List.length_cons]); have := HTK.out; omega
          · rw [HX.out, HLX.out]
            have h := HPb.out
            simp only [List.append_assoc, List.append_nil, List.cons_append, List.nil_append] at h ⊢
            exact h
        case measure => simp [intOf]; omega
      have t105 : ((x.toNat : Int) == 105) = false := by rw [beq_eq_false_iff_ne]; omega
      by_cases e111 : x.toNat = 111
      · have t111 : ((x.toNat : Int) == 111) = true := by rw [e111]; rfl
        have HLX : Hid (letB f x = enc f.off) := by show _ = _; rw [HLB.out, if_neg e105, if_pos e111]
        clear e105 e111 HLB
        have cx := (hps.out.2.2.1.cell 2).trans HR.out.off
        go_wp2_with fail
        refine (u_any (n := f.off) HGD.out.off wr).mono ?_
        rintro e wa ⟨Aa, ca, rfl, qaa, qba, hoa, hba⟩
        have HPa : Hid (PSt X X.heap.size g R u5 (enc f.kind ++ q) wa) := hps.out.below (Nat.le_refl _) hba
        have HSa := Lib.hid (own_sl hoa)
        clear qaa qba hoa hba cx hps
        go_wp2_with (first
          | (at_builtin; refine wpList_append_sv _ rfl (.tmp 54) (.tmp 57) _ rfl X.heap.size 5 i0 _ 1 Tryd.underlying22 hi0 hz0 hz1 hz2 rfl u5 (enc f.kind ++ q).length ((enc f.kind ++ q).map cell8) rfl HPa.out.1 wa.heap.size Aa (enc f.off).length ca ((enc f.off).map cell8) rfl HSa.out (List.length_map _) (cell8_one _) (by (try simp only [List.length_append, List.length_cons, List.length_nil]); unfold maxLen; omega) (by (try simp only [List.length_append, List.length_cons, List.length_nil]); omega) HPa.out.2.1.size ?_; intro vb wb hownb hgb hatb; have HPb := Lib.hid (HPa.out.more (Nat.le_refl _) (enc f.off) hownb hgb hatb); clear hownb hgb hatb)
          | fail)
        go_roundw
        case rel =>
          refine ⟨k + 1, by omega, by go_num, Lib.hid ?_, Lib.hid ?_⟩
          · rw [HX.out, HLX.out, List.length_append]; (try simp only [List.length_append, List.length_nil, List.length_cons]); have := HTK.out; omega
          · rw [HX.out, HLX.out]
            have h := HPb.out
            simp only [List.append_assoc, List.append_nil, List.cons_append, List.nil_append] at h ⊢
            exact h
        case measure => simp [intOf]; omega
      have t111 : ((x.toNat : Int) == 111) = false := by rw [beq_eq_false_iff_ne]; omega
      by_cases e109 : x.toNat = 109
      · have t109 : ((x.toNat : Int) == 109) = true := by rw [e109]; rfl
        have HLX : Hid (letB f x = enc f.max) := by show _ = _; rw [HLB.out, if_neg e105, if_neg e111, if_pos e109]
        clear e105 e111 e109 HLB
        have cx := (hps.out.2.2.1.cell 3).trans HR.out.max
        go_wp2_with fail
        refine (u_any (n := f.max) HGD.out.max wr).mono ?_
        rintro e wa ⟨Aa, ca, rfl, qaa, qba, hoa, hba⟩
        have HPa : Hid (PSt X X.heap.size g R u5 (enc f.kind ++ q) wa) := hps.out.below (Nat.le_refl _) hba
        have HSa := Lib.hid (own_sl hoa)
        clear qaa qba hoa hba cx hps
        go_wp2_with (first
          | (at_builtin; refine wpList_append_sv _ rfl (.tmp 61) (.tmp 64) _ rfl X.heap.size 5 i0 _ 1 Tryd.underlying22 hi0 hz0 hz1 hz2 rfl u5 (enc f.kind ++ q).length ((enc f.kind ++ q).map cell8) rfl HPa.out.1 wa.heap.size Aa (enc f.max).length ca ((enc f.max).map cell8) rfl HSa.out (List.length_map _) (cell8_one _) (by (try simp only [List.length_append, List.length_cons, List.length_nil]); unfold maxLen; omega) (by (try simp only [List.length_append, List.length_cons, List.length_nil]); omega) HPa.out.2.1.size ?_; intro vb wb hownb hgb hatb; have HPb := Lib.hid (HPa.out.more (Nat.le_refl _) (enc f.max) hownb hgb hatb); clear hownb hgb hatb)
          | fail)
        go_roundw
        case rel =>
          refine ⟨k + 1, by omega, by go_num, Lib.hid ?_, Lib.hid ?_⟩
          · rw [HX.out, HLX.out, List.length_append]; (try simp only [List.length_append, List.length_nil, List.length_cons]); have := HTK.out; omega
          · rw [HX.out, HLX.out]
            have h := HPb.out
            simp only [List.append_assoc, List.append_nil, List.cons_append, List.nil_append] at h ⊢
            exact h
        case measure => simp [intOf]; omega
      have t109 : ((x.toNat : Int) == 109) = false := by rw [beq_eq_false_iff_ne]; omega
      by_cases e99 : x.toNat = 99
      · have t99 : ((x.toNat : Int) == 99) = true := by rw [e99]; rfl
        have HLX : Hid (letB f x = enc f.code) := by show _ = _; rw [HLB.out, if_neg e105, if_neg e111, if_neg e109, if_pos e99]
        clear e105 e111 e109 e99 HLB
        have cx := (hps.out.2.2.1.cell 4).trans HR.out.code
        go_wp2_with fail
        refine (u_any (n := f.code) HGD.out.code wr).mono ?_
        rintro e wa ⟨Aa, ca, rfl, qaa, qba, hoa, hba⟩
        have HPa : Hid (PSt X X.heap.size g R u5 (enc f.kind ++ q) wa) := hps.out.below (Nat.le_refl _) hba
        have HSa := Lib.hid (own_sl hoa)
        clear qaa qba hoa hba cx hps
        go_wp2_with (first
          | (at_builtin; refine wpList_append_sv _ rfl (.tmp 68) (.tmp 71) _ rfl X.heap.size 5 i0 _ 1 Tryd.underlying22 hi0 hz0 hz1 hz2 rfl u5 (enc f.kind ++ q).length ((enc f.kind ++ q).map cell8) rfl HPa.out.1 wa.heap.size Aa (enc f.code).length ca ((enc f.code).map cell8) rfl HSa.out (List.length_map _) (cell8_one _) (by (try simp only [List.length_append, List.length_cons, List.length_nil]); unfold maxLen; omega) (by (try simp only [List.length_append, List.length_cons, List.length_nil]); omega) HPa.out.2.1.size ?_; intro vb wb hownb hgb hatb; have HPb := Lib.hid (HPa.out.more (Nat.le_refl _) (enc f.code) hownb hgb hatb); clear hownb hgb hatb)
          | fail)
        go_roundw
        case rel =>
          refine ⟨k + 1, by omega, by go_num, Lib.hid ?_, Lib.hid ?_⟩
          · rw [HX.out, HLX.out, List.length_append]; (try simp only [List.length_append, List.length_nil, List.length_cons]); have := HTK.out; omega
          · rw [HX.out, HLX.out]
            have h := HPb.out
            simp only [List.append_assoc, List.append_nil, List.cons_append, List.nil_append] at h ⊢
            exact h
        case measure => simp [intOf]; omega
      have t99 : ((x.toNat : Int) == 99) = false := by rw [beq_eq_false_iff_ne]; omega
      by_cases e100 : x.toNat = 100
      · have t100 : ((x.toNat : Int) == 100) = true := by rw [e100]; rfl
        have HLX : Hid (letB f x = enc f.data.length ++ f.data) := by show _ = _; rw [HLB.out, if_neg e105, if_neg e111, if_neg e109, if_neg e99, if_pos e100]
        clear e105 e111 e109 e99 e100 HLB
        clear HIN
        go_upto_region 24 with fail
        refine wp_region_held_drew (S := fun w' => SinceG X w') (by kernel_rfl) hps.out.2.1.drew (fun _ => ?_)
        have HDb : Hid (PSt X X.heap.size g R u5 (enc f.kind ++ q) wr.drew) := hps.out.below (Nat.le_refl _) (Below.refl _ _).drew
        clear hps
        have hSb : SinceG X wr.drew := HDb.out.2.1
        generalize wr.drew = wd at *
        refine wpAnyH_take (i := 0) (v := u5) (List.getElem?_toArray.trans rfl) (by kernel_rfl) (by kernel_rfl) (by kernel_rfl) (fun _ _ _ h => h) (.inl ⟨rfl, fun w' hS => rfl⟩) hSb ?_
        refine act_normG (by simp only [Act.put, List.setIfInBounds_toArray, List.set_cons_zero, List.set_cons_succ]; rfl) ?_
        refine wpAnyH_take (i := 1) (v := .pointer (some ⟨g, 7, none⟩)) (List.getElem?_toArray.trans rfl) (by kernel_rfl) (by kernel_rfl) (by kernel_rfl) (fun _ _ _ h => h) (.inl ⟨rfl, fun w' hS => by simp [go_sem]⟩) hSb ?_
        refine act_normG (by simp only [Act.put, List.setIfInBounds_toArray, List.set_cons_zero, List.set_cons_succ]; rfl) ?_
        refine wpAnyH_take (i := 2) (v := .slice a.dA f.data.length a.dc) (List.getElem?_toArray.trans rfl) (by kernel_rfl) (by kernel_rfl) (by kernel_rfl) (fun _ _ _ h => h) (.inl ⟨rfl, fun w' hS => by have hc := ((SinceG.wh hS HWX.out).cell 7).trans HR.out.data; simp [go_sem, hc]⟩) hSb ?_
        refine act_normG (by simp only [Act.put, List.setIfInBounds_toArray, List.set_cons_zero, List.set_cons_succ]; rfl) ?_
        refine wpAnyH_take (i := 3) (v := .int .i64 (f.data.length : Int)) (List.getElem?_toArray.trans rfl) (by kernel_rfl) (by kernel_rfl) (by kernel_rfl) (fun _ _ _ h => h) (.inl ⟨rfl, fun w' hS => by simp [go_sem]⟩) hSb ?_
        refine act_normG (by simp only [Act.put, List.setIfInBounds_toArray, List.set_cons_zero, List.set_cons_succ]; rfl) ?_
        refine wpAnyH_take (i := 4) (v := .int .u64 (f.data.length : Int)) (List.getElem?_toArray.trans rfl) (by kernel_rfl) (by kernel_rfl) (by kernel_rfl) (fun _ _ _ h => h) (.inl ⟨rfl, fun w' hS => by simp [go_sem, z1]⟩) hSb ?_
        refine act_normG (by simp only [Act.put, List.setIfInBounds_toArray, List.set_cons_zero, List.set_cons_succ]; rfl) ?_
        refine wpAnyH_take (i := 7) (v := .pointer (some ⟨g, 7, none⟩)) (List.getElem?_toArray.trans rfl) (by kernel_rfl) (by kernel_rfl) (by kernel_rfl) (fun _ _ _ h => h) (.inl ⟨rfl, fun w' hS => by simp [go_sem]⟩) hSb ?_
        refine act_normG (by simp only [Act.put, List.setIfInBounds_toArray, List.set_cons_zero, List.set_cons_succ]; rfl) ?_
        refine wpAnyH_take (i := 8) (v := .slice a.dA f.data.length a.dc) (List.getElem?_toArray.trans rfl) (by kernel_rfl) (by kernel_rfl) (by kernel_rfl) (fun _ _ _ h => h) (.inl ⟨rfl, fun w' hS => by have hc := ((SinceG.wh hS HWX.out).cell 7).trans HR.out.data; simp [go_sem, hc]⟩) hSb ?_
        refine act_normG (by simp only [Act.put, List.setIfInBounds_toArray, List.set_cons_zero, List.set_cons_succ]; rfl) ?_
        refine wpAnyH_ready (rs := [5]) (by kernel_rfl) (by simp) (AllReadyH.cons (List.getElem?_toArray.trans rfl) (fun K' hK => ?_) AllReadyH.nil)
        refine wanted_goG rfl ?_
        go_simp
        refine (u_any (n := f.data.length) (by omega) wd).mono ?_
        rintro e wc ⟨Ac, cc, rfl, qac, qbc, hoc, hbc⟩
        have hPc : PSt X X.heap.size g R u5 (enc f.kind ++ q) wc := HDb.out.below (Nat.le_refl _) hbc
        refine hK.out _ _ hPc.2.1 (fun _ => ?_)
        clear hK K'
        refine wpAnyH_ready (rs := [6]) (by kernel_rfl) (by simp) (AllReadyH.cons (List.getElem?_toArray.trans rfl) (fun K' hK => ?_) AllReadyH.nil)
        refine step_append_sv rfl (.tmp 75) (.tmp 80) 22 rfl X.heap.size 5 i0 _ 1 Tryd.underlying22 hi0 hz0 hz1 hz2 rfl u5 (enc f.kind ++ q).length _ rfl hPc.1 wc.heap.size Ac (enc f.data.length).length cc ((enc f.data.length).map cell8) rfl (own_sl hoc) (List.length_map _) (cell8_one _) (by (try simp only [List.length_append, List.length_cons, List.length_nil]); unfold maxLen; omega) (by (try simp only [List.length_append, List.length_cons, List.length_nil]); omega) hPc.2.1.size ?_
        intro vf wf hownf hgf hatf
        have hPf := hPc.more (Nat.le_refl _) (enc f.data.length) hownf hgf hatf
        have HPf := Lib.hid hPf
        refine hK.out _ _ hPf.2.1 (fun _ => ?_)
        clear hK K'
        refine wpAnyH_ready (rs := [9]) (by kernel_rfl) (by simp) (AllReadyH.cons (List.getElem?_toArray.trans rfl) (fun K' hK => ?_) AllReadyH.nil)
        refine step_append_sv rfl (.tmp 81) (.tmp 83) 22 rfl X.heap.size 5 i0 _ 1 Tryd.underlying22 hi0 hz0 hz1 hz2 rfl vf (enc f.kind ++ q ++ enc f.data.length).length _ rfl hPf.1 B a.dA f.data.length a.dc ((f.data).map cell8) rfl ((HF.out.data.below (HBX.out.mono hB)).below (hPf.2.1.mono (Nat.le_trans hB HBX.out.size))) (List.length_map _) (cell8_one _) (by (try simp only [List.length_append, List.length_cons, List.length_nil]); unfold maxLen; omega) (by (try simp only [List.length_append, List.length_cons, List.length_nil]); omega) hPf.2.1.size ?_
        intro vz wz hownz hgz hatz
        have hPz := hPf.more (Nat.le_refl _) (f.data) hownz hgz hatz
        have HPz := Lib.hid hPz
        refine hK.out _ _ hPz.2.1 (fun _ => ?_)
        clear hK K'
        refine wpAnyH_ready (rs := [10]) (by kernel_rfl) (by simp) (AllReadyH.cons (List.getElem?_toArray.trans rfl) (fun K' hK => ?_) AllReadyH.nil)
        refine wanted_goG rfl ?_
        go_simp
        refine hK.out _ _ hPz.2.1 (fun _ => ?_)
        clear hK K'
        refine wpAnyH_done (by kernel_rfl) ?_ _
        clear hPz hPf hPc hownf hgf hatf hownz hgz hatz
        go_wp2_with fail
        go_roundw
        case rel =>
          refine ⟨k + 1, by omega, by go_num, Lib.hid ?_, Lib.hid ?_⟩
          · rw [HX.out, HLX.out, List.length_append]; (try simp only [List.length_append, List.length_nil, List.length_cons]); have := HTK.out; omega
          · rw [HX.out, HLX.out]
            have h := HPz.out
            simp only [List.append_assoc, List.append_nil, List.cons_append, List.nil_append] at h ⊢
            exact h
        case measure => simp [intOf]; omega
      have t100 : ((x.toNat : Int) == 100) = false := by rw [beq_eq_false_iff_ne]; omega
      by_cases e68 : x.toNat = 68
      · have t68 : ((x.toNat : Int) == 68) = true := by rw [e68]; rfl
        have HLX : Hid (letB f x = f.data) := by show _ = _; rw [HLB.out, if_neg e105, if_neg e111, if_neg e109, if_neg e99, if_neg e100, if_pos e68]
        clear e105 e111 e109 e99 e100 e68 HLB
        have cx := (hps.out.2.2.1.cell 7).trans HR.out.data
        have HPa := hps
        go_wp2_with (first
          | (at_builtin; refine wpList_append_sv _ rfl (.tmp 87) (.tmp 89) _ rfl X.heap.size 5 i0 _ 1 Tryd.underlying22 hi0 hz0 hz1 hz2 rfl u5 (enc f.kind ++ q).length ((enc f.kind ++ q).map cell8) rfl HPa.out.1 B a.dA f.data.length a.dc ((f.data).map cell8) rfl ((HF.out.data.below (HBX.out.mono hB)).below (HPa.out.2.1.mono (Nat.le_trans hB HBX.out.size))) (List.length_map _) (cell8_one _) (by (try simp only [List.length_append, List.length_cons, List.length_nil]); unfold maxLen; omega) (by (try simp only [List.length_append, List.length_cons, List.length_nil]); omega) HPa.out.2.1.size ?_; intro vb wb hownb hgb hatb; have HPb := Lib.hid (HPa.out.more (Nat.le_refl _) (f.data) hownb hgb hatb); clear hownb hgb hatb; clear cx)
          | fail)
        go_roundw
        case rel =>
          refine ⟨k + 1, by omega, by go_num, Lib.hid ?_, Lib.hid ?_⟩
          · rw [HX.out, HLX.out, List.length_append]; (try simp only [List.length_append, List.length_nil, List.length_cons]); have := HTK.out; omega
          · rw [HX.out, HLX.out]
            have h := HPb.out
            simp only [List.append_assoc, List.append_nil, List.cons_append, List.nil_append] at h ⊢
            exact h
        case measure => simp [intOf]; omega
      have t68 : ((x.toNat : Int) == 68) = false := by rw [beq_eq_false_iff_ne]; omega
      by_cases e67 : x.toNat = 67
      · have t67 : ((x.toNat : Int) == 67) = true := by rw [e67]; rfl
        have HLX : Hid (letB f x = UInt8.ofNat f.cid.length :: (f.cid ++ f.token)) := by show _ = _; rw [HLB.out, if_neg e105, if_neg e111, if_neg e109, if_neg e99, if_neg e100, if_neg e68, if_pos e67]
        have HCC : Hid (f.cid.length ≤ 20) := HC67.out (by unfold hasB; rw [List.any_eq_true]; exact ⟨x, HIN.out, by simp [e67]⟩)
        clear e105 e111 e109 e99 e100 e68 e67 HLB
        clear HIN
        have hcc := HCC.out
        have z8 : IntKind.u8.wrap (f.cid.length : Int) = (f.cid.length : Int) := IntWalk.u8_in _ (by omega)
        have hCN := cell_natG (show f.cid.length < 256 by omega)
        go_upto_region 28 with fail
        refine wp_region_held_drew (S := fun w' => SinceG X w') (by kernel_rfl) hps.out.2.1.drew (fun _ => ?_)
        have HDb : Hid (PSt X X.heap.size g R u5 (enc f.kind ++ q) wr.drew) := hps.out.below (Nat.le_refl _) (Below.refl _ _).drew
        clear hps
        have hSb : SinceG X wr.drew := HDb.out.2.1
        generalize wr.drew = wd at *
        refine wpAnyH_take (i := 0) (v := u5) (List.getElem?_toArray.trans rfl) (by kernel_rfl) (by kernel_rfl) (by kernel_rfl) (fun _ _ _ h => h) (.inl ⟨rfl, fun w' hS => rfl⟩) hSb ?_
        refine act_normG (by simp only [Act.put, List.setIfInBounds_toArray, List.set_cons_zero, List.set_cons_succ]; rfl) ?_
        refine wpAnyH_take (i := 1) (v := .pointer (some ⟨g, 8, none⟩)) (List.getElem?_toArray.trans rfl) (by kernel_rfl) (by kernel_rfl) (by kernel_rfl) (fun _ _ _ h => h) (.inl ⟨rfl, fun w' hS => by simp [go_sem]⟩) hSb ?_
        refine act_normG (by simp only [Act.put, List.setIfInBounds_toArray, List.set_cons_zero, List.set_cons_succ]; rfl) ?_
        refine wpAnyH_take (i := 2) (v := .slice a.cA f.cid.length a.cc) (List.getElem?_toArray.trans rfl) (by kernel_rfl) (by kernel_rfl) (by kernel_rfl) (fun _ _ _ h => h) (.inl ⟨rfl, fun w' hS => by have hc := ((SinceG.wh hS HWX.out).cell 8).trans HR.out.cid; simp [go_sem, hc]⟩) hSb ?_
        refine act_normG (by simp only [Act.put, List.setIfInBounds_toArray, List.set_cons_zero, List.set_cons_succ]; rfl) ?_
        refine wpAnyH_take (i := 3) (v := .int .i64 (f.cid.length : Int)) (List.getElem?_toArray.trans rfl) (by kernel_rfl) (by kernel_rfl) (by kernel_rfl) (fun _ _ _ h => h) (.inl ⟨rfl, fun w' hS => by simp [go_sem]⟩) hSb ?_
        refine act_normG (by simp only [Act.put, List.setIfInBounds_toArray, List.set_cons_zero, List.set_cons_succ]; rfl) ?_
        refine wpAnyH_take (i := 4) (v := .int .u8 (f.cid.length : Int)) (List.getElem?_toArray.trans rfl) (by kernel_rfl) (by kernel_rfl) (by kernel_rfl) (fun _ _ _ h => h) (.inl ⟨rfl, fun w' hS => by simp [go_sem, z8]⟩) hSb ?_
        refine act_normG (by simp only [Act.put, List.setIfInBounds_toArray, List.set_cons_zero, List.set_cons_succ]; rfl) ?_
        refine wpAnyH_take (i := 7) (v := .pointer (some ⟨g, 8, none⟩)) (List.getElem?_toArray.trans rfl) (by kernel_rfl) (by kernel_rfl) (by kernel_rfl) (fun _ _ _ h => h) (.inl ⟨rfl, fun w' hS => by simp [go_sem]⟩) hSb ?_
        refine act_normG (by simp only [Act.put, List.setIfInBounds_toArray, List.set_cons_zero, List.set_cons_succ]; rfl) ?_
        refine wpAnyH_take (i := 8) (v := .slice a.cA f.cid.length a.cc) (List.getElem?_toArray.trans rfl) (by kernel_rfl) (by kernel_rfl) (by kernel_rfl) (fun _ _ _ h => h) (.inl ⟨rfl, fun w' hS => by have hc := ((SinceG.wh hS HWX.out).cell 8).trans HR.out.cid; simp [go_sem, hc]⟩) hSb ?_
        refine act_normG (by simp only [Act.put, List.setIfInBounds_toArray, List.set_cons_zero, List.set_cons_succ]; rfl) ?_
        refine wpAnyH_ready (rs := [5]) (by kernel_rfl) (by simp) (AllReadyH.cons (List.getElem?_toArray.trans rfl) (fun K' hK => ?_) AllReadyH.nil)
        refine wanted_goG rfl ?_
        go_simp
        have hPc : PSt X X.heap.size g R u5 (enc f.kind ++ q) (wd.alloc (.cells #[.int .u8 (f.cid.length : Int)] 5)) := HDb.out.below (Nat.le_refl _) ((Below.refl _ _).alloc (Nat.le_refl _) _)
        refine hK.out _ _ hPc.2.1 (fun _ => ?_)
        clear hK K'
        have hsv : Sv (wd.alloc (.cells #[.int .u8 (f.cid.length : Int)] 5)) (wd.heap.size + 1) (some ⟨wd.heap.size, 0, none⟩) ([UInt8.ofNat f.cid.length].map cell8) := by rw [List.map_cons, List.map_nil, hCN]; exact sv_newG _ _ _
        refine wpAnyH_ready (rs := [6]) (by kernel_rfl) (by simp) (AllReadyH.cons (List.getElem?_toArray.trans rfl) (fun K' hK => ?_) AllReadyH.nil)
        refine step_append_sv rfl (.tmp 93) (.tmp 98) 22 rfl X.heap.size 5 i0 _ 1 Tryd.underlying22 hi0 hz0 hz1 hz2 rfl u5 (enc f.kind ++ q).length _ rfl hPc.1 (wd.heap.size + 1) (some ⟨wd.heap.size, 0, none⟩) 1 1 (([UInt8.ofNat f.cid.length]).map cell8) rfl hsv rfl (cell8_one _) (by (try simp only [List.length_append, List.length_cons, List.length_nil]); unfold maxLen; omega) (by (try simp only [List.length_append, List.length_cons, List.length_nil]); omega) hPc.2.1.size ?_
        intro vf wf hownf hgf hatf
        have hPf := hPc.more (Nat.le_refl _) ([UInt8.ofNat f.cid.length]) hownf hgf hatf
        have HPf := Lib.hid hPf
        refine hK.out _ _ hPf.2.1 (fun _ => ?_)
        clear hK K'
        refine wpAnyH_ready (rs := [9]) (by kernel_rfl) (by simp) (AllReadyH.cons (List.getElem?_toArray.trans rfl) (fun K' hK => ?_) AllReadyH.nil)
        refine step_append_sv rfl (.tmp 99) (.tmp 101) 22 rfl X.heap.size 5 i0 _ 1 Tryd.underlying22 hi0 hz0 hz1 hz2 rfl vf (enc f.kind ++ q ++ [UInt8.ofNat f.cid.length]).length _ rfl hPf.1 B a.cA f.cid.length a.cc ((f.cid).map cell8) rfl ((HF.out.cid.below (HBX.out.mono hB)).below (hPf.2.1.mono (Nat.le_trans hB HBX.out.size))) (List.length_map _) (cell8_one _) (by (try simp only [List.length_append, List.length_cons, List.length_nil]); unfold maxLen; omega) (by (try simp only [List.length_append, List.length_cons, List.length_nil]); omega) hPf.2.1.size ?_
        intro vz wz hownz hgz hatz
        have hPz := hPf.more (Nat.le_refl _) (f.cid) hownz hgz hatz
        have HPz := Lib.hid hPz
        refine hK.out _ _ hPz.2.1 (fun _ => ?_)
        clear hK K'
        refine wpAnyH_ready (rs := [10]) (by kernel_rfl) (by simp) (AllReadyH.cons (List.getElem?_toArray.trans rfl) (fun K' hK => ?_) AllReadyH.nil)
        refine wanted_goG rfl ?_
        go_simp
        refine hK.out _ _ hPz.2.1 (fun _ => ?_)
        clear hK K'
        refine wpAnyH_done (by kernel_rfl) ?_ _
        clear hPz hPf hPc hownf hgf hatf hownz hgz hatz hsv HDb hSb
        go_wp2_with fail
        go_loopw [5, 7] (fun v i wr => ∃ j : Nat, j ≤ 16 ∧ i = .int .i64 (j : Int) ∧ Hid (PSt X X.heap.size g R v (enc f.kind ++ q ++ [UInt8.ofNat f.cid.length] ++ f.cid ++ f.token.take j) wr)) (fun _ i _ => 16 - (intOf i).toNat)
        case atStart => exact ⟨0, Nat.zero_le _, rfl, Lib.hid (by rw [List.take_zero, List.append_nil]; exact HPz.out)⟩
        case round =>
          obtain ⟨j, hj, rfl, hps⟩ := hrel
          by_cases hj16 : j < 16
          · have d2 : decide ((j : Int) < 16) = true := decide_eq_true (by omega)
            obtain ⟨t, ht⟩ : ∃ t, f.token[j]? = some t := ⟨_, List.getElem?_eq_getElem (by rw [HTK.out]; exact hj16)⟩
            have ct : wr.cell? ⟨g, 9 + j, none⟩ = some (.int .u8 (t.toNat : Int)) := (hps.out.2.2.1.cell (9 + j)).trans (HR.out.tok j (cell8 t) (by rw [List.getElem?_map, ht]; rfl))
            have HTN : Hid (f.token.take (j + 1) = f.token.take j ++ [t]) := by show _ = _; rw [List.take_add_one, ht]; rfl
            have htl : (f.token.take j).length ≤ 16 := by rw [List.length_take]; omega
            clear ht
            have HPa : Hid (∀ o, PSt X X.heap.size g R u5 (enc f.kind ++ q ++ [UInt8.ofNat f.cid.length] ++ f.cid ++ f.token.take j) (wr.alloc o)) := fun o => hps.out.below (Nat.le_refl _) ((Below.refl _ _).alloc (Nat.le_refl _) _)
            go_wp2_with (first
              | (at_builtin; refine wpList_append_sv _ rfl (.tmp 107) (.tmp 112) _ rfl X.heap.size 5 i0 _ 1 Tryd.underlying22 hi0 hz0 hz1 hz2 rfl u5 (enc f.kind ++ q ++ [UInt8.ofNat f.cid.length] ++ f.cid ++ f.token.take j).length _ rfl (HPa.out _).1 (wr.heap.size + 1) (some ⟨wr.heap.size, 0, none⟩) 1 1 ([t].map cell8) rfl (sv_newG wr _ _) rfl (cell8_one _) (by (try simp only [List.length_append, List.length_cons, List.length_nil]); unfold maxLen; omega) (by (try simp only [List.length_append, List.length_cons, List.length_nil]); omega) (HPa.out _).2.1.size ?_; intro ve we howne hge hate; have HPe := Lib.hid ((HPa.out _).more (Nat.le_refl _) [t] howne hge hate); clear howne hge hate)
              | fail)
            go_roundw
            case rel => exact ⟨j + 1, by omega, by go_num, Lib.hid (by rw [HTN.out, ← List.append_assoc]; exact HPe.out)⟩
            case measure => simp [intOf]; omega
          · obtain rfl : j = 16 := by omega
            have d2 : decide (((16 : Nat) : Int) < 16) = false := rfl
            have HTE : Hid (f.token.take 16 = f.token) := List.take_of_length_le (by rw [HTK.out]; exact Nat.le_refl _)
            go_wp2_with fail
            go_roundw
            case rel =>
              refine ⟨k + 1, by omega, by go_num, Lib.hid ?_, Lib.hid ?_⟩
              · rw [HX.out, HLX.out, List.length_append, List.length_cons, List.length_append]; have := HTK.out; omega
              · rw [HX.out, HLX.out]
                have h := hps.out
                rw [HTE.out] at h
                simp only [List.append_assoc, List.append_nil, List.cons_append, List.nil_append] at h ⊢
                exact h
            case measure => simp [intOf]; omega
      have t67 : ((x.toNat : Int) == 67) = false := by rw [beq_eq_false_iff_ne]; omega
      have HLX : Hid (letB f x = []) := by show _ = _; rw [HLB.out, if_neg e105, if_neg e111, if_neg e109, if_neg e99, if_neg e100, if_neg e68, if_neg e67]
      clear e105 e111 e109 e99 e100 e68 e67 HLB
      go_wp2_with fail
      go_roundw
      case rel =>
        refine ⟨k + 1, by omega, by go_num, Lib.hid ?_, Lib.hid ?_⟩
        · rw [HX.out, HLX.out, List.append_nil]; exact Nat.le_trans hll (Nat.mul_le_mul_right _ (Nat.le_succ k))
        · rw [HX.out, HLX.out]
          have h := hps.out
          simp only [List.append_assoc, List.append_nil, List.cons_append, List.nil_append] at h ⊢
          exact h
      case measure => simp [intOf]; omega
    · have d1 : decide ((k : Int) < (s.size : Int)) = false := decide_eq_false (by omega)
      have HEND : Hid (formB f (fl.take k) = formB f fl) := by show _ = _; rw [List.take_of_length_le (by rw [← HS.out]; omega)]
      go_wp2_with fail
      go_ret
      refine ⟨_, rfl, ?_, HBX.out.trans (hps.out.2.1.mono HBX.out.size)⟩
      rw [HBR.out, ← HEND.out]
      exact own_mono hps.out.1 HBX.out.size

theorem refbytesf_any (R : Array Value) (f : PF) (a : SA) (w : World) (B : Nat) (hR : RowIs R f a) (hf : FrAt w B f a) (hB : B ≤ w.heap.size) (hg : GoodF f) :
    Calls Tryd.prog 9 #[.agg R] w (PutGave w w.heap.size (bytesR f)) := by
  by_cases h0 : f.kind = 0
  · exact refbytes_0 R f a w B hR hf hB hg h0
  by_cases h8 : f.kind = 8
  · exact refbytes_8 R f a w B hR hf hB hg h8
  by_cases h23 : f.kind = 2 ∨ f.kind = 3
  · exact refbytes_23 R f a w B hR hf hB hg h23
  · exact refbytes_form R f a w B hR hf hB hg h0 h8 (fun h => h23 (.inl h)) (fun h => h23 (.inr h))
end

section
open Go.RowKit
set_option linter.unusedVariables false
set_option linter.unusedSimpArgs false

theorem enc_small {n : Nat} (h : n ≤ 63) : enc n = [UInt8.ofNat n] := by
  have : ∀ n : Nat, n < 64 → enc n = [UInt8.ofNat n] := by decide +kernel
  exact this n (by omega)

theorem letB_i (f : PF) : letB f 105 = enc f.id := rfl
theorem letB_o (f : PF) : letB f 111 = enc f.off := rfl
theorem letB_m (f : PF) : letB f 109 = enc f.max := rfl
theorem letB_c (f : PF) : letB f 99 = enc f.code := rfl
theorem letB_d (f : PF) : letB f 100 = enc f.data.length ++ f.data := rfl
theorem letB_D (f : PF) : letB f 68 = f.data := rfl
theorem letB_C (f : PF) : letB f 67 = UInt8.ofNat f.cid.length :: (f.cid ++ f.token) := rfl
theorem formB_cons (f : PF) (c : UInt8) (l : List UInt8) : formB f (c :: l) = letB f c ++ formB f l := rfl
theorem formB_nil (f : PF) : formB f [] = [] := rfl
theorem encs_nil : encs [] = [] := rfl

theorem eq_1 (f : PF) (hk : f.kind = 1) (hd : f.data = []) (hc : f.cid = []) : bytesR f = bytesF f := by
  have b2 : bt (partsN 1) 2 = false := by decide +kernel
  have b4 : bt (partsN 1) 4 = false := by decide +kernel
  have b8 : bt (partsN 1) 8 = false := by decide +kernel
  have b16 : bt (partsN 1) 16 = false := by decide +kernel
  have b128 : bt (partsN 1) 128 = false := by decide +kernel
  have b256 : bt (partsN 1) 256 = false := by decide +kernel
  have b512 : bt (partsN 1) 512 = false := by decide +kernel
  have b2048 : bt (partsN 1) 2048 = false := by decide +kernel
  have hl : formL 1 = [] := rfl
  have hw : wireP f = partsN 1 := by unfold wireP; rw [hk, if_neg (by omega)]
  have hn : wireN f = 1 := by unfold wireN; rw [if_neg (by omega), hk]
  unfold bytesR bytesF numsN
  simp [hk, hw, hn, pn, b2, b4, b8, b16, b128, b256, b512, b2048, hl, formB_cons, formB_nil, letB_i, letB_o, letB_m, letB_c, letB_d, letB_D, letB_C, encs_app, encs_cons, encs_nil, hd, hc]

theorem eq_2 (f : PF) (hk : f.kind = 2) (hd : f.data = []) (hc : f.cid = []) : bytesR f = bytesF f := by
  have b2 : bt (partsN 2) 2 = false := by decide +kernel
  have b4 : bt (partsN 2) 4 = false := by decide +kernel
  have b8 : bt (partsN 2) 8 = false := by decide +kernel
  have b16 : bt (partsN 2) 16 = false := by decide +kernel
  have b128 : bt (partsN 2) 128 = true := by decide +kernel
  have b256 : bt (partsN 2) 256 = false := by decide +kernel
  have b512 : bt (partsN 2) 512 = false := by decide +kernel
  have b2048 : bt (partsN 2) 2048 = false := by decide +kernel
  have hl : formL 2 = [65] := rfl
  have hw : wireP f = partsN 2 := by unfold wireP; rw [hk, if_neg (by omega)]
  have hn : wireN f = 2 := by unfold wireN; rw [if_neg (by omega), hk]
  unfold bytesR bytesF numsN
  simp [hk, hw, hn, pn, b2, b4, b8, b16, b128, b256, b512, b2048, hl, formB_cons, formB_nil, letB_i, letB_o, letB_m, letB_c, letB_d, letB_D, letB_C, encs_app, encs_cons, encs_nil, hd, hc, acksL]

theorem eq_3 (f : PF) (hk : f.kind = 3) (hd : f.data = []) (hc : f.cid = []) : bytesR f = bytesF f := by
  have b2 : bt (partsN 3) 2 = false := by decide +kernel
  have b4 : bt (partsN 3) 4 = false := by decide +kernel
  have b8 : bt (partsN 3) 8 = false := by decide +kernel
  have b16 : bt (partsN 3) 16 = false := by decide +kernel
  have b128 : bt (partsN 3) 128 = true := by decide +kernel
  have b256 : bt (partsN 3) 256 = true := by decide +kernel
  have b512 : bt (partsN 3) 512 = false := by decide +kernel
  have b2048 : bt (partsN 3) 2048 = false := by decide +kernel
  have hl : formL 3 = [69] := rfl
  have hw : wireP f = partsN 3 := by unfold wireP; rw [hk, if_neg (by omega)]
  have hn : wireN f = 3 := by unfold wireN; rw [if_neg (by omega), hk]
  unfold bytesR bytesF numsN
  simp [hk, hw, hn, pn, b2, b4, b8, b16, b128, b256, b512, b2048, hl, formB_cons, formB_nil, letB_i, letB_o, letB_m, letB_c, letB_d, letB_D, letB_C, encs_app, encs_cons, encs_nil, hd, hc, acksL]

theorem eq_4 (f : PF) (hk : f.kind = 4) (hd : f.data = []) (hc : f.cid = []) : bytesR f = bytesF f := by
  have b2 : bt (partsN 4) 2 = true := by decide +kernel
  have b4 : bt (partsN 4) 4 = false := by decide +kernel
  have b8 : bt (partsN 4) 8 = true := by decide +kernel
  have b16 : bt (partsN 4) 16 = true := by decide +kernel
  have b128 : bt (partsN 4) 128 = false := by decide +kernel
  have b256 : bt (partsN 4) 256 = false := by decide +kernel
  have b512 : bt (partsN 4) 512 = false := by decide +kernel
  have b2048 : bt (partsN 4) 2048 = false := by decide +kernel
  have hl : formL 4 = [105, 99, 109] := rfl
  have hw : wireP f = partsN 4 := by unfold wireP; rw [hk, if_neg (by omega)]
  have hn : wireN f = 4 := by unfold wireN; rw [if_neg (by omega), hk]
  unfold bytesR bytesF numsN
  simp [hk, hw, hn, pn, b2, b4, b8, b16, b128, b256, b512, b2048, hl, formB_cons, formB_nil, letB_i, letB_o, letB_m, letB_c, letB_d, letB_D, letB_C, encs_app, encs_cons, encs_nil, hd, hc]

theorem eq_5 (f : PF) (hk : f.kind = 5) (hd : f.data = []) (hc : f.cid = []) : bytesR f = bytesF f := by
  have b2 : bt (partsN 5) 2 = true := by decide +kernel
  have b4 : bt (partsN 5) 4 = false := by decide +kernel
  have b8 : bt (partsN 5) 8 = true := by decide +kernel
  have b16 : bt (partsN 5) 16 = false := by decide +kernel
  have b128 : bt (partsN 5) 128 = false := by decide +kernel
  have b256 : bt (partsN 5) 256 = false := by decide +kernel
  have b512 : bt (partsN 5) 512 = false := by decide +kernel
  have b2048 : bt (partsN 5) 2048 = false := by decide +kernel
  have hl : formL 5 = [105, 99] := rfl
  have hw : wireP f = partsN 5 := by unfold wireP; rw [hk, if_neg (by omega)]
  have hn : wireN f = 5 := by unfold wireN; rw [if_neg (by omega), hk]
  unfold bytesR bytesF numsN
  simp [hk, hw, hn, pn, b2, b4, b8, b16, b128, b256, b512, b2048, hl, formB_cons, formB_nil, letB_i, letB_o, letB_m, letB_c, letB_d, letB_D, letB_C, encs_app, encs_cons, encs_nil, hd, hc]

theorem eq_6 (f : PF) (hk : f.kind = 6) (hc : f.cid = []) : bytesR f = bytesF f := by
  have b2 : bt (partsN 6) 2 = false := by decide +kernel
  have b4 : bt (partsN 6) 4 = true := by decide +kernel
  have b8 : bt (partsN 6) 8 = false := by decide +kernel
  have b16 : bt (partsN 6) 16 = false := by decide +kernel
  have b128 : bt (partsN 6) 128 = false := by decide +kernel
  have b256 : bt (partsN 6) 256 = false := by decide +kernel
  have b512 : bt (partsN 6) 512 = true := by decide +kernel
  have b2048 : bt (partsN 6) 2048 = false := by decide +kernel
  have hl : formL 6 = [111, 100] := rfl
  have hw : wireP f = partsN 6 := by unfold wireP; rw [hk, if_neg (by omega)]
  have hn : wireN f = 6 := by unfold wireN; rw [if_neg (by omega), hk]
  unfold bytesR bytesF numsN
  simp [hk, hw, hn, pn, b2, b4, b8, b16, b128, b256, b512, b2048, hl, formB_cons, formB_nil, letB_i, letB_o, letB_m, letB_c, letB_d, letB_D, letB_C, encs_app, encs_cons, encs_nil, hc]

theorem eq_7 (f : PF) (hk : f.kind = 7) (hc : f.cid = []) : bytesR f = bytesF f := by
  have b2 : bt (partsN 7) 2 = false := by decide +kernel
  have b4 : bt (partsN 7) 4 = false := by decide +kernel
  have b8 : bt (partsN 7) 8 = false := by decide +kernel
  have b16 : bt (partsN 7) 16 = false := by decide +kernel
  have b128 : bt (partsN 7) 128 = false := by decide +kernel
  have b256 : bt (partsN 7) 256 = false := by decide +kernel
  have b512 : bt (partsN 7) 512 = true := by decide +kernel
  have b2048 : bt (partsN 7) 2048 = false := by decide +kernel
  have hl : formL 7 = [100] := rfl
  have hw : wireP f = partsN 7 := by unfold wireP; rw [hk, if_neg (by omega)]
  have hn : wireN f = 7 := by unfold wireN; rw [if_neg (by omega), hk]
  unfold bytesR bytesF numsN
  simp [hk, hw, hn, pn, b2, b4, b8, b16, b128, b256, b512, b2048, hl, formB_cons, formB_nil, letB_i, letB_o, letB_m, letB_c, letB_d, letB_D, letB_C, encs_app, encs_cons, encs_nil, hc]

theorem eq_16 (f : PF) (hk : f.kind = 16) (hd : f.data = []) (hc : f.cid = []) : bytesR f = bytesF f := by
  have b2 : bt (partsN 16) 2 = false := by decide +kernel
  have b4 : bt (partsN 16) 4 = false := by decide +kernel
  have b8 : bt (partsN 16) 8 = false := by decide +kernel
  have b16 : bt (partsN 16) 16 = true := by decide +kernel
  have b128 : bt (partsN 16) 128 = false := by decide +kernel
  have b256 : bt (partsN 16) 256 = false := by decide +kernel
  have b512 : bt (partsN 16) 512 = false := by decide +kernel
  have b2048 : bt (partsN 16) 2048 = false := by decide +kernel
  have hl : formL 16 = [109] := rfl
  have hw : wireP f = partsN 16 := by unfold wireP; rw [hk, if_neg (by omega)]
  have hn : wireN f = 16 := by unfold wireN; rw [if_neg (by omega), hk]
  unfold bytesR bytesF numsN
  simp [hk, hw, hn, pn, b2, b4, b8, b16, b128, b256, b512, b2048, hl, formB_cons, formB_nil, letB_i, letB_o, letB_m, letB_c, letB_d, letB_D, letB_C, encs_app, encs_cons, encs_nil, hd, hc]

theorem eq_17 (f : PF) (hk : f.kind = 17) (hd : f.data = []) (hc : f.cid = []) : bytesR f = bytesF f := by
  have b2 : bt (partsN 17) 2 = true := by decide +kernel
  have b4 : bt (partsN 17) 4 = false := by decide +kernel
  have b8 : bt (partsN 17) 8 = false := by decide +kernel
  have b16 : bt (partsN 17) 16 = true := by decide +kernel
  have b128 : bt (partsN 17) 128 = false := by decide +kernel
  have b256 : bt (partsN 17) 256 = false := by decide +kernel
  have b512 : bt (partsN 17) 512 = false := by decide +kernel
  have b2048 : bt (partsN 17) 2048 = false := by decide +kernel
  have hl : formL 17 = [105, 109] := rfl
  have hw : wireP f = partsN 17 := by unfold wireP; rw [hk, if_neg (by omega)]
  have hn : wireN f = 17 := by unfold wireN; rw [if_neg (by omega), hk]
  unfold bytesR bytesF numsN
  simp [hk, hw, hn, pn, b2, b4, b8, b16, b128, b256, b512, b2048, hl, formB_cons, formB_nil, letB_i, letB_o, letB_m, letB_c, letB_d, letB_D, letB_C, encs_app, encs_cons, encs_nil, hd, hc]

theorem eq_18 (f : PF) (hk : f.kind = 18) (hd : f.data = []) (hc : f.cid = []) : bytesR f = bytesF f := by
  have b2 : bt (partsN 18) 2 = false := by decide +kernel
  have b4 : bt (partsN 18) 4 = false := by decide +kernel
  have b8 : bt (partsN 18) 8 = false := by decide +kernel
  have b16 : bt (partsN 18) 16 = true := by decide +kernel
  have b128 : bt (partsN 18) 128 = false := by decide +kernel
  have b256 : bt (partsN 18) 256 = false := by decide +kernel
  have b512 : bt (partsN 18) 512 = false := by decide +kernel
  have b2048 : bt (partsN 18) 2048 = false := by decide +kernel
  have hl : formL 18 = [109] := rfl
  have hw : wireP f = partsN 18 := by unfold wireP; rw [hk, if_neg (by omega)]
  have hn : wireN f = 18 := by unfold wireN; rw [if_neg (by omega), hk]
  unfold bytesR bytesF numsN
  simp [hk, hw, hn, pn, b2, b4, b8, b16, b128, b256, b512, b2048, hl, formB_cons, formB_nil, letB_i, letB_o, letB_m, letB_c, letB_d, letB_D, letB_C, encs_app, encs_cons, encs_nil, hd, hc]

theorem eq_19 (f : PF) (hk : f.kind = 19) (hd : f.data = []) (hc : f.cid = []) : bytesR f = bytesF f := by
  have b2 : bt (partsN 19) 2 = false := by decide +kernel
  have b4 : bt (partsN 19) 4 = false := by decide +kernel
  have b8 : bt (partsN 19) 8 = false := by decide +kernel
  have b16 : bt (partsN 19) 16 = true := by decide +kernel
  have b128 : bt (partsN 19) 128 = false := by decide +kernel
  have b256 : bt (partsN 19) 256 = false := by decide +kernel
  have b512 : bt (partsN 19) 512 = false := by decide +kernel
  have b2048 : bt (partsN 19) 2048 = false := by decide +kernel
  have hl : formL 19 = [109] := rfl
  have hw : wireP f = partsN 19 := by unfold wireP; rw [hk, if_neg (by omega)]
  have hn : wireN f = 19 := by unfold wireN; rw [if_neg (by omega), hk]
  unfold bytesR bytesF numsN
  simp [hk, hw, hn, pn, b2, b4, b8, b16, b128, b256, b512, b2048, hl, formB_cons, formB_nil, letB_i, letB_o, letB_m, letB_c, letB_d, letB_D, letB_C, encs_app, encs_cons, encs_nil, hd, hc]

theorem eq_20 (f : PF) (hk : f.kind = 20) (hd : f.data = []) (hc : f.cid = []) : bytesR f = bytesF f := by
  have b2 : bt (partsN 20) 2 = false := by decide +kernel
  have b4 : bt (partsN 20) 4 = false := by decide +kernel
  have b8 : bt (partsN 20) 8 = false := by decide +kernel
  have b16 : bt (partsN 20) 16 = true := by decide +kernel
  have b128 : bt (partsN 20) 128 = false := by decide +kernel
  have b256 : bt (partsN 20) 256 = false := by decide +kernel
  have b512 : bt (partsN 20) 512 = false := by decide +kernel
  have b2048 : bt (partsN 20) 2048 = false := by decide +kernel
  have hl : formL 20 = [109] := rfl
  have hw : wireP f = partsN 20 := by unfold wireP; rw [hk, if_neg (by omega)]
  have hn : wireN f = 20 := by unfold wireN; rw [if_neg (by omega), hk]
  unfold bytesR bytesF numsN
  simp [hk, hw, hn, pn, b2, b4, b8, b16, b128, b256, b512, b2048, hl, formB_cons, formB_nil, letB_i, letB_o, letB_m, letB_c, letB_d, letB_D, letB_C, encs_app, encs_cons, encs_nil, hd, hc]

theorem eq_21 (f : PF) (hk : f.kind = 21) (hd : f.data = []) (hc : f.cid = []) : bytesR f = bytesF f := by
  have b2 : bt (partsN 21) 2 = true := by decide +kernel
  have b4 : bt (partsN 21) 4 = false := by decide +kernel
  have b8 : bt (partsN 21) 8 = false := by decide +kernel
  have b16 : bt (partsN 21) 16 = true := by decide +kernel
  have b128 : bt (partsN 21) 128 = false := by decide +kernel
  have b256 : bt (partsN 21) 256 = false := by decide +kernel
  have b512 : bt (partsN 21) 512 = false := by decide +kernel
  have b2048 : bt (partsN 21) 2048 = false := by decide +kernel
  have hl : formL 21 = [105, 109] := rfl
  have hw : wireP f = partsN 21 := by unfold wireP; rw [hk, if_neg (by omega)]
  have hn : wireN f = 21 := by unfold wireN; rw [if_neg (by omega), hk]
  unfold bytesR bytesF numsN
  simp [hk, hw, hn, pn, b2, b4, b8, b16, b128, b256, b512, b2048, hl, formB_cons, formB_nil, letB_i, letB_o, letB_m, letB_c, letB_d, letB_D, letB_C, encs_app, encs_cons, encs_nil, hd, hc]

theorem eq_22 (f : PF) (hk : f.kind = 22) (hd : f.data = []) (hc : f.cid = []) : bytesR f = bytesF f := by
  have b2 : bt (partsN 22) 2 = false := by decide +kernel
  have b4 : bt (partsN 22) 4 = false := by decide +kernel
  have b8 : bt (partsN 22) 8 = false := by decide +kernel
  have b16 : bt (partsN 22) 16 = true := by decide +kernel
  have b128 : bt (partsN 22) 128 = false := by decide +kernel
  have b256 : bt (partsN 22) 256 = false := by decide +kernel
  have b512 : bt (partsN 22) 512 = false := by decide +kernel
  have b2048 : bt (partsN 22) 2048 = false := by decide +kernel
  have hl : formL 22 = [109] := rfl
  have hw : wireP f = partsN 22 := by unfold wireP; rw [hk, if_neg (by omega)]
  have hn : wireN f = 22 := by unfold wireN; rw [if_neg (by omega), hk]
  unfold bytesR bytesF numsN
  simp [hk, hw, hn, pn, b2, b4, b8, b16, b128, b256, b512, b2048, hl, formB_cons, formB_nil, letB_i, letB_o, letB_m, letB_c, letB_d, letB_D, letB_C, encs_app, encs_cons, encs_nil, hd, hc]

theorem eq_23 (f : PF) (hk : f.kind = 23) (hd : f.data = []) (hc : f.cid = []) : bytesR f = bytesF f := by
  have b2 : bt (partsN 23) 2 = false := by decide +kernel
  have b4 : bt (partsN 23) 4 = false := by decide +kernel
  have b8 : bt (partsN 23) 8 = false := by decide +kernel
  have b16 : bt (partsN 23) 16 = true := by decide +kernel
  have b128 : bt (partsN 23) 128 = false := by decide +kernel
  have b256 : bt (partsN 23) 256 = false := by decide +kernel
  have b512 : bt (partsN 23) 512 = false := by decide +kernel
  have b2048 : bt (partsN 23) 2048 = false := by decide +kernel
  have hl : formL 23 = [109] := rfl
  have hw : wireP f = partsN 23 := by unfold wireP; rw [hk, if_neg (by omega)]
  have hn : wireN f = 23 := by unfold wireN; rw [if_neg (by omega), hk]
  unfold bytesR bytesF numsN
  simp [hk, hw, hn, pn, b2, b4, b8, b16, b128, b256, b512, b2048, hl, formB_cons, formB_nil, letB_i, letB_o, letB_m, letB_c, letB_d, letB_D, letB_C, encs_app, encs_cons, encs_nil, hd, hc]

theorem eq_24 (f : PF) (hk : f.kind = 24) (hd : f.data = []) (h20 : f.cid.length ≤ 20) : bytesR f = bytesF f := by
  have b2 : bt (partsN 24) 2 = true := by decide +kernel
  have b4 : bt (partsN 24) 4 = false := by decide +kernel
  have b8 : bt (partsN 24) 8 = false := by decide +kernel
  have b16 : bt (partsN 24) 16 = true := by decide +kernel
  have b128 : bt (partsN 24) 128 = false := by decide +kernel
  have b256 : bt (partsN 24) 256 = false := by decide +kernel
  have b512 : bt (partsN 24) 512 = false := by decide +kernel
  have b2048 : bt (partsN 24) 2048 = true := by decide +kernel
  have hl : formL 24 = [105, 109, 67] := rfl
  have hw : wireP f = partsN 24 := by unfold wireP; rw [hk, if_neg (by omega)]
  have hn : wireN f = 24 := by unfold wireN; rw [if_neg (by omega), hk]
  unfold bytesR bytesF numsN
  simp [hk, hw, hn, pn, b2, b4, b8, b16, b128, b256, b512, b2048, hl, formB_cons, formB_nil, letB_i, letB_o, letB_m, letB_c, letB_d, letB_D, letB_C, encs_app, encs_cons, encs_nil, hd, enc_small (show f.cid.length ≤ 63 by omega)]

theorem eq_25 (f : PF) (hk : f.kind = 25) (hd : f.data = []) (hc : f.cid = []) : bytesR f = bytesF f := by
  have b2 : bt (partsN 25) 2 = true := by decide +kernel
  have b4 : bt (partsN 25) 4 = false := by decide +kernel
  have b8 : bt (partsN 25) 8 = false := by decide +kernel
  have b16 : bt (partsN 25) 16 = false := by decide +kernel
  have b128 : bt (partsN 25) 128 = false := by decide +kernel
  have b256 : bt (partsN 25) 256 = false := by decide +kernel
  have b512 : bt (partsN 25) 512 = false := by decide +kernel
  have b2048 : bt (partsN 25) 2048 = false := by decide +kernel
  have hl : formL 25 = [105] := rfl
  have hw : wireP f = partsN 25 := by unfold wireP; rw [hk, if_neg (by omega)]
  have hn : wireN f = 25 := by unfold wireN; rw [if_neg (by omega), hk]
  unfold bytesR bytesF numsN
  simp [hk, hw, hn, pn, b2, b4, b8, b16, b128, b256, b512, b2048, hl, formB_cons, formB_nil, letB_i, letB_o, letB_m, letB_c, letB_d, letB_D, letB_C, encs_app, encs_cons, encs_nil, hd, hc]

theorem eq_26 (f : PF) (hk : f.kind = 26) (hc : f.cid = []) : bytesR f = bytesF f := by
  have b2 : bt (partsN 26) 2 = false := by decide +kernel
  have b4 : bt (partsN 26) 4 = false := by decide +kernel
  have b8 : bt (partsN 26) 8 = false := by decide +kernel
  have b16 : bt (partsN 26) 16 = false := by decide +kernel
  have b128 : bt (partsN 26) 128 = false := by decide +kernel
  have b256 : bt (partsN 26) 256 = false := by decide +kernel
  have b512 : bt (partsN 26) 512 = false := by decide +kernel
  have b2048 : bt (partsN 26) 2048 = false := by decide +kernel
  have hl : formL 26 = [68] := rfl
  have hw : wireP f = partsN 26 := by unfold wireP; rw [hk, if_neg (by omega)]
  have hn : wireN f = 26 := by unfold wireN; rw [if_neg (by omega), hk]
  unfold bytesR bytesF numsN
  simp [hk, hw, hn, pn, b2, b4, b8, b16, b128, b256, b512, b2048, hl, formB_cons, formB_nil, letB_i, letB_o, letB_m, letB_c, letB_d, letB_D, letB_C, encs_app, encs_cons, encs_nil, hc]

theorem eq_27 (f : PF) (hk : f.kind = 27) (hc : f.cid = []) : bytesR f = bytesF f := by
  have b2 : bt (partsN 27) 2 = false := by decide +kernel
  have b4 : bt (partsN 27) 4 = false := by decide +kernel
  have b8 : bt (partsN 27) 8 = false := by decide +kernel
  have b16 : bt (partsN 27) 16 = false := by decide +kernel
  have b128 : bt (partsN 27) 128 = false := by decide +kernel
  have b256 : bt (partsN 27) 256 = false := by decide +kernel
  have b512 : bt (partsN 27) 512 = false := by decide +kernel
  have b2048 : bt (partsN 27) 2048 = false := by decide +kernel
  have hl : formL 27 = [68] := rfl
  have hw : wireP f = partsN 27 := by unfold wireP; rw [hk, if_neg (by omega)]
  have hn : wireN f = 27 := by unfold wireN; rw [if_neg (by omega), hk]
  unfold bytesR bytesF numsN
  simp [hk, hw, hn, pn, b2, b4, b8, b16, b128, b256, b512, b2048, hl, formB_cons, formB_nil, letB_i, letB_o, letB_m, letB_c, letB_d, letB_D, letB_C, encs_app, encs_cons, encs_nil, hc]

theorem eq_28 (f : PF) (hk : f.kind = 28) (hc : f.cid = []) : bytesR f = bytesF f := by
  have b2 : bt (partsN 28) 2 = false := by decide +kernel
  have b4 : bt (partsN 28) 4 = false := by decide +kernel
  have b8 : bt (partsN 28) 8 = true := by decide +kernel
  have b16 : bt (partsN 28) 16 = true := by decide +kernel
  have b128 : bt (partsN 28) 128 = false := by decide +kernel
  have b256 : bt (partsN 28) 256 = false := by decide +kernel
  have b512 : bt (partsN 28) 512 = true := by decide +kernel
  have b2048 : bt (partsN 28) 2048 = false := by decide +kernel
  have hl : formL 28 = [99, 109, 100] := rfl
  have hw : wireP f = partsN 28 := by unfold wireP; rw [hk, if_neg (by omega)]
  have hn : wireN f = 28 := by unfold wireN; rw [if_neg (by omega), hk]
  unfold bytesR bytesF numsN
  simp [hk, hw, hn, pn, b2, b4, b8, b16, b128, b256, b512, b2048, hl, formB_cons, formB_nil, letB_i, letB_o, letB_m, letB_c, letB_d, letB_D, letB_C, encs_app, encs_cons, encs_nil, hc]

theorem eq_29 (f : PF) (hk : f.kind = 29) (hc : f.cid = []) : bytesR f = bytesF f := by
  have b2 : bt (partsN 29) 2 = false := by decide +kernel
  have b4 : bt (partsN 29) 4 = false := by decide +kernel
  have b8 : bt (partsN 29) 8 = true := by decide +kernel
  have b16 : bt (partsN 29) 16 = false := by decide +kernel
  have b128 : bt (partsN 29) 128 = false := by decide +kernel
  have b256 : bt (partsN 29) 256 = false := by decide +kernel
  have b512 : bt (partsN 29) 512 = true := by decide +kernel
  have b2048 : bt (partsN 29) 2048 = false := by decide +kernel
  have hl : formL 29 = [99, 100] := rfl
  have hw : wireP f = partsN 29 := by unfold wireP; rw [hk, if_neg (by omega)]
  have hn : wireN f = 29 := by unfold wireN; rw [if_neg (by omega), hk]
  unfold bytesR bytesF numsN
  simp [hk, hw, hn, pn, b2, b4, b8, b16, b128, b256, b512, b2048, hl, formB_cons, formB_nil, letB_i, letB_o, letB_m, letB_c, letB_d, letB_D, letB_C, encs_app, encs_cons, encs_nil, hc]

theorem eq_30 (f : PF) (hk : f.kind = 30) (hd : f.data = []) (hc : f.cid = []) : bytesR f = bytesF f := by
  have b2 : bt (partsN 30) 2 = false := by decide +kernel
  have b4 : bt (partsN 30) 4 = false := by decide +kernel
  have b8 : bt (partsN 30) 8 = false := by decide +kernel
  have b16 : bt (partsN 30) 16 = false := by decide +kernel
  have b128 : bt (partsN 30) 128 = false := by decide +kernel
  have b256 : bt (partsN 30) 256 = false := by decide +kernel
  have b512 : bt (partsN 30) 512 = false := by decide +kernel
  have b2048 : bt (partsN 30) 2048 = false := by decide +kernel
  have hl : formL 30 = [] := rfl
  have hw : wireP f = partsN 30 := by unfold wireP; rw [hk, if_neg (by omega)]
  have hn : wireN f = 30 := by unfold wireN; rw [if_neg (by omega), hk]
  unfold bytesR bytesF numsN
  simp [hk, hw, hn, pn, b2, b4, b8, b16, b128, b256, b512, b2048, hl, formB_cons, formB_nil, letB_i, letB_o, letB_m, letB_c, letB_d, letB_D, letB_C, encs_app, encs_cons, encs_nil, hd, hc]

theorem eq_0 (f : PF) (hk : f.kind = 0) : bytesR f = bytesF f := by
  unfold bytesR bytesF
  rw [if_pos hk, if_pos hk]

theorem eq_8 (f : PF) (hk : f.kind = 8) (hc : f.cid = []) : bytesR f = bytesF f := by
  by_cases ho : f.off = 0
  · have hw : wireP f = 1603 := by unfold wireP; rw [if_pos ⟨hk, ho⟩]; rfl
    have hn : wireN f = 10 + (if f.fin then 1 else 0) := by unfold wireN; rw [if_pos hk, if_pos ho]

    have b2 : bt 1603 2 = true := by decide +kernel
    have b4 : bt 1603 4 = false := by decide +kernel
    have b8 : bt 1603 8 = false := by decide +kernel
    have b16 : bt 1603 16 = false := by decide +kernel
    have b128 : bt 1603 128 = false := by decide +kernel
    have b256 : bt 1603 256 = false := by decide +kernel
    have b512 : bt 1603 512 = true := by decide +kernel
    have b2048 : bt 1603 2048 = false := by decide +kernel
    have b2048' : bt (partsN 8) 2048 = false := by decide +kernel
    unfold bytesR bytesF numsN streamL
    simp [hk, hw, hn, ho, pn, b2, b4, b8, b16, b128, b256, b512, b2048, b2048', encs_app, encs_cons, encs_nil, hc]
  · have hw : wireP f = partsN 8 := by unfold wireP; rw [if_neg (fun h => ho h.2), hk]
    have hn : wireN f = 10 + 4 + (if f.fin then 1 else 0) := by unfold wireN; rw [if_pos hk, if_neg ho]
    have hp : 0 < f.off := by omega
    have ha : 10 + (if f.fin = true then 1 else 0) + 4 = 10 + 4 + (if f.fin = true then 1 else 0) := by omega
    have b2 : bt (partsN 8) 2 = true := by decide +kernel
    have b4 : bt (partsN 8) 4 = true := by decide +kernel
    have b8 : bt (partsN 8) 8 = false := by decide +kernel
    have b16 : bt (partsN 8) 16 = false := by decide +kernel
    have b128 : bt (partsN 8) 128 = false := by decide +kernel
    have b256 : bt (partsN 8) 256 = false := by decide +kernel
    have b512 : bt (partsN 8) 512 = true := by decide +kernel
    have b2048 : bt (partsN 8) 2048 = false := by decide +kernel
    unfold bytesR bytesF numsN streamL
    rw [if_pos hp, if_pos hp, ha]
    simp [hk, hw, hn, pn, b2, b4, b8, b16, b128, b256, b512, b2048, encs_app, encs_cons, encs_nil, hc]

theorem onlyB_data {f : PF} {p : Nat} (h : onlyB f p = true) (hb : bt p 1024 = false) : f.data = [] := by
  unfold onlyB at h
  simp only [Bool.and_eq_true, Bool.or_eq_true] at h
  have h2 := h.1.2
  rw [hb] at h2
  simpa using h2

theorem onlyB_cid {f : PF} {p : Nat} (h : onlyB f p = true) (hb : bt p 2048 = false) : f.cid = [] := by
  unfold onlyB at h
  simp only [Bool.and_eq_true, Bool.or_eq_true] at h
  have h2 := h.2
  rw [hb] at h2
  simp at h2
  exact h2.1

theorem bytes_eq {f : PF} (hm : MayF f) (ht : f.token.length = 16) (hd : f.data.length ≤ 140737488355328) : bytesR f = bytesF f := by
  have hr := (may_iff ht hd).2 hm
  have hk := hr.1
  have ho := hm.2.1
  have h20 := hm.2.2.2.2.2.2.2.1
  unfold formK at hk
  rw [decide_eq_true_iff] at hk
  rcases hk with hk | hk | hk | hk | hk | hk | hk | hk | hk | hk | hk | hk | hk | hk | hk | hk | hk | hk | hk | hk | hk | hk | hk | hk
  · exact eq_0 f hk
  · exact eq_1 f hk (onlyB_data ho (by rw [hk]; decide +kernel)) (onlyB_cid ho (by rw [hk]; decide +kernel))
  · exact eq_2 f hk (onlyB_data ho (by rw [hk]; decide +kernel)) (onlyB_cid ho (by rw [hk]; decide +kernel))
  · exact eq_3 f hk (onlyB_data ho (by rw [hk]; decide +kernel)) (onlyB_cid ho (by rw [hk]; decide +kernel))
  · exact eq_4 f hk (onlyB_data ho (by rw [hk]; decide +kernel)) (onlyB_cid ho (by rw [hk]; decide +kernel))
  · exact eq_5 f hk (onlyB_data ho (by rw [hk]; decide +kernel)) (onlyB_cid ho (by rw [hk]; decide +kernel))
  · exact eq_6 f hk (onlyB_cid ho (by rw [hk]; decide +kernel))
  · exact eq_7 f hk (onlyB_cid ho (by rw [hk]; decide +kernel))
  · exact eq_8 f hk (onlyB_cid ho (by rw [hk]; decide +kernel))
  · exact eq_16 f hk (onlyB_data ho (by rw [hk]; decide +kernel)) (onlyB_cid ho (by rw [hk]; decide +kernel))
  · exact eq_17 f hk (onlyB_data ho (by rw [hk]; decide +kernel)) (onlyB_cid ho (by rw [hk]; decide +kernel))
  · exact eq_18 f hk (onlyB_data ho (by rw [hk]; decide +kernel)) (onlyB_cid ho (by rw [hk]; decide +kernel))
  · exact eq_19 f hk (onlyB_data ho (by rw [hk]; decide +kernel)) (onlyB_cid ho (by rw [hk]; decide +kernel))
  · exact eq_20 f hk (onlyB_data ho (by rw [hk]; decide +kernel)) (onlyB_cid ho (by rw [hk]; decide +kernel))
  · exact eq_21 f hk (onlyB_data ho (by rw [hk]; decide +kernel)) (onlyB_cid ho (by rw [hk]; decide +kernel))
  · exact eq_22 f hk (onlyB_data ho (by rw [hk]; decide +kernel)) (onlyB_cid ho (by rw [hk]; decide +kernel))
  · exact eq_23 f hk (onlyB_data ho (by rw [hk]; decide +kernel)) (onlyB_cid ho (by rw [hk]; decide +kernel))
  · exact eq_24 f hk (onlyB_data ho (by rw [hk]; decide +kernel)) (h20 hk).2.1
  · exact eq_25 f hk (onlyB_data ho (by rw [hk]; decide +kernel)) (onlyB_cid ho (by rw [hk]; decide +kernel))
  · exact eq_26 f hk (onlyB_cid ho (by rw [hk]; decide +kernel))
  · exact eq_27 f hk (onlyB_cid ho (by rw [hk]; decide +kernel))
  · exact eq_28 f hk (onlyB_cid ho (by rw [hk]; decide +kernel))
  · exact eq_29 f hk (onlyB_cid ho (by rw [hk]; decide +kernel))
  · exact eq_30 f hk (onlyB_data ho (by rw [hk]; decide +kernel)) (onlyB_cid ho (by rw [hk]; decide +kernel))

theorem good_of {f : PF} (hm : MayF f) (ht : f.token.length = 16) (hal : f.acks.length ≤ 4000) (hd : f.data.length ≤ 1048576) (hc : f.cid.length ≤ 1048576) : GoodF f := by
  have hr := (may_iff ht (by omega)).2 hm
  obtain ⟨h1, h2, ⟨s1, s2, s3, s4, s5, s6, s7, s8⟩, h4⟩ := hr
  refine ⟨?_, s1, s2, s3, s4, s5, s6, s7, s8, hd, hc, fun h => (h4.1 h).2, fun h => ⟨(h4.2.1 h).1, (h4.2.1 h).2, hal⟩, fun h => (h4.2.2.2.2.2.1 h).2.1⟩
  by_cases hk : f.kind < 31
  · exact hk
  · rw [formK_big (Nat.le_of_not_lt hk)] at h1
    cases h1
end

end Go.Proofs.YtkkojhkglcigmaaDoor
