/-
  Transport parameters: all that bytes tell (param.Take), walked.
-/
import Derived.Test.YtpnpbjdkldmmdaaDoorQTake
import Derived.Deep.RegionWith
namespace Go.Proofs.YtpnpbjdkldmmdaaDoor
open Go.RowKit Go.Maps
set_option linter.unusedVariables false

/-- What Take answers. -/
def TakeGv (w : World) (o : Option PQ) (e : Ending) (w' : World) : Prop :=
  Below w.heap.size w w' ∧
  match o with
  | none => e = .returned (.tuple #[.agg (prC none 0 none 0 zQ), .int .i64 2])
  | some q => q.tok.length = 16 ∧ ∃ A0 c0 A1 c1, e = .returned (.tuple #[.agg (prC A0 c0 A1 c1 q), .int .i64 0]) ∧ Sy w' w.heap.size A0 (q.orig.map cell8) ∧ Sy w' w.heap.size A1 (q.cid.map cell8)

def svLen : Value → Nat
  | .slice _ n _ => n
  | _ => 0

theorem results_cq {P : Program} {fn : Func} {a b : Tmp} {ta : TypeId} (h : fn.results = #[.cell a ta, .tmp b]) (tmps : Array Value) (w : World) (pa : Addr) (va : Value)
    (ha : tmps.getD a undef = .pointer (some pa)) (la : (loadVar ta pa).run P w = .ok va w) : (results fn tmps).run P w = .ok (.tuple #[va, tmps.getD b undef]) w := by
  have ha' : tmps[a]?.getD undef = .pointer (some pa) := by simpa using ha
  simp [results, h, ha', asAddr, la]

theorem info_params : (Tryd.prog.info? 43).map (·.size) = some 28 := by kernel_rfl

theorem load_params {w : World} {g : Nat} {cs : Array Value} (h : Wh w g 43 cs) (hs : cs.size = 28) : (loadVar 43 ⟨g, 0, none⟩).run Tryd.prog w = .ok (.agg cs) w :=
  run_loadVar_row w g _ _ cs (0, 0) _ h Tryd.underlying43 rfl (by rw [hs]; exact info_params)

theorem prC_one (A0 : Option Addr) (c0 : Nat) (A1 : Option Addr) (c1 : Nat) (p : PQ) : (prC A0 c0 A1 c1 p).all (·.oneCell') = true := by
  rw [Array.all_eq_true_iff_forall_mem]
  intro x hx
  unfold prC at hx
  rw [Array.mem_append] at hx
  rcases hx with hx | hx
  · simp at hx
    rcases hx with rfl | rfl | rfl | rfl | rfl | rfl | rfl | rfl | rfl | rfl | rfl | rfl <;> rfl
  · exact cell8_one p.tok x (by simpa using hx)

theorem TQ.start (w : World) (o : Option PQ) (l : List UInt8) (A : Option Addr) (c : Nat) (ho : takeQ l = o) (hs : Sl w w.heap.size A l) (hc : l.length ≤ c) (hm : c ≤ maxLen) (hlen : l.length ≤ 1048576) :
    TQ w (((w.alloc (.cells zRowQ 43)).alloc (.cells zRowQ 43)).alloc (.map #[] 0)) o l A c [] zQ none 0 none 0 where
  go := ho.symm
  bel := (((Below.refl _ _).alloc (Nat.le_refl _) _).alloc (by simp) _).alloc (by simp; omega) _
  sz := by simp
  res := ((Wh.new w _ _).alloc _).alloc _
  box := by
    have h := (Wh.new (w.alloc (.cells zRowQ 43)) 43 zRowQ).alloc (.map #[] 0)
    have hz : (w.alloc (.cells zRowQ 43)).heap.size = w.heap.size + 1 := by simp
    rw [hz] at h
    exact h
  tok := rfl
  s0 := Sy.nil _ _ _
  s1 := Sy.nil _ _ _
  map := by
    have h := World.ownsMap_made ((w.alloc (.cells zRowQ 43)).alloc (.cells zRowQ 43)) Tryd.prog 23 (unitElem (H := Unit))
    have hz : ((w.alloc (.cells zRowQ 43)).alloc (.cells zRowQ 43)).heap.size = w.heap.size + 2 := by simp
    rw [hz] at h
    exact h
  src := hs
  hc := hc
  hm := hm
  cnt := by simpa using hlen

set_option maxRecDepth 100000 in
set_option maxHeartbeats 3200000 in
theorem qtake_any (l : List UInt8) (A : Option Addr) (c : Nat) (w : World) (hs : Sl w w.heap.size A l) (hc : l.length ≤ c) (hm : c ≤ maxLen) (hlen : l.length ≤ 1048576) :
    Calls Tryd.prog 19 #[.slice A l.length c] w (TakeGv w (takeQ l)) := by
  have hmm := @run_makeMap Tryd.prog
  obtain ⟨o, ho⟩ : ∃ o, takeQ l = o := ⟨_, rfl⟩
  have HST := Lib.hid (TQ.start w o l A c ho hs hc hm hlen)
  rw [ho]
  clear ho hs hc hm hlen
  have hzr : (#[.slice none 0 0, .slice none 0 0, .int .u64 0, .int .u64 0, .int .u64 0, .int .u64 0, .int .u64 0, .int .u64 0, .int .u64 0, .int .u64 0, .int .u64 0, .bool false,
    .int .u8 0, .int .u8 0, .int .u8 0, .int .u8 0, .int .u8 0, .int .u8 0, .int .u8 0, .int .u8 0, .int .u8 0, .int .u8 0, .int .u8 0, .int .u8 0, .int .u8 0, .int .u8 0, .int .u8 0, .int .u8 0] : Array Value) = zRowQ := rfl
  go_enter Tryd.func19, Tryd.ntmps19
  go_wp2_with fail
  go_loopw [0] (fun bv wr => ∃ rest Ar cr st q A0 c0 A1 c1, bv = .slice Ar (List.length rest) cr ∧ Hid (TQ w wr o rest Ar cr st q A0 c0 A1 c1)) (fun bv _ => svLen bv)
  case atStart => exact ⟨l, A, c, [], zQ, none, 0, none, 0, rfl, HST⟩
  case round =>
    clear HST
    obtain ⟨rest, Ar, cr, st, q, A0, c0, A1, c1, rfl, HQ⟩ := hrel
    by_cases h0 : rest.length = 0
    · have hre : rest = [] := List.eq_nil_of_length_eq_zero h0
      have HO : Hid (o = some q) := by
        show _ = _
        rw [HQ.out.go, hre]
        exact goQ_nil _ _ _
      have hsz : (prC A0 c0 A1 c1 q).size = 28 := by rw [prC_size, HQ.out.tok]
      have HSZ := Lib.hid hsz
      have HI : Hid ((Tryd.prog.info? 43).map (·.size) = some (prC A0 c0 A1 c1 q).size) := by
        show _ = _
        rw [hsz]
        exact info_params
      have hone := prC_one A0 c0 A1 c1 q
      have HONE := Lib.hid hone
      have hput : Wh (wr.setRow w.heap.size (prC A0 c0 A1 c1 q)) w.heap.size 43 (prC A0 c0 A1 c1 q) := setRow_heap _ _ _ _ _ _ HQ.out.res
      have HPUT := Lib.hid hput
      clear hre hsz hone hput
      obtain ⟨R, hR⟩ : ∃ R, prC A0 c0 A1 c1 q = R := ⟨_, rfl⟩
      rw [hR] at HI HONE HPUT HSZ
      have HBOX := Lib.hid HQ.out.box
      rw [hR] at HBOX
      have HR := Lib.hid hR
      clear hR
      go_wp2_with (first
        | (refine wpList_load_row rfl 43 (.tmp 4) rfl (w.heap.size + 1) rfl _ R (0, 0) _ HBOX.out Tryd.underlying43 rfl HI.out ?_)
        | (refine wpList_store_row rfl 43 (.tmp 2) (.tmp 47) rfl w.heap.size R rfl rfl _ _ HQ.out.res HI.out (by rw [HSZ.out]; rfl) HONE.out ?_))
      refine bodyPost_ret (results_cq Tryd.results19 _ _ ⟨w.heap.size, 0, none⟩ _ rfl (load_params HPUT.out HSZ.out)) rfl ?_
      rw [HO.out]
      have hlo : ∀ g, some w.heap.size = some g → g < w.heap.size + 3 := fun g hg => by obtain rfl := Option.some.inj hg; omega
      exact ⟨below_setRow HQ.out.bel (Nat.le_refl _) _, HQ.out.tok, A0, c0, A1, c1, by rw [HR.out]; rfl, (HQ.out.s0.grown (grown_setRow _ _ _) hlo).mono (by omega), (HQ.out.s1.grown (grown_setRow _ _ _) hlo).mono (by omega)⟩
    · have hpos : 0 < rest.length := by omega
      obtain ⟨bb, off, hAr, hbb, hcell⟩ := Sl.at_ HQ.out.src hpos
      subst hAr
      have hcr := HQ.out.hc
      have hcm := HQ.out.hm
      have hcnt := HQ.out.cnt
      have hsz := HQ.out.sz
      have hone := qone_any rest (some ⟨bb, off, none⟩) rest.length cr wr rfl ((HQ.out.src.below HQ.out.bel).keep HQ.out.bel.size (fun _ _ => rfl)) hcr hcm (by omega)
      have hgo := HQ.out.go
      unfold maxLen at hcm
      clear hcell h0
      cases ho1 : oneQ rest with
      | none =>
        have HO : Hid (o = none) := by
          show _ = _
          rw [hgo]
          unfold goQ
          rw [if_neg (fun e => by rw [e] at hpos; exact Nat.lt_irrefl 0 hpos), ho1]
        rw [ho1] at hone
        have HONE := Lib.hid hone
        clear hone ho1 hgo
        go_wp2_with (first
          | (go_at_call 38; refine HONE.out.mono ?_; rintro e w1 ⟨id, u, hid, rfl, hb1⟩; have HQ1 := Lib.hid (HQ.out.below hb1); have HQ2 := Lib.hid (HQ1.out.below ((Below.refl _ _).alloc (Nat.le_refl _) (.cells #[] 81))))
          | (at_lookup; refine wpList_lookup_own_unit _ rfl _ _ 78 rfl 23 81 lawKey Tryd.underlying78 (zeroUnit _) (w.heap.size + 2) st.length (Sd st) rfl HQ1.out.map _ _ rfl (key_of id hid) ?_)
          | (refine wpList_store_row rfl 43 (.tmp 2) (.tmp 40) rfl w.heap.size zRowQ rfl rfl _ _ HQ2.out.res info_params rfl (by rw [zRowQ_eq]; exact prC_one _ _ _ _ _) ?_))
        refine bodyPost_ret (results_cq Tryd.results19 _ _ ⟨w.heap.size, 0, none⟩ _ rfl (load_params (setRow_heap _ _ _ _ _ _ HQ2.out.res) rfl)) rfl ?_
        rw [HO.out]
        exact ⟨below_setRow HQ2.out.bel (Nat.le_refl _) _, rfl⟩
      | some x =>
        obtain ⟨id, v, used⟩ := x
        obtain ⟨u1, u2, u3, u4, u5⟩ := oneQ_used ho1
        have hstep := goQ_step ho1 (rest.length + 1) st q (by omega)
        rw [hstep] at hgo
        rw [ho1] at hone
        have HONE := Lib.hid hone
        have hid : id < 18446744073709551616 := by omega
        have hhas := has_Sd st id
        by_cases hst : id ∈ st
        · rw [if_pos hst] at hgo
          have HO := Lib.hid hgo
          rw [decide_eq_true hst] at hhas
          clear hone ho1 hgo hstep hst
          go_wp2_with (first
            | (go_at_call 38; refine HONE.out.mono ?_; rintro e w1 ⟨A', c', rfl, hq1, hm1, hsy1, hb1⟩; have HQ1 := Lib.hid (HQ.out.below hb1); have HQ2 := Lib.hid (HQ1.out.below ((Below.refl _ _).alloc (Nat.le_refl _) (.cells #[] 81))))
            | (at_lookup; refine wpList_lookup_own_unit _ rfl _ _ 78 rfl 23 81 lawKey Tryd.underlying78 (zeroUnit _) (w.heap.size + 2) st.length (Sd st) rfl HQ1.out.map _ _ rfl (key_of id hid) ?_)
            | (refine wpList_store_row rfl 43 (.tmp 2) (.tmp 40) rfl w.heap.size zRowQ rfl rfl _ _ HQ2.out.res info_params rfl (by rw [zRowQ_eq]; exact prC_one _ _ _ _ _) ?_))
          refine bodyPost_ret (results_cq Tryd.results19 _ _ ⟨w.heap.size, 0, none⟩ _ rfl (load_params (setRow_heap _ _ _ _ _ _ HQ2.out.res) rfl)) rfl ?_
          rw [HO.out]
          exact ⟨below_setRow HQ2.out.bel (Nat.le_refl _) _, rfl⟩
        · rw [if_neg hst] at hgo
          rw [decide_eq_false hst] at hhas
          clear hone ho1 hstep
          cases hset : setQ q id v with
          | none =>
            rw [hset] at hgo
            have HO : Hid (o = none) := hgo
            have HSETQ := Lib.hid hset
            clear hgo hst hset
            go_wp2_with (first
              | (go_at_call 38; refine HONE.out.mono ?_; rintro e w1 ⟨A', c', rfl, hq1, hm1, hsy1, hb1⟩; have HQ1 := Lib.hid (HQ.out.below hb1); have HQ2 := Lib.hid (HQ1.out.below ((Below.refl _ _).alloc (Nat.le_refl _) (.cells #[] 81))); have HSY := Lib.hid ((hsy1.mono hsz).below ((Below.refl _ _).alloc (Nat.le_refl _) (.cells #[] 81))))
              | (at_lookup; refine wpList_lookup_own_unit _ rfl _ _ 78 rfl 23 81 lawKey Tryd.underlying78 (zeroUnit _) (w.heap.size + 2) st.length (Sd st) rfl HQ1.out.map _ _ rfl (key_of id hid) ?_)
              | (go_at_call 39; refine (qset_any (w.heap.size + 1) id (w.heap.size + 3) A0 c0 A1 c1 q A' v.length c' v _ HQ2.out.box HQ2.out.tok rfl HSY.out (by omega) hq1 hm1).mono ?_; rintro e w3 ⟨hg3, he3⟩; rw [HSETQ.out] at he3; obtain rfl := he3; have HRES3 := Lib.hid (HQ2.out.res.grown hg3 (by simp)); have HBEL3 := Lib.hid (HQ2.out.bel.grown hg3 HQ2.out.bel.size (fun j hj => by obtain rfl := Option.some.inj hj; omega)))
              | (refine wpList_store_row rfl 43 (.tmp 2) (.tmp 40) rfl w.heap.size zRowQ rfl rfl _ _ HRES3.out info_params rfl (by rw [zRowQ_eq]; exact prC_one _ _ _ _ _) ?_))
            refine bodyPost_ret (results_cq Tryd.results19 _ _ ⟨w.heap.size, 0, none⟩ _ rfl (load_params (setRow_heap _ _ _ _ _ _ HRES3.out) rfl)) rfl ?_
            rw [HO.out]
            exact ⟨below_setRow HBEL3.out (Nat.le_refl _) _, rfl⟩
          | some q' =>
            rw [hset] at hgo
            have hgo' : o = goQ (rest.length + 1) (rest.drop used) (id :: st) q' := hgo
            rw [goQ_fuel (rest.length + 1) _ _ _ ((rest.drop used).length + 1) (by rw [List.length_drop]; omega) (by omega)] at hgo'
            have HGO := Lib.hid hgo'
            have HSETQ := Lib.hid hset
            clear hgo hst hset hgo'
            have HCM := Lib.hid HQ.out.hm
            by_cases hcu : cr = used
            · have hru : used = rest.length := by omega
              have HRU := Lib.hid hru
              have HDR : Hid (rest.drop used = []) := Lib.hid (List.drop_of_length_le (by omega))
              obtain rfl : cr = used := hcu
              clear hru
              go_wp2_with (first
              | (go_at_call 38; refine HONE.out.mono ?_; rintro e w1 ⟨A', c', rfl, hq1, hm1, hsy1, hb1⟩; have HQ1 := Lib.hid (HQ.out.below hb1); have HQ2 := Lib.hid (HQ1.out.below ((Below.refl _ _).alloc (Nat.le_refl _) (.cells #[] 81))); have HSY := Lib.hid ((hsy1.mono hsz).below ((Below.refl _ _).alloc (Nat.le_refl _) (.cells #[] 81))))
              | (at_lookup; refine wpList_lookup_own_unit _ rfl _ _ 78 rfl 23 81 lawKey Tryd.underlying78 (zeroUnit _) (w.heap.size + 2) st.length (Sd st) rfl HQ1.out.map _ _ rfl (key_of id hid) ?_)
              | (go_at_call 39; refine (qset_any (w.heap.size + 1) id (w.heap.size + 3) A0 c0 A1 c1 q A' v.length c' v _ HQ2.out.box HQ2.out.tok rfl HSY.out (by omega) hq1 hm1).mono ?_; rintro e w3 ⟨hg3, he3⟩; rw [HSETQ.out] at he3; obtain ⟨rfl, A0', c0', A1', c1', hbox3, h03, h13⟩ := he3; have HG3 := Lib.hid hg3; have HBOX3 := Lib.hid hbox3; have H03 := Lib.hid h03; have H13 := Lib.hid h13; clear hg3 hbox3 h03 h13)
              | (at_mapUpdate; refine wpList_mapUpdate_own _ rfl _ _ _ 78 rfl 23 81 lawKey Tryd.underlying78 (unitElem (H := Unit)) (w.heap.size + 2) st.length (Sd st) rfl (HQ2.out.map.kept HG3.out (by simp)) (by unfold maxLen; omega) _ _ _ rfl rfl (key_of id hid) _ [] unitElem_mk ?_; intro w4 hown4 hg4; have HOWN4 := Lib.hid hown4; have HG4 := Lib.hid hg4; clear hown4 hg4))
              refine ⟨⟨rest.drop cr, _, 0, id :: st, q', A0', c0', A1', c1', by rw [HDR.out]; rfl, Lib.hid (HQ2.out.next HSETQ.out HGO.out u1 u2 HG3.out HBOX3.out HSY.out H03.out H13.out HOWN4.out HG4.out (by rw [HDR.out]; exact Sv.nil _ _ _) (by rw [HDR.out]; exact Nat.le_refl _) (Nat.zero_le _))⟩, ?_⟩
              show 0 < rest.length
              exact hpos
            · have HSRC : Hid (Sl w w.heap.size (some ⟨bb, off + used, none⟩) (rest.drop used)) := by
                have h := HQ.out.src.drop used
                rw [← List.map_drop] at h
                exact h
              go_wp2_with (first
              | (go_at_call 38; refine HONE.out.mono ?_; rintro e w1 ⟨A', c', rfl, hq1, hm1, hsy1, hb1⟩; have HQ1 := Lib.hid (HQ.out.below hb1); have HQ2 := Lib.hid (HQ1.out.below ((Below.refl _ _).alloc (Nat.le_refl _) (.cells #[] 81))); have HSY := Lib.hid ((hsy1.mono hsz).below ((Below.refl _ _).alloc (Nat.le_refl _) (.cells #[] 81))))
              | (at_lookup; refine wpList_lookup_own_unit _ rfl _ _ 78 rfl 23 81 lawKey Tryd.underlying78 (zeroUnit _) (w.heap.size + 2) st.length (Sd st) rfl HQ1.out.map _ _ rfl (key_of id hid) ?_)
              | (go_at_call 39; refine (qset_any (w.heap.size + 1) id (w.heap.size + 3) A0 c0 A1 c1 q A' v.length c' v _ HQ2.out.box HQ2.out.tok rfl HSY.out (by omega) hq1 hm1).mono ?_; rintro e w3 ⟨hg3, he3⟩; rw [HSETQ.out] at he3; obtain ⟨rfl, A0', c0', A1', c1', hbox3, h03, h13⟩ := he3; have HG3 := Lib.hid hg3; have HBOX3 := Lib.hid hbox3; have H03 := Lib.hid h03; have H13 := Lib.hid h13; clear hg3 hbox3 h03 h13)
              | (at_mapUpdate; refine wpList_mapUpdate_own _ rfl _ _ _ 78 rfl 23 81 lawKey Tryd.underlying78 (unitElem (H := Unit)) (w.heap.size + 2) st.length (Sd st) rfl (HQ2.out.map.kept HG3.out (by simp)) (by unfold maxLen; omega) _ _ _ rfl rfl (key_of id hid) _ [] unitElem_mk ?_; intro w4 hown4 hg4; have HOWN4 := Lib.hid hown4; have HG4 := Lib.hid hg4; clear hown4 hg4))
              refine ⟨⟨rest.drop used, _, cr - used, id :: st, q', A0', c0', A1', c1', by rw [List.length_drop], Lib.hid (HQ2.out.next HSETQ.out HGO.out u1 u2 HG3.out HBOX3.out HSY.out H03.out H13.out HOWN4.out HG4.out HSRC.out (by rw [List.length_drop]; omega) (Nat.le_trans (Nat.sub_le _ _) HCM.out))⟩, ?_⟩
              show rest.length - used < rest.length
              omega

end Go.Proofs.YtpnpbjdkldmmdaaDoor
