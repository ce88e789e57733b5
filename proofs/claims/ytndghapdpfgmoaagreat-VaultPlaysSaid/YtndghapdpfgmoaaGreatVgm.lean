/- Package vault's Get: unknown, and whole; Package vault's Get: another name's, and spoilt; Package vault's Get, as a contract over memory; Package vault where nobody made the vault: contracts; the chapter's example. -/
import Derived.Test.YtndghapdpfgmoaaGreatVgj
import Derived.Test.YtndghapdpfgmoaaGreatVvl
import Derived.Test.YtndghapdpfgmoaaGreatVgk
import Derived.Lib.SlBytesConst
namespace Go.Proofs.YtndghapdpfgmoaaGreat
open Go.RowKit
set_option linter.unusedVariables false
set_option linter.unusedSimpArgs false
set_option maxRecDepth 20000

set_option maxHeartbeats 1000000 in
theorem vget_no {w : World} {F : Nat → Prop} {g gd b s : Nat} {V : Vt} (h : VtR w F g gd b V) (hs : s < N96) (hk : kn V.L s = false) : Calls Tryz.prog 12 #[.pointer (some ⟨g, 0, none⟩), shV s] w (GetPost w (V.gtE s) (V.gtB s)) := by
  have hc := fun w' (hk : Kp No w w') => vcell_any (h.blk.no hk) (h.mp.no hk) hs
  have HC := hide hc
  clear hc
  have h0 := h.blk.c0
  have H := hide h
  generalize hE : V.gtE s = E
  generalize hB : V.gtB s = B
  have HE := hide hE
  have HB := hide hB
  clear hE hB h
  have hz := celZ_no hk
  have HZ := hide hz
  have e1 : E = 6 := by rw [← HE.out]; unfold Vt.gtE; rw [if_neg (by rw [hk]; simp)]
  have e2 : B = [] := by rw [← HB.out]; exact Vt.gtB_err (by rw [HE.out, e1]; omega)
  subst e1
  subst e2
  clear HE HB hk hz
  have hcc := fun w' hk => HZ.out ▸ HC.out w' hk
  have HCC := hide hcc
  clear hcc
  go_enter Tryz.func12, Tryz.ntmps12
  go_wp2_with fail
  refine (HCC.out _ (Kp.alloc No w _)).mono ?_
  rintro e w1 ⟨rfl, hk1⟩
  go_wp2_with fail
  go_ret2
  exact GetPost.err rfl ((Kp.alloc No w _).trans' hk1)
set_option maxHeartbeats 1000000 in
theorem vget_same {w : World} {F : Nat → Prop} {g gd b s : Nat} {V : Vt} (h : VtR w F g gd b V) (hs : s < N96) (hk : kn V.L s = true) (e0' : rdE (V.at_ s) = 0) (ets' : rdS (V.at_ s) = s) : Calls Tryz.prog 12 #[.pointer (some ⟨g, 0, none⟩), shV s] w (GetPost w (V.gtE s) (V.gtB s)) := by
  have hc := fun w' (hk : Kp No w w') => vcell_any (h.blk.no hk) (h.mp.no hk) hs
  have HC := hide hc
  clear hc
  have h0 := h.blk.c0
  have H := hide h
  generalize hE : V.gtE s = E
  generalize hB : V.gtB s = B
  have HE := hide hE
  have HB := hide hB
  clear hE hB h
  have hz := celZ_yes hk
  have HZ := hide hz
  have hin := hide (H.out.ok.cel_in hk)
  have HK := hide hk
  have hat : V.at_ s = V.D.rd ((cel V.L s : Nat) : Int) := rfl
  obtain ⟨q, hq⟩ : ∃ q, q = cel V.L s := ⟨_, rfl⟩
  rw [← hq] at hat hz
  have HQ := hide hq
  obtain ⟨rb, hrb⟩ : ∃ r, r = V.at_ s := ⟨_, rfl⟩
  rw [← hrb] at hat
  have HRB := hide hrb
  have HAT := hide hat
  have hcc := fun w' hk => hz ▸ HC.out w' hk
  have HCC := hide hcc
  have hlen : rb.length ≤ 4096 := by rw [hat]; exact Nat.le_trans (H.out.ok.dk.rd_le _) H.out.ok.dk.s1
  have HLEN := hide hlen
  clear hcc hat hrb hq hk hz hlen
  obtain ⟨t, ht⟩ : ∃ t, t = rdS rb := ⟨_, rfl⟩
  have HT := hide ht
  have hb0 := Bx4.new w (.int .u32 (cO s : Int)) (.int .u16 (cS s : Int)) (.int .u16 (cL s : Int)) (.int .u32 (cG s : Int))
  have HB0 := hide hb0
  clear ht hb0
  unfold shV
  go_enter Tryz.func12, Tryz.ntmps12
  go_wp2_with fail
  refine (HCC.out _ (Kp.alloc No w _)).mono ?_
  rintro e w1 ⟨rfl, hk1⟩
  have hk1' := (Kp.alloc No w (.cells #[.int .u32 (cO s : Int), .int .u16 (cS s : Int), .int .u16 (cL s : Int), .int .u32 (cG s : Int)] 46)).trans' hk1
  have c0 := kp_cell h0 hk1'
  have hd1 := H.out.dk.no hk1'
  have hb1 := HB0.out.keep hk1 (fun f => f)
  go_wp2_with fail
  refine (pread_any hd1 (q : Int)).mono ?_
  rintro e w2 ⟨A2, n2, c2, rfl, ho2, hk2⟩
  rw [← HAT.out] at ho2
  have hl2 := hide ho2.len
  have hk2' := hk1'.trans' hk2
  have hb2 := hb1.keep hk2 (fun f => f)
  clear hd1 hb1 c0
  go_wp2_with fail
  refine (opened_any ho2.bts (own_cap ho2) (by have := hl2.out; have := HLEN.out; omega)).mono ?_
  rintro e w3 ⟨A3, n3, c3, rfl, ho3, hk3⟩
  have hk3' := hk2'.trans' hk3
  have hb3 := hb2.keep hk3 (fun f => f)
  rw [← HT.out]
  unfold shV
  clear ho2 hb2
  obtain ⟨er, her⟩ : ∃ er, er = rdE rb := ⟨_, rfl⟩
  rw [← her]
  have HER := hide her
  clear her
  have k4 := hk3'.trans' (Kp.alloc No w3 (.cells #[.int .u32 (cO t : Int), .int .u16 (cS t : Int), .int .u16 (cL t : Int), .int .u32 (cG t : Int)] 46))
  have hgE : E = if er = 0 then (if t = s then 0 else 21) else er := by
    rw [← HE.out]
    unfold Vt.gtE
    rw [if_pos HK.out, ← HRB.out, ← HER.out, ← HT.out]
  have e0 : er = 0 := by rw [HER.out, HRB.out]; exact e0'
  have ets : t = s := by rw [HT.out, HRB.out]; exact ets'
  clear e0' ets'
  subst e0
  rw [if_pos rfl] at hgE
  subst ets
  rw [if_pos rfl] at hgE
  subst hgE
  have hBB : B = rdB rb := by rw [← HB.out]; unfold Vt.gtB; rw [if_pos HE.out, ← HRB.out]
  have HBB := hide hBB
  have HO := hide ((ho3.no (Kp.alloc No w3 (.cells #[.int .u32 (cO t : Int), .int .u16 (cS t : Int), .int .u16 (cL t : Int), .int .u32 (cG t : Int)] 46))).rebase (b := w.heap.size) fun j hj => Nat.le_trans hk2'.size (ho3.ge j hj))
  have hb4 := hb3.keep (Kp.alloc No w3 (.cells #[.int .u32 (cO t : Int), .int .u16 (cS t : Int), .int .u16 (cL t : Int), .int .u32 (cG t : Int)] 46)) (fun f => f)
  have hn4 := Bx4.new w3 (.int .u32 (cO t : Int)) (.int .u16 (cS t : Int)) (.int .u16 (cL t : Int)) (.int .u32 (cG t : Int))
  obtain ⟨p0, p1, p2, p3⟩ := hb4.cell
  obtain ⟨q0, q1, q2, q3⟩ := hn4.cell
  have HK4 := hide k4
  clear hBB ho3 hb3 hb4 hn4 k4 hk3 hk3' hk2 hk2' hk1 hk1'
  go_wp2_with fail
  go_ret2
  exact ⟨A3, n3, c3, rfl, by rw [HBB.out]; exact HO.out, HK4.out⟩
end Go.Proofs.YtndghapdpfgmoaaGreat
namespace Go.Proofs.YtndghapdpfgmoaaGreat
open Go.RowKit
set_option linter.unusedVariables false
set_option linter.unusedSimpArgs false
set_option maxRecDepth 20000

set_option maxHeartbeats 1000000 in
theorem vget_other {w : World} {F : Nat → Prop} {g gd b s : Nat} {V : Vt} (h : VtR w F g gd b V) (hs : s < N96) (hk : kn V.L s = true) (e0' : rdE (V.at_ s) = 0) (ets' : rdS (V.at_ s) ≠ s) : Calls Tryz.prog 12 #[.pointer (some ⟨g, 0, none⟩), shV s] w (GetPost w (V.gtE s) (V.gtB s)) := by
  have hc := fun w' (hk : Kp No w w') => vcell_any (h.blk.no hk) (h.mp.no hk) hs
  have HC := hide hc
  clear hc
  have h0 := h.blk.c0
  have H := hide h
  generalize hE : V.gtE s = E
  generalize hB : V.gtB s = B
  have HE := hide hE
  have HB := hide hB
  clear hE hB h
  have hz := celZ_yes hk
  have HZ := hide hz
  have hin := hide (H.out.ok.cel_in hk)
  have HK := hide hk
  have hat : V.at_ s = V.D.rd ((cel V.L s : Nat) : Int) := rfl
  obtain ⟨q, hq⟩ : ∃ q, q = cel V.L s := ⟨_, rfl⟩
  rw [← hq] at hat hz
  have HQ := hide hq
  obtain ⟨rb, hrb⟩ : ∃ r, r = V.at_ s := ⟨_, rfl⟩
  rw [← hrb] at hat
  have HRB := hide hrb
  have HAT := hide hat
  have hcc := fun w' hk => hz ▸ HC.out w' hk
  have HCC := hide hcc
  have hlen : rb.length ≤ 4096 := by rw [hat]; exact Nat.le_trans (H.out.ok.dk.rd_le _) H.out.ok.dk.s1
  have HLEN := hide hlen
  clear hcc hat hrb hq hk hz hlen
  obtain ⟨t, ht⟩ : ∃ t, t = rdS rb := ⟨_, rfl⟩
  have HT := hide ht
  have hb0 := Bx4.new w (.int .u32 (cO s : Int)) (.int .u16 (cS s : Int)) (.int .u16 (cL s : Int)) (.int .u32 (cG s : Int))
  have HB0 := hide hb0
  clear ht hb0
  unfold shV
  go_enter Tryz.func12, Tryz.ntmps12
  go_wp2_with fail
  refine (HCC.out _ (Kp.alloc No w _)).mono ?_
  rintro e w1 ⟨rfl, hk1⟩
  have hk1' := (Kp.alloc No w (.cells #[.int .u32 (cO s : Int), .int .u16 (cS s : Int), .int .u16 (cL s : Int), .int .u32 (cG s : Int)] 46)).trans' hk1
  have c0 := kp_cell h0 hk1'
  have hd1 := H.out.dk.no hk1'
  have hb1 := HB0.out.keep hk1 (fun f => f)
  go_wp2_with fail
  refine (pread_any hd1 (q : Int)).mono ?_
  rintro e w2 ⟨A2, n2, c2, rfl, ho2, hk2⟩
  rw [← HAT.out] at ho2
  have hl2 := hide ho2.len
  have hk2' := hk1'.trans' hk2
  have hb2 := hb1.keep hk2 (fun f => f)
  clear hd1 hb1 c0
  go_wp2_with fail
  refine (opened_any ho2.bts (own_cap ho2) (by have := hl2.out; have := HLEN.out; omega)).mono ?_
  rintro e w3 ⟨A3, n3, c3, rfl, ho3, hk3⟩
  have hk3' := hk2'.trans' hk3
  have hb3 := hb2.keep hk3 (fun f => f)
  rw [← HT.out]
  unfold shV
  clear ho2 hb2
  obtain ⟨er, her⟩ : ∃ er, er = rdE rb := ⟨_, rfl⟩
  rw [← her]
  have HER := hide her
  clear her
  have k4 := hk3'.trans' (Kp.alloc No w3 (.cells #[.int .u32 (cO t : Int), .int .u16 (cS t : Int), .int .u16 (cL t : Int), .int .u32 (cG t : Int)] 46))
  have hgE : E = if er = 0 then (if t = s then 0 else 21) else er := by
    rw [← HE.out]
    unfold Vt.gtE
    rw [if_pos HK.out, ← HRB.out, ← HER.out, ← HT.out]
  have e0 : er = 0 := by rw [HER.out, HRB.out]; exact e0'
  have ets : ¬ t = s := by rw [HT.out, HRB.out]; exact ets'
  clear e0' ets'
  subst e0
  rw [if_pos rfl] at hgE
  rw [if_neg ets] at hgE
  subst hgE
  have e2 : B = [] := by rw [← HB.out]; exact Vt.gtB_err (by rw [HE.out]; omega)
  subst e2
  have hb4 := hb3.keep (Kp.alloc No w3 (.cells #[.int .u32 (cO t : Int), .int .u16 (cS t : Int), .int .u16 (cL t : Int), .int .u32 (cG t : Int)] 46)) (fun f => f)
  have hn4 := Bx4.new w3 (.int .u32 (cO t : Int)) (.int .u16 (cS t : Int)) (.int .u16 (cL t : Int)) (.int .u32 (cG t : Int))
  obtain ⟨p0, p1, p2, p3⟩ := hb4.cell
  obtain ⟨q0, q1, q2, q3⟩ := hn4.cell
  have HK4 := hide k4
  clear ho3 hb3 hb4 hn4 k4 hk3 hk3' hk2 hk2' hk1 hk1'
  have hts : (!(t == s)) = true := by simp [ets]
  have HTS := hide hts
  clear hts
  have hT := rdS_lt rb
  rw [← HT.out] at hT
  have HTL := hide hT
  have HSL := hide hs
  clear hT hs ets
  go_wp2_with (refine wpList_sneq (s := t) (t := s) rfl _ _ rfl rfl rfl HTL.out HSL.out true HTS.out ?_)
  go_ret2
  exact GetPost.err rfl HK4.out
set_option maxHeartbeats 1000000 in
theorem vget_err {w : World} {F : Nat → Prop} {g gd b s : Nat} {V : Vt} (h : VtR w F g gd b V) (hs : s < N96) (hk : kn V.L s = true) (e0' : rdE (V.at_ s) ≠ 0) : Calls Tryz.prog 12 #[.pointer (some ⟨g, 0, none⟩), shV s] w (GetPost w (V.gtE s) (V.gtB s)) := by
  have hc := fun w' (hk : Kp No w w') => vcell_any (h.blk.no hk) (h.mp.no hk) hs
  have HC := hide hc
  clear hc
  have h0 := h.blk.c0
  have H := hide h
  generalize hE : V.gtE s = E
  generalize hB : V.gtB s = B
  have HE := hide hE
  have HB := hide hB
  clear hE hB h
  have hz := celZ_yes hk
  have HZ := hide hz
  have hin := hide (H.out.ok.cel_in hk)
  have HK := hide hk
  have hat : V.at_ s = V.D.rd ((cel V.L s : Nat) : Int) := rfl
  obtain ⟨q, hq⟩ : ∃ q, q = cel V.L s := ⟨_, rfl⟩
  rw [← hq] at hat hz
  have HQ := hide hq
  obtain ⟨rb, hrb⟩ : ∃ r, r = V.at_ s := ⟨_, rfl⟩
  rw [← hrb] at hat
  have HRB := hide hrb
  have HAT := hide hat
  have hcc := fun w' hk => hz ▸ HC.out w' hk
  have HCC := hide hcc
  have hlen : rb.length ≤ 4096 := by rw [hat]; exact Nat.le_trans (H.out.ok.dk.rd_le _) H.out.ok.dk.s1
  have HLEN := hide hlen
  clear hcc hat hrb hq hk hz hlen
  obtain ⟨t, ht⟩ : ∃ t, t = rdS rb := ⟨_, rfl⟩
  have HT := hide ht
  have hb0 := Bx4.new w (.int .u32 (cO s : Int)) (.int .u16 (cS s : Int)) (.int .u16 (cL s : Int)) (.int .u32 (cG s : Int))
  have HB0 := hide hb0
  clear ht hb0
  unfold shV
  go_enter Tryz.func12, Tryz.ntmps12
  go_wp2_with fail
  refine (HCC.out _ (Kp.alloc No w _)).mono ?_
  rintro e w1 ⟨rfl, hk1⟩
  have hk1' := (Kp.alloc No w (.cells #[.int .u32 (cO s : Int), .int .u16 (cS s : Int), .int .u16 (cL s : Int), .int .u32 (cG s : Int)] 46)).trans' hk1
  have c0 := kp_cell h0 hk1'
  have hd1 := H.out.dk.no hk1'
  have hb1 := HB0.out.keep hk1 (fun f => f)
  go_wp2_with fail
  refine (pread_any hd1 (q : Int)).mono ?_
  rintro e w2 ⟨A2, n2, c2, rfl, ho2, hk2⟩
  rw [← HAT.out] at ho2
  have hl2 := hide ho2.len
  have hk2' := hk1'.trans' hk2
  have hb2 := hb1.keep hk2 (fun f => f)
  clear hd1 hb1 c0
  go_wp2_with fail
  refine (opened_any ho2.bts (own_cap ho2) (by have := hl2.out; have := HLEN.out; omega)).mono ?_
  rintro e w3 ⟨A3, n3, c3, rfl, ho3, hk3⟩
  have hk3' := hk2'.trans' hk3
  have hb3 := hb2.keep hk3 (fun f => f)
  rw [← HT.out]
  unfold shV
  clear ho2 hb2
  obtain ⟨er, her⟩ : ∃ er, er = rdE rb := ⟨_, rfl⟩
  rw [← her]
  have HER := hide her
  clear her
  have k4 := hk3'.trans' (Kp.alloc No w3 (.cells #[.int .u32 (cO t : Int), .int .u16 (cS t : Int), .int .u16 (cL t : Int), .int .u32 (cG t : Int)] 46))
  have hgE : E = if er = 0 then (if t = s then 0 else 21) else er := by
    rw [← HE.out]
    unfold Vt.gtE
    rw [if_pos HK.out, ← HRB.out, ← HER.out, ← HT.out]
  have e0 : ¬ er = 0 := by rw [HER.out, HRB.out]; exact e0'
  clear e0'
  rw [if_neg e0] at hgE
  subst hgE
  have e2 : B = [] := by rw [← HB.out]; exact Vt.gtB_err (by rw [HE.out]; exact e0)
  subst e2
  have hne : ((E : Int) != 0) = true := by simp; omega
  have HK4 := hide k4
  clear ho3 hb3 k4 hk3 hk3' hk2 hk2' hk1 hk1'
  go_wp2_with fail
  go_ret2
  exact GetPost.err rfl HK4.out
end Go.Proofs.YtndghapdpfgmoaaGreat
namespace Go.Proofs.YtndghapdpfgmoaaGreat
open Go.RowKit
set_option linter.unusedVariables false
set_option linter.unusedSimpArgs false
set_option maxRecDepth 20000

theorem vget_any {w : World} {F : Nat → Prop} {g gd b s : Nat} {V : Vt} (h : VtR w F g gd b V) (hs : s < N96) : Calls Tryz.prog 12 #[.pointer (some ⟨g, 0, none⟩), shV s] w (GetPost w (V.gtE s) (V.gtB s)) := by
  rcases hk : kn V.L s with _ | _
  · exact vget_no h hs hk
  · by_cases e0 : rdE (V.at_ s) = 0
    · by_cases e1 : rdS (V.at_ s) = s
      · exact vget_same h hs hk e0 e1
      · exact vget_other h hs hk e0 e1
    · exact vget_err h hs hk e0
end Go.Proofs.YtndghapdpfgmoaaGreat
namespace Go.Proofs.YtndghapdpfgmoaaGreat
open Go.RowKit
set_option linter.unusedVariables false
set_option linter.unusedSimpArgs false
set_option maxRecDepth 20000

theorem get_none {w : World} {p : Value} {s : Nat} (hc : ∀ w', Kp No w w' → Calls Tryz.prog 14 #[p, shV s] w' (CelPost w' (-1))) : Calls Tryz.prog 12 #[p, shV s] w (GetPost w 6 []) := by
  have HC := hide hc
  clear hc
  unfold shV at HC ⊢
  generalize cO s = o0 at HC ⊢
  generalize cS s = o1 at HC ⊢
  generalize cL s = o2 at HC ⊢
  generalize cG s = o3 at HC ⊢
  go_enter Tryz.func12, Tryz.ntmps12
  go_wp2_with fail
  refine (HC.out _ (Kp.alloc No w _)).mono ?_
  rintro e w1 ⟨rfl, hk⟩
  go_wp2_with fail
  go_ret2
  exact GetPost.err rfl ((Kp.alloc No w _).trans' hk)
def ThreePost (w : World) (e : Ending) (w1 : World) : Prop := e = .returned (.int .i64 3) ∧ Kp No w w1
theorem begin_none {w : World} {p : Value} {s : Nat} (hm : ∀ w', Kp No w w' → Calls Tryz.prog 49 #[p] w' fun e w1 => e = .returned (.bool false) ∧ w' = w1) : Calls Tryz.prog 25 #[p, shV s, .slice none 0 0] w (ThreePost w) := by
  have HM := hide hm
  clear hm
  unfold shV
  generalize cO s = o0 at ⊢
  generalize cS s = o1 at ⊢
  generalize cL s = o2 at ⊢
  generalize cG s = o3 at ⊢
  go_enter Tryz.func25, Tryz.ntmps25
  go_wp2_with fail
  refine (HM.out _ (Kp.alloc No w _)).mono ?_
  rintro e w' ⟨rfl, rfl⟩
  go_wp2_with fail
  go_ret
  exact ⟨rfl, (Kp.alloc No w _)⟩
theorem drop_none {w : World} {p : Value} {s : Nat} (hm : ∀ w', Kp No w w' → Calls Tryz.prog 49 #[p] w' fun e w1 => e = .returned (.bool false) ∧ w' = w1) : Calls Tryz.prog 27 #[p, shV s] w (ThreePost w) := by
  have HM := hide hm
  clear hm
  unfold shV
  generalize cO s = o0 at ⊢
  generalize cS s = o1 at ⊢
  generalize cL s = o2 at ⊢
  generalize cG s = o3 at ⊢
  go_enter Tryz.func27, Tryz.ntmps27
  go_wp2_with fail
  refine (HM.out _ (Kp.alloc No w _)).mono ?_
  rintro e w' ⟨rfl, rfl⟩
  go_wp2_with fail
  go_ret
  exact ⟨rfl, (Kp.alloc No w _)⟩
theorem put_none {w : World} {p : Value} {s : Nat} (hm : ∀ w', Kp No w w' → Calls Tryz.prog 49 #[p] w' fun e w1 => e = .returned (.bool false) ∧ w' = w1) : Calls Tryz.prog 16 #[p, shV s, .slice none 0 0] w (ThreePost w) := by
  have hb := fun w' (hk : Kp No w w') => begin_none (w := w') (p := p) (s := s) (fun w'' hk' => hm w'' (hk.trans' hk'))
  have HB := hide hb
  clear hm hb
  unfold shV at HB ⊢
  generalize cO s = o0 at HB ⊢
  generalize cS s = o1 at HB ⊢
  generalize cL s = o2 at HB ⊢
  generalize cG s = o3 at HB ⊢
  go_enter Tryz.func16, Tryz.ntmps16
  go_wp2_with fail
  refine (HB.out _ (Kp.alloc No w _)).mono ?_
  rintro e w1 ⟨rfl, hk⟩
  go_wp2_with fail
  go_ret
  exact ⟨rfl, (Kp.alloc No w _).trans' hk⟩
theorem vlist_nil (w : World) : Calls Tryz.prog 37 #[.pointer none] w fun e w1 => e = .returned (.slice none 0 0) ∧ w = w1 := by
  go_enter Tryz.func37, Tryz.ntmps37
  go_wp2_with fail
  go_ret
  exact ⟨rfl, rfl⟩
/-- The chapter's example: its name, its bytes, its vaults. -/
abbrev awS : Nat := 18446744073709551616
def awB : List UInt8 := [97, 98, 99]
def aw0 : Vt := Vt.opened (Dk.new 3 99)
def aw1 : Vt := aw0.pt awS awB
def aw2 : Dk := aw1.D.spoil 0 25 1
theorem aw_put : aw0.bgE awS awB = 0 := by decide +kernel
theorem aw_spoil : aw1.D.spoilE 0 25 = 0 := by decide +kernel
theorem aw_get : (Vt.mk aw2 aw1.L).gtE awS = 22 := by decide +kernel
theorem aw_open : (Vt.opened aw2).L.length = 0 := by decide +kernel
theorem aw_loose : aw0.D.loose.length = 0 := by decide +kernel
theorem aw_syncs : aw0.D.syncs = 0 := by decide +kernel
theorem aw_cells : aw0.D.cells.length = 3 := by decide +kernel
theorem spoil_n (D : Dk) (z a : Int) (x : UInt8) : (D.spoil z a x).cells.length = D.cells.length := by
  unfold Dk.spoil
  split
  · simp
  · rfl
theorem aw_name : shV awS = .agg #[.int .u32 1, .int .u16 0, .int .u16 0, .int .u32 0] := by
  have e0 : cO awS = 1 := by decide +kernel
  have e1 : cS awS = 0 := by decide +kernel
  have e2 : cL awS = 0 := by decide +kernel
  have e3 : cG awS = 0 := by decide +kernel
  unfold shV
  rw [e0, e1, e2, e3]
  rfl
theorem VtR.lt {w : World} {F : Nat → Prop} {g gd b : Nat} {V : Vt} (h : VtR w F g gd b V) : VtR w (fun k => F k ∧ k < w.heap.size) g gd b V :=
  ⟨h.blk, h.dk.lt.mono fun k hk => ⟨⟨hk.1.1, hk.2⟩, hk.1.2⟩, h.mp, ⟨h.fg, h.blk.lt⟩, ⟨h.fb, h.mp.lt⟩, h.ok⟩
theorem Kp.own {w w1 w2 : World} {F : Nat → Prop} (h : Kp No w w1) (k : Kp F w1 w2) (hF : ∀ q, F q → w.heap.size ≤ q) : Kp No w w2 := h.trans (k.mono fun q hq => .inr (hF q hq))
set_option maxHeartbeats 2000000 in
theorem awake12_any (w : World) : Calls Tryz.prog 4 #[] w (TruePost w) := by
  have kc := fun (w : World) (C : Array Value) (n c : Nat) => Lib.run_convert_bytes_const (P := Tryz.prog) w 47 5 C n c Tryz.underlying47 Tryz.underlying5
  have H1 := hide aw_put
  have H2 := hide aw_spoil
  have H3 := hide aw_get
  have H4 := hide aw_open
  have HN := hide aw_name
  go_enter Tryz.func4, Tryz.ntmps4
  go_wp2_with fail
  refine (pnew_yes w 3 99 (by omega) (by omega) (by omega) (by omega)).mono ?_
  rintro e w1 ⟨gd, rfl, hg, hD1, k1⟩
  go_wp2_with fail
  refine (vopen_any (F := Fr w.heap.size) hD1).mono ?_
  rintro e w2 ⟨g, b, rfl, hg2, hb2, h2, k2⟩
  have K2 := k1.trans' k2
  have hz1 := k1.size
  have h2' : VtR w2 (fun k => Fr w.heap.size k ∧ k < w2.heap.size) g gd b aw0 := h2.lt.mono fun k hk => ⟨hk.1.elim id (fun a => Nat.le_trans hz1 a), hk.2⟩
  clear h2 k1 k2 hD1
  have HR2 := hide h2'
  have HK2 := hide K2
  clear h2' K2
  have ka := Kp.alloc No w2 (.cells #[.int .u32 1, .int .u16 0, .int .u16 0, .int .u32 0] 46)
  have kb := Kp.alloc No (w2.alloc (.cells #[.int .u32 1, .int .u16 0, .int .u16 0, .int .u32 0] 46)) (.cells (awB.map bv).toArray 5 (3, 4))
  have hb := bts_row (w2.alloc (.cells #[.int .u32 1, .int .u16 0, .int .u16 0, .int .u32 0] 46)) awB 3 (3, 4) rfl
  rw [World.size_alloc] at hb
  have hput := vput_any (s := awS) (bs := awB) ((HR2.out.no ka).no kb) (by decide) hb (by decide) (by rw [aw_cells]; omega) (by rw [aw_loose]; omega) (by rw [aw_syncs]; omega)
  rw [H1.out, HN.out] at hput
  have hbx := ((Bx4.new w2 (.int .u32 1) (.int .u16 0) (.int .u16 0) (.int .u32 0)).keep kb (fun f => f))
  have HBX := hide hbx
  have HPT := hide hput
  have HKA := hide (HK2.out.trans' (ka.trans' kb))
  have z2 := HK2.out.size
  have z3 : ((w2.alloc (.cells #[.int .u32 1, .int .u16 0, .int .u16 0, .int .u32 0] 46)).alloc (.cells (awB.map bv).toArray 5 (3, 4))).heap.size = w2.heap.size + 2 := by simp
  have HZ3 := hide z3
  have kc2 := kc (w2.alloc (.cells #[.int .u32 1, .int .u16 0, .int .u16 0, .int .u32 0] 46)) #[.int .u8 97, .int .u8 98, .int .u8 99] 3 3
  rw [World.size_alloc] at kc2
  clear ka kb hb hput hbx z3
  go_wp2_with fail
  refine HPT.out.mono ?_
  rintro e w3 ⟨rfl, ⟨b3, h3⟩, k3⟩
  have HNB : Hid (¬ (fun k => Fr w.heap.size k ∧ k < w2.heap.size) w2.heap.size) := hide fun f => Nat.lt_irrefl _ f.2
  have hbx := HBX.out.keep k3 HNB.out
  have K3 : Kp No w w3 := HKA.out.own k3 fun q hq => hq.1
  have hs3 := k3.size
  rw [HZ3.out] at hs3
  have h3' : VtR w3 (fun k => (w.heap.size ≤ k ∧ k ≠ w2.heap.size)) g gd b3 aw1 := h3.mono fun k hk => by
    rcases hk with hk | hk
    · have h1 := hk.1
      have h2 := hk.2
      exact ⟨h1, by omega⟩
    · rw [HZ3.out] at hk
      exact ⟨by omega, by omega⟩
  clear h3 k3
  have HR3 := hide h3'
  have HK3 := hide K3
  have HB3 := hide hbx
  clear h3' K3 hbx
  go_wp2_with fail
  refine (pspoil_any HR3.out.dk 0 25 1).mono ?_
  rintro e w4 ⟨rfl, hd4, k4⟩
  rw [H2.out]
  have h4 : VtR w4 (Up (fun k => (w.heap.size ≤ k ∧ k ≠ w2.heap.size)) w3) g gd b3 ⟨aw2, aw1.L⟩ := HR3.out.disk (spoil_n _ _ _ _) hd4 k4
  have hb4 := HB3.out.keep k4 (fun f => f.1.2 rfl)
  have K4 : Kp No w w4 := HK3.out.own k4 fun q hq => hq.1.1
  have HR4 := hide h4
  have HK4 := hide K4
  obtain ⟨p0, p1, p2, p3⟩ := hb4.cell
  have hget := vget_any h4 (s := awS) (by decide)
  rw [H3.out, HN.out] at hget
  have HG := hide hget
  clear h4 hb4 K4 k4 hd4 hget
  go_wp2_with fail
  refine HG.out.mono ?_
  rintro e w5 ⟨A5, n5, c5, rfl, ho5, k5⟩
  have hd5 := HR4.out.dk.no k5
  have HK5 := hide (HK4.out.trans' k5)
  clear p0 p1 p2 p3 ho5 k5
  go_wp2_with fail
  refine (vopen_any hd5).mono ?_
  rintro e w6 ⟨g6, b6, rfl, hg6, hb6, h6, k6⟩
  have hlen := vlen_any h6.blk h6.mp
  rw [H4.out] at hlen
  have HK6 := hide (HK5.out.trans' k6)
  clear hd5 h6 k6
  go_wp2_with fail
  refine hlen.mono ?_
  rintro e w7 ⟨rfl, rfl⟩
  go_wp2_with fail
  go_ret
  exact ⟨rfl, HK6.out⟩
end Go.Proofs.YtndghapdpfgmoaaGreat
