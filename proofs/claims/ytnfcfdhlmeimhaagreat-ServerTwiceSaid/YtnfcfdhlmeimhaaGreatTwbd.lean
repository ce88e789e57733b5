/- Package vault's Get: unknown, and whole; Package vault's Get: another name's, and spoilt; Package vault's Get, as a contract over memory; Package vault where nobody made the vault: contracts; the chapter's example. -/
import Derived.Test.YtnfcfdhlmeimhaaGreatTwar
import Derived.Test.YtnfcfdhlmeimhaaGreatTwbc
import Derived.Test.YtnfcfdhlmeimhaaGreatTway
import Derived.Lib.SlBytesConst
namespace Go.Proofs.YtnfcfdhlmeimhaaGreat
open Go.RowKit
set_option linter.unusedVariables false
set_option linter.unusedSimpArgs false
set_option maxRecDepth 20000

set_option maxHeartbeats 1000000 in
theorem vget_no {w : World} {F : Nat → Prop} {g gd b s : Nat} {V : Vt} (h : VtR w F g gd b V) (hs : s < N96) (hk : kn V.L s = false) : Calls Tryz.prog 51 #[.pointer (some ⟨g, 0, none⟩), shV s] w (GetPost w (V.gtE s) (V.gtB s)) := by
  have hc := fun w' (hk : Kp No w w') => vcell_any (h.blk.no hk) (h.mp.no hk) hs
  have HC := hide hc
  clear hc
  have h0 := h.blk.c0
  have H := hide h
  generalize hE : V.gtE s = E
  generalize hB : V.gtB s = B
  have HE := hide hE
  have HB := hide hB
  clear hE hB h
  have hz := celZ_no hk
  have HZ := hide hz
  have e1 : E = 6 := by rw [← HE.out]; unfold Vt.gtE; rw [if_neg (by rw [hk]; simp)]
  have e2 : B = [] := by rw [← HB.out]; exact Vt.gtB_err (by rw [HE.out, e1]; omega)
  subst e1
  subst e2
  clear HE HB hk hz
  have hcc := fun w' hk => HZ.out ▸ HC.out w' hk
  have HCC := hide hcc
  clear hcc
  go_enter Tryz.func51, Tryz.ntmps51
  go_wp2_with fail
  refine (HCC.out _ (Kp.alloc No w _)).mono ?_
  rintro e w1 ⟨rfl, hk1⟩
  go_wp2_with fail
  go_ret2
  exact GetPost.err rfl ((Kp.alloc No w _).trans' hk1)
set_option maxHeartbeats 1000000 in
theorem vget_same {w : World} {F : Nat → Prop} {g gd b s : Nat} {V : Vt} (h : VtR w F g gd b V) (hs : s < N96) (hk : kn V.L s = true) (e0' : rdE (V.at_ s) = 0) (ets' : rdS (V.at_ s) = s) : Calls Tryz.prog 51 #[.pointer (some ⟨g, 0, none⟩), shV s] w (GetPost w (V.gtE s) (V.gtB s)) := by
  have hc := fun w' (hk : Kp No w w') => vcell_any (h.blk.no hk) (h.mp.no hk) hs
  have HC := hide hc
  clear hc
  have h0 := h.blk.c0
  have H := hide h
  generalize hE : V.gtE s = E
  generalize hB : V.gtB s = B
  have HE := hide hE
  have HB := hide hB
  clear hE hB h
  have hz := celZ_yes hk
  have HZ := hide hz
  have hin := hide (H.out.ok.cel_in hk)
  have HK := hide hk
  have hat : V.at_ s = V.D.rd ((cel V.L s : Nat) : Int) := rfl
  obtain ⟨q, hq⟩ : ∃ q, q = cel V.L s := ⟨_, rfl⟩
  rw [← hq] at hat hz
  have HQ := hide hq
  obtain ⟨rb, hrb⟩ : ∃ r, r = V.at_ s := ⟨_, rfl⟩
  rw [← hrb] at hat
  have HRB := hide hrb
  have HAT := hide hat
  have hcc := fun w' hk => hz ▸ HC.out w' hk
  have HCC := hide hcc
  have hlen : rb.length ≤ 4096 := by rw [hat]; exact Nat.le_trans (H.out.ok.dk.rd_le _) H.out.ok.dk.s1
  have HLEN := hide hlen
  clear hcc hat hrb hq hk hz hlen
  obtain ⟨t, ht⟩ : ∃ t, t = rdS rb := ⟨_, rfl⟩
  have HT := hide ht
  have hb0 := Bx4.new w (.int .u32 (cO s : Int)) (.int .u16 (cS s : Int)) (.int .u16 (cL s : Int)) (.int .u32 (cG s : Int))
  have HB0 := hide hb0
  clear ht hb0
  unfold shV
  go_enter Tryz.func51, Tryz.ntmps51
  go_wp2_with fail
  refine (HCC.out _ (Kp.alloc No w _)).mono ?_
  rintro e w1 ⟨rfl, hk1⟩
  have hk1' := (Kp.alloc No w (.cells #[.int .u32 (cO s : Int), .int .u16 (cS s : Int), .int .u16 (cL s : Int), .int .u32 (cG s : Int)] 53)).trans' hk1
  have c0 := kp_cell h0 hk1'
  have hd1 := H.out.dk.no hk1'
  have hb1 := HB0.out.keep hk1 (fun f => f)
  go_wp2_with fail
  refine (pread_any hd1 (q : Int)).mono ?_
  rintro e w2 ⟨A2, n2, c2, rfl, ho2, hk2⟩
  rw [← HAT.out] at ho2
  have hl2 := hide ho2.len
  have hk2' := hk1'.trans' hk2
  have hb2 := hb1.keep hk2 (fun f => f)
  clear hd1 hb1 c0
  go_wp2_with fail
  refine (opened_any ho2.bts (own_cap ho2) (by have := hl2.out; have := HLEN.out; omega)).mono ?_
  rintro e w3 ⟨A3, n3, c3, rfl, ho3, hk3⟩
  have hk3' := hk2'.trans' hk3
  have hb3 := hb2.keep hk3 (fun f => f)
  rw [← HT.out]
  unfold shV
  clear ho2 hb2
  obtain ⟨er, her⟩ : ∃ er, er = rdE rb := ⟨_, rfl⟩
  rw [← her]
  have HER := hide her
  clear her
  have k4 := hk3'.trans' (Kp.alloc No w3 (.cells #[.int .u32 (cO t : Int), .int .u16 (cS t : Int), .int .u16 (cL t : Int), .int .u32 (cG t : Int)] 53))
  have hgE : E = if er = 0 then (if t = s then 0 else 21) else er := by
    rw [← HE.out]
    unfold Vt.gtE
    rw [if_pos HK.out, ← HRB.out, ← HER.out, ← HT.out]
  have e0 : er = 0 := by rw [HER.out, HRB.out]; exact e0'
  have ets : t = s := by rw [HT.out, HRB.out]; exact ets'
  clear e0' ets'
  subst e0
  rw [if_pos rfl] at hgE
  subst ets
  rw [if_pos rfl] at hgE
  subst hgE
  have hBB : B = rdB rb := by rw [← HB.out]; unfold Vt.gtB; rw [if_pos HE.out, ← HRB.out]
  have HBB := hide hBB
  have HO := hide ((ho3.no (Kp.alloc No w3 (.cells #[.int .u32 (cO t : Int), .int .u16 (cS t : Int), .int .u16 (cL t : Int), .int .u32 (cG t : Int)] 53))).rebase (b := w.heap.size) fun j hj => Nat.le_trans hk2'.size (ho3.ge j hj))
  have hb4 := hb3.keep (Kp.alloc No w3 (.cells #[.int .u32 (cO t : Int), .int .u16 (cS t : Int), .int .u16 (cL t : Int), .int .u32 (cG t : Int)] 53)) (fun f => f)
  have hn4 := Bx4.new w3 (.int .u32 (cO t : Int)) (.int .u16 (cS t : Int)) (.int .u16 (cL t : Int)) (.int .u32 (cG t : Int))
  obtain ⟨p0, p1, p2, p3⟩ := hb4.cell
  obtain ⟨q0, q1, q2, q3⟩ := hn4.cell
  have HK4 := hide k4
  clear hBB ho3 hb3 hb4 hn4 k4 hk3 hk3' hk2 hk2' hk1 hk1'
  go_wp2_with fail
  go_ret2
  exact ⟨A3, n3, c3, rfl, by rw [HBB.out]; exact HO.out, HK4.out⟩
end Go.Proofs.YtnfcfdhlmeimhaaGreat
namespace Go.Proofs.YtnfcfdhlmeimhaaGreat
open Go.RowKit
set_option linter.unusedVariables false
set_option linter.unusedSimpArgs false
set_option maxRecDepth 20000

set_option maxHeartbeats 1000000 in
theorem vget_other {w : World} {F : Nat → Prop} {g gd b s : Nat} {V : Vt} (h : VtR w F g gd b V) (hs : s < N96) (hk : kn V.L s = true) (e0' : rdE (V.at_ s) = 0) (ets' : rdS (V.at_ s) ≠ s) : Calls Tryz.prog 51 #[.pointer (some ⟨g, 0, none⟩), shV s] w (GetPost w (V.gtE s) (V.gtB s)) := by
  have hc := fun w' (hk : Kp No w w') => vcell_any (h.blk.no hk) (h.mp.no hk) hs
  have HC := hide hc
  clear hc
  have h0 := h.blk.c0
  have H := hide h
  generalize hE : V.gtE s = E
  generalize hB : V.gtB s = B
  have HE := hide hE
  have HB := hide hB
  clear hE hB h
  have hz := celZ_yes hk
  have HZ := hide hz
  have hin := hide (H.out.ok.cel_in hk)
  have HK := hide hk
  have hat : V.at_ s = V.D.rd ((cel V.L s : Nat) : Int) := rfl
  obtain ⟨q, hq⟩ : ∃ q, q = cel V.L s := ⟨_, rfl⟩
  rw [← hq] at hat hz
  have HQ := hide hq
  obtain ⟨rb, hrb⟩ : ∃ r, r = V.at_ s := ⟨_, rfl⟩
  rw [← hrb] at hat
  have HRB := hide hrb
  have HAT := hide hat
  have hcc := fun w' hk => hz ▸ HC.out w' hk
  have HCC := hide hcc
  have hlen : rb.length ≤ 4096 := by rw [hat]; exact Nat.le_trans (H.out.ok.dk.rd_le _) H.out.ok.dk.s1
  have HLEN := hide hlen
  clear hcc hat hrb hq hk hz hlen
  obtain ⟨t, ht⟩ : ∃ t, t = rdS rb := ⟨_, rfl⟩
  have HT := hide ht
  have hb0 := Bx4.new w (.int .u32 (cO s : Int)) (.int .u16 (cS s : Int)) (.int .u16 (cL s : Int)) (.int .u32 (cG s : Int))
  have HB0 := hide hb0
  clear ht hb0
  unfold shV
  go_enter Tryz.func51, Tryz.ntmps51
  go_wp2_with fail
  refine (HCC.out _ (Kp.alloc No w _)).mono ?_
  rintro e w1 ⟨rfl, hk1⟩
  have hk1' := (Kp.alloc No w (.cells #[.int .u32 (cO s : Int), .int .u16 (cS s : Int), .int .u16 (cL s : Int), .int .u32 (cG s : Int)] 53)).trans' hk1
  have c0 := kp_cell h0 hk1'
  have hd1 := H.out.dk.no hk1'
  have hb1 := HB0.out.keep hk1 (fun f => f)
  go_wp2_with fail
  refine (pread_any hd1 (q : Int)).mono ?_
  rintro e w2 ⟨A2, n2, c2, rfl, ho2, hk2⟩
  rw [← HAT.out] at ho2
  have hl2 := hide ho2.len
  have hk2' := hk1'.trans' hk2
  have hb2 := hb1.keep hk2 (fun f => f)
  clear hd1 hb1 c0
  go_wp2_with fail
  refine (opened_any ho2.bts (own_cap ho2) (by have := hl2.out; have := HLEN.out; omega)).mono ?_
  rintro e w3 ⟨A3, n3, c3, rfl, ho3, hk3⟩
  have hk3' := hk2'.trans' hk3
  have hb3 := hb2.keep hk3 (fun f => f)
  rw [← HT.out]
  unfold shV
  clear ho2 hb2
  obtain ⟨er, her⟩ : ∃ er, er = rdE rb := ⟨_, rfl⟩
  rw [← her]
  have HER := hide her
  clear her
  have k4 := hk3'.trans' (Kp.alloc No w3 (.cells #[.int .u32 (cO t : Int), .int .u16 (cS t : Int), .int .u16 (cL t : Int), .int .u32 (cG t : Int)] 53))
  have hgE : E = if er = 0 then (if t = s then 0 else 21) else er := by
    rw [← HE.out]
    unfold Vt.gtE
    rw [if_pos HK.out, ← HRB.out, ← HER.out, ← HT.out]
  have e0 : er = 0 := by rw [HER.out, HRB.out]; exact e0'
  have ets : ¬ t = s := by rw [HT.out, HRB.out]; exact ets'
  clear e0' ets'
  subst e0
  rw [if_pos rfl] at hgE
  rw [if_neg ets] at hgE
  subst hgE
  have e2 : B = [] := by rw [← HB.out]; exact Vt.gtB_err (by rw [HE.out]; omega)
  subst e2
  have hb4 := hb3.keep (Kp.alloc No w3 (.cells #[.int .u32 (cO t : Int), .int .u16 (cS t : Int), .int .u16 (cL t : Int), .int .u32 (cG t : Int)] 53)) (fun f => f)
  have hn4 := Bx4.new w3 (.int .u32 (cO t : Int)) (.int .u16 (cS t : Int)) (.int .u16 (cL t : Int)) (.int .u32 (cG t : Int))
  obtain ⟨p0, p1, p2, p3⟩ := hb4.cell
  obtain ⟨q0, q1, q2, q3⟩ := hn4.cell
  have HK4 := hide k4
  clear ho3 hb3 hb4 hn4 k4 hk3 hk3' hk2 hk2' hk1 hk1'
  have hts : (!(t == s)) = true := by simp [ets]
  have HTS := hide hts
  clear hts
  have hT := rdS_lt rb
  rw [← HT.out] at hT
  have HTL := hide hT
  have HSL := hide hs
  clear hT hs ets
  go_wp2_with (refine wpList_sneq (s := t) (t := s) rfl _ _ rfl rfl rfl HTL.out HSL.out true HTS.out ?_)
  go_ret2
  exact GetPost.err rfl HK4.out
set_option maxHeartbeats 1000000 in
theorem vget_err {w : World} {F : Nat → Prop} {g gd b s : Nat} {V : Vt} (h : VtR w F g gd b V) (hs : s < N96) (hk : kn V.L s = true) (e0' : rdE (V.at_ s) ≠ 0) : Calls Tryz.prog 51 #[.pointer (some ⟨g, 0, none⟩), shV s] w (GetPost w (V.gtE s) (V.gtB s)) := by
  have hc := fun w' (hk : Kp No w w') => vcell_any (h.blk.no hk) (h.mp.no hk) hs
  have HC := hide hc
  clear hc
  have h0 := h.blk.c0
  have H := hide h
  generalize hE : V.gtE s = E
  generalize hB : V.gtB s = B
  have HE := hide hE
  have HB := hide hB
  clear hE hB h
  have hz := celZ_yes hk
  have HZ := hide hz
  have hin := hide (H.out.ok.cel_in hk)
  have HK := hide hk
  have hat : V.at_ s = V.D.rd ((cel V.L s : Nat) : Int) := rfl
  obtain ⟨q, hq⟩ : ∃ q, q = cel V.L s := ⟨_, rfl⟩
  rw [← hq] at hat hz
  have HQ := hide hq
  obtain ⟨rb, hrb⟩ : ∃ r, r = V.at_ s := ⟨_, rfl⟩
  rw [← hrb] at hat
  have HRB := hide hrb
  have HAT := hide hat
  have hcc := fun w' hk => hz ▸ HC.out w' hk
  have HCC := hide hcc
  have hlen : rb.length ≤ 4096 := by rw [hat]; exact Nat.le_trans (H.out.ok.dk.rd_le _) H.out.ok.dk.s1
  have HLEN := hide hlen
  clear hcc hat hrb hq hk hz hlen
  obtain ⟨t, ht⟩ : ∃ t, t = rdS rb := ⟨_, rfl⟩
  have HT := hide ht
  have hb0 := Bx4.new w (.int .u32 (cO s : Int)) (.int .u16 (cS s : Int)) (.int .u16 (cL s : Int)) (.int .u32 (cG s : Int))
  have HB0 := hide hb0
  clear ht hb0
  unfold shV
  go_enter Tryz.func51, Tryz.ntmps51
  go_wp2_with fail
  refine (HCC.out _ (Kp.alloc No w _)).mono ?_
  rintro e w1 ⟨rfl, hk1⟩
  have hk1' := (Kp.alloc No w (.cells #[.int .u32 (cO s : Int), .int .u16 (cS s : Int), .int .u16 (cL s : Int), .int .u32 (cG s : Int)] 53)).trans' hk1
  have c0 := kp_cell h0 hk1'
  have hd1 := H.out.dk.no hk1'
  have hb1 := HB0.out.keep hk1 (fun f => f)
  go_wp2_with fail
  refine (pread_any hd1 (q : Int)).mono ?_
  rintro e w2 ⟨A2, n2, c2, rfl, ho2, hk2⟩
  rw [← HAT.out] at ho2
  have hl2 := hide ho2.len
  have hk2' := hk1'.trans' hk2
  have hb2 := hb1.keep hk2 (fun f => f)
  clear hd1 hb1 c0
  go_wp2_with fail
  refine (opened_any ho2.bts (own_cap ho2) (by have := hl2.out; have := HLEN.out; omega)).mono ?_
  rintro e w3 ⟨A3, n3, c3, rfl, ho3, hk3⟩
  have hk3' := hk2'.trans' hk3
  have hb3 := hb2.keep hk3 (fun f => f)
  rw [← HT.out]
  unfold shV
  clear ho2 hb2
  obtain ⟨er, her⟩ : ∃ er, er = rdE rb := ⟨_, rfl⟩
  rw [← her]
  have HER := hide her
  clear her
  have k4 := hk3'.trans' (Kp.alloc No w3 (.cells #[.int .u32 (cO t : Int), .int .u16 (cS t : Int), .int .u16 (cL t : Int), .int .u32 (cG t : Int)] 53))
  have hgE : E = if er = 0 then (if t = s then 0 else 21) else er := by
    rw [← HE.out]
    unfold Vt.gtE
    rw [if_pos HK.out, ← HRB.out, ← HER.out, ← HT.out]
  have e0 : ¬ er = 0 := by rw [HER.out, HRB.out]; exact e0'
  clear e0'
  rw [if_neg e0] at hgE
  subst hgE
  have e2 : B = [] := by rw [← HB.out]; exact Vt.gtB_err (by rw [HE.out]; exact e0)
  subst e2
  have hne : ((E : Int) != 0) = true := by simp; omega
  have HK4 := hide k4
  clear ho3 hb3 k4 hk3 hk3' hk2 hk2' hk1 hk1'
  go_wp2_with fail
  go_ret2
  exact GetPost.err rfl HK4.out
end Go.Proofs.YtnfcfdhlmeimhaaGreat
namespace Go.Proofs.YtnfcfdhlmeimhaaGreat
open Go.RowKit
set_option linter.unusedVariables false
set_option linter.unusedSimpArgs false
set_option maxRecDepth 20000

theorem vget_any {w : World} {F : Nat → Prop} {g gd b s : Nat} {V : Vt} (h : VtR w F g gd b V) (hs : s < N96) : Calls Tryz.prog 51 #[.pointer (some ⟨g, 0, none⟩), shV s] w (GetPost w (V.gtE s) (V.gtB s)) := by
  rcases hk : kn V.L s with _ | _
  · exact vget_no h hs hk
  · by_cases e0 : rdE (V.at_ s) = 0
    · by_cases e1 : rdS (V.at_ s) = s
      · exact vget_same h hs hk e0 e1
      · exact vget_other h hs hk e0 e1
    · exact vget_err h hs hk e0
end Go.Proofs.YtnfcfdhlmeimhaaGreat
namespace Go.Proofs.YtnfcfdhlmeimhaaGreat
open Go.RowKit
set_option linter.unusedVariables false
set_option linter.unusedSimpArgs false
set_option maxRecDepth 20000

theorem VtR.lt {w : World} {F : Nat → Prop} {g gd b : Nat} {V : Vt} (h : VtR w F g gd b V) : VtR w (fun k => F k ∧ k < w.heap.size) g gd b V :=
  ⟨h.blk, h.dk.lt.mono fun k hk => ⟨⟨hk.1.1, hk.2⟩, hk.1.2⟩, h.mp, ⟨h.fg, h.blk.lt⟩, ⟨h.fb, h.mp.lt⟩, h.ok⟩
end Go.Proofs.YtnfcfdhlmeimhaaGreat
