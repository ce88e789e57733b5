/- The document's Same; law 14's records and awake, each as a contract over memory. No condition. -/
import Derived.Test.YtikegnhjnbjclaaDye
import Derived.Test.YtikegnhjnbjclaaRw
import Derived.Lib.SlBytesConst
namespace Go.Proofs.Ytikegnhjnbjclaa
open Go.RowKit
set_option linter.unusedVariables false
set_option maxRecDepth 20000
set_option linter.unusedSimpArgs false

set_option maxHeartbeats 1000000 in
theorem same14_any {w : World} {A A' : Option Addr} {n n' cp cp' : Nat} {bss bss' : List (List UInt8)} (h : Rws w A n bss) (h' : Rws w A' n' bss') (hn : n ≤ 1000000) (he : bss = bss') :
    Calls Try.prog 9 #[.slice A n cp, .slice A' n' cp'] w (TruePost w) := by
  subst he
  have hnn : n' = n := by have := h.len; have := h'.len; omega
  subst hnn
  have HL := hide h.len
  go_enter Try.func9, Try.ntmps9
  go_wp2_with fail
  go_loopw [5] (fun i wr => ∃ k : Nat, k ≤ n' ∧ i = .int .i64 (k : Int) ∧ Kp No w wr) (fun i _ => n' - (intOf i).toNat)
  case atStart => exact ⟨0, Nat.zero_le _, rfl, Kp.refl _ _⟩
  case round =>
    obtain ⟨k, hk, rfl, hs⟩ := hrel
    by_cases hlt : k < n'
    · obtain ⟨B, off, A1, m1, cp1, b1, rfl, hc1, hb1, hbt1⟩ := h.get hlt
      obtain ⟨B2, off2, A2, m2, cp2, b2, rfl, hc2, hb2, hbt2⟩ := h'.get hlt
      obtain rfl : b1 = b2 := by rw [hb1] at hb2; exact Option.some.inj hb2
      replace hc1 := hs.cell hc1 fun f => f
      replace hc2 := hs.cell hc2 fun f => f
      obtain ⟨tb, htb⟩ : ∃ t, t = strOf b1 := ⟨_, rfl⟩
      have v1 : ∀ q, (convert 22 9 (.slice A1 m1 cp1)).run Try.prog (wr.drewN q) = .ok (.string tb) (wr.drewN q) := fun q => by rw [htb]; exact conv_bts ((hbt1.no hs).drewN q)
      have v2 : ∀ q, (convert 22 9 (.slice A2 m2 cp2)).run Try.prog (wr.drewN q) = .ok (.string tb) (wr.drewN q) := fun q => by rw [htb]; exact conv_bts ((hbt2.no hs).drewN q)
      clear hb1 hb2 hbt1 hbt2 htb
      go_wp2_with fail
      go_quiet (fail)
      go_wp2_with fail
      go_round
      case rel => exact ⟨k + 1, by omega, by go_num, hs.drewN _⟩
      case measure => simp [intOf]; omega
    · obtain rfl : k = n' := by omega
      go_wp2_with fail
      go_ret
      exact ⟨rfl, hs⟩

theorem RwO.rws {w : World} {base : Nat} {A : Option Addr} {n c : Nat} {ps : List (Value × List UInt8)} (h : RwO w base (.slice A n c) ps) : Rws w A n (rws ps) := by
  refine ⟨by rw [rws_len]; exact h.own.len, fun j bs hj => ?_⟩
  have hl : j < ps.length := by have := (List.getElem?_eq_some_iff.1 hj).1; rwa [rws_len] at this
  obtain ⟨p, hp⟩ : ∃ p, ps[j]? = some p := ⟨_, List.getElem?_eq_getElem hl⟩
  obtain rfl : bs = p.2 := by have := rws_get hp; rw [hj] at this; exact Option.some.inj this
  obtain ⟨g, e, _, hg, _, hc⟩ := h.own.cell (sls_get hp)
  subst e
  exact ⟨g, 0, p.1, rfl, by rw [Nat.zero_add]; exact hc, (h.ld p (List.mem_of_getElem? hp)).bts⟩
section
variable {w w1 : World} {F S G Ft Fd : Nat → Prop} {g tp sf : Nat} {vl v : Value} {ps : List (Value × List UInt8)} {T T' : Tp} {rs : List (List UInt8)}
theorem dget_at (h : DyAt w F g tp T rs sf) {k : Nat} {b : List UInt8} (hk : 1 ≤ k) (hj : rs[k - 1]? = some b) (hl : b.length ≤ 900000000) (hjs : k ≤ 1000000) : Calls Try.prog 26 #[.pointer (some ⟨g, 0, none⟩), .int .i64 (k : Int)] w fun e w1 => ∃ A n c, e = .returned (.tuple #[.slice A n c, .bool true]) ∧ Own w1 w.heap.size 5 (.slice A n c) b ∧ Kp No w w1 := by
  obtain ⟨j, rfl⟩ : ∃ j, k = j + 1 := ⟨k - 1, by omega⟩
  have := dget_any h (j := j) (b := b) hj hl (by omega)
  rw [show ((j + 1 : Nat) : Int) = (j : Int) + 1 by omega]
  exact this
/-- What records returns. -/
def RcsPost (w : World) (rs : List (List UInt8)) (e : Ending) (w1 : World) : Prop := ∃ ps A c, e = .returned (.slice A rs.length c) ∧ rws ps = rs ∧ RwO w1 w.heap.size (.slice A rs.length c) ps ∧ Kp No w w1
set_option maxHeartbeats 2000000 in
theorem records_any (h : DyAt w F g tp T rs sf) (hn : rs.length ≤ 900) (hl : ∀ b ∈ rs, b.length ≤ 900000000) : Calls Try.prog 24 #[.pointer (some ⟨g, 0, none⟩)] w (RcsPost w rs) := by
  have HH := hide h
  have HBL := hide hl
  have HLN := hide (dlen_any h)
  obtain ⟨N, hN⟩ : ∃ N, N = rs.length := ⟨_, rfl⟩
  rw [← hN] at HLN hn
  have HN := hide hN
  unfold RcsPost
  rw [← hN]
  clear h hl hN
  go_enter Try.func24, Try.ntmps24
  go_wp2_with fail
  refine HLN.out.mono ?_
  rintro e w1 ⟨rfl, k1⟩
  have HK1 := hide k1
  clear k1
  go_wp2_with fail
  go_loopw [3, 6] (fun v i wr => ∃ (k cp : Nat) (ps : List (Value × List UInt8)) (Ap : Option Addr), 1 ≤ k ∧ k ≤ N + 1 ∧ i = .int .i64 (k : Int) ∧ v = .slice Ap (k - 1) cp ∧ Hid (rws ps = rs.take (k - 1) ∧ ps.length = k - 1) ∧ Hid (RwO wr w1.heap.size (.slice Ap (k - 1) cp) ps) ∧ Kp No w1 wr) (fun _ i _ => N + 1 - (intOf i).toNat)
  case atStart => exact ⟨1, 0, [], none, by omega, by omega, rfl, rfl, hide ⟨rfl, rfl⟩, hide (RwO.nil _ _), Kp.refl _ _⟩
  case round =>
    obtain ⟨k, cp, ps, Ap, hk1, hk2, rfl, rfl, HPS, HR, hkr⟩ := hrel
    by_cases hlt : k ≤ N
    · obtain ⟨b, hb⟩ : ∃ b, rs[k - 1]? = some b := ⟨_, List.getElem?_eq_getElem (by have := HN.out; omega)⟩
      have HB := hide hb
      have hg := dget_at ((HH.out.no HK1.out).no hkr) (k := k) hk1 hb (HBL.out b (List.mem_of_getElem? hb)) (by omega)
      have HG := hide hg
      have HKR := hide hkr
      clear hb hg hkr
      obtain ⟨q, hq⟩ : ∃ q, q = k - 1 := ⟨_, rfl⟩
      rw [← hq] at HPS HR HB ⊢
      have hqk : k = q + 1 := by omega
      have HQK := hide hqk
      clear hq hqk
      go_wp2_with fail
      refine HG.out.mono ?_
      rintro e w2 ⟨A5, n5, c5, rfl, ho5, k2⟩
      have K2 : Kp No w1 w2 := HKR.out.trans' k2
      have HK2 := hide K2
      have hka := Kp.alloc No w2 (.cells #[.slice A5 n5 c5] 22)
      have HO := hide ((ho5.rebase (b := w1.heap.size) fun j hj => Nat.le_trans HKR.out.size (ho5.ge j hj)).no hka)
      have hR2 := (HR.out.no k2).no hka
      have hnw : Nws (w2.alloc (.cells #[.slice A5 n5 c5] 22)) ⟨w2.heap.size, 0, none⟩ 1 1 [.slice A5 n5 c5] := nws_one (by rw [World.cell?_alloc_mark]; rfl) rfl
      have z2 := K2.size
      clear ho5 k2 K2 hka
      go_wp2_with (first
        | (at_builtin
           refine wpList_appT ty_slc rfl (.tmp 31) (.tmp 33) _ rfl Try.underlying25 rfl hR2.own _ _ rfl hnw ?hl ?hs ?_
           case hl => have := HPS.out.2; have := HQK.out; omega
           case hs => simp; omega
           intro A6 n6 c6 w6 hn6 ha6
           have hR6 := hR2.next HO.out ha6
           have K6 : Kp No w1 w6 := (HK2.out.trans' (Kp.alloc No w2 _)).trans (ha6.kp.mono fun q hq => .inr (hR2.own.ge q hq))
           have hn6' : n6 = k := by have := HPS.out.2; have := HQK.out; omega
           subst hn6'
           have HR6 := hide hR6
           have HK6 := hide K6
           clear hn6 ha6 hR6 K6 hR2 hnw))
      go_round
      case rel =>
        refine ⟨n6 + 1, c6, ps ++ [(.slice A5 n5 c5, b)], A6, by omega, by omega, by go_num, rfl, hide ⟨?_, ?_⟩, by rw [Nat.add_sub_cancel]; exact HR6, HK6.out⟩
        · have hq := HQK.out
          rw [rws_snoc, HPS.out.1, show n6 + 1 - 1 = q + 1 by omega, List.take_add_one, HB.out]
          rfl
        · have hq := HQK.out
          rw [List.length_append, HPS.out.2]
          simp
          omega
      case measure => simp [intOf]; omega
    · obtain rfl : k = N + 1 := by omega
      have hgt : ¬ ((N + 1 : Nat) : Int) ≤ (N : Int) := by omega
      rw [show N + 1 - 1 = N by omega] at HPS HR ⊢
      go_wp2_with fail
      go_ret
      exact ⟨ps, Ap, cp, rfl, by rw [HPS.out.1]; exact List.take_of_length_le (by have := HN.out; omega), HR.out.rebase HK1.out.size, HK1.out.trans' hkr⟩
end

theorem Tp.put_ok (T : Tp) (b : List UInt8) (h : T.len + b.length ≤ T.most) : T.putE b = 0 ∧ T.put b = ⟨T.sf, T.ls ++ b, T.most⟩ := by
  have e : T.putE b = 0 := by unfold Tp.putE; rw [if_neg (by omega)]
  exact ⟨e, by unfold Tp.put; rw [if_pos e]⟩
theorem DyAt.frm {w w1 : World} {F : Nat → Prop} {b g tp sf : Nat} {T : Tp} {rs : List (List UInt8)} (h : DyAt w1 (Up F w) g tp T rs sf) (hF : ∀ k, F k → b ≤ k) (hb : b ≤ w.heap.size) : DyAt w1 (fun k => Frm b k ∧ k < w1.heap.size) g tp T rs sf :=
  (h.lt).mono fun k a => ⟨by
    rcases a.1 with a | a
    · exact hF k a
    · exact Nat.le_trans hb a, a.2⟩
theorem rcs_none {rs : List (List UInt8)} {sz : Nat} (h : Rcs ([] ++ []) rs sz) : rs = [] ∧ sz = 0 := h.one (rcs_frames (rs := []) (by simp) (by simp) (Y := []) opE_nil)
/-- What is opened over a new tape. -/
theorem dnew_new {w : World} {z : Int} {tp : Nat} {e : Ending} {w1 : World} {F : Nat → Prop} (h : DnPost w F tp (Tp.new z) e w1) : ∃ g, e = .returned (.tuple #[.pointer (some ⟨g, 0, none⟩), .int .i64 0]) ∧ DyAt w1 (Up F w) g tp (Tp.new z) [] 0 ∧ Kp F w w1 ∧ w.heap.size ≤ g := by
  obtain ⟨g, rs, sz, h1, h2, h3, h4, h5⟩ := h
  obtain ⟨rfl, rfl⟩ := rcs_none h2
  exact ⟨g, h1, h3, h4, h5⟩
theorem awk14 {rs : List (List UInt8)} {sz : Nat} (h : Rcs ((((((Tp.new 100).put (rcF 1 [97])).sync).put (rcF 2 [98])).crash 3 0).sf ++ (((((Tp.new 100).put (rcF 1 [97])).sync).put (rcF 2 [98])).crash 3 0).ls) rs sz) : rs = [[97]] := by
  have l1 : (rcF 1 [97]).length = 21 := rcF_len _ _
  have l2 : (rcF 2 [98]).length = 21 := rcF_len _ _
  have h1 := ((Tp.new 100).put_ok (rcF 1 [97]) (by rw [l1]; decide)).2
  have e1 : ((Tp.new 100).put (rcF 1 [97])).sync = ⟨rcF 1 [97], [], 100⟩ := by rw [h1]; rfl
  have h2 := (Tp.put_ok ⟨rcF 1 [97], [], 100⟩ (rcF 2 [98]) (by unfold Tp.len; simp only [List.length_nil]; omega)).2
  rw [e1, h2] at h
  have hc := crash_one [[97]] [98] (by simp) (by simp) (by simp) 100 3 0 (by simp)
  have e2 : fr 0 [[97]] = rcF 1 [97] := by simp [fr]
  have e3 : fr 1 [[98]] = rcF 2 [98] := by simp [fr]
  rw [show [[(97 : UInt8)]].length = 1 from rfl, e2, e3] at hc
  unfold Tp.crash at h
  simp only [List.append_nil] at h
  exact (h.one (by simpa using hc)).1
set_option maxHeartbeats 2000000 in
theorem awake14_any (w : World) : Calls Try.prog 6 #[] w (TruePost w) := by
  have l1 : (rcF 1 [97]).length = 21 := rcF_len _ _
  have l2 : (rcF 2 [98]).length = 21 := rcF_len _ _
  have p1 := ((Tp.new 100).put_ok (rcF 1 [97]) (by rw [l1]; decide))
  have s1 : ((Tp.new 100).put (rcF 1 [97])).len = 21 := by rw [p1.2]; show ([] ++ rcF 1 [97]).length = 21; rw [List.nil_append, l1]
  have s2 : ((Tp.new 100).put (rcF 1 [97])).sync.len = 21 := by rw [Tp.sync_len, s1]
  have m2 : ((Tp.new 100).put (rcF 1 [97])).sync.most = 100 := by rw [p1.2]; rfl
  have p2 := ((Tp.new 100).put (rcF 1 [97])).sync.put_ok (rcF 2 [98]) (by rw [s2, l2, m2]; omega)
  have s3 : (((Tp.new 100).put (rcF 1 [97])).sync.put (rcF 2 [98])).len ≤ 42 := by have := ((Tp.new 100).put (rcF 1 [97])).sync.put_len (rcF 2 [98]); omega
  have s4 : ((((Tp.new 100).put (rcF 1 [97])).sync.put (rcF 2 [98])).crash 3 0).len ≤ 42 := by
    rw [Tp.crash_len]
    have h1 := Tp.stay_le (((Tp.new 100).put (rcF 1 [97])).sync.put (rcF 2 [98])) 3
    have h2 : (((Tp.new 100).put (rcF 1 [97])).sync.put (rcF 2 [98])).len = _ + _ := rfl
    omega
  have HP1 := hide p1.1
  have HP2 := hide p2.1
  have HS := hide (show ((Tp.new 100).put (rcF 1 [97])).len = 21 ∧ ((Tp.new 100).put (rcF 1 [97])).sync.len = 21 ∧ (((Tp.new 100).put (rcF 1 [97])).sync.put (rcF 2 [98])).len ≤ 42 ∧ ((((Tp.new 100).put (rcF 1 [97])).sync.put (rcF 2 [98])).crash 3 0).len ≤ 42 from ⟨s1, s2, s3, s4⟩)
  clear l1 l2 p1 s1 s2 m2 p2 s3 s4
  have kc := fun (w : World) (C : Array Value) (n c : Nat) => Lib.run_convert_bytes_const (P := Try.prog) w 22 5 C n c Try.underlying22 Try.underlying5
  go_enter Try.func6, Try.ntmps6
  go_wp2_with fail
  refine (tnew_any w 100 (by omega)).mono ?_
  rintro e w1 ⟨tp, rfl, hg, hT1, k1⟩
  have HT1 := hide hT1
  have HK1 := hide k1
  clear hT1 k1
  go_wp2_with fail
  refine (dnew_any HT1.out (by decide)).mono ?_
  intro e w2 hp
  obtain ⟨g, rfl, hD2, k2, _⟩ := dnew_new hp
  have HD2 := hide (hD2.frm (b := w.heap.size) (fun k a => a) HK1.out.size)
  have HK2 := hide (HK1.out.fr k2 fun q hq => hq)
  clear hp hD2 k2
  have HB2 := hide (show Bts (w2.alloc (.cells #[.int .u8 97] 5 (1, 2))) (.slice (some ⟨w2.heap.size, 0, none⟩) 1 1) [97] from bts_row w2 [97] 1 (1, 2) rfl)
  go_wp2_with fail
  refine (dwrite_any (HD2.out.no (Kp.alloc No w2 _)) (fun w' hk => HB2.out.keep hk fun k hk a => by cases hk; exact Nat.lt_irrefl _ a.2) (by omega) (by decide) (by decide)).mono ?_
  rintro e w3 ⟨rfl, hD3, k3⟩
  have hD3' := hD3.frm (b := w.heap.size) (fun k a => a.1) (by have := HK2.out.size; simp; omega)
  rw [show ([] : List (List UInt8)).length + 1 = 1 from rfl, if_pos HP1.out] at hD3'
  rw [show ([] : List (List UInt8)).length + 1 = 1 from rfl, HP1.out]
  have HD3 := hide hD3'
  have HK3 := hide ((HK2.out.al (.cells #[.int .u8 97] 5 (1, 2))).fr k3 fun q a => a.1)
  clear hD3 hD3' k3
  go_wp2_with fail
  refine (dsync_any HD3.out (by rw [HS.out.1]; omega)).mono ?_
  rintro e w4 ⟨rfl, hD4, k4⟩
  have HD4 := hide (hD4.frm (b := w.heap.size) (fun k a => a.1) HK3.out.size)
  have HK4 := hide (HK3.out.fr k4 fun q a => a.1)
  clear hD4 k4
  have HB4 := hide (show Bts (w4.alloc (.cells #[.int .u8 98] 5 (1, 2))) (.slice (some ⟨w4.heap.size, 0, none⟩) 1 1) [98] from bts_row w4 [98] 1 (1, 2) rfl)
  go_wp2_with fail
  refine (dwrite_any (HD4.out.no (Kp.alloc No w4 _)) (fun w' hk => HB4.out.keep hk fun k hk a => by cases hk; exact Nat.lt_irrefl _ a.2) (by omega) (by rw [HS.out.2.1]; decide) (by decide)).mono ?_
  rintro e w5 ⟨rfl, hD5, k5⟩
  have hD5' := hD5.frm (b := w.heap.size) (fun k a => a.1) (by have := HK4.out.size; simp; omega)
  have e2 : (([] : List (List UInt8)) ++ [[97]]).length + 1 = 2 := rfl
  rw [e2] at hD5' ⊢
  rw [if_pos HP2.out] at hD5'
  rw [HP2.out]
  have HD5 := hide hD5'.tape.lt
  have HK5 := hide ((HK4.out.al (.cells #[.int .u8 98] 5 (1, 2))).fr k5 fun q a => a.1)
  clear hD5 hD5' k5
  go_wp2_with fail
  refine (tcrash_any HD5.out (by have := HS.out.2.2.1; omega) 3 0).mono ?_
  rintro e w6 ⟨rfl, hT6, k6⟩
  have HT6 := hide (hT6.mono (G := Frm w.heap.size) fun k a => by
    rcases a with a | a
    · exact a.1.1
    · exact Nat.le_trans HK5.out.size a)
  have HK6 := hide (HK5.out.fr k6 fun q a => a.1.1)
  clear hT6 k6
  generalize Tp.gone _ _ = gn
  go_wp2_with fail
  refine (dnew_any HT6.out (by have := HS.out.2.2.2; omega)).mono ?_
  rintro e w7 ⟨g7, rs7, sz7, rfl, hrc7, hD7, k7, _⟩
  obtain rfl := awk14 hrc7
  have HD7 := hide hD7
  have HK7 := hide (HK6.out.fr k7 fun q a => a)
  clear hrc7 hD7 k7
  go_wp2_with fail
  refine (dlen_any HD7.out).mono ?_
  rintro e w8 ⟨rfl, k8⟩
  rw [show [[(97 : UInt8)]].length = 1 from rfl]
  go_wp2_with fail
  go_ret
  exact ⟨rfl, HK7.out.trans' k8⟩
end Go.Proofs.Ytikegnhjnbjclaa
