/- Package urgent's calls on a queue that is none; a queue's Put, Drop, Get, First of any; the law's to and awake. No condition. -/
import Derived.Test.YtjbnbbblafmldaaUbax
namespace Go.Proofs.Ytjbnbbblafmldaa
open Go.RowKit
set_option linter.unusedVariables false
set_option linter.unusedSimpArgs false
set_option maxRecDepth 20000

theorem uput_nil (w : World) (j : Nat) : Calls Try.prog 12 #[.pointer none, jbV j] w fun e w1 => e = .returned (.tuple #[]) ∧ Kp No w w1 := by
  unfold jbV
  generalize jO j = a0
  generalize jS j = a1
  generalize jG j = a2
  go_enter Try.func12, Try.ntmps12
  go_wp2
  refine bodyPost_ret (results_none rfl _ _ _) rfl ?_
  exact ⟨rfl, Kp.alloc No w _⟩
theorem uput_zero {w : World} {g : Nat} (h : QuZ w g) (j : Nat) : Calls Try.prog 12 #[.pointer (some ⟨g, 0, none⟩), jbV j] w fun e w1 => e = .returned (.tuple #[]) ∧ Kp No w w1 := by
  unfold jbV
  generalize jO j = a0
  generalize jS j = a1
  generalize jG j = a2
  have x1 := h.c1
  have hlt := h.lt
  have hq := umap_none
  clear h
  go_enter Try.func12, Try.ntmps12
  go_wp2
  refine bodyPost_ret (results_none rfl _ _ _) rfl ?_
  exact ⟨rfl, Kp.alloc No w _⟩
theorem uget_nil (w : World) (k : Nat) : Calls Try.prog 15 #[.pointer none, kyV k] w (UjPost w none) := uget_of_no fun w' _ => uplace_nil w' k
theorem ufirst_nil (w : World) : Calls Try.prog 16 #[.pointer none] w (UjPost w none) := ufirst_of_no fun w' _ => ulen_nil w'
theorem upop_nil (w : World) : Calls Try.prog 7 #[.pointer none] w (UjPost w none) := upop_of_no fun w' _ => ufirst_nil w'
theorem upop_zero {w : World} {g : Nat} (h : QuZ w g) : Calls Try.prog 7 #[.pointer (some ⟨g, 0, none⟩)] w (UjPost w none) := upop_of_no fun w' hk => ufirst_of_no fun w'' hk' => ulen_zero ((h.no hk).no hk')
theorem udrop_nil (w : World) (k : Nat) : Calls Try.prog 10 #[.pointer none, kyV k] w (BoolPost w false) := udrop_of_no fun w' _ => uplace_nil w' k
theorem udrop_zero {w : World} {g k : Nat} (h : QuZ w g) (hk : k < N48) : Calls Try.prog 10 #[.pointer (some ⟨g, 0, none⟩), kyV k] w (BoolPost w false) := udrop_of_no fun w' hk' => uplace_zero (h.no hk') hk
section
variable {w : World} {F : Nat → Prop} {g k : Nat} {r : List Nat}
theorem UqPost.of_no {v : Value} {e : Ending} {w1 : World} (h : QuAt w F g r) (he : e = .returned v) (hk : Kp No w w1) : UqPost w F g r v e w1 := ⟨he, (h.no hk).mono fun q hq => .inl hq, hk.of_no F⟩
theorem udrop_any (h : QuAt w F g r) (hk : k < N48) (hr : r.length ≤ 900000) : Calls Try.prog 10 #[.pointer (some ⟨g, 0, none⟩), kyV k] w (UqPost w F g (rDrop r k) (.bool (rHas r k))) := by
  cases hh : rHas r k
  · rw [rDrop_none hh]
    refine (udrop_of_no (z := 0) fun w' hk' => ?_).mono fun e w1 hp => UqPost.of_no h hp.1 hp.2
    obtain ⟨b, A, n, cp, R, M, h1, h2⟩ := h.no hk'
    have := uplace_any h1 hk
    rw [h2.place_no hh] at this
    exact this
  · exact udrop_yes h hh hk hr
/-- The job of a Key, or none. -/
def rGet (r : List Nat) (k : Nat) : Option Nat := if rHas r k = true then some (rJob r k) else none
theorem uget_any (h : QuAt w F g r) (hk : k < N48) (hr : r.length ≤ 900000) : Calls Try.prog 15 #[.pointer (some ⟨g, 0, none⟩), kyV k] w (UjPost w (rGet r k)) := by
  unfold rGet
  cases hh : rHas r k
  · rw [if_neg (by simp)]
    refine uget_of_no (z := 0) fun w' hk' => ?_
    obtain ⟨b, A, n, cp, R, M, h1, h2⟩ := h.no hk'
    have := uplace_any h1 hk
    rw [h2.place_no hh] at this
    exact this
  · rw [if_pos rfl]
    exact uget_yes h hh hk hr
theorem ufirst_any (h : QuAt w F g r) (hr : r.length ≤ 900000) : Calls Try.prog 16 #[.pointer (some ⟨g, 0, none⟩)] w (UjPost w r.head?) := by
  rcases r with _ | ⟨x, t⟩
  · exact ufirst_of_no fun w' hk => ulen_any (h.no hk)
  · exact ufirst_yes h hr
theorem upop_any (h : QuAt w F g r) (hr : r.length ≤ 900000) : Calls Try.prog 7 #[.pointer (some ⟨g, 0, none⟩)] w (UqPost w F g r.tail (.tuple #[jbV (r.head?.getD zJ), .bool r.head?.isSome])) := by
  rcases r with _ | ⟨x, t⟩
  · exact (upop_of_no fun w' hk => ufirst_any (h.no hk) hr).mono fun e w1 hp => UqPost.of_no h hp.1 hp.2
  · exact upop_yes h hr
end
theorem QuAt.norm {w w1 : World} {g B : Nat} {r : List Nat} (h : QuAt w1 (Up (Frm B) w) g r) (hB : B ≤ w.heap.size) : QuAt w1 (Frm B) g r := h.mono fun q hq => hq.elim id fun e => Nat.le_trans hB e
/-- The law's job comes out as package urgent's. -/
theorem jto_any (w : World) (x : Nat) : Calls Try.prog 8 #[jbV x] w fun e w1 => e = .returned (jbV x) ∧ Kp No w w1 := by
  unfold jbV
  generalize jO x = a0
  generalize jS x = a1
  generalize jG x = a2
  go_enter Try.func8, Try.ntmps8
  go_wp2_with fail
  obtain ⟨r0, r1, r2⟩ := (two3 w 26 36 (.int .u32 (a0 : Int)) (.int .u16 (a1 : Int)) (.int .i64 a2) (.int .u32 (a0 : Int)) (.int .u16 (a1 : Int)) (.int .i64 a2)).2.cell
  exact bodyPost_ret (v := .agg #[.int .u32 (a0 : Int), .int .u16 (a1 : Int), .int .i64 a2]) (by simp [results, Try.results8, go_sem, r0, r1, r2]) rfl ⟨rfl, (Kp.alloc No w _).trans' (Kp.alloc No _ _)⟩
theorem mkJ_val {o s : Nat} {g : Int} (ho : o < 4294967296) (hs : s < 65536) (hg : -9223372036854775808 ≤ g) : jbV (mkJ o s g) = .agg #[.int .u32 (o : Int), .int .u16 (s : Int), .int .i64 g] := by
  unfold jbV
  rw [jO_mk ho hs, jS_mk ho hs, jG_mk ho hs hg]
theorem awk19 : rPut (rPut [] (mkJ 0 1 5)) (mkJ 0 2 3) = [mkJ 0 2 3, mkJ 0 1 5] := by decide +kernel
set_option maxHeartbeats 1000000 in
theorem awake19_any (w : World) : Calls Try.prog 5 #[] w (TruePost w) := by
  have e1 : jbV (mkJ 0 1 5) = .agg #[.int .u32 0, .int .u16 1, .int .i64 5] := mkJ_val (by omega) (by omega) (by omega)
  have e2 : jbV (mkJ 0 2 3) = .agg #[.int .u32 0, .int .u16 2, .int .i64 3] := mkJ_val (by omega) (by omega) (by omega)
  have HT1 := hide (fun w' => jto_any w' (mkJ 0 1 5))
  have HT2 := hide (fun w' => jto_any w' (mkJ 0 2 3))
  have HL := hide awk19
  have HB : Hid (mkJ 0 1 5 < NJ ∧ mkJ 0 2 3 < NJ ∧ jS (mkJ 0 2 3) = 2) := ⟨mkJ_lt (by omega) (by omega) (by omega) (by omega), mkJ_lt (by omega) (by omega) (by omega) (by omega), jS_mk (by omega) (by omega)⟩
  have HL1 : Hid ((rPut [] (mkJ 0 1 5)).length ≤ 900000) := Nat.le_trans rPut_len_le (by simp)
  rw [e1] at HT1
  rw [e2] at HT2
  have E1 := hide e1
  have E2 := hide e2
  clear e1 e2
  generalize mkJ 0 1 5 = a at HT1 HL HB HL1 E1
  generalize mkJ 0 2 3 = b at HT2 HL HB E2
  go_enter Try.func5, Try.ntmps5
  go_wp2_with fail
  refine (unew_any w).mono ?_
  rintro e w1 ⟨g, rfl, h1, k1⟩
  have HK1 := hide k1
  have H1 : Hid (QuAt w1 (Frm w.heap.size) g []) := h1
  clear h1 k1
  go_wp2_with fail
  refine (HT1.out _).mono ?_
  rintro e w2 ⟨rfl, k2⟩
  have HK2 := hide (HK1.out.trans' k2)
  have HP := hide (uput_any (H1.out.no k2) HB.out.1 (by simp))
  rw [E1.out] at HP
  clear k2 H1 HK1
  go_wp2_with fail
  refine HP.out.mono ?_
  rintro e w3 ⟨rfl, h3, k3⟩
  have H3 := hide (h3.norm HK2.out.size)
  have HK3 := hide (HK2.out.trans (k3.mono fun q hq => .inr hq))
  clear h3 k3 HP HK2
  go_wp2_with fail
  refine (HT2.out _).mono ?_
  rintro e w4 ⟨rfl, k4⟩
  have HK4 := hide (HK3.out.trans' k4)
  have HP := hide (uput_any (H3.out.no k4) HB.out.2.1 HL1.out)
  rw [HL.out, E2.out] at HP
  clear k4 H3 HK3
  go_wp2_with fail
  refine HP.out.mono ?_
  rintro e w5 ⟨rfl, h5, k5⟩
  have HK5 := hide (HK4.out.trans (k5.mono fun q hq => .inr hq))
  have HF := hide (ufirst_yes h5 (by simp))
  clear h5 k5 HP HK4
  have hs : ((jS b : Int) == 2) = true := by rw [HB.out.2.2]; rfl
  go_wp2_with fail
  refine HF.out.mono ?_
  rintro e w6 ⟨rfl, k6⟩
  have HK6 := hide (HK5.out.trans' k6)
  clear k6 HK5 HF
  go_wp2_with fail
  go_ret
  exact ⟨rfl, HK6.out.trans' (Kp.alloc No _ _)⟩
end Go.Proofs.Ytjbnbbblafmldaa
