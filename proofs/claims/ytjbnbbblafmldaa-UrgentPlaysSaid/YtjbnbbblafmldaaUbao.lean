/- Package urgent's sunk and lay, each as a contract. No condition. -/
import Derived.Test.YtjbnbbblafmldaaUban
namespace Go.Proofs.Ytjbnbbblafmldaa
open Go.RowKit
set_option linter.unusedVariables false
set_option linter.unusedSimpArgs false
set_option maxRecDepth 20000

/-- No child of p is more urgent than j. -/
def DnOk (N j p : Nat) (f : Nat → Nat) : Prop := ∀ i, 0 < i → i < N → (i - 1) / 2 = p → j ≤ f i
set_option maxHeartbeats 2000000 in
theorem usunk_any {w : World} {F : Nat → Prop} {g b N n cp c j p : Nat} {v : Option Nat} {A : Option Addr} {X : Nat → Prop} {R : List Nat} {M : Nat → Option Nat} {f : Nat → Nat} (h : QuR w F g b A n cp R M c) (hst : HSt N p j v R M f X) (hup : UpOk p f) (hN : N ≤ 1000000) (hc : c ≤ 1000000) :
    Calls Try.prog 25 #[.pointer (some ⟨g, 0, none⟩), .int .i64 (p : Int), jbV j] w (UrPost w F g b N A n cp c j v X (DnOk N j)) := by
  have hl := h.lt
  have hmono : ∀ k, (fun k => F k ∧ k < w.heap.size) k → F k := fun k hk => hk.1
  have hnN : n = N := by rw [h.len, hst.len]
  obtain ⟨G, hG⟩ : ∃ G : Nat → Prop, G = fun k => F k ∧ k < w.heap.size := ⟨_, rfl⟩
  rw [← hG] at hl hmono
  have hsG : ¬ G w.heap.size := by rw [hG]; simp
  have hI : RsI w G g b w.heap.size N A n cp c j v X R M f p (w.alloc (.cells #[.int .u32 (jO j : Int), .int .u16 (jS j : Int), .int .i64 (jG j)] 36)) :=
    ⟨hst, hl.no (Kp.alloc No w _), Kp.alloc G w _, Bx3.new w _ _ _ _, hsG⟩
  obtain ⟨gj, rfl, -⟩ := OwnT.some_ h.row (by have := hst.pl; have := hst.len; omega)
  have HI := hide hI
  have HUP := hide hup
  have HNN := hide hnN
  have HN := hide hN
  have HC := hide hc
  have HM := hide hmono
  clear h hl hst hI hG hmono hnN hN hc hsG hup
  go_enter Try.func25, Try.ntmps25
  go_wp2_with fail
  generalize w.alloc (.cells #[.int .u32 (jO j : Int), .int .u16 (jS j : Int), .int .i64 (jG j)] 36) = wa at HI ⊢
  generalize w.heap.size = s at HI ⊢
  go_loopw [1] (fun u wr => ∃ (p : Nat) (R : List Nat) (M : Nat → Option Nat) (f : Nat → Nat), u = .int .i64 (p : Int) ∧ RsI w G g b s N (some ⟨gj, 0, none⟩) n cp c j v X R M f p wr ∧ UpOk p f) (fun u _ => N - (intOf u).toNat)
  case atStart => exact ⟨p, R, M, f, rfl, HI.out, HUP.out⟩
  case round =>
    clear HI HUP p R M f
    obtain ⟨p, R, M, f, rfl, hI, hup⟩ := hrel
    have HUP := hide hup
    have hpN := hI.st.pl
    have hNb := HN.out
    have HH := hide hI
    have HPN := hide hpN
    have HCH := hide (uchild_any hI.qu (by rw [hI.st.len]; exact hpN) (by rw [hI.st.len]; exact hNb))
    have hpb : p < 1000000 := by omega
    clear hI hup hpN hNb
    go_wp2_with fail
    refine HCH.out.mono ?_
    rintro e w1 ⟨k1, hch⟩
    have H1 := hide (HH.out.no k1)
    clear HCH HH k1
    rcases hch with ⟨rfl, hno⟩ | ⟨q, y, rfl, hat, hq0, hqp, hmin⟩
    · have HR : Hid (∀ w2, Kp No w1 w2 → UrPost w F g b N (some ⟨gj, 0, none⟩) n cp c j v X (DnOk N j) (.returned (.int .i64 (p : Int))) w2) :=
        fun w2 hk => ⟨R, M, f, p, rfl, H1.out.st, HUP.out, fun i hi hin hip => by have := H1.out.st.len; omega, (H1.out.qu.no hk).mono HM.out, (H1.out.kp.trans' (hk.of_no G)).mono HM.out⟩
      clear H1 hno
      go_wp2_with fail
      go_quiet (fail)
      go_wp2
      go_ret
      exact HR.out _ ((Kp.refl No w1).drewN _)
    · have hqN : q < N := by rw [← H1.out.st.len]; exact (List.getElem?_eq_some_iff.1 hat).1
      have hqne : q ≠ p := by omega
      have hy : y = f q := by
        have := H1.out.st.at_ hqN hqne
        rw [hat] at this
        exact Option.some.inj this
      have hkid : ∀ i, 0 < i → i < N → (i - 1) / 2 = p → f q ≤ f i := fun i hi hin hip => by
        rw [← hy]
        exact hmin i (f i) hi hip (H1.out.st.at_ hin (by omega))
      have x0 := H1.out.qu.c0
      obtain ⟨y0, y1, y2⟩ := JbR.cells H1.out.qu.row hat
      obtain ⟨j0, j1, j2⟩ := H1.out.bx.cell
      have HCM := hide (fun w => ucompare_any w j y)
      have hz : decide ((q : Int) < 0) = false := decide_eq_false (by omega)
      have hqn : q < n := by have := HNN.out; omega
      have hqb : q < 1000000 := by have := HN.out; omega
      have HKID := hide hkid
      have HQP := hide hqp
      have HQ0 := hide hq0
      have HAT := hide hat
      have HY := hide hy
      have HQN := hide hqN
      have HQE := hide hqne
      by_cases hjy : j ≤ y
      · have hd2 : decide (cmpN j y ≤ 0) = true := decide_eq_true (cmpN_le.2 hjy)
        have HR : Hid (∀ w2, Kp No w1 w2 → UrPost w F g b N (some ⟨gj, 0, none⟩) n cp c j v X (DnOk N j) (.returned (.int .i64 (p : Int))) w2) :=
          fun w2 hk => ⟨R, M, f, p, rfl, H1.out.st, HUP.out, fun i hi hin hip => by have := HKID.out i hi hin hip; have := HY.out; omega, (H1.out.qu.no hk).mono HM.out, (H1.out.kp.trans' (hk.of_no G)).mono HM.out⟩
        clear H1 hkid hqp hq0 hat hy hqN hqne hjy hmin
        go_wp2_with fail
        go_region_held3 (fun w' => w'.cell? ⟨g, 0, none⟩ = some (.slice (some ⟨gj, 0, none⟩) n cp) ∧ w'.cell? ⟨gj, q * 3, none⟩ = some (.int .u32 (jO y : Int)) ∧ w'.cell? ⟨gj, q * 3 + 1, none⟩ = some (.int .u16 (jS y : Int)) ∧ w'.cell? ⟨gj, q * 3 + 2, none⟩ = some (.int .i64 (jG y)) ∧
            w'.cell? ⟨s, 0, none⟩ = some (.int .u32 (jO j : Int)) ∧ w'.cell? ⟨s, 1, none⟩ = some (.int .u16 (jS j : Int)) ∧ w'.cell? ⟨s, 2, none⟩ = some (.int .i64 (jG j))) (first | assumption | go_keep)
          (first
            | (go_at_call 24; ((with_reducible refine (HCM.out _).mono ?_); rintro e w2 ⟨rfl, k1⟩); have s1 := ukept7 k1 (by assumption)))
        go_wp2_with fail
        go_ret
        exact HR.out _ ((Kp.refl No w1).drew.trans' k1)
      · have hd2 : decide (cmpN j y ≤ 0) = false := decide_eq_false (fun e => hjy (cmpN_le.1 e))
        have HJ := hide hjy
        clear hkid hqp hq0 hat hy hqN hqne hjy hmin
        go_wp2_with fail
        go_region_held3 (fun w' => w'.cell? ⟨g, 0, none⟩ = some (.slice (some ⟨gj, 0, none⟩) n cp) ∧ w'.cell? ⟨gj, q * 3, none⟩ = some (.int .u32 (jO y : Int)) ∧ w'.cell? ⟨gj, q * 3 + 1, none⟩ = some (.int .u16 (jS y : Int)) ∧ w'.cell? ⟨gj, q * 3 + 2, none⟩ = some (.int .i64 (jG y)) ∧
            w'.cell? ⟨s, 0, none⟩ = some (.int .u32 (jO j : Int)) ∧ w'.cell? ⟨s, 1, none⟩ = some (.int .u16 (jS j : Int)) ∧ w'.cell? ⟨s, 2, none⟩ = some (.int .i64 (jG j))) (first | assumption | go_keep)
          (first
            | (go_at_call 24; ((with_reducible refine (HCM.out _).mono ?_); rintro e w2 ⟨rfl, k1⟩); have s1 := ukept7 k1 (by assumption)))
        have H2 := hide (H1.out.no ((Kp.refl No w1).drew.trans' k1))
        have HS := hide (uset_any (c' := c) (x := y) H2.out.qu (by rw [H2.out.st.len]; exact HPN.out) (by rw [H2.out.st.len]; exact HN.out) HC.out (Nat.le_refl c) (fun e => by rw [HY.out, H2.out.st.has HQN.out HQE.out] at e; cases e))
        clear x0 y0 y1 y2 j0 j1 j2 k1 HCM H1
        have x0 := H2.out.qu.c0
        obtain ⟨y0, y1, y2⟩ := JbR.cells H2.out.qu.row HAT.out
        go_wp2_with fail
        refine HS.out.mono ?_
        rintro e w3 ⟨rfl, h3, k3⟩
        have H3 := hide h3
        have K3 := hide k3
        clear h3 k3 HS x0 y0 y1 y2
        go_wp2_with fail
        go_round
        case rel =>
          have hst := H2.out.st.sink HUP.out HQN.out HQ0.out HQP.out (by rw [← HY.out]; have := HJ.out; omega) HKID.out
          rw [← HY.out] at hst
          exact ⟨q, R.set p y, updM M (ky y) (some p), swp f p q, rfl, ⟨hst.1, H3.out, H2.out.kp.trans' K3.out, H2.out.bx.keep K3.out H2.out.nf, H2.out.nf⟩, hst.2⟩
        case measure =>
          have := HQP.out
          have := HQ0.out
          have := HQN.out
          simp [intOf]
          omega
end Go.Proofs.Ytjbnbbblafmldaa
