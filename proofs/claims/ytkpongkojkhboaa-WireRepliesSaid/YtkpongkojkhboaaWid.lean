/- Package wire's Request.Bytes of a request that is right, and law 15's awake, as contracts over memory. -/
import Derived.Test.YtkpongkojkhboaaWic
namespace Go.Proofs.Ytkpongkojkhboaa
open Go.RowKit
set_option linter.unusedVariables false
set_option linter.unusedSimpArgs false
set_option maxRecDepth 20000

set_option maxHeartbeats 4000000 in
theorem bytes15_any {w : World} (q : Rq) {A : Option Addr} {n c : Nat} (hf : q.Fit) (hr : q.rgt = true) (hb : Bts w (.slice A n c) q.data) (hl : n ≤ 1000) : Calls Try.prog 14 #[rqV q (.slice A n c)] w (OwnPost w q.bytes) := by
  have hk := q.rgt_kind hr
  have hln := hb.len
  have H : ∀ w', Calls Try.prog 10 #[rqV q (.slice A n c)] w' (RtPostK w' true) := fun w' => by
    have := right15_any (w := w') q A n c
    rw [hln] at this ⊢
    rwa [show RgtB q.kind q.lost q.data.length = true from hr] at this
  have HR := hide H
  clear H
  obtain ⟨hn, hs, hlo⟩ := hf
  have z0 := cO_lt hs
  have z1 := cS_lt q.s
  have z2 := cL_lt q.s
  have z3 := cG_lt q.s
  have HB := hide (fun w' (k : Kp No w w') => hb.no k)
  have HE : Hid (numB q.kind.toNat 1 ++ numB q.num 8 ++ shardB (cO q.s) (cS q.s) (cL q.s) (cG q.s) ++ numB q.lost 2 ++ q.data = q.bytes) := by show _ = _; simp [Rq.bytes, shB, List.append_assoc]
  have HD : Hid (q.data.length ≤ 1000) := by show _ ≤ _; rw [← hln]; exact hl
  have hx := BxQ.new w 31 q (.slice A n c)
  have HX := hide hx
  clear hx hr hb hln
  obtain ⟨num, k, s, l, data⟩ := q
  dsimp only at *
  obtain ⟨j, rfl⟩ : ∃ j : Nat, k = j := ⟨k.toNat, by omega⟩
  rw [Int.toNat_natCast] at HE
  have hj1 : j < 18446744073709551616 := by omega
  have hj2 : l < 18446744073709551616 := by omega
  have q0 : IntKind.u64.wrap (j : Int) = j := IntWalk.u64_in _ (by omega)
  have q1 : IntKind.u64.wrap (l : Int) = l := IntWalk.u64_in _ (by omega)
  clear hk hlo hs hl
  have K8 : IsK 8 8 := ⟨by omega, by omega⟩
  have K1 : IsK 1 1 := ⟨by omega, by omega⟩
  have K2 : IsK 2 2 := ⟨by omega, by omega⟩
  obtain ⟨b0, hb0⟩ : ∃ b0, b0 = w.heap.size := ⟨_, rfl⟩
  have HB0 := hide hb0
  go_enter Try.func14, Try.ntmps14
  go_wp2_with fail
  refine (HR.out _).mono ?_
  rintro e w1 ⟨rfl, hk1⟩
  have X1 := HX.out.no hk1
  have K0 : Kp No w w1 := (Kp.alloc No w _).trans' hk1
  have X2 := X1.no (Kp.alloc No w1 (.cells #[.slice none 0 0] 64))
  have HC := hide X2.cells
  have hne : ¬ (Fr w1.heap.size w.heap.size) := by have := X1.lt; unfold Fr; omega
  have HN := hide hne
  have kA : Kp No w1 (w1.alloc (.cells #[.slice none 0 0] 64)) := Kp.alloc No w1 _
  have a0 : WrAt (w1.alloc (.cells #[.slice none 0 0] 64)) (Fr w1.heap.size) w1.heap.size [] := (WrAt.new w1).mono fun k hk => by subst hk; exact Nat.le_refl _
  have HA := hide a0
  have HK := hide (And.intro K0 kA)
  clear X1 X2 hne a0 kA K0 hk1
  go_wp2_with fail
  go_region_held3 (fun w' => w'.cell? ⟨w.heap.size, 0, none⟩ = some (.int .u64 num) ∧ w'.cell? ⟨w.heap.size, 1, none⟩ = some (.int .i64 j) ∧ w'.cell? ⟨w.heap.size, 2, none⟩ = some (.int .u32 (cO s)) ∧ w'.cell? ⟨w.heap.size, 3, none⟩ = some (.int .u16 (cS s)) ∧ w'.cell? ⟨w.heap.size, 4, none⟩ = some (.int .u16 (cL s)) ∧ w'.cell? ⟨w.heap.size, 5, none⟩ = some (.int .u32 (cG s)) ∧ w'.cell? ⟨w.heap.size, 6, none⟩ = some (.int .u16 l) ∧ w'.cell? ⟨w.heap.size, 7, none⟩ = some (.slice A n c)) (first | assumption | exact kept8 ((Kp.refl No _).drew) (fun f => f) HC.out | go_keep)
    (first
      | (go_at_call 27; ((with_reducible refine (num_any (bs := []) (F := Fr w1.heap.size) (g := w1.heap.size) j 1 1 hj1 K1 (WrAt.drew HA.out) (by simp)).mono ?_); rintro e w2 hp2; obtain rfl := hp2.1); have k2 := HK.out.2.drew.thenFr hp2.2.2; have a2 := hp2.again (fun k hk' => Nat.le_trans HK.out.2.size hk'); have s2 := kept8 hp2.2.2 HN.out (by assumption))
      | (go_at_call 27; ((with_reducible refine (num_any (F := Fr w1.heap.size) (g := w1.heap.size) num 8 8 hn K8 a2 (by simp [numB_length])).mono ?_); rintro e w3 hp3; obtain rfl := hp3.1); have k3 := k2.thenFr hp3.2.2; have a3 := hp3.again (fun k hk' => Nat.le_trans k2.size hk'); have s3 := kept8 hp3.2.2 HN.out (by assumption))
      | (go_at_call 27; ((with_reducible refine (num_any (F := Fr w1.heap.size) (g := w1.heap.size) l 2 2 hj2 K2 a4 (by simp [numB_length, shardB])).mono ?_); rintro e w5 hp5; obtain rfl := hp5.1); have s5 := kept8 hp5.2.2 HN.out (by assumption))
      | (go_at_call 28; ((with_reducible refine (shard_any (F := Fr w1.heap.size) (g := w1.heap.size) (cO s) (cS s) (cL s) (cG s) z0 z1 z2 z3 a3 (by simp [numB_length])).mono ?_); rintro e w4 hp4; obtain rfl := hp4.1); have k4 := k3.thenFr hp4.2.2; have a4 := hp4.again (fun k hk' => Nat.le_trans k3.size hk'); have s4 := kept8 hp4.2.2 HN.out (by assumption)))
  have k5 := k4.thenFr hp5.2.2
  have a5 := hp5.again (fun k hk' => Nat.le_trans k4.size hk')
  have HS := hide (kept8 (Kp.refl No _) (fun f => f) s5)
  clear hp2 hp3 hp4 hp5 s2 s3 s4 s5 k2 k3 k4 a2 a3 a4
  obtain ⟨t0, t1, t2, t3, t4, t5, t6, t7⟩ := HS.out
  go_wp2_with fail
  refine (raw_any (F := Fr w1.heap.size) (g := w1.heap.size) a5 (HB.out _ (HK.out.1.trans' k5)) (by simp [numB_length, shardB]; have := HD.out; omega)).mono ?_
  rintro e w6 hp
  obtain rfl := hp.1
  have k6 := k5.thenFr hp.2.2
  have a6 := hp.again (fun k hk' => Nat.le_trans k5.size hk')
  rw [List.nil_append, HE.out] at a6
  clear hp a5 t0 t1 t2 t3 t4 t5 t6 t7 HS
  go_wp2_with fail
  refine (bytes_any (g := w1.heap.size) a6 (by rw [Rq.bytes_len]; have := HD.out; simp; omega)).mono ?_
  rintro e w7 ⟨A7, n7, c7, rfl, ho7, hk7⟩
  have z7 := (HK.out.1.trans' k6).size
  go_wp2
  go_ret
  exact ⟨A7, n7, c7, rfl, ho7.rebase fun i hi => Nat.le_trans z7 (ho7.ge i hi), (HK.out.1.trans' k6).trans' hk7⟩
theorem awake15_any (w : World) : Calls Try.prog 5 #[] w (TruePost w) := by
  have h : ∀ w', Calls Try.prog 14 #[rqV ⟨0, 1, 0, 0, []⟩ (.slice none 0 0)] w' (OwnPost w' (Rq.bytes ⟨0, 1, 0, 0, []⟩)) := fun w' =>
    bytes15_any ⟨0, 1, 0, 0, []⟩ ⟨by decide, by decide, by decide⟩ (by decide) (Bts.nil _) (by decide)
  have H := hide h
  clear h
  go_enter Try.func5, Try.ntmps5
  go_wp2_with fail
  refine (H.out _).mono ?_
  rintro e w1 ⟨A1, n1, c1, rfl, ho, hk⟩
  have hl := ho.bts.len
  rw [Rq.bytes_len] at hl
  simp only [List.length_nil, Nat.add_zero] at hl
  subst hl
  go_wp2
  go_ret
  exact ⟨rfl, hk⟩
end Go.Proofs.Ytkpongkojkhboaa
