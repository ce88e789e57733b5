/- Package urgent's All: slices.Clone of jobs, slices.SortFunc of any number of them by the shelf's contract. No condition. -/
import Derived.Shelf.SlSortCmp.NoneTotal
import Derived.Ground.SlsfProg
import Derived.Test.YtjbnbbblafmldaaUbau
import Derived.Test.YtjbnbbblafmldaaUbab
namespace Go.Proofs.Ytjbnbbblafmldaa
open Go.RowKit
set_option linter.unusedVariables false
set_option linter.unusedSimpArgs false
set_option maxRecDepth 20000

theorem ujob_empty (w : World) : JbR (w.alloc (.cells #[] 36)) w.heap.size 36 (.slice (some ⟨w.heap.size, 0, none⟩) 0 0) [] :=
  World.ownsRow_made w #[] 0 (Nat.le_refl _) (Nat.zero_le _) rfl
theorem JbR.nws {w : World} {base g n c : Nat} {t : TypeId} {R : List Nat} (h : JbR w base t (.slice (some ⟨g, 0, none⟩) n c) R) : Nws w ⟨g, 0, none⟩ R.length 3 (jbC R) :=
  ⟨jbC_len R, fun j u hu => by rw [add_none, Nat.zero_add]; exact OwnT.cellAt h hu, jbC_cell R⟩
/-- A row of jobs of the call's own comes back. -/
def JrPost (w : World) (R : List Nat) (e : Ending) (w1 : World) : Prop := ∃ A n c, e = .returned (.slice A n c) ∧ JbR w1 w.heap.size 36 (.slice A n c) R ∧ Kp No w w1
theorem uclone_any {w : World} {A : Option Addr} {n c : Nat} {R : List Nat} (h : JbR w 0 36 (.slice A n c) R) (hR : R.length ≤ 900000) : Calls Try.prog 22 #[.slice A n c] w (JrPost w R) := by
  have hq := fun (w : World) (a : Option Addr) (n c : Nat) => Lib.run_eql_slice_nil (P := Try.prog) w 47 36 a n c 0 0 Try.underlying47
  have hn := OwnT.len h
  rcases A with _ | ad
  · have h0 : R.length = 0 ∧ n = 0 ∧ c = 0 := by
      rcases h.2 with ⟨e, h0⟩ | ⟨g, cap, cur, e, _⟩
      · injection e with e1 e2 e3
        exact ⟨h0, e2, e3⟩
      · cases e
    obtain ⟨h1, rfl, rfl⟩ := h0
    have hnil : R = [] := List.eq_nil_of_length_eq_zero h1
    subst hnil
    clear h hn h1
    go_enter Try.func22, Try.ntmps22
    go_wp2
    go_ret
    exact ⟨none, 0, 0, rfl, OwnT.nil _ _ _ _, Kp.refl _ _⟩
  · have ha : ∃ g, ad = ⟨g, 0, none⟩ := by
      rcases h.2 with ⟨e, h0⟩ | ⟨g, cap, cur, e, _⟩
      · cases e
      · injection e with e1
        injection e1 with e1
        exact ⟨g, e1⟩
    obtain ⟨g, rfl⟩ := ha
    have hw := (JbR.nws (OwnT.no h (Kp.alloc No w (.cells #[] 36))))
    rw [← hn] at hw
    have HN := hide hn
    have HR := hide hR
    clear h hn hR
    go_enter Try.func22, Try.ntmps22
    go_wp2_with (first
      | (at_builtin
         refine wpList_appT ty_uj rfl (.tmp 5) (.tmp 6) _ rfl Try.underlying47 rfl (ujob_empty w) _ c rfl hw (by have := HR.out; have := HN.out; simp; omega) (by simp) ?_
         intro A1 n1 c1 w1 hn1 ha
         have HA := hide ha
         clear ha hn1))
    go_ret
    refine ⟨A1, n1, c1, rfl, ?_, HA.out.keeps (ujob_empty w) (Kp.alloc No w _)⟩
    have := HA.out.own
    simp only [List.length_nil, Nat.zero_add] at this
    rw [HN.out] at this
    exact this
/-- The comparing function. -/
abbrev ucmpV : Value := .func (.func 24) #[] #[]
theorem uinsort0 (w : World) : Calls Try.prog 35 #[.slice none 0 0, .int .i64 0, .int .i64 0, ucmpV] w fun e w1 => e = .returned (.tuple #[]) ∧ w = w1 := by
  unfold ucmpV
  go_enter Try.func35, Try.ntmps35
  go_wp2_with fail
  go_loopw [8] (fun iv wr => iv = .int .i64 1 ∧ w = wr) (fun _ _ => 0)
  case atStart => exact ⟨by go_num, rfl⟩
  case round =>
    obtain ⟨rfl, rfl⟩ := hrel
    go_wp2_with fail
    go_end0
    exact ⟨rfl, rfl⟩
theorem updq0 (w : World) (z : Int) : Calls Try.prog 28 #[.slice none 0 0, .int .i64 0, .int .i64 0, .int .i64 z, ucmpV] w fun e w1 => e = .returned (.tuple #[]) ∧ w = w1 := by
  have hi := uinsort0 w
  unfold ucmpV at hi ⊢
  go_enter Try.func28, Try.ntmps28
  go_wp2_with fail
  go_loopw [1, 2] (fun av bv wr => av = .int .i64 0 ∧ bv = .int .i64 0 ∧ w = wr) (fun _ _ _ => 0)
  case atStart => exact ⟨rfl, rfl, rfl⟩
  case round =>
    obtain ⟨rfl, rfl, rfl⟩ := hrel
    go_wp2_with fail
    refine hi.mono ?_
    rintro e w1 ⟨rfl, rfl⟩
    go_wp2_with fail
    refine bodyPost_ret (results_none rfl _ _ _) rfl ?_
    exact ⟨rfl, rfl⟩
theorem usortf0 (w : World) : Calls Try.prog 23 #[.slice none 0 0, ucmpV] w fun e w1 => e = .returned (.tuple #[]) ∧ w = w1 := by
  have hp := updq0 w
  have hb := blen_any (w := w) (n := 0) (by omega)
  unfold ucmpV at hp ⊢
  go_enter Try.func23, Try.ntmps23
  go_wp2_with fail
  refine hb.mono ?_
  rintro e w' ⟨z, rfl, rfl⟩
  go_wp2_with fail
  refine (hp z).mono ?_
  rintro e w1 ⟨rfl, rfl⟩
  go_wp2_with fail
  go_end0
  exact ⟨rfl, rfl⟩
def Try.sortUj_ren : Go.Shelf.Ren := ⟨fun | 6 => 23 | 15 => 29 | 14 => 28 | 28 => 43 | 29 => 44 | 20 => 35 | 21 => 36 | 22 => 37 | 23 => 38 | 24 => 39 | 25 => 40 | 26 => 41 | 27 => 42 | 46 => 48 | 47 => 49 | 48 => 50 | 49 => 51 | 50 => 52 | 57 => 53 | n => n, fun | 22 => 47 | 24 => 36 | 25 => 61 | 3 => 3 | 39 => 65 | 0 => 0 | 53 => 23 | 55 => 80 | 4 => 4 | 46 => 73 | 45 => 72 | 50 => 55 | 5 => 5 | 9 => 9 | 66 => 85 | 70 => 89 | 76 => 91 | 77 => 92 | n => n, fun | n => n⟩
theorem Try.sortUj : Go.Proofs.SlLaysF0.n6 Try.prog Try.sortUj_ren where
  mixed := by kernel_rfl
  f6 := ⟨Try.f23.name, by decide, Try.func23.trans (congrArg some (by kernel_rfl))⟩
  f14 := ⟨Try.f28.name, by decide, Try.func28.trans (congrArg some (by kernel_rfl))⟩
  f15 := Try.func29.trans (congrArg some (by kernel_rfl))
  f20 := ⟨Try.f35.name, by decide, Try.func35.trans (congrArg some (by kernel_rfl))⟩
  f21 := ⟨Try.f36.name, by decide, Try.func36.trans (congrArg some (by kernel_rfl))⟩
  f22 := ⟨Try.f37.name, by decide, Try.func37.trans (congrArg some (by kernel_rfl))⟩
  f23 := ⟨Try.f38.name, by decide, Try.func38.trans (congrArg some (by kernel_rfl))⟩
  f24 := ⟨Try.f39.name, by decide, Try.func39.trans (congrArg some (by kernel_rfl))⟩
  f25 := ⟨Try.f40.name, by decide, Try.func40.trans (congrArg some (by kernel_rfl))⟩
  f26 := ⟨Try.f41.name, by decide, Try.func41.trans (congrArg some (by kernel_rfl))⟩
  f27 := ⟨Try.f42.name, by decide, Try.func42.trans (congrArg some (by kernel_rfl))⟩
  f28 := Try.func43.trans (congrArg some (by kernel_rfl))
  f29 := Try.func44.trans (congrArg some (by kernel_rfl))
  f46 := ⟨Try.f48.name, by decide, Try.func48.trans (congrArg some (by kernel_rfl))⟩
  f47 := Try.func49.trans (congrArg some (by kernel_rfl))
  f48 := Try.func50.trans (congrArg some (by kernel_rfl))
  f49 := ⟨Try.f51.name, by decide, Try.func51.trans (congrArg some (by kernel_rfl))⟩
  f50 := ⟨Try.f52.name, by decide, Try.func52.trans (congrArg some (by kernel_rfl))⟩
  f57 := ⟨Try.f53.name, by decide, Try.func53.trans (congrArg some (by kernel_rfl))⟩
  t0 := Try.underlying0
  a0 := Try.isAgg0
  z0 := Try.sizeOf0
  v0 := Try.zeroValue0
  t3 := Try.underlying3
  a3 := Try.isAgg3
  z3 := Try.sizeOf3
  v3 := Try.zeroValue3
  t4 := Try.underlying4
  a4 := Try.isAgg4
  z4 := Try.sizeOf4
  v4 := Try.zeroValue4
  t5 := Try.underlying5
  a5 := Try.isAgg5
  z5 := Try.sizeOf5
  v5 := Try.zeroValue5
  t9 := Try.underlying9
  a9 := Try.isAgg9
  z9 := Try.sizeOf9
  v9 := Try.zeroValue9
  t22 := Try.underlying47
  a22 := Try.isAgg47
  z22 := Try.sizeOf47
  v22 := Try.zeroValue47
  t25 := Try.underlying61
  a25 := Try.isAgg61
  z25 := Try.sizeOf61
  v25 := Try.zeroValue61
  t39 := Try.underlying65
  a39 := Try.isAgg65
  z39 := Try.sizeOf65
  v39 := Try.zeroValue65
  t45 := Try.underlying72
  a45 := Try.isAgg72
  z45 := Try.sizeOf72
  v45 := Try.zeroValue72
  t46 := Try.underlying73
  a46 := Try.isAgg73
  z46 := Try.sizeOf73
  v46 := Try.zeroValue73
  t50 := Try.underlying55
  a50 := Try.isAgg55
  z50 := Try.sizeOf55
  v50 := Try.zeroValue55
  t53 := Try.underlying23
  a53 := Try.isAgg23
  z53 := Try.sizeOf23
  v53 := Try.zeroValue23
  t55 := Try.underlying80
  a55 := Try.isAgg80
  z55 := Try.sizeOf80
  v55 := Try.zeroValue80
  t66 := Try.underlying85
  a66 := Try.isAgg85
  z66 := Try.sizeOf85
  v66 := Try.zeroValue85
  t70 := Try.underlying89
  a70 := Try.isAgg89
  z70 := Try.sizeOf89
  v70 := Try.zeroValue89
  t76 := Try.underlying91
  a76 := Try.isAgg91
  z76 := Try.sizeOf91
  v76 := Try.zeroValue91
  t77 := Try.underlying92
  a77 := Try.isAgg92
  z77 := Try.sizeOf92
  v77 := Try.zeroValue92
/-- A job's three cells. -/
def encJ (x : Nat) : List Value := [.int .u32 (jO x : Int), .int .u16 (jS x : Int), .int .i64 (jG x)]
theorem ltU (a b : Nat) : ltOf cmpN a b = decide (a < b) := by
  unfold ltOf cmpN
  by_cases h1 : a < b
  · simp [h1]
  · by_cases h2 : b < a <;> simp [h1, h2]
theorem swoU : Sort.SWO (ltOf cmpN) where
  irrefl x := by rw [ltU]; simp
  trans x y z h1 h2 := by rw [ltU] at *; simp at *; omega
  ntrans x y z h1 h2 := by rw [ltU] at *; simp at *; omega
theorem totU (a b : Nat) (h1 : ltOf cmpN a b = false) (h2 : ltOf cmpN b a = false) : a = b := by
  rw [ltU] at h1 h2
  simp at h1 h2
  omega
theorem flat_jb (ns : List Nat) (t : Nat) (h : t < ns.length * 3) : (jbC ns)[t]? = some (Sort.flatK encJ 3 ns.toArray)[t]! := by
  rw [Sort.get_flatK encJ 3 ns.toArray t (by simpa using h)]
  obtain ⟨q, r, hr, rfl⟩ : ∃ q r, r < 3 ∧ t = q * 3 + r := ⟨t / 3, t % 3, Nat.mod_lt _ (by omega), by omega⟩
  have hj : q < ns.length := by omega
  obtain ⟨s, h0⟩ : ∃ s, ns[q]? = some s := ⟨_, List.getElem?_eq_getElem hj⟩
  obtain ⟨g0, g1, g2⟩ := jbC_get h0
  have e1 : (q * 3 + r) / 3 = q := by omega
  have e2 : (q * 3 + r) % 3 = r := by omega
  have e3 : (ns.toArray)[q]! = s := by rw [getElem!_pos _ _ (by simpa using hj)]; rw [List.getElem?_eq_getElem hj] at h0; simpa using h0
  rw [e1, e2, e3]
  match r, hr with
  | 0, _ => exact g0
  | 1, _ => exact g1
  | 2, _ => exact g2
  | r + 3, h => omega
theorem jb_holds {w : World} {base g n c : Nat} {ns : List Nat} (h : JbR w base 36 (.slice (some ⟨g, 0, none⟩) n c) ns) : Sort.HoldsK encJ 3 w g 0 ns.toArray := by
  rcases h.2 with ⟨e, _⟩ | ⟨g', cap, cur, e, hb, hg, hn, hmax, hcs, htake⟩
  · cases e
  · injection e with e1 e2 e3
    injection e1 with e1
    injection e1 with e1
    subst e1
    intro t ht
    have ht' : t < ns.length * 3 := by simpa using ht
    refine ⟨?_, frozen_of_row w g _ _ _ hg⟩
    rw [cell_of_row w g _ _ _ _ hg, Nat.zero_add]
    show cur[t]? = some (id _)
    rw [id, ← flat_jb ns t ht', ← htake, List.getElem?_take, if_pos ht', Array.getElem?_toList]
theorem sort_jb {w : World} {base g n c m : Nat} {ns ms : List Nat} {os : Array Obj} (h : JbR w base 36 (.slice (some ⟨g, 0, none⟩) n c) ns) (hl : ms.length = ns.length) :
    JbR (sortWorldK encJ 3 w g 0 m ms.toArray os) base 36 (.slice (some ⟨g, 0, none⟩) n c) ms ∧ Kp (fun q => q = g) w (sortWorldK encJ 3 w g 0 m ms.toArray os) := by
  have hlt := OwnT.lt h g rfl
  have hold : ∀ q : Nat, q < w.heap.size → (sortWorldK encJ 3 w g 0 m ms.toArray os).heap[q]? = (Sort.putRowK encJ 3 (Sort.ahead w m) g 0 ms.toArray).heap[q]? := fun q hq => Sort.heap_grow_old _ os (by simp [Sort.putRowK, Sort.putRow, Sort.mapBlock]; exact hq)
  have hmod : ∀ q : Nat, (Sort.putRowK encJ 3 (Sort.ahead w m) g 0 ms.toArray).heap[q]? = (w.heap.modify g (Sort.onCells (Sort.putCells id 0 (Sort.flatK encJ 3 ms.toArray))))[q]? := fun q => rfl
  refine ⟨?_, ⟨rfl, rfl, rfl, by simp [sortWorldK, Sort.grow, Sort.putRowK, Sort.putRow, Sort.mapBlock], fun q hq hn => ?_⟩⟩
  · rcases h.2 with ⟨e, _⟩ | ⟨g', cap, cur, e, hb, hg, hn, hmax, hcs, htake⟩
    · cases e
    · injection e with e1 e2 e3
      injection e1 with e1
      injection e1 with e1
      subst e1
      refine ⟨jbC_len ms, .inr ⟨g, cap, Sort.putCells id 0 (Sort.flatK encJ 3 ms.toArray) cur, by rw [e2, e3, hl], hb, ?_, by omega, hmax, by simp [Sort.putCells, hcs], ?_⟩⟩
      · rw [hold g hlt, hmod, Array.getElem?_modify, if_pos rfl, hg]
        rfl
      · apply List.ext_getElem?
        intro t
        rw [List.getElem?_take]
        by_cases ht : t < ms.length * 3
        · rw [if_pos ht, flat_jb ms t ht, Array.getElem?_toList]
          have htc : t < cur.size := by rw [hcs]; omega
          unfold Sort.putCells
          rw [Array.getElem?_mapIdx, Array.getElem?_eq_getElem htc, Option.map_some, if_pos ⟨Nat.zero_le _, by simpa using ht⟩]
          rfl
        · rw [if_neg ht, List.getElem?_eq_none (by rw [jbC_len]; omega)]
  · rw [hold q hq, hmod, Array.getElem?_modify, if_neg (fun e => hn e.symm)]
set_option maxHeartbeats 2000000 in
/-- SortFunc of any number of jobs. -/
theorem usort_any {w : World} {base g c n : Nat} {ns ms : List Nat} (h : JbR w base 36 (.slice (some ⟨g, 0, none⟩) n c) ns) (hbig : n ≤ 1000000000) (hnd : ns.Nodup) (hs : ms.Pairwise (· < ·)) (hm : ∀ x, x ∈ ms ↔ x ∈ ns) :
    Calls Try.prog 23 #[.slice (some ⟨g, 0, none⟩) n c, ucmpV] w fun e w1 => e = .returned (.tuple #[]) ∧ JbR w1 base 36 (.slice (some ⟨g, 0, none⟩) n c) ms ∧ Kp (fun q => q = g) w w1 := by
  have hn := OwnT.len h
  have eg : ∀ args w, (callFunc 24 args).run Try.prog w = .ok (.enter 24 args) w := enters_of Try.func24 (by kernel_rfl) rfl
  have hcmp : CmpLays Try.prog 24 #[] encJ 3 cmpN g 0 ns.toArray.size w := fun _ _ _ _ x y => ucompare_lays _ x y
  have hcon := AnyQ.slices_SortFunc_total Try.sortUj 3 Try.isAgg36 Try.sizeOf36 encJ (fun _ => rfl) (fun x v hv => by simp [encJ] at hv; rcases hv with rfl | rfl | rfl <;> rfl) cmpN swoU 24 #[] g 0 c ns.toArray w eg hcmp (jb_holds h) (OwnT.lt h g rfl) (by simp; omega) totU
  have hsz : ns.toArray.size = n := by simp [hn]
  rw [hsz] at hcon
  have hperm : (ns.toArray.toList.mergeSort fun x y => !ltOf cmpN y x) = ms := by
    have h1 : (ns.mergeSort fun x y => !ltOf cmpN y x).Perm ns := List.mergeSort_perm _ _
    have h2 : (ns.mergeSort fun x y => !ltOf cmpN y x).Pairwise fun x y => (!ltOf cmpN y x) = true := List.pairwise_mergeSort (fun a b c h1 h2 => by rw [ltU] at *; simp at *; omega) (fun a b => by rw [ltU, ltU]; simp; omega) _
    have h3 : (ns.mergeSort fun x y => !ltOf cmpN y x).Pairwise (· < ·) := by
      refine (h2.and (h1.nodup_iff.2 hnd)).imp fun {x y} ⟨a, b⟩ => ?_
      rw [ltU] at a
      simp at a
      omega
    exact sor_one h3 hs fun x => (h1.mem_iff).trans (hm x).symm
  rw [hperm] at hcon
  refine hcon.mono ?_
  rintro e w1 ⟨rfl, m, os, rfl⟩
  have hl : ms.length = ns.length := by rw [← hperm]; simp
  exact ⟨rfl, sort_jb h hl⟩
set_option maxHeartbeats 1000000 in
theorem uall_any {w : World} {F : Nat → Prop} {g : Nat} {r : List Nat} (h : QuAt w F g r) (hr : r.length ≤ 900000) : Calls Try.prog 18 #[.pointer (some ⟨g, 0, none⟩)] w (JrPost w r) := by
  obtain ⟨b, A, n, cp, R, M, h1, h2⟩ := h
  have hl : R.length = r.length := h2.len
  have HC := hide (uclone_any h1.row (by omega))
  have y0 := h1.c0
  have HS := hide h2.sor
  have HND := hide h2.nodup
  have HMR := hide (fun x => (h2.memR (x := x)).symm)
  have HL := hide hl
  have HR := hide hr
  clear h1 h2 hl hr
  go_enter Try.func18, Try.ntmps18
  go_wp2_with fail
  refine HC.out.mono ?_
  rintro e w1 ⟨A1, n1, c1, rfl, ho, k1⟩
  have hn1 := OwnT.len ho
  rcases A1 with _ | ad
  · have h0 : R.length = 0 ∧ n1 = 0 ∧ c1 = 0 := by
      rcases ho.2 with ⟨e, h0⟩ | ⟨g, cap, cur, e, _⟩
      · injection e with e1 e2 e3
        exact ⟨h0, e2, e3⟩
      · cases e
    obtain ⟨h1, rfl, rfl⟩ := h0
    have HK := hide k1
    have HE : Hid (r = []) := List.eq_nil_of_length_eq_zero (by rw [← HL.out]; exact h1)
    have hs := usortf0 w1
    unfold ucmpV at hs
    clear ho hn1 h1 k1 HC y0
    go_wp2_with fail
    refine hs.mono ?_
    rintro e w2 ⟨rfl, rfl⟩
    go_wp2_with fail
    go_ret
    refine ⟨none, 0, 0, rfl, ?_, HK.out⟩
    rw [HE.out]
    exact OwnT.nil _ _ _ _
  · have ha : ∃ g, ad = ⟨g, 0, none⟩ := by
      rcases ho.2 with ⟨e, h0⟩ | ⟨g, cap, cur, e, _⟩
      · cases e
      · injection e with e1
        injection e1 with e1
        exact ⟨g, e1⟩
    obtain ⟨gl, rfl⟩ := ha
    have hs := usort_any ho (by have := HR.out; have := HL.out; omega) HND.out HS.out HMR.out
    unfold ucmpV at hs
    have HSO := hide hs
    have HK := hide k1
    have HGL : Hid (w.heap.size ≤ gl) := OwnT.ge ho gl rfl
    clear ho hn1 k1 hs HC y0
    go_wp2_with fail
    refine HSO.out.mono ?_
    rintro e w2 ⟨rfl, ho2, k2⟩
    have HO2 := hide ho2
    have HK2 := hide k2
    clear ho2 k2
    go_wp2_with fail
    go_ret
    exact ⟨some ⟨gl, 0, none⟩, n1, c1, rfl, HO2.out, HK.out.trans (HK2.out.mono fun q e => .inr (by rw [e]; exact HGL.out))⟩
theorem uall_nil (w : World) : Calls Try.prog 18 #[.pointer none] w (JrPost w []) := by
  go_enter Try.func18, Try.ntmps18
  go_wp2
  go_ret
  exact ⟨none, 0, 0, rfl, OwnT.nil _ _ _ _, Kp.refl No w⟩
end Go.Proofs.Ytjbnbbblafmldaa
