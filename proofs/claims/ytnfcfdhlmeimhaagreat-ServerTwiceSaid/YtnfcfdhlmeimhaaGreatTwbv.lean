/- Package vault's List of any number of names: slices.SortFunc by the shelf's contract. -/
import Derived.Shelf.SlSortCmp.NoneTotal
import Derived.Ground.SlsfProg
import Derived.Test.YtnfcfdhlmeimhaaGreatTwbu
namespace Go.Proofs.YtnfcfdhlmeimhaaGreat
open Go.RowKit
set_option linter.unusedVariables false
set_option linter.unusedSimpArgs false
set_option maxRecDepth 20000

def Tryz.sortNm_ren : Go.Shelf.Ren := ⟨fun | 6 => 53 | 15 => 96 | 14 => 95 | 28 => 130 | 29 => 131 | 20 => 122 | 21 => 123 | 22 => 124 | 23 => 125 | 24 => 126 | 25 => 127 | 26 => 128 | 27 => 129 | 46 => 145 | 47 => 146 | 48 => 147 | 49 => 148 | 50 => 149 | 57 => 161 | n => n, fun | 22 => 74 | 24 => 53 | 25 => 128 | 3 => 3 | 39 => 178 | 0 => 0 | 53 => 50 | 55 => 44 | 4 => 4 | 46 => 204 | 45 => 203 | 50 => 199 | 5 => 5 | 9 => 9 | 66 => 223 | 70 => 226 | 76 => 233 | 77 => 160 | n => n, fun | n => n⟩
theorem Tryz.sortNm : Go.Proofs.SlLaysF0.n6 Tryz.prog Tryz.sortNm_ren where
  mixed := by kernel_rfl
  f6 := ⟨Tryz.f53.name, by decide, Tryz.func53.trans (congrArg some (by kernel_rfl))⟩
  f14 := ⟨Tryz.f95.name, by decide, Tryz.func95.trans (congrArg some (by kernel_rfl))⟩
  f15 := Tryz.func96.trans (congrArg some (by kernel_rfl))
  f20 := ⟨Tryz.f122.name, by decide, Tryz.func122.trans (congrArg some (by kernel_rfl))⟩
  f21 := ⟨Tryz.f123.name, by decide, Tryz.func123.trans (congrArg some (by kernel_rfl))⟩
  f22 := ⟨Tryz.f124.name, by decide, Tryz.func124.trans (congrArg some (by kernel_rfl))⟩
  f23 := ⟨Tryz.f125.name, by decide, Tryz.func125.trans (congrArg some (by kernel_rfl))⟩
  f24 := ⟨Tryz.f126.name, by decide, Tryz.func126.trans (congrArg some (by kernel_rfl))⟩
  f25 := ⟨Tryz.f127.name, by decide, Tryz.func127.trans (congrArg some (by kernel_rfl))⟩
  f26 := ⟨Tryz.f128.name, by decide, Tryz.func128.trans (congrArg some (by kernel_rfl))⟩
  f27 := ⟨Tryz.f129.name, by decide, Tryz.func129.trans (congrArg some (by kernel_rfl))⟩
  f28 := Tryz.func130.trans (congrArg some (by kernel_rfl))
  f29 := Tryz.func131.trans (congrArg some (by kernel_rfl))
  f46 := ⟨Tryz.f145.name, by decide, Tryz.func145.trans (congrArg some (by kernel_rfl))⟩
  f47 := Tryz.func146.trans (congrArg some (by kernel_rfl))
  f48 := Tryz.func147.trans (congrArg some (by kernel_rfl))
  f49 := ⟨Tryz.f148.name, by decide, Tryz.func148.trans (congrArg some (by kernel_rfl))⟩
  f50 := ⟨Tryz.f149.name, by decide, Tryz.func149.trans (congrArg some (by kernel_rfl))⟩
  f57 := ⟨Tryz.f161.name, by decide, Tryz.func161.trans (congrArg some (by kernel_rfl))⟩
  t0 := Tryz.underlying0
  a0 := Tryz.isAgg0
  z0 := Tryz.sizeOf0
  v0 := Tryz.zeroValue0
  t3 := Tryz.underlying3
  a3 := Tryz.isAgg3
  z3 := Tryz.sizeOf3
  v3 := Tryz.zeroValue3
  t4 := Tryz.underlying4
  a4 := Tryz.isAgg4
  z4 := Tryz.sizeOf4
  v4 := Tryz.zeroValue4
  t5 := Tryz.underlying5
  a5 := Tryz.isAgg5
  z5 := Tryz.sizeOf5
  v5 := Tryz.zeroValue5
  t9 := Tryz.underlying9
  a9 := Tryz.isAgg9
  z9 := Tryz.sizeOf9
  v9 := Tryz.zeroValue9
  t22 := Tryz.underlying74
  a22 := Tryz.isAgg74
  z22 := Tryz.sizeOf74
  v22 := Tryz.zeroValue74
  t25 := Tryz.underlying128
  a25 := Tryz.isAgg128
  z25 := Tryz.sizeOf128
  v25 := Tryz.zeroValue128
  t39 := Tryz.underlying178
  a39 := Tryz.isAgg178
  z39 := Tryz.sizeOf178
  v39 := Tryz.zeroValue178
  t45 := Tryz.underlying203
  a45 := Tryz.isAgg203
  z45 := Tryz.sizeOf203
  v45 := Tryz.zeroValue203
  t46 := Tryz.underlying204
  a46 := Tryz.isAgg204
  z46 := Tryz.sizeOf204
  v46 := Tryz.zeroValue204
  t50 := Tryz.underlying199
  a50 := Tryz.isAgg199
  z50 := Tryz.sizeOf199
  v50 := Tryz.zeroValue199
  t53 := Tryz.underlying50
  a53 := Tryz.isAgg50
  z53 := Tryz.sizeOf50
  v53 := Tryz.zeroValue50
  t55 := Tryz.underlying44
  a55 := Tryz.isAgg44
  z55 := Tryz.sizeOf44
  v55 := Tryz.zeroValue44
  t66 := Tryz.underlying223
  a66 := Tryz.isAgg223
  z66 := Tryz.sizeOf223
  v66 := Tryz.zeroValue223
  t70 := Tryz.underlying226
  a70 := Tryz.isAgg226
  z70 := Tryz.sizeOf226
  v70 := Tryz.zeroValue226
  t76 := Tryz.underlying233
  a76 := Tryz.isAgg233
  z76 := Tryz.sizeOf233
  v76 := Tryz.zeroValue233
  t77 := Tryz.underlying160
  a77 := Tryz.isAgg160
  z77 := Tryz.sizeOf160
  v77 := Tryz.zeroValue160
/-- Draws and new blocks. -/
def Lds (w w1 : World) : Prop := ∃ q os, w1 = Sort.grow (w.drewN q) os
section
variable {w w1 : World}
theorem Lds.refl (w : World) : Lds w w := ⟨0, #[], by simp [Sort.grow, World.drewN]⟩
theorem Lds.alloc (h : Lds w w1) (o : Obj) : Lds w (w1.alloc o) := by
  obtain ⟨q, os, rfl⟩ := h
  exact ⟨q, os.push o, by simp [World.alloc, Sort.grow]⟩
theorem Lds.drew (h : Lds w w1) : Lds w w1.drew := by
  obtain ⟨q, os, rfl⟩ := h
  exact ⟨q + 1, os, by simp [World.drew, World.drewN, Sort.grow, Nat.add_assoc]⟩
end
set_option maxHeartbeats 4000000 in
theorem compare_lays (w : World) (a b : Nat) : Calls Tryz.prog 54 #[shV a, shV b] w fun e w1 => e = .returned (.int .i64 (cmpN a b)) ∧ Lds w w1 := by
  have hp := hide (cmpN_parts a b)
  unfold shV
  generalize cO a = a0 at hp ⊢
  generalize cO b = b0 at hp ⊢
  generalize cS a = a1 at hp ⊢
  generalize cS b = b1 at hp ⊢
  generalize cL a = a2 at hp ⊢
  generalize cL b = b2 at hp ⊢
  generalize cG a = a3 at hp ⊢
  generalize cG b = b3 at hp ⊢
  go_enter Tryz.func54, Tryz.ntmps54
  go_wp2_with fail
  obtain ⟨p0, p1, p2, p3⟩ := (Box4.new1 w (.cells #[.int .u32 b0, .int .u16 b1, .int .u16 b2, .int .u32 b3] 53) (.int .u32 a0) (.int .u16 a1) (.int .u16 a2) (.int .u32 a3)).cell
  obtain ⟨q0, q1, q2, q3⟩ := (Box4.new2 w (.cells #[.int .u32 a0, .int .u16 a1, .int .u16 a2, .int .u32 a3] 53) (.int .u32 b0) (.int .u16 b1) (.int .u16 b2) (.int .u32 b3)).cell
  go_region_held3 (fun w' => w'.cell? ⟨w.heap.size, 0, none⟩ = some (.int .u32 a0) ∧ w'.cell? ⟨w.heap.size, 1, none⟩ = some (.int .u16 a1) ∧ w'.cell? ⟨w.heap.size, 2, none⟩ = some (.int .u16 a2) ∧ w'.cell? ⟨w.heap.size, 3, none⟩ = some (.int .u32 a3) ∧
      w'.cell? ⟨w.heap.size + 1, 0, none⟩ = some (.int .u32 b0) ∧ w'.cell? ⟨w.heap.size + 1, 1, none⟩ = some (.int .u16 b1) ∧ w'.cell? ⟨w.heap.size + 1, 2, none⟩ = some (.int .u16 b2) ∧ w'.cell? ⟨w.heap.size + 1, 3, none⟩ = some (.int .u32 b3)) (first | assumption | go_keep)
    (first
      | (go_at_call 98; ((with_reducible refine (cmp_u32 _ a0 b0).mono ?_); rintro e w1 ⟨rfl, rfl⟩))
      | (go_at_call 99; ((with_reducible refine (cmp_u16 _ a1 b1).mono ?_); rintro e w1 ⟨rfl, rfl⟩))
      | (go_at_call 99; ((with_reducible refine (cmp_u16 _ a2 b2).mono ?_); rintro e w1 ⟨rfl, rfl⟩))
      | (go_at_call 98; ((with_reducible refine (cmp_u32 _ a3 b3).mono ?_); rintro e w1 ⟨rfl, rfl⟩))
      | (go_at_call 97; ((with_reducible refine (or_any (four_new _ _ _ _ _ _ _ _)).mono ?_); rintro e w1 ⟨rfl, rfl⟩)))
  go_wp2
  go_ret
  exact ⟨ret_int hp.out, (((Lds.refl w).alloc _ |>.alloc _).drew).alloc _⟩
/-- A name's four cells. -/
def encS (s : Nat) : List Value := [.int .u32 (cO s : Int), .int .u16 (cS s : Int), .int .u16 (cL s : Int), .int .u32 (cG s : Int)]
theorem ltN (a b : Nat) : ltOf cmpN a b = decide (a < b) := by
  unfold ltOf cmpN
  by_cases h1 : a < b
  · simp [h1]
  · by_cases h2 : b < a <;> simp [h1, h2]
theorem swoN : Sort.SWO (ltOf cmpN) where
  irrefl x := by rw [ltN]; simp
  trans x y z h1 h2 := by rw [ltN] at *; simp at *; omega
  ntrans x y z h1 h2 := by rw [ltN] at *; simp at *; omega
theorem totN (a b : Nat) (h1 : ltOf cmpN a b = false) (h2 : ltOf cmpN b a = false) : a = b := by
  rw [ltN] at h1 h2
  simp at h1 h2
  omega
theorem flat_nm (ns : List Nat) (t : Nat) (h : t < ns.length * 4) : (nmC ns)[t]? = some (Sort.flatK encS 4 ns.toArray)[t]! := by
  rw [Sort.get_flatK encS 4 ns.toArray t (by simpa using h)]
  obtain ⟨q, r, hr, rfl⟩ : ∃ q r, r < 4 ∧ t = q * 4 + r := ⟨t / 4, t % 4, Nat.mod_lt _ (by omega), by omega⟩
  have hj : q < ns.length := by omega
  obtain ⟨s, h0⟩ : ∃ s, ns[q]? = some s := ⟨_, List.getElem?_eq_getElem hj⟩
  obtain ⟨g0, g1, g2, g3⟩ := nmC_get h0
  have e1 : (q * 4 + r) / 4 = q := by omega
  have e2 : (q * 4 + r) % 4 = r := by omega
  have e3 : (ns.toArray)[q]! = s := by rw [getElem!_pos _ _ (by simpa using hj)]; rw [List.getElem?_eq_getElem hj] at h0; simpa using h0
  rw [e1, e2, e3]
  match r, hr with
  | 0, _ => exact g0
  | 1, _ => exact g1
  | 2, _ => exact g2
  | 3, _ => exact g3
  | r + 4, h => omega
theorem own_holds {w : World} {base g n c : Nat} {ns : List Nat} (h : OwnT w base 53 4 (.slice (some ⟨g, 0, none⟩) n c) ns.length (nmC ns)) : Sort.HoldsK encS 4 w g 0 ns.toArray := by
  rcases h.2 with ⟨e, _⟩ | ⟨g', cap, cur, e, hb, hg, hn, hmax, hcs, htake⟩
  · cases e
  · injection e with e1 e2 e3
    injection e1 with e1
    injection e1 with e1
    subst e1
    intro t ht
    have ht' : t < ns.length * 4 := by simpa using ht
    refine ⟨?_, frozen_of_row w g _ _ _ hg⟩
    rw [cell_of_row w g _ _ _ _ hg, Nat.zero_add]
    show cur[t]? = some (id _)
    rw [id, ← flat_nm ns t ht', ← htake, List.getElem?_take, if_pos ht', Array.getElem?_toList]
theorem sort_own {w : World} {base g n c m : Nat} {ns ms : List Nat} {os : Array Obj} (h : OwnT w base 53 4 (.slice (some ⟨g, 0, none⟩) n c) ns.length (nmC ns)) (hl : ms.length = ns.length) :
    OwnT (sortWorldK encS 4 w g 0 m ms.toArray os) base 53 4 (.slice (some ⟨g, 0, none⟩) n c) ms.length (nmC ms) ∧ Kp (fun q => q = g) w (sortWorldK encS 4 w g 0 m ms.toArray os) := by
  have hlt := h.lt g rfl
  have hold : ∀ q : Nat, q < w.heap.size → (sortWorldK encS 4 w g 0 m ms.toArray os).heap[q]? = (Sort.putRowK encS 4 (Sort.ahead w m) g 0 ms.toArray).heap[q]? := fun q hq => Sort.heap_grow_old _ os (by simp [Sort.putRowK, Sort.putRow, Sort.mapBlock]; exact hq)
  have hmod : ∀ q : Nat, (Sort.putRowK encS 4 (Sort.ahead w m) g 0 ms.toArray).heap[q]? = (w.heap.modify g (Sort.onCells (Sort.putCells id 0 (Sort.flatK encS 4 ms.toArray))))[q]? := fun q => rfl
  refine ⟨?_, ⟨rfl, rfl, rfl, by simp [sortWorldK, Sort.grow, Sort.putRowK, Sort.putRow, Sort.mapBlock], fun q hq hn => ?_⟩⟩
  · rcases h.2 with ⟨e, _⟩ | ⟨g', cap, cur, e, hb, hg, hn, hmax, hcs, htake⟩
    · cases e
    · injection e with e1 e2 e3
      injection e1 with e1
      injection e1 with e1
      subst e1
      refine ⟨nmC_len ms, .inr ⟨g, cap, Sort.putCells id 0 (Sort.flatK encS 4 ms.toArray) cur, by rw [e2, e3, hl], hb, ?_, by omega, hmax, by simp [Sort.putCells, hcs], ?_⟩⟩
      · rw [hold g hlt, hmod, Array.getElem?_modify, if_pos rfl, hg]
        rfl
      · apply List.ext_getElem?
        intro t
        rw [List.getElem?_take]
        by_cases ht : t < ms.length * 4
        · rw [if_pos ht, flat_nm ms t ht, Array.getElem?_toList]
          have htc : t < cur.size := by rw [hcs]; omega
          unfold Sort.putCells
          rw [Array.getElem?_mapIdx, Array.getElem?_eq_getElem htc, Option.map_some, if_pos ⟨Nat.zero_le _, by simpa using ht⟩]
          rfl
        · rw [if_neg ht, List.getElem?_eq_none (by rw [nmC_len]; omega)]
  · rw [hold q hq, hmod, Array.getElem?_modify, if_neg (fun e => hn e.symm)]
set_option maxHeartbeats 2000000 in
/-- SortFunc of any number of names. -/
theorem sortfn_any {w : World} {base g c n : Nat} {ns ms : List Nat} (h : OwnT w base 53 4 (.slice (some ⟨g, 0, none⟩) n c) ns.length (nmC ns)) (hbig : n ≤ 1000000000) (hnd : ns.Nodup) (hs : ms.Pairwise (· < ·)) (hm : ∀ x, x ∈ ms ↔ x ∈ ns) :
    Calls Tryz.prog 53 #[.slice (some ⟨g, 0, none⟩) n c, cmpV] w fun e w1 => e = .returned (.tuple #[]) ∧ OwnT w1 base 53 4 (.slice (some ⟨g, 0, none⟩) n c) ms.length (nmC ms) ∧ Kp (fun q => q = g) w w1 := by
  have hn := h.len
  have eg : ∀ args w, (callFunc 54 args).run Tryz.prog w = .ok (.enter 54 args) w := enters_of Tryz.func54 (by kernel_rfl) rfl
  have hcmp : CmpLays Tryz.prog 54 #[] encS 4 cmpN g 0 ns.toArray.size w := fun _ _ _ _ x y => compare_lays _ x y
  have hcon := AnyQ.slices_SortFunc_total Tryz.sortNm 4 Tryz.isAgg53 Tryz.sizeOf53 encS (fun _ => rfl) (fun x v hv => by simp [encS] at hv; rcases hv with rfl | rfl | rfl | rfl <;> rfl) cmpN swoN 54 #[] g 0 c ns.toArray w eg hcmp (own_holds h) (h.lt g rfl) (by simp; omega) totN
  have hsz : ns.toArray.size = n := by simp [hn]
  rw [hsz] at hcon
  have hperm : (ns.toArray.toList.mergeSort fun x y => !ltOf cmpN y x) = ms := by
    have h1 : (ns.mergeSort fun x y => !ltOf cmpN y x).Perm ns := List.mergeSort_perm _ _
    have h2 : (ns.mergeSort fun x y => !ltOf cmpN y x).Pairwise fun x y => (!ltOf cmpN y x) = true := List.pairwise_mergeSort (fun a b c h1 h2 => by rw [ltN] at *; simp at *; omega) (fun a b => by rw [ltN, ltN]; simp; omega) _
    have h3 : (ns.mergeSort fun x y => !ltOf cmpN y x).Pairwise (· < ·) := by
      refine (h2.and (h1.nodup_iff.2 hnd)).imp fun {x y} ⟨a, b⟩ => ?_
      rw [ltN] at a
      simp at a
      omega
    exact sorted_one h3 hs fun x => (h1.mem_iff).trans (hm x).symm
  rw [hperm] at hcon
  refine hcon.mono ?_
  rintro e w1 ⟨rfl, m, os, rfl⟩
  have hl : ms.length = ns.length := by rw [← hperm]; simp
  exact ⟨rfl, sort_own h hl⟩
set_option maxHeartbeats 2000000 in
/-- List of any number of names. -/
theorem vlistn_any {w : World} {F : Nat → Prop} {g gd b : Nat} {V : Vt} (h : VtR w F g gd b V) (h12 : V.D.cells.length ≤ 1000) : Calls Tryz.prog 26 #[.pointer (some ⟨g, 0, none⟩)] w (RlPost w V.lst) := by
  have hLn : V.L.length ≤ 1000 := Nat.le_trans h.ok.kn.len h12
  have hsort := h.ok.sorted
  have hdn := h.ok.kn.dn
  have HSO := hide hsort
  have HDN := hide hdn
  have HM := hide h.mp
  have c1 := h.blk.c1
  have hbl := h.mp.lt
  have HLN := hide hLn
  have hcl : ∀ p ∈ V.L, p.2 < N96 := h.ok.kn.nm
  have HCL := hide hcl
  clear h hsort hdn hLn hcl
  go_enter Tryz.func26, Tryz.ntmps26
  go_wp2_with (first | (at_range; refine wpList_mrange rfl _ rfl rfl HM.out w.heap.size rfl ?_; intro w2 hr2 hk2 hz2; go_frame))
  have hI : VlI w b V.L none 0 0 w2 := ⟨⟨[], V.L, hr2, OwnT.nil _ _ _ _, rfl⟩, hk2, fun _ => ⟨rfl, rfl⟩⟩
  have HI := hide hI
  clear hr2 hk2 hz2 c1 hI
  go_loopw [3] (fun lv wr => ∃ (A : Option Addr) (n c : Nat), lv = .slice A n c ∧ VlI w b V.L A n c wr) (fun _ wr => wr.rangeLeft b w.heap.size)
  case atStart => exact ⟨none, 0, 0, rfl, HI.out⟩
  case round =>
    clear HI
    obtain ⟨A, n, c, rfl, ⟨dn, left, hr, hO, hn⟩, hkp, hz⟩ := hrel
    rename World => wr
    have HO := hide hO
    have HKP := hide hkp
    have HN := hide hn
    have HZ := hide hz
    have HR := hide hr
    clear hO hkp hn hz
    go_wp2_with (first | (at_next; refine wpList_mnext rfl _ rfl rfl hr ?done ?more))
    case done =>
      intro hl
      subst hl
      have hpm := hr.pm
      rw [List.append_nil] at hpm
      have hlen : n = V.L.length := by rw [HN.out]; exact hpm.length_eq
      have hn12 : n ≤ 1000 := by rw [hlen]; exact HLN.out
      have hnd : (dn.map Prod.snd).Nodup := (hpm.map Prod.snd).nodup_iff.2 HDN.out
      have hmem : ∀ x, x ∈ V.lst ↔ x ∈ dn.map Prod.snd := fun x => by
        rw [Vt.lst_mem, kn_iff, List.mem_map]
        constructor
        · rintro ⟨p, hp, e⟩
          exact ⟨p, hpm.mem_iff.2 hp, e⟩
        · rintro ⟨p, hp, e⟩
          exact ⟨p, hpm.mem_iff.1 hp, e⟩
      have hdone := srt_done hnd HSO.out hmem
      have hml : (dn.map Prod.snd).length = n := by rw [List.length_map, HN.out]
      have hll : V.lst.length = n := by unfold Vt.lst; rw [lst_len, hlen]
      have HDONE := hide hdone
      have HND := hide hnd
      have HMEM := hide hmem
      have HML := hide hml
      have HLL := hide hll
      have ho := HO.out
      clear hr hpm hlen hnd hmem hdone hml hll
      rcases Nat.eq_zero_or_pos n with h0 | h0
      · obtain ⟨rfl, rfl⟩ := HZ.out h0
        subst h0
        clear ho
        go_wp2_with fail
        refine (sortf0 _).mono ?_
        rintro e w' ⟨rfl, rfl⟩
        go_wp2_with fail
        go_ret
        refine ⟨none, 0, 0, rfl, ?_, HLL.out.symm, HKP.out⟩
        rw [List.eq_nil_of_length_eq_zero HLL.out]
        exact OwnT.nil _ _ _ _
      · obtain ⟨gl, rfl, _⟩ := ho.some_ h0
        have ho2 : OwnT wr (w.heap.size + 1) 53 4 (.slice (some ⟨gl, 0, none⟩) n c) (dn.map Prod.snd).length (nmC (dn.map Prod.snd)) := by rw [HML.out]; exact ho
        have hs := sortfn_any ho2 (by omega) HND.out HSO.out HMEM.out
        have HS := hide hs
        clear ho ho2 hs
        unfold cmpV at HS
        go_wp2_with fail
        refine HS.out.mono ?_
        rintro e w5 ⟨rfl, ho5, hk5⟩
        rw [HLL.out] at ho5
        have HO5 := hide ho5
        have HK5 := hide hk5
        clear ho5 hk5
        go_wp2_with fail
        go_ret
        exact ⟨_, n, c, rfl, ownT_rebase HO5.out fun q e => by have := HO5.out.ge q e; omega, HLL.out.symm, HKP.out.trans (HK5.out.mono fun q e => .inr (by rw [e]; have := HO.out.ge gl rfl; omega))⟩
    case more =>
      intro c' s w3 left' hs hc hmem hr3 hlt hk3 he
      have HR3 := hide hr3
      have hrl := hr.lt
      have hbl2 := hr.map.lt
      have HO3 := hide (HO.out.keep hk3 fun q e e2 => by have := HO.out.ge q e; omega)
      have HK3 := hide (HKP.out.trans (hk3.mono fun q e => .inr (by subst e; exact Nat.le_refl _)))
      have HLT := hide hlt
      have hdl : n ≤ 1000 := by rw [HN.out]; have := hr.pm.length_eq; rw [List.length_append] at this; have := HLN.out; omega
      have HS3 := hide hk3.size
      have hb3 := Bx4.new w3 (.int .u32 (cO s : Int)) (.int .u16 (cS s : Int)) (.int .u16 (cL s : Int)) (.int .u32 (cG s : Int))
      have K3 := (Kp.alloc No w3 (.cells #[.int .u32 (cO s : Int), .int .u16 (cS s : Int), .int .u16 (cL s : Int), .int .u32 (cG s : Int)] 53))
      have K4 := K3.trans' (Kp.alloc No _ (.cells #[.int .u32 (cO s : Int), .int .u16 (cS s : Int), .int .u16 (cL s : Int), .int .u32 (cG s : Int)] 53))
      have ho4 := HO3.out.no K4
      have HK4 := hide K4
      have hb4 := Box4.new2 w3 (.cells #[.int .u32 (cO s : Int), .int .u16 (cS s : Int), .int .u16 (cL s : Int), .int .u32 (cG s : Int)] 53) (.int .u32 (cO s : Int)) (.int .u16 (cS s : Int)) (.int .u16 (cL s : Int)) (.int .u32 (cG s : Int))
      have hbase : w.heap.size + 1 ≤ ((w3.alloc (.cells #[.int .u32 (cO s : Int), .int .u16 (cS s : Int), .int .u16 (cL s : Int), .int .u32 (cG s : Int)] 53)).alloc (.cells #[.int .u32 (cO s : Int), .int .u16 (cS s : Int), .int .u16 (cL s : Int), .int .u32 (cG s : Int)] 53)).heap.size := by have h1 := hk3.size; simp; omega
      obtain ⟨p0, p1, p2, p3⟩ := hb3.cell
      clear hr hlt hr3 hk3 K3 K4
      go_wp2_with (first
        | (at_builtin
           refine wpList_appT ty_sh rfl (.tmp 16) (.tmp 18) _ rfl Tryz.underlying74 rfl ho4 _ _ rfl (nws_box hb4 rfl rfl rfl rfl) (by omega) hbase ?_
           intro A5 n5 c5 w5 hn5 ha5
           have HN5 := hide hn5
           have HA5 := hide ha5
           clear hn5 ha5 ho4 hb4 hbase p0 p1 p2 p3 hb3))
      have hSb : ¬ (fun k => (Value.slice A n c).ownBlock = some k) b := fun e => by have := HO3.out.ge b e; omega
      have hSr : ¬ (fun k => (Value.slice A n c).ownBlock = some k) w.heap.size := fun e => by have := HO3.out.ge w.heap.size e; omega
      go_round
      case rel =>
        refine ⟨A5, n5, c5, rfl, ⟨dn ++ [(c', s)], left', (HR3.out.no HK4.out).keep HA5.out.kp hSb hSr, ?_, ?_⟩, ?_, fun e => ?_⟩
        · have ho5 := HA5.out.own
          rw [← HN5.out] at ho5
          rw [List.map_append, nmC_append]
          exact ho5
        · rw [HN5.out, List.length_append, HN.out]; rfl
        · exact (HK3.out.trans' HK4.out).trans (HA5.out.kp.mono fun q e => .inr (by have := HO3.out.ge q e; omega))
        · rw [HN5.out] at e; omega
      case measure =>
        have e1 := left_kp HK4.out (fun f => f) (fun f => f) (b := b) (r := w.heap.size) (by have := HS3.out; omega) (by have := HS3.out; omega)
        have e2 := left_kp HA5.out.kp hSb hSr (by have := HS3.out; have := HK4.out.size; omega) (by have := HS3.out; have := HK4.out.size; omega)
        rw [e2, e1]
        exact HLT.out
end Go.Proofs.YtnfcfdhlmeimhaaGreat
