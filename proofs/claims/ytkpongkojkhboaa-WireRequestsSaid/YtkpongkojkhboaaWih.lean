/- Law 15's is (of two requests that are the same), and a box of the document's request, as contracts over memory. -/
import Derived.Test.YtkpongkojkhboaaWig
import Derived.Test.YtkpongkojkhboaaVsx
namespace Go.Proofs.Ytkpongkojkhboaa
open Go.RowKit
set_option linter.unusedVariables false
set_option linter.unusedSimpArgs false
set_option maxRecDepth 20000

set_option maxHeartbeats 2000000 in
theorem is15_any {w : World} (q : Rq) (hf : q.Fit) {A B : Option Addr} {n c m d : Nat} (ha : Bts w (.slice A n c) q.data) (hb : Bts w (.slice B m d) q.data) :
    Calls Try.prog 8 #[rqV q (.slice A n c), rqV q (.slice B m d)] w (RtPostK w true) := by
  have hc := fun (w : World) (v : Value) (bs : List UInt8) (h : Bts w v bs) => h.str (P := Try.prog) 27 9 5 Try.underlying27 Try.underlying5 Try.underlying9
  have hs := hf.s
  obtain ⟨num, k, s, l, data⟩ := q
  dsimp only at ha hb hs
  have K : Kp No w ((w.alloc (.cells #[.int .u64 (num : Int), .int .i64 k, .int .u32 (cO s : Int), .int .u16 (cS s : Int), .int .u16 (cL s : Int), .int .u32 (cG s : Int), .int .u16 (l : Int), .slice A n c] 31)).alloc (.cells #[.int .u64 (num : Int), .int .i64 k, .int .u32 (cO s : Int), .int .u16 (cS s : Int), .int .u16 (cL s : Int), .int .u32 (cG s : Int), .int .u16 (l : Int), .slice B m d] 29)) := (Kp.alloc No w _).trans' (Kp.alloc No _ _)
  have cA := hc _ _ _ (ha.no K)
  have cB := hc _ _ _ (hb.no K)
  have HK := hide K
  have HS := hide hs
  have heq : (s == s) = true := by simp
  have HE := hide heq
  clear hc ha hb K hs hf heq
  go_enter Try.func8, Try.ntmps8
  go_wp2_with (refine wpList_seql_want (s := s) (t := s) rfl _ _ rfl rfl rfl HS.out HS.out true HE.out ?_)
  go_ret
  exact ⟨rfl, HK.out⟩
end Go.Proofs.Ytkpongkojkhboaa
