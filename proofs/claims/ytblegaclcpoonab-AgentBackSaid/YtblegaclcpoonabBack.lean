/- AgentBack, all ways together. -/
import Derived.Test.YtblegaclcpoonabBackE
import Derived.Test.YtblegaclcpoonabBack0
import Derived.Test.YtblegaclcpoonabBack1
import Derived.Test.YtblegaclcpoonabBack2
namespace Go.Proofs.Ytblegaclcpoonab.Agent
open Go.ChangeShapes Go.WideShapes Go.ChangeAt Go.RowKit

theorem back_any (t o : Int) (g : Bool) (t' o' : Int) (g' : Bool) (n m : Int) (w : World) :
    Calls Try.prog 6 #[pv t o g, pv t' o' g', .int .i64 n, .int .i64 m] w fun e w' => e = .returned (.bool true) ∧ Below w.heap.size w w' := by
  cases hp : okB t o
  · exact back_a t o g t' o' g' n m w hp
  cases hq : okB t' o'
  · exact back_b t o g t' o' g' n m w hp hq
  by_cases n0 : 1 ≤ n
  case neg => exact back_c t o g t' o' g' n m w hp hq (by omega)
  by_cases n1 : n ≤ 1000000000000000
  case neg => exact back_d t o g t' o' g' n m w hp hq n0 (by omega)
  by_cases m0 : 1 ≤ m
  case neg => exact back_e t o g t' o' g' n m w hp hq n0 n1 (by omega)
  by_cases m1 : m ≤ 1000000000000000 - n
  case neg => exact back_f t o g t' o' g' n m w hp hq n0 n1 m0 (by omega)
  have b := okB_in hp
  have b' := okB_in hq
  cases g
  case true =>
    have hx : psE t o true t' o' g' n ≠ 0 := by
      have e := (ch_off (s := t) (c := -n) (rdy_off hp n0 n1)).1
      unfold psE
      rw [e, if_neg (by decide)]
      decide
    exact back_g t o t' o' g' n m w hp hq n0 n1 m0 m1 hx (by simpa using hx)
  by_cases hx : psE t o false t' o' g' n = 0
  · obtain ⟨rfl, ha, hb⟩ := psE_0 hp hq n0 n1 hx
    by_cases he : o + n ≤ 1000000000000000
    · by_cases ht : t + n ≤ 1000000000000000
      · by_cases hm : t + n + m ≤ 1000000000000000
        · exact back_ok_ok_ok t o t' o' n m w hp hq n0 n1 m0 m1 ht hm he ha hb (by omega) (by omega) (by omega) (by omega)
        · exact back_okfull_ok_ok t o t' o' n m w hp hq n0 n1 m0 m1 ht (by omega) he ha hb (by omega) (by omega) (by omega) (by omega)
      · exact back_full_ok_ok t o t' o' n m w hp hq n0 n1 m0 m1 (by omega) he ha hb (by omega) (by omega) (by omega) (by omega)
    · by_cases ht : t + n ≤ 1000000000000000
      · by_cases hm : t + n + m ≤ 1000000000000000
        · exact back_ok_full_ok t o t' o' n m w hp hq n0 n1 m0 m1 ht hm (by omega) ha hb (by omega) (by omega) (by omega) (by omega)
        · exact back_okfull_full_ok t o t' o' n m w hp hq n0 n1 m0 m1 ht (by omega) (by omega) ha hb (by omega) (by omega) (by omega) (by omega)
      · exact back_full_full_ok t o t' o' n m w hp hq n0 n1 m0 m1 (by omega) (by omega) ha hb (by omega) (by omega) (by omega) (by omega)
  · have hy : (psE t o false t' o' g' n == 0) = false := by simpa using hx
    by_cases he : o + n ≤ 1000000000000000
    · by_cases ht : t + n ≤ 1000000000000000
      · by_cases hm : t + n + m ≤ 1000000000000000
        · exact back_ok_ok_no t o t' o' g' n m w hp hq n0 n1 m0 m1 ht hm he hx hy
        · exact back_okfull_ok_no t o t' o' g' n m w hp hq n0 n1 m0 m1 ht (by omega) he hx hy
      · exact back_full_ok_no t o t' o' g' n m w hp hq n0 n1 m0 m1 (by omega) he hx hy
    · by_cases ht : t + n ≤ 1000000000000000
      · by_cases hm : t + n + m ≤ 1000000000000000
        · exact back_ok_full_no t o t' o' g' n m w hp hq n0 n1 m0 m1 ht hm (by omega) hx hy
        · exact back_okfull_full_no t o t' o' g' n m w hp hq n0 n1 m0 m1 ht (by omega) (by omega) hx hy
      · exact back_full_full_no t o t' o' g' n m w hp hq n0 n1 m0 m1 (by omega) (by omega) hx hy
end Go.Proofs.Ytblegaclcpoonab.Agent
