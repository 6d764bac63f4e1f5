/-
  DiskKeeps: its last region.
-/
import Derived.Test.YtppgkhcmdajolaaRgx
namespace Go.Proofs.Ytppgkhcmdajolaa
open Go.RowKit

def dk_b46 (_ _ : Nat) (_ : ByteArray) : Bool := ((decide ((0 : Int) = 0)) && (decide ((0 : Int) = 0)))
def dk_b50 (i m : Nat) (s : ByteArray) : Bool := ((dk_b46 i m s) && (decide (0 ≤ ((i : Nat) : Int))))
def dk_b57 (i m : Nat) (s : ByteArray) : Bool := ((dk_b50 i m s) && (decide (((i : Nat) : Int) < ((m : Nat) : Int))))
def dk_b66 (i m : Nat) (s : ByteArray) : Bool := ((dk_b57 i m s) && (decide (s = s)))
def dk_b71 (i m : Nat) (s : ByteArray) : Bool := ((dk_b66 i m s) && true)
noncomputable def dk_R : Array Oper := ((Try.f4.body).bind (regionOf 8)).getD #[]
def dk_V (i m q2 g o yc yd zc zd : Nat) (ya yb zb : Option Addr) (s : ByteArray) (j : Nat) : Value := ([.int .i64 (0 : Int), .bool (decide ((0 : Int) = 0)), .bool (decide ((0 : Int) = 0)), gw ((decide ((0 : Int) = 0)) == true) (.int .i64 (0 : Int)), gw ((decide ((0 : Int) = 0)) == true) (.bool (decide ((0 : Int) = 0))), .bool (dk_b46 i m s), .bool (dk_b46 i m s), gw ((dk_b46 i m s) == true) (.int .i64 ((i : Nat) : Int)), gw ((dk_b46 i m s) == true) (.bool (decide (0 ≤ ((i : Nat) : Int)))), .bool (dk_b50 i m s), .bool (dk_b50 i m s), gw ((dk_b50 i m s) == true) (.int .i64 ((i : Nat) : Int)), gw ((dk_b50 i m s) == true) (.pointer (some ⟨q2, 0, none⟩)), gw ((dk_b50 i m s) == true) (.slice (some ⟨g, o, none⟩) m zc), gw ((dk_b50 i m s) == true) (.int .i64 ((m : Nat) : Int)), gw ((dk_b50 i m s) == true) (.bool (decide (((i : Nat) : Int) < ((m : Nat) : Int)))), .bool (dk_b57 i m s), .bool (dk_b57 i m s), gw ((dk_b57 i m s) == true) (.pointer (some ⟨q2, 0, none⟩)), gw ((dk_b57 i m s) == true) (.slice (some ⟨g, o, none⟩) m zc), gw ((dk_b57 i m s) == true) (.int .i64 ((i : Nat) : Int)), gw ((dk_b57 i m s) == true) (.pointer (some ⟨g, o + i, none⟩)), gw ((dk_b57 i m s) == true) (.string s), gw ((dk_b57 i m s) == true) (.string s), gw ((dk_b57 i m s) == true) (.bool (decide (s = s))), .bool (dk_b66 i m s), .bool (dk_b66 i m s), gw ((dk_b66 i m s) == true) (.agg #[.slice ya m yc, .slice yb 0 yd]), gw ((dk_b66 i m s) == true) (.agg #[.slice (some ⟨g, o, none⟩) m zc, .slice zb 0 zd]), gw ((dk_b66 i m s) == true) (.bool true), .bool (dk_b71 i m s), .bool (dk_b71 i m s)] : List Value).getD j undef
def dk_d : List (Option Tmp) := [some 41, some 42, some 43, some 44, some 45, some 46, some 47, some 48, some 49, some 50, some 51, some 52, some 53, some 54, some 55, some 56, some 57, some 58, some 59, some 60, some 61, some 62, some 63, some 64, some 65, some 66, some 67, some 68, some 69, some 70, some 71, some 8]
set_option maxRecDepth 100000 in
theorem dk_nodup : dk_d.Nodup := by unfold dk_d; decide

set_option maxRecDepth 100000 in
theorem dk_wp {i m q1 q2 g o yc yd zc zd : Nat} {ya yb zb : Option Addr} {s : ByteArray} {S : World → Prop} {a0 : Act} {Q : Exit → Act → World → Prop} {w : World} (h1 : a0.tmps[1]? = some (.int .i64 ((i : Nat) : Int))) (h2 : a0.tmps[2]? = some (.string s)) (h11 : a0.tmps[11]? = some (.pointer (some ⟨q1, 0, none⟩))) (h12 : a0.tmps[12]? = some (.int .i64 (0 : Int))) (h13 : a0.tmps[13]? = some (.pointer (some ⟨q2, 0, none⟩))) (h14 : a0.tmps[14]? = some (.int .i64 (0 : Int))) (hy0 : ∀ W, S W → W.cell? ⟨q1, 0, none⟩ = some (.slice ya m yc)) (hy1 : ∀ W, S W → W.cell? ⟨q1, 1, none⟩ = some (.slice yb 0 yd)) (hz0 : ∀ W, S W → W.cell? ⟨q2, 0, none⟩ = some (.slice (some ⟨g, o, none⟩) m zc)) (hz1 : ∀ W, S W → W.cell? ⟨q2, 1, none⟩ = some (.slice zb 0 zd)) (hs : ∀ W, S W → W.cell? ⟨g, o + i, none⟩ = some (.string s)) (hi : i < m) (q70 : ∀ W, S W → Calls Try.prog 18 #[.agg #[.slice ya m yc, .slice yb 0 yd], .agg #[.slice (some ⟨g, o, none⟩) m zc, .slice zb 0 zd]] W fun e w' => e = .returned (.bool true) ∧ S w') (ha : a0.tmps.size = 72) (hS : S w)
    (hq : ∀ a' w', S w' → a'.defers = a0.defers → a'.tmps.size = 72 → (∀ j d, dk_d[j]? = some (some d) → a'.tmps[d]? = some (dk_V i m q2 g o yc yd zc zd ya yb zb s j)) → (∀ d, some d ∉ dk_d → a'.tmps[d]? = a0.tmps[d]?) → Q .normal a' w') : wpOps Try.prog dk_R Q (List.range dk_R.size) a0 w := by
  have hz : dk_R.size = 32 := by kernel_rfl
  refine wp_plainO (m := 72) hz (by kernel_rfl) dk_nodup (by kernel_rfl) ha ?_ hS hq
  refine us ?_ (obPU hz (by decide) (by kernel_rfl) fun _ _ s _ => ex_assign (x := .tmp 71) (by kernel_rfl) (s.u 30 71 (by kernel_rfl)))
  refine us ?_ (obPU hz (by decide) (by kernel_rfl) fun _ _ s _ => ex_pickA (G := true) (by kernel_rfl) (s.u 26 67 (by kernel_rfl)) (s.u 29 70 (by kernel_rfl)) rfl rfl)
  refine us ?_ (obPH true 26 67 true hz (by decide) (by kernel_rfl) rfl rfl (fun hG _ _ s => ex_call2 (ts := #[25, 25]) (x := .tmp 68) (y := .tmp 69) (f := 18) cf18 (by kernel_rfl) rfl (s.g 27 68 (by kernel_rfl) hG rfl) (s.g 28 69 (by kernel_rfl) hG rfl)) q70)
  refine us ?_ (obPG true 26 67 true hz (by decide) (by kernel_rfl) rfl rfl fun _ _ W s hS => ex_load (x := .tmp 13) (t := 25) (by kernel_rfl) (s.b 13 (by kernel_rfl) h13) (ld25 W _ 0 _ _ (hz0 W hS) (hz1 W hS)))
  refine us ?_ (obPG true 26 67 true hz (by decide) (by kernel_rfl) rfl rfl fun _ _ W s hS => ex_load (x := .tmp 11) (t := 25) (by kernel_rfl) (s.b 11 (by kernel_rfl) h11) (ld25 W _ 0 _ _ (hy0 W hS) (hy1 W hS)))
  refine us ?_ (obPU hz (by decide) (by kernel_rfl) fun _ _ s _ => ex_move (x := .tmp 66) (by kernel_rfl) (s.u 25 66 (by kernel_rfl)))
  refine us ?_ (obPU hz (by decide) (by kernel_rfl) fun _ _ s _ => ex_pickA (G := true) (by kernel_rfl) (s.u 17 58 (by kernel_rfl)) (s.u 24 65 (by kernel_rfl)) rfl rfl)
  refine us ?_ (obPG true 17 58 true hz (by decide) (by kernel_rfl) rfl rfl fun hG _ W s _ => ex_bin (u := 9) (x := .tmp 63) (y := .tmp 64) (by kernel_rfl) (s.g 22 63 (by kernel_rfl) hG rfl) (s.g 23 64 (by kernel_rfl) hG rfl) (eq9c W _ _ _ _))
  refine us ?_ (obPG true 17 58 true hz (by decide) (by kernel_rfl) rfl rfl fun _ _ _ s _ => ex_move (x := .tmp 2) (by kernel_rfl) (s.b 2 (by kernel_rfl) h2))
  refine us ?_ (obPG true 17 58 true hz (by decide) (by kernel_rfl) rfl rfl fun hG _ W s hS => ex_load (x := .tmp 62) (t := 9) (by kernel_rfl) (s.g 21 62 (by kernel_rfl) hG rfl) (ld9 W _ (o + i) _ (hs W hS)))
  refine us ?_ (obPG true 17 58 true hz (by decide) (by kernel_rfl) rfl rfl fun hG _ W s _ => ex_index (t := 22) (x := .tmp 60) (y := .tmp 61) (by kernel_rfl) (s.g 19 60 (by kernel_rfl) hG rfl) (s.g 20 61 (by kernel_rfl) hG rfl) (ix22 W _ _ _ _ (i) hi))
  refine us ?_ (obPG true 17 58 true hz (by decide) (by kernel_rfl) rfl rfl fun _ _ _ s _ => ex_move (x := .tmp 1) (by kernel_rfl) (s.b 1 (by kernel_rfl) h1))
  refine us ?_ (obPG true 17 58 true hz (by decide) (by kernel_rfl) rfl rfl fun hG _ W s hS => ex_load (x := .tmp 59) (t := 22) (by kernel_rfl) (s.g 18 59 (by kernel_rfl) hG rfl) (ld22 W _ 0 _ (hz0 W hS)))
  refine us ?_ (obPG true 17 58 true hz (by decide) (by kernel_rfl) rfl rfl fun _ _ W s _ => ex_field (x := .tmp 13) (t := 25) (f := 0) (by kernel_rfl) (s.b 13 (by kernel_rfl) h13) (fd0 W _))
  refine us ?_ (obPU hz (by decide) (by kernel_rfl) fun _ _ s _ => ex_move (x := .tmp 57) (by kernel_rfl) (s.u 16 57 (by kernel_rfl)))
  refine us ?_ (obPU hz (by decide) (by kernel_rfl) fun _ _ s _ => ex_pickA (G := true) (by kernel_rfl) (s.u 10 51 (by kernel_rfl)) (s.u 15 56 (by kernel_rfl)) rfl rfl)
  refine us ?_ (obPG true 10 51 true hz (by decide) (by kernel_rfl) rfl rfl fun hG _ W s _ => ex_bin (u := 3) (x := .tmp 52) (y := .tmp 55) (by kernel_rfl) (s.g 11 52 (by kernel_rfl) hG rfl) (s.g 14 55 (by kernel_rfl) hG rfl) (lss3c W _ _ _ _))
  refine us ?_ (obPG true 10 51 true hz (by decide) (by kernel_rfl) rfl rfl fun hG _ W s _ => ex_len (ts := #[22]) (x := .tmp 54) (by kernel_rfl) (fun ty => len22 W (some ⟨g, o, none⟩) m zc ty) (s.g 13 54 (by kernel_rfl) hG rfl))
  refine us ?_ (obPG true 10 51 true hz (by decide) (by kernel_rfl) rfl rfl fun hG _ W s hS => ex_load (x := .tmp 53) (t := 22) (by kernel_rfl) (s.g 12 53 (by kernel_rfl) hG rfl) (ld22 W _ 0 _ (hz0 W hS)))
  refine us ?_ (obPG true 10 51 true hz (by decide) (by kernel_rfl) rfl rfl fun _ _ W s _ => ex_field (x := .tmp 13) (t := 25) (f := 0) (by kernel_rfl) (s.b 13 (by kernel_rfl) h13) (fd0 W _))
  refine us ?_ (obPG true 10 51 true hz (by decide) (by kernel_rfl) rfl rfl fun _ _ _ s _ => ex_move (x := .tmp 1) (by kernel_rfl) (s.b 1 (by kernel_rfl) h1))
  refine us ?_ (obPU hz (by decide) (by kernel_rfl) fun _ _ s _ => ex_move (x := .tmp 50) (by kernel_rfl) (s.u 9 50 (by kernel_rfl)))
  refine us ?_ (obPU hz (by decide) (by kernel_rfl) fun _ _ s _ => ex_pickA (G := true) (by kernel_rfl) (s.u 6 47 (by kernel_rfl)) (s.u 8 49 (by kernel_rfl)) rfl rfl)
  refine us ?_ (obPG true 6 47 true hz (by decide) (by kernel_rfl) rfl rfl fun hG _ W s _ => ex_bin (u := 3) (x := .tmp 48) (y := .const (.int .i64 0)) (by kernel_rfl) (s.g 7 48 (by kernel_rfl) hG rfl) (rfl) (geq3c W _ _ _ _))
  refine us ?_ (obPG true 6 47 true hz (by decide) (by kernel_rfl) rfl rfl fun _ _ _ s _ => ex_move (x := .tmp 1) (by kernel_rfl) (s.b 1 (by kernel_rfl) h1))
  refine us ?_ (obPU hz (by decide) (by kernel_rfl) fun _ _ s _ => ex_move (x := .tmp 46) (by kernel_rfl) (s.u 5 46 (by kernel_rfl)))
  refine us ?_ (obPU hz (by decide) (by kernel_rfl) fun _ _ s _ => ex_pickA (G := true) (by kernel_rfl) (s.u 2 43 (by kernel_rfl)) (s.u 4 45 (by kernel_rfl)) rfl rfl)
  refine us ?_ (obPG true 2 43 true hz (by decide) (by kernel_rfl) rfl rfl fun hG _ W s _ => ex_bin (u := 27) (x := .tmp 44) (y := .const (.int .i64 0)) (by kernel_rfl) (s.g 3 44 (by kernel_rfl) hG rfl) (rfl) (eq27c W _ _ _ _))
  refine us ?_ (obPG true 2 43 true hz (by decide) (by kernel_rfl) rfl rfl fun _ _ _ s _ => ex_move (x := .tmp 14) (by kernel_rfl) (s.b 14 (by kernel_rfl) h14))
  refine us ?_ (obPU hz (by decide) (by kernel_rfl) fun _ _ s _ => ex_move (x := .tmp 42) (by kernel_rfl) (s.u 1 42 (by kernel_rfl)))
  refine us ?_ (obPU hz (by decide) (by kernel_rfl) fun _ W s _ => ex_bin (u := 27) (x := .tmp 41) (y := .const (.int .i64 0)) (by kernel_rfl) (s.u 0 41 (by kernel_rfl)) (rfl) (eq27c W _ _ _ _))
  refine us ?_ (obPU hz (by decide) (by kernel_rfl) fun _ _ s _ => ex_move (x := .tmp 12) (by kernel_rfl) (s.b 12 (by kernel_rfl) h12))
  exact fun j hj => absurd hj (Nat.not_lt_zero j)


end Go.Proofs.Ytppgkhcmdajolaa
