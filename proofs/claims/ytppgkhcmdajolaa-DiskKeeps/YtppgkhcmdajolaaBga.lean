/-
  diskBegun: its last region.
-/
import Derived.Test.YtppgkhcmdajolaaRgx
namespace Go.Proofs.Ytppgkhcmdajolaa
open Go.RowKit

def bg_b36  : Bool := ((decide ((0 : Int) = 0)) && (decide ((0 : Int) = 0)))
def bg_b40  : Bool := ((bg_b36 ) && (decide ((0 : Int) = 0)))
def bg_b44  : Bool := ((bg_b40 ) && (decide ((0 : Int) = 0)))
def bg_b48  : Bool := ((bg_b44 ) && (decide ((0 : Int) = 0)))
def bg_b54  : Bool := ((bg_b48 ) && (decide (((1 : Nat) : Int) = 1)))
def bg_b60  : Bool := ((bg_b54 ) && (decide (((0 : Nat) : Int) = 0)))
def bg_b68  : Bool := ((bg_b60 ) && (decide (sevenS = sevenS)))
def bg_b73  : Bool := ((bg_b68 ) && true)
noncomputable def bg_R : Array Oper := ((Try.f15.body).bind (regionOf 5)).getD #[]
def bg_V (vb q6 g o kc xc yc yk ywc zc zwc : Nat) (ka xa ya ywa za zwa : Option Addr) (j : Nat) : Value := ([.agg #[.slice xa 2 xc, .slice ya 1 yc], .int .i64 (0 : Int), .bool (decide ((0 : Int) = 0)), .bool (decide ((0 : Int) = 0)), gw ((decide ((0 : Int) = 0)) == true) (.int .i64 (0 : Int)), gw ((decide ((0 : Int) = 0)) == true) (.bool (decide ((0 : Int) = 0))), .bool (bg_b36 ), .bool (bg_b36 ), gw ((bg_b36 ) == true) (.int .i64 (0 : Int)), gw ((bg_b36 ) == true) (.bool (decide ((0 : Int) = 0))), .bool (bg_b40 ), .bool (bg_b40 ), gw ((bg_b40 ) == true) (.int .i64 (0 : Int)), gw ((bg_b40 ) == true) (.bool (decide ((0 : Int) = 0))), .bool (bg_b44 ), .bool (bg_b44 ), gw ((bg_b44 ) == true) (.int .i64 (0 : Int)), gw ((bg_b44 ) == true) (.bool (decide ((0 : Int) = 0))), .bool (bg_b48 ), .bool (bg_b48 ), gw ((bg_b48 ) == true) (.pointer (some ⟨vb, 1, none⟩)), gw ((bg_b48 ) == true) (.slice ya 1 yc), gw ((bg_b48 ) == true) (.int .i64 ((1 : Nat) : Int)), gw ((bg_b48 ) == true) (.bool (decide (((1 : Nat) : Int) = 1))), .bool (bg_b54 ), .bool (bg_b54 ), gw ((bg_b54 ) == true) (.pointer (some ⟨q6, 1, none⟩)), gw ((bg_b54 ) == true) (.slice ywa 0 ywc), gw ((bg_b54 ) == true) (.int .i64 ((0 : Nat) : Int)), gw ((bg_b54 ) == true) (.bool (decide (((0 : Nat) : Int) = 0))), .bool (bg_b60 ), .bool (bg_b60 ), gw ((bg_b60 ) == true) (.pointer (some ⟨q6, 0, none⟩)), gw ((bg_b60 ) == true) (.slice (some ⟨g, o, none⟩) 2 yk), gw ((bg_b60 ) == true) (.pointer (some ⟨g, o + 1, none⟩)), gw ((bg_b60 ) == true) (.string sevenS), gw ((bg_b60 ) == true) (.string sevenS), gw ((bg_b60 ) == true) (.bool (decide (sevenS = sevenS))), .bool (bg_b68 ), .bool (bg_b68 ), gw ((bg_b68 ) == true) (.agg #[.slice za 2 zc, .slice zwa 0 zwc]), gw ((bg_b68 ) == true) (.agg #[.slice ka 2 kc, .slice none 0 0]), gw ((bg_b68 ) == true) (.bool true), .bool (bg_b73 ), .bool (bg_b73 )] : List Value).getD j undef
def bg_d : List (Option Tmp) := [some 30, some 31, some 32, some 33, some 34, some 35, some 36, some 37, some 38, some 39, some 40, some 41, some 42, some 43, some 44, some 45, some 46, some 47, some 48, some 49, some 50, some 51, some 52, some 53, some 54, some 55, some 56, some 57, some 58, some 59, some 60, some 61, some 62, some 63, some 64, some 65, some 66, some 67, some 68, some 69, some 70, some 71, some 72, some 73, some 0]
set_option maxRecDepth 100000 in
theorem bg_nodup : bg_d.Nodup := by unfold bg_d; decide

set_option maxRecDepth 100000 in
theorem bg_wp {p1 vb q6 q8 g o kc xc yc yk ywc zc zwc : Nat} {ka xa ya ywa za zwa : Option Addr} {S : World → Prop} {a0 : Act} {Q : Exit → Act → World → Prop} {w : World} (h1 : a0.tmps[1]? = some (.pointer (some ⟨p1, 0, none⟩))) (h2 : a0.tmps[2]? = some (.int .i64 (0 : Int))) (h3 : a0.tmps[3]? = some (.pointer (some ⟨vb, 0, none⟩))) (h4 : a0.tmps[4]? = some (.int .i64 (0 : Int))) (h5 : a0.tmps[5]? = some (.pointer (some ⟨q6, 0, none⟩))) (h6 : a0.tmps[6]? = some (.int .i64 (0 : Int))) (h7 : a0.tmps[7]? = some (.pointer (some ⟨q8, 0, none⟩))) (h8 : a0.tmps[8]? = some (.int .i64 (0 : Int))) (hp0 : ∀ W, S W → W.cell? ⟨p1, 0, none⟩ = some (.slice ka 2 kc)) (hp1 : ∀ W, S W → W.cell? ⟨p1, 1, none⟩ = some (.slice none 0 0)) (hv0 : ∀ W, S W → W.cell? ⟨vb, 0, none⟩ = some (.slice xa 2 xc)) (hv1 : ∀ W, S W → W.cell? ⟨vb, 1, none⟩ = some (.slice ya 1 yc)) (hy0 : ∀ W, S W → W.cell? ⟨q6, 0, none⟩ = some (.slice (some ⟨g, o, none⟩) 2 yk)) (hy1 : ∀ W, S W → W.cell? ⟨q6, 1, none⟩ = some (.slice ywa 0 ywc)) (hz0 : ∀ W, S W → W.cell? ⟨q8, 0, none⟩ = some (.slice za 2 zc)) (hz1 : ∀ W, S W → W.cell? ⟨q8, 1, none⟩ = some (.slice zwa 0 zwc)) (hs : ∀ W, S W → W.cell? ⟨g, o + 1, none⟩ = some (.string sevenS)) (q31 : ∀ W, S W → Calls Try.prog 16 #[.agg #[.slice xa 2 xc, .slice ya 1 yc]] W fun e w' => e = .returned (.int .i64 (0 : Int)) ∧ S w') (q66 : ∀ W, S W → Calls Try.prog 35 #[.int .u8 7] W fun e w' => e = .returned (.string sevenS) ∧ S w') (q72 : ∀ W, S W → Calls Try.prog 18 #[.agg #[.slice za 2 zc, .slice zwa 0 zwc], .agg #[.slice ka 2 kc, .slice none 0 0]] W fun e w' => e = .returned (.bool true) ∧ S w') (ha : a0.tmps.size = 74) (hS : S w.drew)
    (hq : ∀ w', S w' → Q .normal { tmps := (putL a0.tmps.toList (bg_d.zip ((List.range 45).map (bg_V vb q6 g o kc xc yc yk ywc zc zwc ka xa ya ywa za zwa)))).toArray, defers := a0.defers } w') : (Code.region 5 bg_R true).wp Try.prog Q a0 w := by
  have hz : bg_R.size = 45 := by kernel_rfl
  refine wp_run (m := 74) (by kernel_rfl) hz (by kernel_rfl) (by kernel_rfl) bg_nodup ha ?_ hS hq
  refine us ?_ (obRU hz (by decide) (by kernel_rfl) fun _ _ s _ => ex_assign (x := .tmp 73) (by kernel_rfl) (s.u 43 73 (by kernel_rfl)))
  refine us ?_ (obRU hz (by decide) (by kernel_rfl) fun _ _ s _ => ex_pickA (G := true) (by kernel_rfl) (s.u 39 69 (by kernel_rfl)) (s.u 42 72 (by kernel_rfl)) rfl rfl)
  refine us ?_ (obRH true 39 69 true hz (by decide) (by kernel_rfl) rfl rfl (fun hG _ _ s => ex_call2 (ts := #[25, 25]) (x := .tmp 70) (y := .tmp 71) (f := 18) cf18 (by kernel_rfl) rfl (s.g 40 70 (by kernel_rfl) hG rfl) (s.g 41 71 (by kernel_rfl) hG rfl)) q72)
  refine us ?_ (obRG true 39 69 true hz (by decide) (by kernel_rfl) rfl rfl fun _ _ W s hS => ex_load (x := .tmp 1) (t := 25) (by kernel_rfl) (s.b 1 (by kernel_rfl) h1) (ld25 W _ 0 _ _ (hp0 W hS) (hp1 W hS)))
  refine us ?_ (obRG true 39 69 true hz (by decide) (by kernel_rfl) rfl rfl fun _ _ W s hS => ex_load (x := .tmp 7) (t := 25) (by kernel_rfl) (s.b 7 (by kernel_rfl) h7) (ld25 W _ 0 _ _ (hz0 W hS) (hz1 W hS)))
  refine us ?_ (obRU hz (by decide) (by kernel_rfl) fun _ _ s _ => ex_move (x := .tmp 68) (by kernel_rfl) (s.u 38 68 (by kernel_rfl)))
  refine us ?_ (obRU hz (by decide) (by kernel_rfl) fun _ _ s _ => ex_pickA (G := true) (by kernel_rfl) (s.u 31 61 (by kernel_rfl)) (s.u 37 67 (by kernel_rfl)) rfl rfl)
  refine us ?_ (obRG true 31 61 true hz (by decide) (by kernel_rfl) rfl rfl fun hG _ W s _ => ex_bin (u := 9) (x := .tmp 65) (y := .tmp 66) (by kernel_rfl) (s.g 35 65 (by kernel_rfl) hG rfl) (s.g 36 66 (by kernel_rfl) hG rfl) (eq9c W _ _ _ _))
  refine us ?_ (obRH true 31 61 true hz (by decide) (by kernel_rfl) rfl rfl (fun _ _ _ _ => ex_call1 (ts := #[5]) (x := .const (.int .u8 7)) (f := 35) cf35 (by kernel_rfl) rfl (rfl)) q66)
  refine us ?_ (obRG true 31 61 true hz (by decide) (by kernel_rfl) rfl rfl fun hG _ W s hS => ex_load (x := .tmp 64) (t := 9) (by kernel_rfl) (s.g 34 64 (by kernel_rfl) hG rfl) (ld9 W _ (o + 1) _ (hs W hS)))
  refine us ?_ (obRG true 31 61 true hz (by decide) (by kernel_rfl) rfl rfl fun hG _ W s _ => ex_index (t := 22) (x := .tmp 63) (y := .const (.int .i64 1)) (by kernel_rfl) (s.g 33 63 (by kernel_rfl) hG rfl) (rfl) (ix22 W _ _ _ _ (1) (by decide)))
  refine us ?_ (obRG true 31 61 true hz (by decide) (by kernel_rfl) rfl rfl fun hG _ W s hS => ex_load (x := .tmp 62) (t := 22) (by kernel_rfl) (s.g 32 62 (by kernel_rfl) hG rfl) (ld22 W _ 0 _ (hy0 W hS)))
  refine us ?_ (obRG true 31 61 true hz (by decide) (by kernel_rfl) rfl rfl fun _ _ W s _ => ex_field (x := .tmp 5) (t := 25) (f := 0) (by kernel_rfl) (s.b 5 (by kernel_rfl) h5) (fd0 W _))
  refine us ?_ (obRU hz (by decide) (by kernel_rfl) fun _ _ s _ => ex_move (x := .tmp 60) (by kernel_rfl) (s.u 30 60 (by kernel_rfl)))
  refine us ?_ (obRU hz (by decide) (by kernel_rfl) fun _ _ s _ => ex_pickA (G := true) (by kernel_rfl) (s.u 25 55 (by kernel_rfl)) (s.u 29 59 (by kernel_rfl)) rfl rfl)
  refine us ?_ (obRG true 25 55 true hz (by decide) (by kernel_rfl) rfl rfl fun hG _ W s _ => ex_bin (u := 3) (x := .tmp 58) (y := .const (.int .i64 0)) (by kernel_rfl) (s.g 28 58 (by kernel_rfl) hG rfl) (rfl) (eq3c W _ _ _ _))
  refine us ?_ (obRG true 25 55 true hz (by decide) (by kernel_rfl) rfl rfl fun hG _ W s _ => ex_len (ts := #[23]) (x := .tmp 57) (by kernel_rfl) (fun ty => len23 W ywa 0 ywc ty) (s.g 27 57 (by kernel_rfl) hG rfl))
  refine us ?_ (obRG true 25 55 true hz (by decide) (by kernel_rfl) rfl rfl fun hG _ W s hS => ex_load (x := .tmp 56) (t := 23) (by kernel_rfl) (s.g 26 56 (by kernel_rfl) hG rfl) (ld23 W _ 1 _ (hy1 W hS)))
  refine us ?_ (obRG true 25 55 true hz (by decide) (by kernel_rfl) rfl rfl fun _ _ W s _ => ex_field (x := .tmp 5) (t := 25) (f := 1) (by kernel_rfl) (s.b 5 (by kernel_rfl) h5) (fd1 W _))
  refine us ?_ (obRU hz (by decide) (by kernel_rfl) fun _ _ s _ => ex_move (x := .tmp 54) (by kernel_rfl) (s.u 24 54 (by kernel_rfl)))
  refine us ?_ (obRU hz (by decide) (by kernel_rfl) fun _ _ s _ => ex_pickA (G := true) (by kernel_rfl) (s.u 19 49 (by kernel_rfl)) (s.u 23 53 (by kernel_rfl)) rfl rfl)
  refine us ?_ (obRG true 19 49 true hz (by decide) (by kernel_rfl) rfl rfl fun hG _ W s _ => ex_bin (u := 3) (x := .tmp 52) (y := .const (.int .i64 1)) (by kernel_rfl) (s.g 22 52 (by kernel_rfl) hG rfl) (rfl) (eq3c W _ _ _ _))
  refine us ?_ (obRG true 19 49 true hz (by decide) (by kernel_rfl) rfl rfl fun hG _ W s _ => ex_len (ts := #[23]) (x := .tmp 51) (by kernel_rfl) (fun ty => len23 W ya 1 yc ty) (s.g 21 51 (by kernel_rfl) hG rfl))
  refine us ?_ (obRG true 19 49 true hz (by decide) (by kernel_rfl) rfl rfl fun hG _ W s hS => ex_load (x := .tmp 50) (t := 23) (by kernel_rfl) (s.g 20 50 (by kernel_rfl) hG rfl) (ld23 W _ 1 _ (hv1 W hS)))
  refine us ?_ (obRG true 19 49 true hz (by decide) (by kernel_rfl) rfl rfl fun _ _ W s _ => ex_field (x := .tmp 3) (t := 25) (f := 1) (by kernel_rfl) (s.b 3 (by kernel_rfl) h3) (fd1 W _))
  refine us ?_ (obRU hz (by decide) (by kernel_rfl) fun _ _ s _ => ex_move (x := .tmp 48) (by kernel_rfl) (s.u 18 48 (by kernel_rfl)))
  refine us ?_ (obRU hz (by decide) (by kernel_rfl) fun _ _ s _ => ex_pickA (G := true) (by kernel_rfl) (s.u 15 45 (by kernel_rfl)) (s.u 17 47 (by kernel_rfl)) rfl rfl)
  refine us ?_ (obRG true 15 45 true hz (by decide) (by kernel_rfl) rfl rfl fun hG _ W s _ => ex_bin (u := 27) (x := .tmp 46) (y := .const (.int .i64 0)) (by kernel_rfl) (s.g 16 46 (by kernel_rfl) hG rfl) (rfl) (eq27c W _ _ _ _))
  refine us ?_ (obRG true 15 45 true hz (by decide) (by kernel_rfl) rfl rfl fun _ _ _ s _ => ex_move (x := .tmp 8) (by kernel_rfl) (s.b 8 (by kernel_rfl) h8))
  refine us ?_ (obRU hz (by decide) (by kernel_rfl) fun _ _ s _ => ex_move (x := .tmp 44) (by kernel_rfl) (s.u 14 44 (by kernel_rfl)))
  refine us ?_ (obRU hz (by decide) (by kernel_rfl) fun _ _ s _ => ex_pickA (G := true) (by kernel_rfl) (s.u 11 41 (by kernel_rfl)) (s.u 13 43 (by kernel_rfl)) rfl rfl)
  refine us ?_ (obRG true 11 41 true hz (by decide) (by kernel_rfl) rfl rfl fun hG _ W s _ => ex_bin (u := 27) (x := .tmp 42) (y := .const (.int .i64 0)) (by kernel_rfl) (s.g 12 42 (by kernel_rfl) hG rfl) (rfl) (eq27c W _ _ _ _))
  refine us ?_ (obRG true 11 41 true hz (by decide) (by kernel_rfl) rfl rfl fun _ _ _ s _ => ex_move (x := .tmp 6) (by kernel_rfl) (s.b 6 (by kernel_rfl) h6))
  refine us ?_ (obRU hz (by decide) (by kernel_rfl) fun _ _ s _ => ex_move (x := .tmp 40) (by kernel_rfl) (s.u 10 40 (by kernel_rfl)))
  refine us ?_ (obRU hz (by decide) (by kernel_rfl) fun _ _ s _ => ex_pickA (G := true) (by kernel_rfl) (s.u 7 37 (by kernel_rfl)) (s.u 9 39 (by kernel_rfl)) rfl rfl)
  refine us ?_ (obRG true 7 37 true hz (by decide) (by kernel_rfl) rfl rfl fun hG _ W s _ => ex_bin (u := 27) (x := .tmp 38) (y := .const (.int .i64 0)) (by kernel_rfl) (s.g 8 38 (by kernel_rfl) hG rfl) (rfl) (eq27c W _ _ _ _))
  refine us ?_ (obRG true 7 37 true hz (by decide) (by kernel_rfl) rfl rfl fun _ _ _ s _ => ex_move (x := .tmp 4) (by kernel_rfl) (s.b 4 (by kernel_rfl) h4))
  refine us ?_ (obRU hz (by decide) (by kernel_rfl) fun _ _ s _ => ex_move (x := .tmp 36) (by kernel_rfl) (s.u 6 36 (by kernel_rfl)))
  refine us ?_ (obRU hz (by decide) (by kernel_rfl) fun _ _ s _ => ex_pickA (G := true) (by kernel_rfl) (s.u 3 33 (by kernel_rfl)) (s.u 5 35 (by kernel_rfl)) rfl rfl)
  refine us ?_ (obRG true 3 33 true hz (by decide) (by kernel_rfl) rfl rfl fun hG _ W s _ => ex_bin (u := 27) (x := .tmp 34) (y := .const (.int .i64 0)) (by kernel_rfl) (s.g 4 34 (by kernel_rfl) hG rfl) (rfl) (eq27c W _ _ _ _))
  refine us ?_ (obRG true 3 33 true hz (by decide) (by kernel_rfl) rfl rfl fun _ _ _ s _ => ex_move (x := .tmp 2) (by kernel_rfl) (s.b 2 (by kernel_rfl) h2))
  refine us ?_ (obRU hz (by decide) (by kernel_rfl) fun _ _ s _ => ex_move (x := .tmp 32) (by kernel_rfl) (s.u 2 32 (by kernel_rfl)))
  refine us ?_ (obRU hz (by decide) (by kernel_rfl) fun _ W s _ => ex_bin (u := 27) (x := .tmp 31) (y := .const (.int .i64 0)) (by kernel_rfl) (s.u 1 31 (by kernel_rfl)) (rfl) (eq27c W _ _ _ _))
  refine us ?_ (obRC hz (by decide) (by kernel_rfl) (fun _ _ s => ex_call1 (ts := #[25]) (x := .tmp 30) (f := 16) cf16 (by kernel_rfl) rfl (s.u 0 30 (by kernel_rfl))) q31)
  refine us ?_ (obRU hz (by decide) (by kernel_rfl) fun _ W s hS => ex_load (x := .tmp 3) (t := 25) (by kernel_rfl) (s.b 3 (by kernel_rfl) h3) (ld25 W _ 0 _ _ (hv0 W hS) (hv1 W hS)))
  exact fun j hj => absurd hj (Nat.not_lt_zero j)


end Go.Proofs.Ytppgkhcmdajolaa
