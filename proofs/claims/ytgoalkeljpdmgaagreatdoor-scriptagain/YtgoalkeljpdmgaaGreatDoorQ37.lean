/-
  What the claimed theorem reaches, part Q37.
-/
import Derived.Test.YtgoalkeljpdmgaaGreatDoorQ35
import Derived.Test.YtgoalkeljpdmgaaGreatDoorQ26
import Derived.Deep.RegionHeld3
import Derived.Deep.DeepCutAuto
import Derived.Deep.CutRange
import Derived.Test.YtgoalkeljpdmgaaGreatDoorQ00
namespace Go.Proofs.YtgoalkeljpdmgaaGreatDoor
open Go.RowKit
set_option maxRecDepth 100000
set_option maxHeartbeats 8000000
section
variable {w W:World} {rb:Nat} {pr lo tp:Int}
structure Rx (w W:World) (rb:Nat) (pr lo tp:Int):Prop where
 c2:W.cell? ⟨rb,2,none⟩=some (.int .i64 pr)
 c3:W.cell? ⟨rb,3,none⟩=some (.int .i64 lo)
 c4:W.cell? ⟨rb,4,none⟩=some (.int .i64 tp)
 b:Below w.heap.size w W
theorem Rx.below {W':World} (h:Rx w W rb pr lo tp) (hb:Below W.heap.size W W'):Rx w W' rb pr lo tp:=⟨Below.keeps hb h.c2,Below.keeps hb h.c3,Below.keeps hb h.c4,below2 h.b hb⟩
theorem Rx.all (h:Rx w W rb pr lo tp):W.cell? ⟨rb,2,none⟩=some (.int .i64 pr)/\W.cell? ⟨rb,3,none⟩=some (.int .i64 lo)/\W.cell? ⟨rb,4,none⟩=some (.int .i64 tp)/\Rx w W rb pr lo tp:=⟨h.c2,h.c3,h.c4,h⟩
theorem dec_x {n:Int} (h0:0<=n) (h1:n < 100000000) (h:Rx w W rb pr lo tp) :
  Calls Tryz.prog 15 #[.int .i64 n] W fun e w'=>e=.returned (.string ⟨(Lib.itoa n).toArray⟩)/\Rx w w' rb pr lo tp :=
 (decimal_any n h0 h1 W).mono fun _ _ ⟨he,hb⟩=>⟨he,h.below hb⟩
theorem wpAnyH_strong {P:Program} {ops:Array Oper} {Q:Exit->Act->World->Prop} {md:Region.Mode} {S S':World->Prop} (hS:∀w,S' w->S w):∀(fuel:Nat) (listed:Array Bool) (a:Act) (w:World),wpAnyH P md ops Q S' fuel listed a w->wpAnyH P md ops Q S fuel listed a w
 | 0,_,_,_,h=>h
 | fuel+1,_,_,_,h=>⟨h.1,fun i hi=>wpOp_mono (fun a' w' h'=>⟨hS w' h'.1,wpAnyH_strong hS fuel _ a' w' h'.2⟩) (h.2 i hi)⟩
theorem dec_y {b k:Nat} {n:Int} {v:Value} (h0:0<=n) (h1:n < 100000000) (h:W.cell? ⟨b,k,none⟩=some v/\Rx w W rb pr lo tp) :
  Calls Tryz.prog 15 #[.int .i64 n] W fun e w'=>e=.returned (.string ⟨(Lib.itoa n).toArray⟩)/\(w'.cell? ⟨b,k,none⟩=some v/\Rx w w' rb pr lo tp) :=
 (decimal_any n h0 h1 W).mono fun _ _ ⟨he,hb⟩=>⟨he,Below.keeps hb h.1,h.2.below hb⟩
theorem line_end {al ro:Bool} {T0 x0 x1:List UInt8} (R:Nat) (h0:nmW 0 (if al=true then 1 else 0)=x0) (h1:nmW 1 (if ro=true then 1 else 0)=x1) :
  (⟨T0.toArray⟩++⟨x0.toArray⟩++⟨#[32]⟩++⟨x1.toArray⟩++⟨#[32]⟩++⟨(nmW 2 R).toArray⟩++⟨#[32]⟩++⟨(Lib.itoa lo).toArray⟩++⟨#[45]⟩++⟨(Lib.itoa tp).toArray⟩++⟨#[10]⟩:ByteArray)=⟨(T0++(rlLine ⟨al,ro,(R:Int),lo,tp⟩++[10])).toArray⟩:=by
 unfold rlLine lineL
 simp only[h0,h1,Int.toNat_natCast]
 apply ByteArray.ext
 simp[ByteArray.data_append]
theorem rtext_any (p:Option Addr) (l:List Rl) (cap:Nat) (w:World) (R:Rul w p l) (h:RulesOk l) :
  Calls Tryz.prog 8 #[.slice p l.length cap] w fun e w'=>e=.returned (.string ⟨(textL l).toArray⟩)/\Below w.heap.size w w':=by
 have HR:Hid (Rul w p l):=R
 have HK:Hid (RulesOk l):=h
 have hl:l.length<=20:=h.1
 clear R h
 go_enter Tryz.func8,Tryz.ntmps8
 go_wp2_with fail
 go_loopw [3,4] (fun v t wr=>∃j:Nat,j<=l.length/\t=.int .i64 j/\v=.string ⟨(textL (l.take j)).toArray⟩/\Below w.heap.size w wr) (fun _ t _=>l.length - (intOf t).toNat)
 case atStart=>exact⟨0,Nat.zero_le _,rfl,rfl,Below.refl _ _⟩
 case round =>
  obtain⟨j,hj,rfl,rfl,hb⟩:=hrel
  have HB:Hid (Below w.heap.size w wr):=hb
  clear hb
  by_cases hlt:j < l.length
  ·have hr:l[j]? = some l[j]:=List.getElem?_eq_getElem hlt
   have hok:l[j].ok:=chkAt_none.1 HK.out.2 _ (List.getElem_mem hlt)
   generalize l[j]=r at hr hok
   obtain⟨x,o,rfl,g0,g1,g2,g3,g4⟩:=HR.out j r hr
   have k0:=Below.keeps HB.out g0
   have k1:=Below.keeps HB.out g1
   have k2:=Below.keeps HB.out g2
   have k3:=Below.keeps HB.out g3
   have k4:=Below.keeps HB.out g4
   have HD:Hid (textL (l.take (j+1))=textL (l.take j)++(rlLine r++[10])):=textL_take hr
   have hn:(textL (l.take j)).length<=820:=by
    have h1:=textL_len (l:=l.take j) (fun y hy=>chkAt_none.1 HK.out.2 _ (List.mem_of_mem_take hy))
    have h2:(l.take j).length<=20:=by rw[List.length_take];omega
    omega
   obtain⟨T0,hT0⟩:∃T,textL (l.take j)=T:=⟨_,rfl⟩
   rw[hT0]at hn HD ⊢
   obtain⟨al,ro,rp,lo,tp⟩:=r
   obtain⟨o0,o1,o2,o3⟩:=hok
   simp only at k0 k1 k2 k3 k4 o0 o1 o2 o3
   clear g0 g1 g2 g3 g4 hr hT0
   have X0:Hid (Rx w (wr.alloc (.cells #[.bool al,.bool ro,.int .i64 rp,.int .i64 lo,.int .i64 tp] 47)) wr.heap.size rp lo tp):=⟨by simp,by simp,by simp,HB.out.alloc HB.out.size _⟩
   have r1:=itoa_len (show 0<=lo by omega) (by omega)
   have r2:=itoa_len (show 0<=tp by omega) (by omega)
   obtain⟨x0,hx0⟩:∃x0,nmW 0 (if al=true then 1 else 0)=x0:=⟨_,rfl⟩
   obtain⟨x1,hx1⟩:∃x1,nmW 1 (if ro=true then 1 else 0)=x1:=⟨_,rfl⟩
   have g0:=nmW_len 0 (if al=true then 1 else 0)
   have g1:=nmW_len 1 (if ro=true then 1 else 0)
   rw[hx0]at g0
   rw[hx1]at g1
   have HX0:Hid (nmW 0 (if al=true then 1 else 0)=x0):=hx0
   have HX1:Hid (nmW 1 (if ro=true then 1 else 0)=x1):=hx1
   clear hx0 hx1
   go_upto_if 19 with fail
   clear k0 k1 k2 k3 k4
   go_cut [6] (fun s6 wx=>s6=.string ⟨x0.toArray⟩/\wr.alloc (.cells #[.bool al,.bool ro,.int .i64 rp,.int .i64 lo,.int .i64 tp] 47)=wx)
   case first =>
    cases al
    all_goals
     go_wp2_with fail
     all_goals go_meet
     all_goals exact⟨by rw[<- HX0.out];rfl,rfl⟩
   obtain⟨rfl,rfl⟩:=hcut
   go_upto_if 21 with fail
   go_cut [7] (fun s7 wx=>s7=.string ⟨x1.toArray⟩/\wr.alloc (.cells #[.bool al,.bool ro,.int .i64 rp,.int .i64 lo,.int .i64 tp] 47)=wx)
   case first =>
    cases ro
    all_goals
     go_wp2_with fail
     all_goals go_meet
     all_goals exact⟨by rw[<- HX1.out];rfl,rfl⟩
   obtain⟨rfl,rfl⟩:=hcut
   have e2:=X0.out.c2
   have e3:=X0.out.c3
   have e4:=X0.out.c4
   have X1:Hid (Rx w (wr.alloc (.cells #[.bool al,.bool ro,.int .i64 rp,.int .i64 lo,.int .i64 tp] 47)) wr.heap.size rp lo tp):=X0.out
   have hrb:wr.heap.size < (wr.alloc (.cells #[.bool al,.bool ro,.int .i64 rp,.int .i64 lo,.int .i64 tp] 47)).heap.size:=by simp
   clear X0
   generalize wr.alloc (.cells #[.bool al,.bool ro,.int .i64 rp,.int .i64 lo,.int .i64 tp] 47)=W at *
   generalize wr.heap.size=rb at *
   have hrb1:rb < W.heap.size+1:=by omega
   have nn0:¬9223372036854775807 < T0.length+x0.length:=by omega
   have nn1:¬9223372036854775807 < T0.length+x0.length+1:=by omega
   have nn2:¬9223372036854775807 < T0.length+x0.length+1+x1.length:=by omega
   have nn3:¬9223372036854775807 < T0.length+x0.length+1+x1.length+1:=by omega
   have nn4:¬9223372036854775807 < T0.length+x0.length+1+x1.length+1+3:=by omega
   have nn5:¬9223372036854775807 < T0.length+x0.length+1+x1.length+1+3+1:=by omega
   have nn6:¬9223372036854775807 < T0.length+x0.length+1+x1.length+1+3+1+(Lib.itoa lo).length:=by omega
   have nn7:¬9223372036854775807 < T0.length+x0.length+1+x1.length+1+3+1+(Lib.itoa lo).length+1:=by omega
   have nn8:¬9223372036854775807 < T0.length+x0.length+1+x1.length+1+3+1+(Lib.itoa lo).length+1+(Lib.itoa tp).length:=by omega
   have nn9:¬9223372036854775807 < T0.length+x0.length+1+x1.length+1+3+1+(Lib.itoa lo).length+1+(Lib.itoa tp).length+1:=by omega
   have hpr:rp=0\/rp=1\/rp=2:=by omega
   have HO2:Hid (0<=lo/\lo < 100000000/\0<=tp/\tp < 100000000):=⟨by omega,by omega,by omega,by omega⟩
   clear o0 o1 o2 o3
   rcases hpr with rfl | rfl | rfl
   ·go_wp2_with fail
    have XD:Hid (Rx w W.drew rb 0 lo tp):=X1.out.below (Below.refl _ _).drew
    refine wp_region_held_drew (S:=(fun w':World=>w'.cell? ⟨rb,2,none⟩=some (.int .i64 0)/\w'.cell? ⟨rb,3,none⟩=some (.int .i64 lo)/\w'.cell? ⟨rb,4,none⟩=some (.int .i64 tp)/\Rx w w' rb 0 lo tp)) (by kernel_rfl) (Rx.all XD.out) (fun hHeld=>?_)
    refine tkA 0 (v:=?_) rfl (Or.inl ⟨by rfl,?_⟩) (by assumption) ?_
    rotate_left
    ·intro w9 hSw;(try dsimp only at hSw);go_simp;try (with_reducible rfl)
    simp only[sP]
    refine tkA 1 (v:=?_) rfl (Or.inl ⟨by rfl,?_⟩) (by assumption) ?_
    rotate_left
    ·intro w9 hSw;(try dsimp only at hSw);go_simp;try (with_reducible rfl)
    simp only[sP]
    refine tkA 2 (v:=?_) rfl (Or.inl ⟨by rfl,?_⟩) (by assumption) ?_
    rotate_left
    ·intro w9 hSw;(try dsimp only at hSw);go_simp;try (with_reducible rfl)
    simp only[sP]
    refine tkA 3 (v:=?_) rfl (Or.inl ⟨by rfl,?_⟩) (by assumption) ?_
    rotate_left
    ·intro w9 hSw;(try dsimp only at hSw);go_simp;try (with_reducible rfl)
    simp only[sP]
    refine tkA 4 (v:=?_) rfl (Or.inl ⟨by rfl,?_⟩) (by assumption) ?_
    rotate_left
    ·intro w9 hSw;(try dsimp only at hSw);go_simp;try (with_reducible rfl)
    simp only[sP]
    refine tkA 5 (v:=?_) rfl (Or.inl ⟨by rfl,?_⟩) (by assumption) ?_
    rotate_left
    ·intro w9 hSw;(try dsimp only at hSw);go_simp;try (with_reducible rfl)
    simp only[sP]
    refine tkA 6 (v:=?_) rfl (Or.inl ⟨by rfl,?_⟩) (by assumption) ?_
    rotate_left
    ·intro w9 hSw;(try dsimp only at hSw);go_simp;try (with_reducible rfl)
    simp only[sP]
    refine tkA 8 (v:=?_) rfl (Or.inl ⟨by rfl,?_⟩) (by assumption) ?_
    rotate_left
    ·intro w9 hSw;(try dsimp only at hSw);go_simp;try (with_reducible rfl)
    simp only[sP]
    refine tkA 9 (v:=?_) rfl (Or.inl ⟨by rfl,?_⟩) (by assumption) ?_
    rotate_left
    ·intro w9 hSw;(try dsimp only at hSw);go_simp;try (with_reducible rfl)
    simp only[sP]
    refine tkA 14 (v:=?_) rfl (Or.inl ⟨by rfl,?_⟩) (by assumption) ?_
    rotate_left
    ·intro w9 hSw;(try dsimp only at hSw);go_simp;try (with_reducible rfl)
    simp only[sP]
    refine tkA 15 (v:=?_) rfl (Or.inl ⟨by rfl,?_⟩) (by assumption) ?_
    rotate_left
    ·intro w9 hSw;(try dsimp only at hSw);go_simp;try (with_reducible rfl)
    simp only[sP]
    refine tkA 19 (v:=?_) rfl (Or.inl ⟨by rfl,?_⟩) (by assumption) ?_
    rotate_left
    ·intro w9 hSw;(try dsimp only at hSw);go_simp;try (with_reducible rfl)
    simp only[sP]
    refine tkA 20 (v:=?_) rfl (Or.inl ⟨by rfl,?_⟩) (by assumption) ?_
    rotate_left
    ·intro w9 hSw;(try dsimp only at hSw);go_simp;try (with_reducible rfl)
    simp only[sP]
    refine wpAnyH_ready (rs:=[7,16]) (by kernel_rfl) (by simp) ?_
    refine AllReadyH.cons (o:=_) rfl (fun K hK=>?_) ?_
    ·go_simp
     refine hK.out _ _ ?_ (fun hH=>?_)
     ·exact Rx.all (XD.out.below ((Below.refl _ _).alloc (Nat.le_refl _) _))
     clear hK K hH
     try simp only[sP]
     have hT:(W.drew.alloc (.cells #[.string ⟨#[97,110,121]⟩,.string ⟨#[117,100,112]⟩,.string ⟨#[116,99,112]⟩] 9)).cell? ⟨W.heap.size,0,none⟩=some (.string ⟨#[97,110,121]⟩)/\Rx w (W.drew.alloc (.cells #[.string ⟨#[97,110,121]⟩,.string ⟨#[117,100,112]⟩,.string ⟨#[116,99,112]⟩] 9)) rb 0 lo tp:=⟨by simp[go_sem],XD.out.below ((Below.refl _ _).alloc (Nat.le_refl _) _)⟩
     refine wpAnyH_strong (S':=(fun w':World=>w'.cell? ⟨W.heap.size,0,none⟩=some (.string ⟨#[97,110,121]⟩)/\Rx w w' rb 0 lo tp)) (fun _ h=>Rx.all h.2) _ _ _ _ ?_
     refine tkA 10 (v:=?_) rfl (Or.inl ⟨by rfl,?_⟩) (by assumption) ?_
     rotate_left
     ·intro w9 hSw;(try dsimp only at hSw);go_simp;try (with_reducible rfl)
     simp only[sP]
     refine tkA 11 (v:=?_) rfl (Or.inl ⟨by rfl,?_⟩) (by assumption) ?_
     rotate_left
     ·intro w9 hSw;(try dsimp only at hSw);go_simp;try (with_reducible rfl)
     simp only[sP]
     refine tkA 12 (v:=?_) rfl (Or.inl ⟨by rfl,?_⟩) (by assumption) ?_
     rotate_left
     ·intro w9 hSw;(try dsimp only at hSw);go_simp;try (with_reducible rfl)
     simp only[sP]
     refine tkA 13 (v:=?_) rfl (Or.inl ⟨by rfl,?_⟩) (by assumption) ?_
     rotate_left
     ·intro w9 hSw;(try dsimp only at hSw);go_simp;try (with_reducible rfl)
     simp only[sP]
     refine wpAnyH_ready (rs:=[16]) (by kernel_rfl) (by simp) ?_
     refine AllReadyH.cons (o:=_) rfl (fun K hK=>?_) ?_
     ·go_simp
      refine(dec_y (n:=lo) HO2.out.1 HO2.out.2.1 hT).mono ?_
      rintro e w1 ⟨rfl,hTw1⟩
      go_wp2_with fail
      refine hK.out _ _ ?_ (fun _=>?_)
      ·exact hTw1
      clear hK K
      try simp only[sP]
      refine tkA 17 (v:=?_) rfl (Or.inl ⟨by rfl,?_⟩) (by assumption) ?_
      rotate_left
      ·intro w9 hSw;(try dsimp only at hSw);go_simp;try (with_reducible rfl)
      simp only[sP]
      refine tkA 18 (v:=?_) rfl (Or.inl ⟨by rfl,?_⟩) (by assumption) ?_
      rotate_left
      ·intro w9 hSw;(try dsimp only at hSw);go_simp;try (with_reducible rfl)
      simp only[sP]
      refine wpAnyH_ready (rs:=[21]) (by kernel_rfl) (by simp) ?_
      refine AllReadyH.cons (o:=_) rfl (fun K hK=>?_) ?_
      ·go_simp
       refine(dec_y (n:=tp) HO2.out.2.2.1 HO2.out.2.2.2 hTw1).mono ?_
       rintro e w2 ⟨rfl,hTw2⟩
       go_wp2_with fail
       refine hK.out _ _ ?_ (fun _=>?_)
       ·exact hTw2
       clear hK K
       try simp only[sP]
       refine tkA 22 (v:=?_) rfl (Or.inl ⟨by rfl,?_⟩) (by assumption) ?_
       rotate_left
       ·intro w9 hSw;(try dsimp only at hSw);go_simp;try (with_reducible rfl)
       simp only[sP]
       refine tkA 23 (v:=?_) rfl (Or.inl ⟨by rfl,?_⟩) (by assumption) ?_
       rotate_left
       ·intro w9 hSw;(try dsimp only at hSw);go_simp;try (with_reducible rfl)
       simp only[sP]
       refine tkA 24 (v:=?_) rfl (Or.inl ⟨by rfl,?_⟩) (by assumption) ?_
       rotate_left
       ·intro w9 hSw;(try dsimp only at hSw);go_simp;try (with_reducible rfl)
       simp only[sP]
       refine wpAnyH_done (by kernel_rfl) ?_ _
       have BF:Hid (Below w.heap.size w _):=hTw2.2.b
       go_wp2_with fail
       go_roundw
       case rel=>exact⟨j+1,by omega,by go_num,congrArg Value.string (by rw[HD.out];exact line_end 0 HX0.out HX1.out),BF.out⟩
       case measure=>simp[intOf];omega
      ·exact AllReadyH.nil
     ·exact AllReadyH.nil
    refine AllReadyH.cons (o:=_) rfl (fun K hK=>?_) ?_
    ·go_simp
     refine(dec_x (n:=lo) HO2.out.1 HO2.out.2.1 XD.out).mono ?_
     rintro e w1 ⟨rfl,hx⟩
     have Xw1:Hid (Rx w w1 rb 0 lo tp):=hx
     clear hx
     go_wp2_with fail
     refine hK.out _ _ ?_ (fun hHw1=>?_)
     ·exact Rx.all Xw1.out
     clear hK K
     try simp only[sP]
     refine wpAnyH_ready (rs:=[7,21]) (by kernel_rfl) (by simp) ?_
     refine AllReadyH.cons (o:=_) rfl (fun K hK=>?_) ?_
     ·go_simp
      refine hK.out _ _ ?_ (fun hH=>?_)
      ·exact Rx.all (Xw1.out.below ((Below.refl _ _).alloc (Nat.le_refl _) _))
      clear hK K hH
      try simp only[sP]
      have hT:(w1.alloc (.cells #[.string ⟨#[97,110,121]⟩,.string ⟨#[117,100,112]⟩,.string ⟨#[116,99,112]⟩] 9)).cell? ⟨w1.heap.size,0,none⟩=some (.string ⟨#[97,110,121]⟩)/\Rx w (w1.alloc (.cells #[.string ⟨#[97,110,121]⟩,.string ⟨#[117,100,112]⟩,.string ⟨#[116,99,112]⟩] 9)) rb 0 lo tp:=⟨by simp[go_sem],Xw1.out.below ((Below.refl _ _).alloc (Nat.le_refl _) _)⟩
      refine wpAnyH_strong (S':=(fun w':World=>w'.cell? ⟨w1.heap.size,0,none⟩=some (.string ⟨#[97,110,121]⟩)/\Rx w w' rb 0 lo tp)) (fun _ h=>Rx.all h.2) _ _ _ _ ?_
      refine tkA 10 (v:=?_) rfl (Or.inl ⟨by rfl,?_⟩) (by assumption) ?_
      rotate_left
      ·intro w9 hSw;(try dsimp only at hSw);go_simp;try (with_reducible rfl)
      simp only[sP]
      refine tkA 11 (v:=?_) rfl (Or.inl ⟨by rfl,?_⟩) (by assumption) ?_
      rotate_left
      ·intro w9 hSw;(try dsimp only at hSw);go_simp;try (with_reducible rfl)
      simp only[sP]
      refine tkA 12 (v:=?_) rfl (Or.inl ⟨by rfl,?_⟩) (by assumption) ?_
      rotate_left
      ·intro w9 hSw;(try dsimp only at hSw);go_simp;try (with_reducible rfl)
      simp only[sP]
      refine tkA 13 (v:=?_) rfl (Or.inl ⟨by rfl,?_⟩) (by assumption) ?_
      rotate_left
      ·intro w9 hSw;(try dsimp only at hSw);go_simp;try (with_reducible rfl)
      simp only[sP]
      refine tkA 17 (v:=?_) rfl (Or.inl ⟨by rfl,?_⟩) (by assumption) ?_
      rotate_left
      ·intro w9 hSw;(try dsimp only at hSw);go_simp;try (with_reducible rfl)
      simp only[sP]
      refine tkA 18 (v:=?_) rfl (Or.inl ⟨by rfl,?_⟩) (by assumption) ?_
      rotate_left
      ·intro w9 hSw;(try dsimp only at hSw);go_simp;try (with_reducible rfl)
      simp only[sP]
      refine wpAnyH_ready (rs:=[21]) (by kernel_rfl) (by simp) ?_
      refine AllReadyH.cons (o:=_) rfl (fun K hK=>?_) ?_
      ·go_simp
       refine(dec_y (n:=tp) HO2.out.2.2.1 HO2.out.2.2.2 hT).mono ?_
       rintro e w2 ⟨rfl,hTw2⟩
       go_wp2_with fail
       refine hK.out _ _ ?_ (fun _=>?_)
       ·exact hTw2
       clear hK K
       try simp only[sP]
       refine tkA 22 (v:=?_) rfl (Or.inl ⟨by rfl,?_⟩) (by assumption) ?_
       rotate_left
       ·intro w9 hSw;(try dsimp only at hSw);go_simp;try (with_reducible rfl)
       simp only[sP]
       refine tkA 23 (v:=?_) rfl (Or.inl ⟨by rfl,?_⟩) (by assumption) ?_
       rotate_left
       ·intro w9 hSw;(try dsimp only at hSw);go_simp;try (with_reducible rfl)
       simp only[sP]
       refine tkA 24 (v:=?_) rfl (Or.inl ⟨by rfl,?_⟩) (by assumption) ?_
       rotate_left
       ·intro w9 hSw;(try dsimp only at hSw);go_simp;try (with_reducible rfl)
       simp only[sP]
       refine wpAnyH_done (by kernel_rfl) ?_ _
       have BF:Hid (Below w.heap.size w _):=hTw2.2.b
       go_wp2_with fail
       go_roundw
       case rel=>exact⟨j+1,by omega,by go_num,congrArg Value.string (by rw[HD.out];exact line_end 0 HX0.out HX1.out),BF.out⟩
       case measure=>simp[intOf];omega
      ·exact AllReadyH.nil
     refine AllReadyH.cons (o:=_) rfl (fun K hK=>?_) ?_
     ·go_simp
      refine(dec_x (n:=tp) HO2.out.2.2.1 HO2.out.2.2.2 Xw1.out).mono ?_
      rintro e w2 ⟨rfl,hx⟩
      have Xw2:Hid (Rx w w2 rb 0 lo tp):=hx
      clear hx
      go_wp2_with fail
      refine hK.out _ _ ?_ (fun hHw2=>?_)
      ·exact Rx.all Xw2.out
      clear hK K
      try simp only[sP]
      refine wpAnyH_ready (rs:=[7]) (by kernel_rfl) (by simp) ?_
      refine AllReadyH.cons (o:=_) rfl (fun K hK=>?_) ?_
      ·go_simp
       refine hK.out _ _ ?_ (fun hH=>?_)
       ·exact Rx.all (Xw2.out.below ((Below.refl _ _).alloc (Nat.le_refl _) _))
       clear hK K hH
       try simp only[sP]
       have hT:(w2.alloc (.cells #[.string ⟨#[97,110,121]⟩,.string ⟨#[117,100,112]⟩,.string ⟨#[116,99,112]⟩] 9)).cell? ⟨w2.heap.size,0,none⟩=some (.string ⟨#[97,110,121]⟩)/\Rx w (w2.alloc (.cells #[.string ⟨#[97,110,121]⟩,.string ⟨#[117,100,112]⟩,.string ⟨#[116,99,112]⟩] 9)) rb 0 lo tp:=⟨by simp[go_sem],Xw2.out.below ((Below.refl _ _).alloc (Nat.le_refl _) _)⟩
       refine wpAnyH_strong (S':=(fun w':World=>w'.cell? ⟨w2.heap.size,0,none⟩=some (.string ⟨#[97,110,121]⟩)/\Rx w w' rb 0 lo tp)) (fun _ h=>Rx.all h.2) _ _ _ _ ?_
       refine tkA 10 (v:=?_) rfl (Or.inl ⟨by rfl,?_⟩) (by assumption) ?_
       rotate_left
       ·intro w9 hSw;(try dsimp only at hSw);go_simp;try (with_reducible rfl)
       simp only[sP]
       refine tkA 11 (v:=?_) rfl (Or.inl ⟨by rfl,?_⟩) (by assumption) ?_
       rotate_left
       ·intro w9 hSw;(try dsimp only at hSw);go_simp;try (with_reducible rfl)
       simp only[sP]
       refine tkA 12 (v:=?_) rfl (Or.inl ⟨by rfl,?_⟩) (by assumption) ?_
       rotate_left
       ·intro w9 hSw;(try dsimp only at hSw);go_simp;try (with_reducible rfl)
       simp only[sP]
       refine tkA 13 (v:=?_) rfl (Or.inl ⟨by rfl,?_⟩) (by assumption) ?_
       rotate_left
       ·intro w9 hSw;(try dsimp only at hSw);go_simp;try (with_reducible rfl)
       simp only[sP]
       refine tkA 17 (v:=?_) rfl (Or.inl ⟨by rfl,?_⟩) (by assumption) ?_
       rotate_left
       ·intro w9 hSw;(try dsimp only at hSw);go_simp;try (with_reducible rfl)
       simp only[sP]
       refine tkA 18 (v:=?_) rfl (Or.inl ⟨by rfl,?_⟩) (by assumption) ?_
       rotate_left
       ·intro w9 hSw;(try dsimp only at hSw);go_simp;try (with_reducible rfl)
       simp only[sP]
       refine tkA 22 (v:=?_) rfl (Or.inl ⟨by rfl,?_⟩) (by assumption) ?_
       rotate_left
       ·intro w9 hSw;(try dsimp only at hSw);go_simp;try (with_reducible rfl)
       simp only[sP]
       refine tkA 23 (v:=?_) rfl (Or.inl ⟨by rfl,?_⟩) (by assumption) ?_
       rotate_left
       ·intro w9 hSw;(try dsimp only at hSw);go_simp;try (with_reducible rfl)
       simp only[sP]
       refine tkA 24 (v:=?_) rfl (Or.inl ⟨by rfl,?_⟩) (by assumption) ?_
       rotate_left
       ·intro w9 hSw;(try dsimp only at hSw);go_simp;try (with_reducible rfl)
       simp only[sP]
       refine wpAnyH_done (by kernel_rfl) ?_ _
       have BF:Hid (Below w.heap.size w _):=hT.2.b
       go_wp2_with fail
       go_roundw
       case rel=>exact⟨j+1,by omega,by go_num,congrArg Value.string (by rw[HD.out];exact line_end 0 HX0.out HX1.out),BF.out⟩
       case measure=>simp[intOf];omega
      ·exact AllReadyH.nil
     ·exact AllReadyH.nil
    ·exact AllReadyH.nil
   ·go_wp2_with fail
    have XD:Hid (Rx w W.drew rb 1 lo tp):=X1.out.below (Below.refl _ _).drew
    refine wp_region_held_drew (S:=(fun w':World=>w'.cell? ⟨rb,2,none⟩=some (.int .i64 1)/\w'.cell? ⟨rb,3,none⟩=some (.int .i64 lo)/\w'.cell? ⟨rb,4,none⟩=some (.int .i64 tp)/\Rx w w' rb 1 lo tp)) (by kernel_rfl) (Rx.all XD.out) (fun hHeld=>?_)
    refine tkA 0 (v:=?_) rfl (Or.inl ⟨by rfl,?_⟩) (by assumption) ?_
    rotate_left
    ·intro w9 hSw;(try dsimp only at hSw);go_simp;try (with_reducible rfl)
    simp only[sP]
    refine tkA 1 (v:=?_) rfl (Or.inl ⟨by rfl,?_⟩) (by assumption) ?_
    rotate_left
    ·intro w9 hSw;(try dsimp only at hSw);go_simp;try (with_reducible rfl)
    simp only[sP]
    refine tkA 2 (v:=?_) rfl (Or.inl ⟨by rfl,?_⟩) (by assumption) ?_
    rotate_left
    ·intro w9 hSw;(try dsimp only at hSw);go_simp;try (with_reducible rfl)
    simp only[sP]
    refine tkA 3 (v:=?_) rfl (Or.inl ⟨by rfl,?_⟩) (by assumption) ?_
    rotate_left
    ·intro w9 hSw;(try dsimp only at hSw);go_simp;try (with_reducible rfl)
    simp only[sP]
    refine tkA 4 (v:=?_) rfl (Or.inl ⟨by rfl,?_⟩) (by assumption) ?_
    rotate_left
    ·intro w9 hSw;(try dsimp only at hSw);go_simp;try (with_reducible rfl)
    simp only[sP]
    refine tkA 5 (v:=?_) rfl (Or.inl ⟨by rfl,?_⟩) (by assumption) ?_
    rotate_left
    ·intro w9 hSw;(try dsimp only at hSw);go_simp;try (with_reducible rfl)
    simp only[sP]
    refine tkA 6 (v:=?_) rfl (Or.inl ⟨by rfl,?_⟩) (by assumption) ?_
    rotate_left
    ·intro w9 hSw;(try dsimp only at hSw);go_simp;try (with_reducible rfl)
    simp only[sP]
    refine tkA 8 (v:=?_) rfl (Or.inl ⟨by rfl,?_⟩) (by assumption) ?_
    rotate_left
    ·intro w9 hSw;(try dsimp only at hSw);go_simp;try (with_reducible rfl)
    simp only[sP]
    refine tkA 9 (v:=?_) rfl (Or.inl ⟨by rfl,?_⟩) (by assumption) ?_
    rotate_left
    ·intro w9 hSw;(try dsimp only at hSw);go_simp;try (with_reducible rfl)
    simp only[sP]
    refine tkA 14 (v:=?_) rfl (Or.inl ⟨by rfl,?_⟩) (by assumption) ?_
    rotate_left
    ·intro w9 hSw;(try dsimp only at hSw);go_simp;try (with_reducible rfl)
    simp only[sP]
    refine tkA 15 (v:=?_) rfl (Or.inl ⟨by rfl,?_⟩) (by assumption) ?_
    rotate_left
    ·intro w9 hSw;(try dsimp only at hSw);go_simp;try (with_reducible rfl)
    simp only[sP]
    refine tkA 19 (v:=?_) rfl (Or.inl ⟨by rfl,?_⟩) (by assumption) ?_
    rotate_left
    ·intro w9 hSw;(try dsimp only at hSw);go_simp;try (with_reducible rfl)
    simp only[sP]
    refine tkA 20 (v:=?_) rfl (Or.inl ⟨by rfl,?_⟩) (by assumption) ?_
    rotate_left
    ·intro w9 hSw;(try dsimp only at hSw);go_simp;try (with_reducible rfl)
    simp only[sP]
    refine wpAnyH_ready (rs:=[7,16]) (by kernel_rfl) (by simp) ?_
    refine AllReadyH.cons (o:=_) rfl (fun K hK=>?_) ?_
    ·go_simp
     refine hK.out _ _ ?_ (fun hH=>?_)
     ·exact Rx.all (XD.out.below ((Below.refl _ _).alloc (Nat.le_refl _) _))
     clear hK K hH
     try simp only[sP]
     have hT:(W.drew.alloc (.cells #[.string ⟨#[97,110,121]⟩,.string ⟨#[117,100,112]⟩,.string ⟨#[116,99,112]⟩] 9)).cell? ⟨W.heap.size,1,none⟩=some (.string ⟨#[117,100,112]⟩)/\Rx w (W.drew.alloc (.cells #[.string ⟨#[97,110,121]⟩,.string ⟨#[117,100,112]⟩,.string ⟨#[116,99,112]⟩] 9)) rb 1 lo tp:=⟨by simp[go_sem],XD.out.below ((Below.refl _ _).alloc (Nat.le_refl _) _)⟩
     refine wpAnyH_strong (S':=(fun w':World=>w'.cell? ⟨W.heap.size,1,none⟩=some (.string ⟨#[117,100,112]⟩)/\Rx w w' rb 1 lo tp)) (fun _ h=>Rx.all h.2) _ _ _ _ ?_
     refine tkA 10 (v:=?_) rfl (Or.inl ⟨by rfl,?_⟩) (by assumption) ?_
     rotate_left
     ·intro w9 hSw;(try dsimp only at hSw);go_simp;try (with_reducible rfl)
     simp only[sP]
     refine tkA 11 (v:=?_) rfl (Or.inl ⟨by rfl,?_⟩) (by assumption) ?_
     rotate_left
     ·intro w9 hSw;(try dsimp only at hSw);go_simp;try (with_reducible rfl)
     simp only[sP]
     refine tkA 12 (v:=?_) rfl (Or.inl ⟨by rfl,?_⟩) (by assumption) ?_
     rotate_left
     ·intro w9 hSw;(try dsimp only at hSw);go_simp;try (with_reducible rfl)
     simp only[sP]
     refine tkA 13 (v:=?_) rfl (Or.inl ⟨by rfl,?_⟩) (by assumption) ?_
     rotate_left
     ·intro w9 hSw;(try dsimp only at hSw);go_simp;try (with_reducible rfl)
     simp only[sP]
     refine wpAnyH_ready (rs:=[16]) (by kernel_rfl) (by simp) ?_
     refine AllReadyH.cons (o:=_) rfl (fun K hK=>?_) ?_
     ·go_simp
      refine(dec_y (n:=lo) HO2.out.1 HO2.out.2.1 hT).mono ?_
      rintro e w1 ⟨rfl,hTw1⟩
      go_wp2_with fail
      refine hK.out _ _ ?_ (fun _=>?_)
      ·exact hTw1
      clear hK K
      try simp only[sP]
      refine tkA 17 (v:=?_) rfl (Or.inl ⟨by rfl,?_⟩) (by assumption) ?_
      rotate_left
      ·intro w9 hSw;(try dsimp only at hSw);go_simp;try (with_reducible rfl)
      simp only[sP]
      refine tkA 18 (v:=?_) rfl (Or.inl ⟨by rfl,?_⟩) (by assumption) ?_
      rotate_left
      ·intro w9 hSw;(try dsimp only at hSw);go_simp;try (with_reducible rfl)
      simp only[sP]
      refine wpAnyH_ready (rs:=[21]) (by kernel_rfl) (by simp) ?_
      refine AllReadyH.cons (o:=_) rfl (fun K hK=>?_) ?_
      ·go_simp
       refine(dec_y (n:=tp) HO2.out.2.2.1 HO2.out.2.2.2 hTw1).mono ?_
       rintro e w2 ⟨rfl,hTw2⟩
       go_wp2_with fail
       refine hK.out _ _ ?_ (fun _=>?_)
       ·exact hTw2
       clear hK K
       try simp only[sP]
       refine tkA 22 (v:=?_) rfl (Or.inl ⟨by rfl,?_⟩) (by assumption) ?_
       rotate_left
       ·intro w9 hSw;(try dsimp only at hSw);go_simp;try (with_reducible rfl)
       simp only[sP]
       refine tkA 23 (v:=?_) rfl (Or.inl ⟨by rfl,?_⟩) (by assumption) ?_
       rotate_left
       ·intro w9 hSw;(try dsimp only at hSw);go_simp;try (with_reducible rfl)
       simp only[sP]
       refine tkA 24 (v:=?_) rfl (Or.inl ⟨by rfl,?_⟩) (by assumption) ?_
       rotate_left
       ·intro w9 hSw;(try dsimp only at hSw);go_simp;try (with_reducible rfl)
       simp only[sP]
       refine wpAnyH_done (by kernel_rfl) ?_ _
       have BF:Hid (Below w.heap.size w _):=hTw2.2.b
       go_wp2_with fail
       go_roundw
       case rel=>exact⟨j+1,by omega,by go_num,congrArg Value.string (by rw[HD.out];exact line_end 1 HX0.out HX1.out),BF.out⟩
       case measure=>simp[intOf];omega
      ·exact AllReadyH.nil
     ·exact AllReadyH.nil
    refine AllReadyH.cons (o:=_) rfl (fun K hK=>?_) ?_
    ·go_simp
     refine(dec_x (n:=lo) HO2.out.1 HO2.out.2.1 XD.out).mono ?_
     rintro e w1 ⟨rfl,hx⟩
     have Xw1:Hid (Rx w w1 rb 1 lo tp):=hx
     clear hx
     go_wp2_with fail
     refine hK.out _ _ ?_ (fun hHw1=>?_)
     ·exact Rx.all Xw1.out
     clear hK K
     try simp only[sP]
     refine wpAnyH_ready (rs:=[7,21]) (by kernel_rfl) (by simp) ?_
     refine AllReadyH.cons (o:=_) rfl (fun K hK=>?_) ?_
     ·go_simp
      refine hK.out _ _ ?_ (fun hH=>?_)
      ·exact Rx.all (Xw1.out.below ((Below.refl _ _).alloc (Nat.le_refl _) _))
      clear hK K hH
      try simp only[sP]
      have hT:(w1.alloc (.cells #[.string ⟨#[97,110,121]⟩,.string ⟨#[117,100,112]⟩,.string ⟨#[116,99,112]⟩] 9)).cell? ⟨w1.heap.size,1,none⟩=some (.string ⟨#[117,100,112]⟩)/\Rx w (w1.alloc (.cells #[.string ⟨#[97,110,121]⟩,.string ⟨#[117,100,112]⟩,.string ⟨#[116,99,112]⟩] 9)) rb 1 lo tp:=⟨by simp[go_sem],Xw1.out.below ((Below.refl _ _).alloc (Nat.le_refl _) _)⟩
      refine wpAnyH_strong (S':=(fun w':World=>w'.cell? ⟨w1.heap.size,1,none⟩=some (.string ⟨#[117,100,112]⟩)/\Rx w w' rb 1 lo tp)) (fun _ h=>Rx.all h.2) _ _ _ _ ?_
      refine tkA 10 (v:=?_) rfl (Or.inl ⟨by rfl,?_⟩) (by assumption) ?_
      rotate_left
      ·intro w9 hSw;(try dsimp only at hSw);go_simp;try (with_reducible rfl)
      simp only[sP]
      refine tkA 11 (v:=?_) rfl (Or.inl ⟨by rfl,?_⟩) (by assumption) ?_
      rotate_left
      ·intro w9 hSw;(try dsimp only at hSw);go_simp;try (with_reducible rfl)
      simp only[sP]
      refine tkA 12 (v:=?_) rfl (Or.inl ⟨by rfl,?_⟩) (by assumption) ?_
      rotate_left
      ·intro w9 hSw;(try dsimp only at hSw);go_simp;try (with_reducible rfl)
      simp only[sP]
      refine tkA 13 (v:=?_) rfl (Or.inl ⟨by rfl,?_⟩) (by assumption) ?_
      rotate_left
      ·intro w9 hSw;(try dsimp only at hSw);go_simp;try (with_reducible rfl)
      simp only[sP]
      refine tkA 17 (v:=?_) rfl (Or.inl ⟨by rfl,?_⟩) (by assumption) ?_
      rotate_left
      ·intro w9 hSw;(try dsimp only at hSw);go_simp;try (with_reducible rfl)
      simp only[sP]
      refine tkA 18 (v:=?_) rfl (Or.inl ⟨by rfl,?_⟩) (by assumption) ?_
      rotate_left
      ·intro w9 hSw;(try dsimp only at hSw);go_simp;try (with_reducible rfl)
      simp only[sP]
      refine wpAnyH_ready (rs:=[21]) (by kernel_rfl) (by simp) ?_
      refine AllReadyH.cons (o:=_) rfl (fun K hK=>?_) ?_
      ·go_simp
       refine(dec_y (n:=tp) HO2.out.2.2.1 HO2.out.2.2.2 hT).mono ?_
       rintro e w2 ⟨rfl,hTw2⟩
       go_wp2_with fail
       refine hK.out _ _ ?_ (fun _=>?_)
       ·exact hTw2
       clear hK K
       try simp only[sP]
       refine tkA 22 (v:=?_) rfl (Or.inl ⟨by rfl,?_⟩) (by assumption) ?_
       rotate_left
       ·intro w9 hSw;(try dsimp only at hSw);go_simp;try (with_reducible rfl)
       simp only[sP]
       refine tkA 23 (v:=?_) rfl (Or.inl ⟨by rfl,?_⟩) (by assumption) ?_
       rotate_left
       ·intro w9 hSw;(try dsimp only at hSw);go_simp;try (with_reducible rfl)
       simp only[sP]
       refine tkA 24 (v:=?_) rfl (Or.inl ⟨by rfl,?_⟩) (by assumption) ?_
       rotate_left
       ·intro w9 hSw;(try dsimp only at hSw);go_simp;try (with_reducible rfl)
       simp only[sP]
       refine wpAnyH_done (by kernel_rfl) ?_ _
       have BF:Hid (Below w.heap.size w _):=hTw2.2.b
       go_wp2_with fail
       go_roundw
       case rel=>exact⟨j+1,by omega,by go_num,congrArg Value.string (by rw[HD.out];exact line_end 1 HX0.out HX1.out),BF.out⟩
       case measure=>simp[intOf];omega
      ·exact AllReadyH.nil
     refine AllReadyH.cons (o:=_) rfl (fun K hK=>?_) ?_
     ·go_simp
      refine(dec_x (n:=tp) HO2.out.2.2.1 HO2.out.2.2.2 Xw1.out).mono ?_
      rintro e w2 ⟨rfl,hx⟩
      have Xw2:Hid (Rx w w2 rb 1 lo tp):=hx
      clear hx
      go_wp2_with fail
      refine hK.out _ _ ?_ (fun hHw2=>?_)
      ·exact Rx.all Xw2.out
      clear hK K
      try simp only[sP]
      refine wpAnyH_ready (rs:=[7]) (by kernel_rfl) (by simp) ?_
      refine AllReadyH.cons (o:=_) rfl (fun K hK=>?_) ?_
      ·go_simp
       refine hK.out _ _ ?_ (fun hH=>?_)
       ·exact Rx.all (Xw2.out.below ((Below.refl _ _).alloc (Nat.le_refl _) _))
       clear hK K hH
       try simp only[sP]
       have hT:(w2.alloc (.cells #[.string ⟨#[97,110,121]⟩,.string ⟨#[117,100,112]⟩,.string ⟨#[116,99,112]⟩] 9)).cell? ⟨w2.heap.size,1,none⟩=some (.string ⟨#[117,100,112]⟩)/\Rx w (w2.alloc (.cells #[.string ⟨#[97,110,121]⟩,.string ⟨#[117,100,112]⟩,.string ⟨#[116,99,112]⟩] 9)) rb 1 lo tp:=⟨by simp[go_sem],Xw2.out.below ((Below.refl _ _).alloc (Nat.le_refl _) _)⟩
       refine wpAnyH_strong (S':=(fun w':World=>w'.cell? ⟨w2.heap.size,1,none⟩=some (.string ⟨#[117,100,112]⟩)/\Rx w w' rb 1 lo tp)) (fun _ h=>Rx.all h.2) _ _ _ _ ?_
       refine tkA 10 (v:=?_) rfl (Or.inl ⟨by rfl,?_⟩) (by assumption) ?_
       rotate_left
       ·intro w9 hSw;(try dsimp only at hSw);go_simp;try (with_reducible rfl)
       simp only[sP]
       refine tkA 11 (v:=?_) rfl (Or.inl ⟨by rfl,?_⟩) (by assumption) ?_
       rotate_left
       ·intro w9 hSw;(try dsimp only at hSw);go_simp;try (with_reducible rfl)
       simp only[sP]
       refine tkA 12 (v:=?_) rfl (Or.inl ⟨by rfl,?_⟩) (by assumption) ?_
       rotate_left
       ·intro w9 hSw;(try dsimp only at hSw);go_simp;try (with_reducible rfl)
       simp only[sP]
       refine tkA 13 (v:=?_) rfl (Or.inl ⟨by rfl,?_⟩) (by assumption) ?_
       rotate_left
       ·intro w9 hSw;(try dsimp only at hSw);go_simp;try (with_reducible rfl)
       simp only[sP]
       refine tkA 17 (v:=?_) rfl (Or.inl ⟨by rfl,?_⟩) (by assumption) ?_
       rotate_left
       ·intro w9 hSw;(try dsimp only at hSw);go_simp;try (with_reducible rfl)
       simp only[sP]
       refine tkA 18 (v:=?_) rfl (Or.inl ⟨by rfl,?_⟩) (by assumption) ?_
       rotate_left
       ·intro w9 hSw;(try dsimp only at hSw);go_simp;try (with_reducible rfl)
       simp only[sP]
       refine tkA 22 (v:=?_) rfl (Or.inl ⟨by rfl,?_⟩) (by assumption) ?_
       rotate_left
       ·intro w9 hSw;(try dsimp only at hSw);go_simp;try (with_reducible rfl)
       simp only[sP]
       refine tkA 23 (v:=?_) rfl (Or.inl ⟨by rfl,?_⟩) (by assumption) ?_
       rotate_left
       ·intro w9 hSw;(try dsimp only at hSw);go_simp;try (with_reducible rfl)
       simp only[sP]
       refine tkA 24 (v:=?_) rfl (Or.inl ⟨by rfl,?_⟩) (by assumption) ?_
       rotate_left
       ·intro w9 hSw;(try dsimp only at hSw);go_simp;try (with_reducible rfl)
       simp only[sP]
       refine wpAnyH_done (by kernel_rfl) ?_ _
       have BF:Hid (Below w.heap.size w _):=hT.2.b
       go_wp2_with fail
       go_roundw
       case rel=>exact⟨j+1,by omega,by go_num,congrArg Value.string (by rw[HD.out];exact line_end 1 HX0.out HX1.out),BF.out⟩
       case measure=>simp[intOf];omega
      ·exact AllReadyH.nil
     ·exact AllReadyH.nil
    ·exact AllReadyH.nil
   ·go_wp2_with fail
    have XD:Hid (Rx w W.drew rb 2 lo tp):=X1.out.below (Below.refl _ _).drew
    refine wp_region_held_drew (S:=(fun w':World=>w'.cell? ⟨rb,2,none⟩=some (.int .i64 2)/\w'.cell? ⟨rb,3,none⟩=some (.int .i64 lo)/\w'.cell? ⟨rb,4,none⟩=some (.int .i64 tp)/\Rx w w' rb 2 lo tp)) (by kernel_rfl) (Rx.all XD.out) (fun hHeld=>?_)
    refine tkA 0 (v:=?_) rfl (Or.inl ⟨by rfl,?_⟩) (by assumption) ?_
    rotate_left
    ·intro w9 hSw;(try dsimp only at hSw);go_simp;try (with_reducible rfl)
    simp only[sP]
    refine tkA 1 (v:=?_) rfl (Or.inl ⟨by rfl,?_⟩) (by assumption) ?_
    rotate_left
    ·intro w9 hSw;(try dsimp only at hSw);go_simp;try (with_reducible rfl)
    simp only[sP]
    refine tkA 2 (v:=?_) rfl (Or.inl ⟨by rfl,?_⟩) (by assumption) ?_
    rotate_left
    ·intro w9 hSw;(try dsimp only at hSw);go_simp;try (with_reducible rfl)
    simp only[sP]
    refine tkA 3 (v:=?_) rfl (Or.inl ⟨by rfl,?_⟩) (by assumption) ?_
    rotate_left
    ·intro w9 hSw;(try dsimp only at hSw);go_simp;try (with_reducible rfl)
    simp only[sP]
    refine tkA 4 (v:=?_) rfl (Or.inl ⟨by rfl,?_⟩) (by assumption) ?_
    rotate_left
    ·intro w9 hSw;(try dsimp only at hSw);go_simp;try (with_reducible rfl)
    simp only[sP]
    refine tkA 5 (v:=?_) rfl (Or.inl ⟨by rfl,?_⟩) (by assumption) ?_
    rotate_left
    ·intro w9 hSw;(try dsimp only at hSw);go_simp;try (with_reducible rfl)
    simp only[sP]
    refine tkA 6 (v:=?_) rfl (Or.inl ⟨by rfl,?_⟩) (by assumption) ?_
    rotate_left
    ·intro w9 hSw;(try dsimp only at hSw);go_simp;try (with_reducible rfl)
    simp only[sP]
    refine tkA 8 (v:=?_) rfl (Or.inl ⟨by rfl,?_⟩) (by assumption) ?_
    rotate_left
    ·intro w9 hSw;(try dsimp only at hSw);go_simp;try (with_reducible rfl)
    simp only[sP]
    refine tkA 9 (v:=?_) rfl (Or.inl ⟨by rfl,?_⟩) (by assumption) ?_
    rotate_left
    ·intro w9 hSw;(try dsimp only at hSw);go_simp;try (with_reducible rfl)
    simp only[sP]
    refine tkA 14 (v:=?_) rfl (Or.inl ⟨by rfl,?_⟩) (by assumption) ?_
    rotate_left
    ·intro w9 hSw;(try dsimp only at hSw);go_simp;try (with_reducible rfl)
    simp only[sP]
    refine tkA 15 (v:=?_) rfl (Or.inl ⟨by rfl,?_⟩) (by assumption) ?_
    rotate_left
    ·intro w9 hSw;(try dsimp only at hSw);go_simp;try (with_reducible rfl)
    simp only[sP]
    refine tkA 19 (v:=?_) rfl (Or.inl ⟨by rfl,?_⟩) (by assumption) ?_
    rotate_left
    ·intro w9 hSw;(try dsimp only at hSw);go_simp;try (with_reducible rfl)
    simp only[sP]
    refine tkA 20 (v:=?_) rfl (Or.inl ⟨by rfl,?_⟩) (by assumption) ?_
    rotate_left
    ·intro w9 hSw;(try dsimp only at hSw);go_simp;try (with_reducible rfl)
    simp only[sP]
    refine wpAnyH_ready (rs:=[7,16]) (by kernel_rfl) (by simp) ?_
    refine AllReadyH.cons (o:=_) rfl (fun K hK=>?_) ?_
    ·go_simp
     refine hK.out _ _ ?_ (fun hH=>?_)
     ·exact Rx.all (XD.out.below ((Below.refl _ _).alloc (Nat.le_refl _) _))
     clear hK K hH
     try simp only[sP]
     have hT:(W.drew.alloc (.cells #[.string ⟨#[97,110,121]⟩,.string ⟨#[117,100,112]⟩,.string ⟨#[116,99,112]⟩] 9)).cell? ⟨W.heap.size,2,none⟩=some (.string ⟨#[116,99,112]⟩)/\Rx w (W.drew.alloc (.cells #[.string ⟨#[97,110,121]⟩,.string ⟨#[117,100,112]⟩,.string ⟨#[116,99,112]⟩] 9)) rb 2 lo tp:=⟨by simp[go_sem],XD.out.below ((Below.refl _ _).alloc (Nat.le_refl _) _)⟩
     refine wpAnyH_strong (S':=(fun w':World=>w'.cell? ⟨W.heap.size,2,none⟩=some (.string ⟨#[116,99,112]⟩)/\Rx w w' rb 2 lo tp)) (fun _ h=>Rx.all h.2) _ _ _ _ ?_
     refine tkA 10 (v:=?_) rfl (Or.inl ⟨by rfl,?_⟩) (by assumption) ?_
     rotate_left
     ·intro w9 hSw;(try dsimp only at hSw);go_simp;try (with_reducible rfl)
     simp only[sP]
     refine tkA 11 (v:=?_) rfl (Or.inl ⟨by rfl,?_⟩) (by assumption) ?_
     rotate_left
     ·intro w9 hSw;(try dsimp only at hSw);go_simp;try (with_reducible rfl)
     simp only[sP]
     refine tkA 12 (v:=?_) rfl (Or.inl ⟨by rfl,?_⟩) (by assumption) ?_
     rotate_left
     ·intro w9 hSw;(try dsimp only at hSw);go_simp;try (with_reducible rfl)
     simp only[sP]
     refine tkA 13 (v:=?_) rfl (Or.inl ⟨by rfl,?_⟩) (by assumption) ?_
     rotate_left
     ·intro w9 hSw;(try dsimp only at hSw);go_simp;try (with_reducible rfl)
     simp only[sP]
     refine wpAnyH_ready (rs:=[16]) (by kernel_rfl) (by simp) ?_
     refine AllReadyH.cons (o:=_) rfl (fun K hK=>?_) ?_
     ·go_simp
      refine(dec_y (n:=lo) HO2.out.1 HO2.out.2.1 hT).mono ?_
      rintro e w1 ⟨rfl,hTw1⟩
      go_wp2_with fail
      refine hK.out _ _ ?_ (fun _=>?_)
      ·exact hTw1
      clear hK K
      try simp only[sP]
      refine tkA 17 (v:=?_) rfl (Or.inl ⟨by rfl,?_⟩) (by assumption) ?_
      rotate_left
      ·intro w9 hSw;(try dsimp only at hSw);go_simp;try (with_reducible rfl)
      simp only[sP]
      refine tkA 18 (v:=?_) rfl (Or.inl ⟨by rfl,?_⟩) (by assumption) ?_
      rotate_left
      ·intro w9 hSw;(try dsimp only at hSw);go_simp;try (with_reducible rfl)
      simp only[sP]
      refine wpAnyH_ready (rs:=[21]) (by kernel_rfl) (by simp) ?_
      refine AllReadyH.cons (o:=_) rfl (fun K hK=>?_) ?_
      ·go_simp
       refine(dec_y (n:=tp) HO2.out.2.2.1 HO2.out.2.2.2 hTw1).mono ?_
       rintro e w2 ⟨rfl,hTw2⟩
       go_wp2_with fail
       refine hK.out _ _ ?_ (fun _=>?_)
       ·exact hTw2
       clear hK K
       try simp only[sP]
       refine tkA 22 (v:=?_) rfl (Or.inl ⟨by rfl,?_⟩) (by assumption) ?_
       rotate_left
       ·intro w9 hSw;(try dsimp only at hSw);go_simp;try (with_reducible rfl)
       simp only[sP]
       refine tkA 23 (v:=?_) rfl (Or.inl ⟨by rfl,?_⟩) (by assumption) ?_
       rotate_left
       ·intro w9 hSw;(try dsimp only at hSw);go_simp;try (with_reducible rfl)
       simp only[sP]
       refine tkA 24 (v:=?_) rfl (Or.inl ⟨by rfl,?_⟩) (by assumption) ?_
       rotate_left
       ·intro w9 hSw;(try dsimp only at hSw);go_simp;try (with_reducible rfl)
       simp only[sP]
       refine wpAnyH_done (by kernel_rfl) ?_ _
       have BF:Hid (Below w.heap.size w _):=hTw2.2.b
       go_wp2_with fail
       go_roundw
       case rel=>exact⟨j+1,by omega,by go_num,congrArg Value.string (by rw[HD.out];exact line_end 2 HX0.out HX1.out),BF.out⟩
       case measure=>simp[intOf];omega
      ·exact AllReadyH.nil
     ·exact AllReadyH.nil
    refine AllReadyH.cons (o:=_) rfl (fun K hK=>?_) ?_
    ·go_simp
     refine(dec_x (n:=lo) HO2.out.1 HO2.out.2.1 XD.out).mono ?_
     rintro e w1 ⟨rfl,hx⟩
     have Xw1:Hid (Rx w w1 rb 2 lo tp):=hx
     clear hx
     go_wp2_with fail
     refine hK.out _ _ ?_ (fun hHw1=>?_)
     ·exact Rx.all Xw1.out
     clear hK K
     try simp only[sP]
     refine wpAnyH_ready (rs:=[7,21]) (by kernel_rfl) (by simp) ?_
     refine AllReadyH.cons (o:=_) rfl (fun K hK=>?_) ?_
     ·go_simp
      refine hK.out _ _ ?_ (fun hH=>?_)
      ·exact Rx.all (Xw1.out.below ((Below.refl _ _).alloc (Nat.le_refl _) _))
      clear hK K hH
      try simp only[sP]
      have hT:(w1.alloc (.cells #[.string ⟨#[97,110,121]⟩,.string ⟨#[117,100,112]⟩,.string ⟨#[116,99,112]⟩] 9)).cell? ⟨w1.heap.size,2,none⟩=some (.string ⟨#[116,99,112]⟩)/\Rx w (w1.alloc (.cells #[.string ⟨#[97,110,121]⟩,.string ⟨#[117,100,112]⟩,.string ⟨#[116,99,112]⟩] 9)) rb 2 lo tp:=⟨by simp[go_sem],Xw1.out.below ((Below.refl _ _).alloc (Nat.le_refl _) _)⟩
      refine wpAnyH_strong (S':=(fun w':World=>w'.cell? ⟨w1.heap.size,2,none⟩=some (.string ⟨#[116,99,112]⟩)/\Rx w w' rb 2 lo tp)) (fun _ h=>Rx.all h.2) _ _ _ _ ?_
      refine tkA 10 (v:=?_) rfl (Or.inl ⟨by rfl,?_⟩) (by assumption) ?_
      rotate_left
      ·intro w9 hSw;(try dsimp only at hSw);go_simp;try (with_reducible rfl)
      simp only[sP]
      refine tkA 11 (v:=?_) rfl (Or.inl ⟨by rfl,?_⟩) (by assumption) ?_
      rotate_left
      ·intro w9 hSw;(try dsimp only at hSw);go_simp;try (with_reducible rfl)
      simp only[sP]
      refine tkA 12 (v:=?_) rfl (Or.inl ⟨by rfl,?_⟩) (by assumption) ?_
      rotate_left
      ·intro w9 hSw;(try dsimp only at hSw);go_simp;try (with_reducible rfl)
      simp only[sP]
      refine tkA 13 (v:=?_) rfl (Or.inl ⟨by rfl,?_⟩) (by assumption) ?_
      rotate_left
      ·intro w9 hSw;(try dsimp only at hSw);go_simp;try (with_reducible rfl)
      simp only[sP]
      refine tkA 17 (v:=?_) rfl (Or.inl ⟨by rfl,?_⟩) (by assumption) ?_
      rotate_left
      ·intro w9 hSw;(try dsimp only at hSw);go_simp;try (with_reducible rfl)
      simp only[sP]
      refine tkA 18 (v:=?_) rfl (Or.inl ⟨by rfl,?_⟩) (by assumption) ?_
      rotate_left
      ·intro w9 hSw;(try dsimp only at hSw);go_simp;try (with_reducible rfl)
      simp only[sP]
      refine wpAnyH_ready (rs:=[21]) (by kernel_rfl) (by simp) ?_
      refine AllReadyH.cons (o:=_) rfl (fun K hK=>?_) ?_
      ·go_simp
       refine(dec_y (n:=tp) HO2.out.2.2.1 HO2.out.2.2.2 hT).mono ?_
       rintro e w2 ⟨rfl,hTw2⟩
       go_wp2_with fail
       refine hK.out _ _ ?_ (fun _=>?_)
       ·exact hTw2
       clear hK K
       try simp only[sP]
       refine tkA 22 (v:=?_) rfl (Or.inl ⟨by rfl,?_⟩) (by assumption) ?_
       rotate_left
       ·intro w9 hSw;(try dsimp only at hSw);go_simp;try (with_reducible rfl)
       simp only[sP]
       refine tkA 23 (v:=?_) rfl (Or.inl ⟨by rfl,?_⟩) (by assumption) ?_
       rotate_left
       ·intro w9 hSw;(try dsimp only at hSw);go_simp;try (with_reducible rfl)
       simp only[sP]
       refine tkA 24 (v:=?_) rfl (Or.inl ⟨by rfl,?_⟩) (by assumption) ?_
       rotate_left
       ·intro w9 hSw;(try dsimp only at hSw);go_simp;try (with_reducible rfl)
       simp only[sP]
       refine wpAnyH_done (by kernel_rfl) ?_ _
       have BF:Hid (Below w.heap.size w _):=hTw2.2.b
       go_wp2_with fail
       go_roundw
       case rel=>exact⟨j+1,by omega,by go_num,congrArg Value.string (by rw[HD.out];exact line_end 2 HX0.out HX1.out),BF.out⟩
       case measure=>simp[intOf];omega
      ·exact AllReadyH.nil
     refine AllReadyH.cons (o:=_) rfl (fun K hK=>?_) ?_
     ·go_simp
      refine(dec_x (n:=tp) HO2.out.2.2.1 HO2.out.2.2.2 Xw1.out).mono ?_
      rintro e w2 ⟨rfl,hx⟩
      have Xw2:Hid (Rx w w2 rb 2 lo tp):=hx
      clear hx
      go_wp2_with fail
      refine hK.out _ _ ?_ (fun hHw2=>?_)
      ·exact Rx.all Xw2.out
      clear hK K
      try simp only[sP]
      refine wpAnyH_ready (rs:=[7]) (by kernel_rfl) (by simp) ?_
      refine AllReadyH.cons (o:=_) rfl (fun K hK=>?_) ?_
      ·go_simp
       refine hK.out _ _ ?_ (fun hH=>?_)
       ·exact Rx.all (Xw2.out.below ((Below.refl _ _).alloc (Nat.le_refl _) _))
       clear hK K hH
       try simp only[sP]
       have hT:(w2.alloc (.cells #[.string ⟨#[97,110,121]⟩,.string ⟨#[117,100,112]⟩,.string ⟨#[116,99,112]⟩] 9)).cell? ⟨w2.heap.size,2,none⟩=some (.string ⟨#[116,99,112]⟩)/\Rx w (w2.alloc (.cells #[.string ⟨#[97,110,121]⟩,.string ⟨#[117,100,112]⟩,.string ⟨#[116,99,112]⟩] 9)) rb 2 lo tp:=⟨by simp[go_sem],Xw2.out.below ((Below.refl _ _).alloc (Nat.le_refl _) _)⟩
       refine wpAnyH_strong (S':=(fun w':World=>w'.cell? ⟨w2.heap.size,2,none⟩=some (.string ⟨#[116,99,112]⟩)/\Rx w w' rb 2 lo tp)) (fun _ h=>Rx.all h.2) _ _ _ _ ?_
       refine tkA 10 (v:=?_) rfl (Or.inl ⟨by rfl,?_⟩) (by assumption) ?_
       rotate_left
       ·intro w9 hSw;(try dsimp only at hSw);go_simp;try (with_reducible rfl)
       simp only[sP]
       refine tkA 11 (v:=?_) rfl (Or.inl ⟨by rfl,?_⟩) (by assumption) ?_
       rotate_left
       ·intro w9 hSw;(try dsimp only at hSw);go_simp;try (with_reducible rfl)
       simp only[sP]
       refine tkA 12 (v:=?_) rfl (Or.inl ⟨by rfl,?_⟩) (by assumption) ?_
       rotate_left
       ·intro w9 hSw;(try dsimp only at hSw);go_simp;try (with_reducible rfl)
       simp only[sP]
       refine tkA 13 (v:=?_) rfl (Or.inl ⟨by rfl,?_⟩) (by assumption) ?_
       rotate_left
       ·intro w9 hSw;(try dsimp only at hSw);go_simp;try (with_reducible rfl)
       simp only[sP]
       refine tkA 17 (v:=?_) rfl (Or.inl ⟨by rfl,?_⟩) (by assumption) ?_
       rotate_left
       ·intro w9 hSw;(try dsimp only at hSw);go_simp;try (with_reducible rfl)
       simp only[sP]
       refine tkA 18 (v:=?_) rfl (Or.inl ⟨by rfl,?_⟩) (by assumption) ?_
       rotate_left
       ·intro w9 hSw;(try dsimp only at hSw);go_simp;try (with_reducible rfl)
       simp only[sP]
       refine tkA 22 (v:=?_) rfl (Or.inl ⟨by rfl,?_⟩) (by assumption) ?_
       rotate_left
       ·intro w9 hSw;(try dsimp only at hSw);go_simp;try (with_reducible rfl)
       simp only[sP]
       refine tkA 23 (v:=?_) rfl (Or.inl ⟨by rfl,?_⟩) (by assumption) ?_
       rotate_left
       ·intro w9 hSw;(try dsimp only at hSw);go_simp;try (with_reducible rfl)
       simp only[sP]
       refine tkA 24 (v:=?_) rfl (Or.inl ⟨by rfl,?_⟩) (by assumption) ?_
       rotate_left
       ·intro w9 hSw;(try dsimp only at hSw);go_simp;try (with_reducible rfl)
       simp only[sP]
       refine wpAnyH_done (by kernel_rfl) ?_ _
       have BF:Hid (Below w.heap.size w _):=hT.2.b
       go_wp2_with fail
       go_roundw
       case rel=>exact⟨j+1,by omega,by go_num,congrArg Value.string (by rw[HD.out];exact line_end 2 HX0.out HX1.out),BF.out⟩
       case measure=>simp[intOf];omega
      ·exact AllReadyH.nil
     ·exact AllReadyH.nil
    ·exact AllReadyH.nil
  ·obtain rfl:j=l.length:=by omega
   rw[List.take_length]
   go_wp2_with fail
   go_ret
   exact⟨rfl,HB.out⟩
end
end Go.Proofs.YtgoalkeljpdmgaaGreatDoor
