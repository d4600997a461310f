/-
  What the claimed theorem reaches, part Q09.
-/
import Derived.Test.YtabndgfdbdjdgaaGreatDoorQ00
import Derived.Test.YtabndgfdbdjdgaaGreatDoorProg
import Derived.WalkKit
import Derived.Below
import Derived.Deep.QuietTactic
import Derived.BigQuiet
import Derived.RegionTactic
import Derived.Deep.RegionWith
import Derived.LoopTactic
import Derived.Test.YtabndgfdbdjdgaaGreatDoorQ04
import Derived.Test.YtabndgfdbdjdgaaGreatDoorQ06
import Derived.Test.YtabndgfdbdjdgaaGreatDoorQ07
import Derived.Test.YtabndgfdbdjdgaaGreatDoorQ08
namespace Go.Proofs.YtabndgfdbdjdgaaGreatDoor
open Go.RowKit
set_option maxRecDepth 100000
set_option maxHeartbeats 8000000
structure Rl where
 al:Bool
 ou:Bool
 pr:Int
 lo:Int
 tp:Int
instance:Inhabited Rl:=⟨⟨false,false,0,0,0⟩⟩
def Rl.ok (r:Rl):Prop:=(r.pr=0\/r.pr=1\/r.pr=2)/\1<=r.lo/\r.lo<=r.tp/\r.tp<=65535
instance (r:Rl):Decidable r.ok:=by unfold Rl.ok;infer_instance
def Rl.has (r:Rl) (pr:Int) (ou:Bool) (p:Int):Bool:=(r.ou==ou) && ((r.pr==0 || r.pr==pr) && (decide (r.lo<=p) && decide (p<=r.tp)))
def adm:List Rl->Int->Bool->Int->Bool
 | [],_,_,_=>false
 | r::l,pr,ou,p=>if r.has pr ou p=true then r.al else adm l pr ou p
def edgesL (l:List Rl):List Int:=l.flatMap fun r=>[r.lo,r.tp+1]
def sameAt (a b:List Rl) (ou:Bool) (pr:Int):Bool:=(edgesL a++edgesL b).all fun p=>adm a pr ou p==adm b pr ou p
def sameL (a b:List Rl):Bool:=sameAt a b true 1 && sameAt a b true 2 && sameAt a b false 1 && sameAt a b false 2
theorem has_iff {r:Rl} {pr:Int} {ou:Bool} {p:Int}:r.has pr ou p=true↔r.ou=ou/\(r.pr=0\/r.pr=pr)/\r.lo<=p/\p<=r.tp:=by
 unfold Rl.has
 simp
def refPorts (l:List Rl):List Int:=[1,65535]++l.flatMap fun r=>[r.lo - 1,r.lo,r.tp,r.tp+1]
def refAt (a b:List Rl) (p:Int):Bool:=(adm a 1 false p==adm b 1 false p) && ((adm a 2 false p==adm b 2 false p) && ((adm a 1 true p==adm b 1 true p) && (adm a 2 true p==adm b 2 true p)))
def refSame (a b:List Rl):Bool:=(refPorts (a++b)).all fun p=>decide (p < 1) || (decide (65535 < p) || refAt a b p)
theorem Tryz.idx0 (x y:Value) (w:World):(Instr.index 86 (.agg #[x,y]) (.int .i64 0)).run Tryz.prog w=.ok x w:=by kernel_rfl
theorem Tryz.idx1 (x y:Value) (w:World):(Instr.index 86 (.agg #[x,y]) (.int .i64 1)).run Tryz.prog w=.ok y w:=by kernel_rfl
theorem ends_any (b o:Nat) (w:World):Calls Tryz.prog 34 #[.pointer (some (b,o))] w fun e w' =>
  e=.returned (.agg #[.pointer (some (b,o+1)),.pointer (some (b,o+3))])/\Below w w w':=by
 go_enter Tryz.func34,Tryz.ntmps34
 go_wp2
 go_region
 all_goals go_wp2
 all_goals exact bodyPost_ret (v:=.agg #[.pointer (some (b,o+1)),.pointer (some (b,o+3))]) (by simp[results,Tryz.results34,go_sem]) rfl ⟨rfl,by repeat (first | exact Below.refl _ _ | refine Below.drew ?_ | refine Below.alloc ?_ (Nat.le_refl _) _)⟩
def Rul (w:World) (p:Option Addr) (l:List Rl):Prop:=∀(i:Nat) r,l[i]? = some r->∃b o,p=some ⟨b,o,none⟩/\w.cell? ⟨b,o+i * 5,none⟩=some (.bool r.al) /\
  w.cell? ⟨b,o+i * 5+1,none⟩=some (.bool r.ou)/\w.cell? ⟨b,o+i * 5+2,none⟩=r.pr/\w.cell? ⟨b,o+i * 5+3,none⟩=r.lo/\w.cell? ⟨b,o+i * 5+4,none⟩=r.tp
theorem admitter_any (p:Option Addr) (n cap:Nat) (pr:Int) (ou:Bool) (w:World):Calls Tryz.prog 243 #[.slice p n cap,pr,.bool ou] w fun e w' =>
    e=.returned (.func (.func 255) #[] #[.pointer (some (w.heap.size,0)),.pointer (some (w.heap.size+2,0)),.pointer (some (w.heap.size+1,0))]) /\
      w'=((w.alloc (.cells #[.slice p n cap] 28)).alloc (.cells #[pr] 3)).alloc (.cells #[.bool ou] 4):=by
  go_enter Tryz.func243,Tryz.ntmps243
  go_wp2
  go_ret
  exact⟨rfl,rfl⟩
theorem Rul.keep {w w':World} {p:Option Addr} {l:List Rl} (R:Rul w p l) (h:∀a v,w.cell? a=some v->w'.cell? a=some v):Rul w' p l:=fun i r hr=>by
  obtain⟨b,o,e,h0,h1,h2,h3,h4⟩:=R i r hr
  exact⟨b,o,e,h _ _ h0,h _ _ h1,h _ _ h2,h _ _ h3,h _ _ h4⟩
theorem cell_lt {w:World} {a:Addr} {v:Value} (hc:w.cell? a=some v):a.block < w.heap.size:=by
  rcases Nat.lt_or_ge a.block w with h | h
  · exact h
  · simp[World.cell?,Array.getElem?_eq_none h]at hc
theorem Below.keeps {w w':World} (h:Below w w w') {a:Addr} {v:Value} (hc:w.cell? a=some v):w'.cell? a=some v:=by
  rw[h.cell (p:=a) (cell_lt hc)];exact hc
theorem adm_drop {l:List Rl} {j:Nat} {r:Rl} (h:l[j]? = some r) (pr:Int) (ou:Bool) (p:Int):adm (l.drop j) pr ou p=if r.has pr ou p=true then r.al else adm (l.drop (j+1)) pr ou p:=by
  obtain⟨hj,e⟩:=List.getElem?_eq_some_iff.1 h
  rw[List.drop_eq_getElem_cons hj,e]
  rfl
theorem admit_any (p:Option Addr) (l:List Rl) (cap:Nat) (pr port:Int) (ou:Bool) (a b c:Nat) (w:World) (R:Rul w p l) (hl:l.length<=1000)
    (c0:w.cell? (a,0)=some (.slice p l.length cap)) (c1:w.cell? (b,0)=some (.bool ou)) (c2:w.cell? (c,0)=pr) :
    Calls Tryz.prog 255 #[port,.pointer (some (a,0)),.pointer (some (b,0)),.pointer (some (c,0))] w fun e w'=>e=.returned (.bool (adm l pr ou port))/\Below w w w':=by
  have HR:Hid (Rul w p l):=R
  have H1:Hid (w.cell? (b,0)=some (.bool ou)):=c1
  have H2:Hid (w.cell? (c,0)=pr):=c2
  clear R c1 c2
  go_enter Tryz.func255,Tryz.ntmps255
  go_wp2_with fail
  clear c0
  go_loopw [10] (fun t wr=>∃j:Nat,j<=l.length/\t=.int .i64 j/\adm (l.drop j) pr ou port=adm l pr ou port/\Below w w wr) (fun t _=>l.length - (intOf t).toNat)
  case atStart=>exact⟨0,Nat.zero_le _,rfl,rfl,Below.refl _ _⟩
  case round =>
    obtain⟨j,hj,rfl,had,hb⟩:=hrel
    have HA:Hid (adm (l.drop j) pr ou port=adm l pr ou port):=had
    have HB:Hid (Below w w wr):=hb
    clear had hb
    by_cases hlt:j < l.length
    · have hr:l[j]? = some l[j]:=List.getElem?_eq_getElem hlt
      generalize l[j]=r at hr
      obtain⟨x,o,rfl,g0,g1,g2,g3,g4⟩:=HR.out j r hr
      have k0:=Below.keeps HB g0
      have k1:=Below.keeps HB g1
      have k2:=Below.keeps HB g2
      have k3:=Below.keeps HB g3
      have k4:=Below.keeps HB g4
      have k5:=Below.keeps HB H1
      have k6:=Below.keeps HB H2
      have HD:Hid (adm l pr ou port=if r.has pr ou port=true then r.al else adm (l.drop (j+1)) pr ou port):=by rw[<- HA.out];exact adm_drop hr _ _ _
      have q5:b < wr.heap.size:=cell_lt k5
      have q6:c < wr.heap.size:=cell_lt k6
      clear g0 g1 g2 g3 g4 hr
      obtain⟨al,ro,rp,lo,tp⟩:=r
      simp only at k0 k1 k2 k3 k4
      go_wp2_with fail
      all_goals first
        | (go_ret
           refine⟨?_,HB.alloc HB.size _⟩
           rw[HD.out,if_pos (has_iff.2 ⟨by first | assumption | rfl,by simp only;omega,by simp only;omega,by simp only;omega⟩)]
           rfl)
        | (refine⟨⟨j+1,by omega,by go_num,?_,HB.alloc HB.size _⟩,by simp[intOf];omega⟩
           rw[HD.out,if_neg]
           rw[has_iff]
           rintro⟨a1,a2,a3,a4⟩
           simp only at a1 a2 a3 a4
           first | omega | exact absurd a1 (by assumption))
    · obtain rfl:j=l.length:=by omega
      have hf:Hid (adm l pr ou port=false):=by show _=_;rw[<- HA.out,List.drop_length];rfl
      go_wp2_with fail
      go_ret
      refine⟨?_,HB⟩
      rw[hf.out]
      rfl
structure Sen (w:World) (s:Nat->Addr):Prop where
 c1:w.cell? (0,0)=some (.iface 312 (.pointer (some (s 1))))
 c2:w.cell? (2,0)=some (.iface 312 (.pointer (some (s 2))))
theorem Sen.below {w w':World} {s:Nat->Addr} (S:Sen w s) (hb:Below w w w'):Sen w' s:=⟨Below.keeps hb S.c1,Below.keeps hb S.c2⟩
def errV (s:Nat->Addr):Nat->Value
 | 0=>.nilIface
 | k+1=>.iface 312 (.pointer (some (s k)))
theorem box6 {w w1:World} {v0 v1 v2 v3 v4 v5:Value} {t:TypeId} (hb:Below (w.alloc (.cells #[v0,v1,v2,v3,v4,v5] t)).heap.size (w.alloc (.cells #[v0,v1,v2,v3,v4,v5] t)) w1) :
  w1.cell? (w.heap.size,0)=some v0/\w1.cell? (w.heap.size,1)=some v1/\w1.cell? (w.heap.size,2)=some v2/\w1.cell? (w.heap.size,3)=some v3/\w1.cell? (w.heap.size,4)=some v4/\w1.cell? (w.heap.size,5)=some v5 :=
 ⟨Below.keeps hb (by simp),Below.keeps hb (by simp),Below.keeps hb (by simp),Below.keeps hb (by simp),Below.keeps hb (by simp),Below.keeps hb (by simp)⟩
abbrev pkt (pr a1 p1 a2 p2 fl:Int):Value:=.agg #[pr,a1,p1,a2,p2,fl]
def badEnd (a p:Int):Prop:=a < 0\/1048576 < a\/p < 1\/65535 < p
def okEnd (a p:Int):Prop:=0<=a/\a<=1048576/\1<=p/\p<=65535
theorem check_proto (pr a1 p1 a2 p2 fl:Int) (s:Nat->Addr) (w:World) (S:Sen w s) (h1:(pr != 1)=true) (h2:(pr != 2)=true) :
  Calls Tryz.prog 37 #[pkt pr a1 p1 a2 p2 fl] w fun e w'=>e=.returned (errV s 2)/\Below w w w':=by
 have d1:=(S.below ((Below.refl _ _).alloc (Nat.le_refl _) (.cells #[pr,a1,p1,a2,p2,fl] 41))).c1
 have hS:Hid (Sen w s):=S
 clear S
 go_enter Tryz.func37,Tryz.ntmps37
 go_wp2_with fail
 go_ret
 exact⟨rfl,(Below.refl _ _).alloc (Nat.le_refl _) _⟩
theorem check_src (pr a1 p1 a2 p2 fl:Int) (s:Nat->Addr) (w:World) (S:Sen w s) (h1:pr=1\/pr=2) (h2:badEnd a1 p1) :
  Calls Tryz.prog 37 #[pkt pr a1 p1 a2 p2 fl] w fun e w'=>e=.returned (errV s 2)/\Below w w w':=by
 have hS:Hid (Sen w s):=S
 clear S
 have H2:Hid (badEnd a1 p1):=h2
 clear h2
 rcases h1 with rfl | rfl
 all_goals
  go_enter Tryz.func37,Tryz.ntmps37
  go_wp2_with fail
  refine(ends_any _ _ _).mono ?_
  rintro e w1 ⟨rfl,hb⟩
  obtain⟨c0,c1,c2,c3,c4,c5⟩:=box6 hb
  have HB:Hid (Below w w w1):=((Below.refl _ _).alloc (Nat.le_refl _) _).trans (hb.mono (by simp))
  have d1:=(hS.out.below HB).c1
  have d2:=(hS.out.below HB).c2
  clear hb
  have i0 := Tryz.idx0
  have i1 := Tryz.idx1
  go_wp2_with fail
  refine wp_loop_rounds 3 ?_
  rw[rounds_succ]
  rcases H2.out with h | h | h | h
  all_goals
   go_wp2_with fail
   all_goals (go_ret;exact⟨rfl,HB⟩)
theorem check_dst (pr a1 p1 a2 p2 fl:Int) (s:Nat->Addr) (w:World) (S:Sen w s) (h1:pr=1\/pr=2) (h2:okEnd a1 p1) (h3:badEnd a2 p2) :
  Calls Tryz.prog 37 #[pkt pr a1 p1 a2 p2 fl] w fun e w'=>e=.returned (errV s 2)/\Below w w w':=by
 have hS:Hid (Sen w s):=S
 clear S
 have H3:Hid (badEnd a2 p2):=h3
 clear h3
 obtain⟨g1,g2,g3,g4⟩:=h2
 rcases h1 with rfl | rfl
 all_goals
  go_enter Tryz.func37,Tryz.ntmps37
  go_wp2_with fail
  refine(ends_any _ _ _).mono ?_
  rintro e w1 ⟨rfl,hb⟩
  obtain⟨c0,c1,c2,c3,c4,c5⟩:=box6 hb
  have HB:Hid (Below w w w1):=((Below.refl _ _).alloc (Nat.le_refl _) _).trans (hb.mono (by simp))
  have d1:=(hS.out.below HB).c1
  have d2:=(hS.out.below HB).c2
  clear hb
  have i0 := Tryz.idx0
  have i1 := Tryz.idx1
  go_wp2_with fail
  refine wp_loop_rounds 3 ?_
  rw[rounds_succ]
  go_wp2_with fail
  rw[rounds_succ]
  rcases H3.out with h | h | h | h
  all_goals
   go_wp2_with fail
   all_goals (go_ret;exact⟨rfl,HB⟩)
theorem check_flags (pr a1 p1 a2 p2 fl:Int) (s:Nat->Addr) (w:World) (S:Sen w s) (h1:pr=1\/pr=2) (h2:okEnd a1 p1) (h3:okEnd a2 p2) (h4:fl < 0\/15 < fl) :
  Calls Tryz.prog 37 #[pkt pr a1 p1 a2 p2 fl] w fun e w'=>e=.returned (errV s 2)/\Below w w w':=by
 have hS:Hid (Sen w s):=S
 clear S
 have H4:Hid (fl < 0\/15 < fl):=h4
 clear h4
 obtain⟨g1,g2,g3,g4⟩:=h2
 obtain⟨g5,g6,g7,g8⟩:=h3
 rcases h1 with rfl | rfl
 all_goals
  go_enter Tryz.func37,Tryz.ntmps37
  go_wp2_with fail
  refine(ends_any _ _ _).mono ?_
  rintro e w1 ⟨rfl,hb⟩
  obtain⟨c0,c1,c2,c3,c4,c5⟩:=box6 hb
  have HB:Hid (Below w w w1):=((Below.refl _ _).alloc (Nat.le_refl _) _).trans (hb.mono (by simp))
  have d1:=(hS.out.below HB).c1
  have d2:=(hS.out.below HB).c2
  clear hb
  have i0 := Tryz.idx0
  have i1 := Tryz.idx1
  go_wp2_with fail
  refine wp_loop_rounds 3 ?_
  rw[rounds_succ]
  go_wp2_with fail
  rw[rounds_succ]
  go_wp2_with fail
  rw[rounds_succ]
  rcases H4.out with h | h
  all_goals
   go_wp2_with fail
   all_goals (go_ret;exact⟨rfl,HB⟩)
theorem check_shape (pr a1 p1 a2 p2 fl:Int) (s:Nat->Addr) (w:World) (S:Sen w s) (h1:pr=1) (h2:okEnd a1 p1) (h3:okEnd a2 p2) (h4:0 < fl) (h5:fl<=15) :
  Calls Tryz.prog 37 #[pkt pr a1 p1 a2 p2 fl] w fun e w'=>e=.returned (errV s 3)/\Below w w w':=by
 have hS:Hid (Sen w s):=S
 clear S
 subst h1
 obtain⟨g1,g2,g3,g4⟩:=h2
 obtain⟨g5,g6,g7,g8⟩:=h3
 have hz:(fl != 0)=true:=by rw[bne_iff_ne];omega
 all_goals
  go_enter Tryz.func37,Tryz.ntmps37
  go_wp2_with fail
  refine(ends_any _ _ _).mono ?_
  rintro e w1 ⟨rfl,hb⟩
  obtain⟨c0,c1,c2,c3,c4,c5⟩:=box6 hb
  have HB:Hid (Below w w w1):=((Below.refl _ _).alloc (Nat.le_refl _) _).trans (hb.mono (by simp))
  have d1:=(hS.out.below HB).c1
  have d2:=(hS.out.below HB).c2
  clear hb
  have i0 := Tryz.idx0
  have i1 := Tryz.idx1
  go_wp2_with fail
  refine wp_loop_rounds 3 ?_
  rw[rounds_succ]
  go_wp2_with fail
  rw[rounds_succ]
  go_wp2_with fail
  rw[rounds_succ]
  go_wp2_with fail
  go_ret
  exact⟨rfl,HB⟩
theorem check_ok (pr a1 p1 a2 p2 fl:Int) (s:Nat->Addr) (w:World) (S:Sen w s) (h1:(pr=1/\fl=0)\/pr=2) (h2:okEnd a1 p1) (h3:okEnd a2 p2) (h4:0<=fl) (h5:fl<=15) :
  Calls Tryz.prog 37 #[pkt pr a1 p1 a2 p2 fl] w fun e w'=>e=.returned (errV s 0)/\Below w w w':=by
 have hS:Hid (Sen w s):=S
 clear S
 obtain⟨g1,g2,g3,g4⟩:=h2
 obtain⟨g5,g6,g7,g8⟩:=h3
 rcases h1 with⟨rfl,rfl⟩ | rfl
 all_goals
  go_enter Tryz.func37,Tryz.ntmps37
  go_wp2_with fail
  refine(ends_any _ _ _).mono ?_
  rintro e w1 ⟨rfl,hb⟩
  obtain⟨c0,c1,c2,c3,c4,c5⟩:=box6 hb
  have HB:Hid (Below w w w1):=((Below.refl _ _).alloc (Nat.le_refl _) _).trans (hb.mono (by simp))
  have d1:=(hS.out.below HB).c1
  have d2:=(hS.out.below HB).c2
  clear hb
  have i0 := Tryz.idx0
  have i1 := Tryz.idx1
  go_wp2_with fail
  refine wp_loop_rounds 3 ?_
  rw[rounds_succ]
  go_wp2_with fail
  rw[rounds_succ]
  go_wp2_with fail
  rw[rounds_succ]
  go_wp2_with fail
  go_ret
  exact⟨rfl,HB⟩
def endB (a p:Int):Bool:=decide (0<=a) && decide (a<=1048576) && decide (1<=p) && decide (p<=65535)
theorem endB_ok {a p:Int}:endB a p=true↔okEnd a p:=by unfold endB okEnd;simp;omega
theorem endB_bad {a p:Int}:endB a p=false↔badEnd a p:=by
 rw[<- Bool.not_eq_true,endB_ok];unfold okEnd badEnd;omega
def pkErr (pr a1 p1 a2 p2 fl:Int):Nat :=
 if (pr=1\/pr=2)/\endB a1 p1=true/\endB a2 p2=true/\0<=fl/\fl<=15 then (if pr=1/\0 < fl then 3 else 0) else 2
theorem check_any (pr a1 p1 a2 p2 fl:Int) (s:Nat->Addr) (w:World) (S:Sen w s) :
  Calls Tryz.prog 37 #[pkt pr a1 p1 a2 p2 fl] w fun e w'=>e=.returned (errV s (pkErr pr a1 p1 a2 p2 fl))/\Below w w w':=by
 by_cases h0:pr=1\/pr=2
 ·cases h1:endB a1 p1
  ·have e:pkErr pr a1 p1 a2 p2 fl=2:=by unfold pkErr;simp[h1]
   rw[e];exact check_src pr a1 p1 a2 p2 fl s w S h0 (endB_bad.1 h1)
  ·cases h2:endB a2 p2
   ·have e:pkErr pr a1 p1 a2 p2 fl=2:=by unfold pkErr;simp[h2]
    rw[e];exact check_dst pr a1 p1 a2 p2 fl s w S h0 (endB_ok.1 h1) (endB_bad.1 h2)
   ·by_cases h3:fl < 0\/15 < fl
    ·have e:pkErr pr a1 p1 a2 p2 fl=2:=by unfold pkErr;rw[if_neg (by omega)]
     rw[e];exact check_flags pr a1 p1 a2 p2 fl s w S h0 (endB_ok.1 h1) (endB_ok.1 h2) h3
    ·by_cases h4:pr=1/\0 < fl
     ·have e:pkErr pr a1 p1 a2 p2 fl=3:=by unfold pkErr;rw[if_pos ⟨h0,h1,h2,by omega,by omega⟩,if_pos h4]
      rw[e];exact check_shape pr a1 p1 a2 p2 fl s w S h4.1 (endB_ok.1 h1) (endB_ok.1 h2) h4.2 (by omega)
     ·have e:pkErr pr a1 p1 a2 p2 fl=0:=by unfold pkErr;rw[if_pos ⟨h0,h1,h2,by omega,by omega⟩,if_neg h4]
      rw[e];exact check_ok pr a1 p1 a2 p2 fl s w S (by omega) (endB_ok.1 h1) (endB_ok.1 h2) (by omega) (by omega)
 ·have e:pkErr pr a1 p1 a2 p2 fl=2:=by unfold pkErr;rw[if_neg (fun h=>h0 h.1)]
  rw[e];exact check_proto pr a1 p1 a2 p2 fl s w S (by rw[bne_iff_ne];omega) (by rw[bne_iff_ne];omega)
structure PkOk (pr a1 p1 a2 p2 fl:Int):Prop where
 proto:(pr=1/\fl=0)\/pr=2
 src:okEnd a1 p1
 dst:okEnd a2 p2
 lo:0<=fl
 hi:fl<=15
theorem pkErr_zero {pr a1 p1 a2 p2 fl:Int}:pkErr pr a1 p1 a2 p2 fl=0↔PkOk pr a1 p1 a2 p2 fl:=by
 constructor
 ·intro h
  unfold pkErr at h
  split at h
  ·rename_i h'
   split at h
   ·cases h
   ·exact⟨by omega,endB_ok.1 h'.2.1,endB_ok.1 h'.2.2.1,h'.2.2.2.1,h'.2.2.2.2⟩
  ·cases h
 ·intro ⟨h1,h2,h3,h4,h5⟩
  unfold pkErr
  rw[if_pos ⟨by omega,endB_ok.2 h2,endB_ok.2 h3,h4,h5⟩,if_neg (by omega)]
theorem isRule_any (al ou:Bool) (pr lo tp:Int) (w:World) (b:Bool) (hb:decide (Rl.ok ⟨al,ou,pr,lo,tp⟩)=b) :
  Calls Tryz.prog 45 #[.agg #[.bool al,.bool ou,pr,lo,tp]] w fun e w'=>e=.returned (.bool b)/\Below w w w':=by
 have HB:Hid (decide (Rl.ok ⟨al,ou,pr,lo,tp⟩)=b):=hb
 clear hb
 by_cases h0:pr=0\/pr=1\/pr=2
 ·by_cases h1:1<=lo
  ·by_cases h2:lo<=tp
   ·rcases h3:decide (tp<=65535) with _ | _
    ·have e:b=false:=by rw[<- HB.out];rw[decide_eq_false_iff_not]at h3 ⊢;unfold Rl.ok;simp only;omega
     subst e
     clear HB
     rcases h0 with rfl | rfl | rfl
     all_goals
      go_enter Tryz.func45,Tryz.ntmps45
      go_wp2_with fail
      go_ret
      exact⟨rfl,(Below.refl _ _).alloc (Nat.le_refl _) _⟩
    ·have e:b=true:=by rw[<- HB.out];rw[decide_eq_true_iff]at h3 ⊢;unfold Rl.ok;simp only;omega
     subst e
     clear HB
     rcases h0 with rfl | rfl | rfl
     all_goals
      go_enter Tryz.func45,Tryz.ntmps45
      go_wp2_with fail
      go_ret
      exact⟨rfl,(Below.refl _ _).alloc (Nat.le_refl _) _⟩
   ·have e:b=false:=by rw[<- HB.out];rw[decide_eq_false_iff_not];unfold Rl.ok;simp only;omega
    subst e
    clear HB
    rcases h0 with rfl | rfl | rfl
    all_goals
     go_enter Tryz.func45,Tryz.ntmps45
     go_wp2_with fail
     go_ret
     exact⟨rfl,(Below.refl _ _).alloc (Nat.le_refl _) _⟩
  ·have e:b=false:=by rw[<- HB.out];rw[decide_eq_false_iff_not];unfold Rl.ok;simp only;omega
   subst e
   clear HB
   rcases h0 with rfl | rfl | rfl
   all_goals
    go_enter Tryz.func45,Tryz.ntmps45
    go_wp2_with fail
    go_ret
    exact⟨rfl,(Below.refl _ _).alloc (Nat.le_refl _) _⟩
 ·have e:b=false:=by rw[<- HB.out];rw[decide_eq_false_iff_not];unfold Rl.ok;simp only;omega
  subst e
  clear HB
  have g0:(pr==0)=false:=beq_eq_false_iff_ne.2 (by omega)
  have g1:(pr==1)=false:=beq_eq_false_iff_ne.2 (by omega)
  have g2:(pr==2)=false:=beq_eq_false_iff_ne.2 (by omega)
  clear h0
  go_enter Tryz.func45,Tryz.ntmps45
  go_wp2_with fail
  go_ret
  exact⟨rfl,(Below.refl _ _).alloc (Nat.le_refl _) _⟩
def chkAt:List Rl->Nat->Option Nat
 | [],_=>none
 | r::l,k=>if r.ok then chkAt l (k+1) else some k
theorem chkAt_drop {l:List Rl} {j:Nat} {r:Rl} (h:l[j]? = some r):chkAt (l.drop j) j=if r.ok then chkAt (l.drop (j+1)) (j+1) else some j:=by
 obtain⟨hj,e⟩:=List.getElem?_eq_some_iff.1 h
 rw[List.drop_eq_getElem_cons hj,e]
 rfl
theorem chkAt_none:∀{l:List Rl} {k:Nat},chkAt l k=none↔∀r ∈ l,r.ok
 | [],k=>by simp[chkAt]
 | r::l,k=>by
  unfold chkAt
  by_cases h:r.ok
  ·rw[if_pos h,chkAt_none];simp[h]
  ·rw[if_neg h];simp[h]
def ChkV (s:Nat->Addr) (w:World) (l:List Rl) (v:Value):Prop :=
 (20 < l.length/\v=errV s 2)\/(l.length<=20/\chkAt l 0=none/\v=.nilIface) \/
  (l.length<=20/\∃i g:Nat,chkAt l 0=some i/\v=.iface 67 (.pointer (some (g,0)))/\w.cell? (g,0)=i/\w.cell? (g,1)=some (.iface 312 (.pointer (some (s 1)))))
theorem pcheck_big (p:Option Addr) (l:List Rl) (cap:Nat) (s:Nat->Addr) (w:World) (S:Sen w s) (R:Rul w p l) (hl:l.length<=4000) :
  Calls Tryz.prog 26 #[.slice p l.length cap] w fun e w'=>(∃v,e=.returned v/\ChkV s w' l v)/\Below w w w':=by
 have HR:Hid (Rul w p l):=R
 have HS:Hid (Sen w s):=S
 clear R S
 by_cases hbig:20 < l.length
 ·have d1:=HS.c1
  go_enter Tryz.func26,Tryz.ntmps26
  go_wp2_with fail
  go_ret
  exact⟨⟨_,rfl,.inl ⟨hbig,rfl⟩⟩,Below.refl _ _⟩
 ·have hsm:l.length<=20:=by omega
  go_enter Tryz.func26,Tryz.ntmps26
  go_wp2_with fail
  go_loopw [11] (fun t wr=>∃j:Nat,j<=l.length/\t=.int .i64 j/\chkAt (l.drop j) j=chkAt l 0/\Below w w wr) (fun t _=>l.length - (intOf t).toNat)
  case atStart=>exact⟨0,Nat.zero_le _,rfl,rfl,Below.refl _ _⟩
  case round =>
   obtain⟨j,hj,rfl,had,hb⟩:=hrel
   have HA:Hid (chkAt (l.drop j) j=chkAt l 0):=had
   have HB:Hid (Below w w wr):=hb
   clear had hb
   by_cases hlt:j < l.length
   ·have hr:l[j]? = some l[j]:=List.getElem?_eq_getElem hlt
    generalize l[j]=r at hr
    obtain⟨x,o,rfl,g0,g1,g2,g3,g4⟩:=HR.out j r hr
    have k0:=Below.keeps HB g0
    have k1:=Below.keeps HB g1
    have k2:=Below.keeps HB g2
    have k3:=Below.keeps HB g3
    have k4:=Below.keeps HB g4
    have HD:Hid (chkAt l 0=if r.ok then chkAt (l.drop (j+1)) (j+1) else some j):=by show _=_;rw[<- HA.out];exact chkAt_drop hr
    clear g0 g1 g2 g3 g4 hr
    obtain⟨al,ro,rp,lo,tp⟩:=r
    simp only at k0 k1 k2 k3 k4
    have B1:Hid (Below w w (wr.alloc (.cells #[.bool al,.bool ro,rp,lo,tp] 55))):=HB.alloc HB.size _
    go_wp2_with fail
    refine(isRule_any al ro rp lo tp _ _ rfl).mono ?_
    rintro e w2 ⟨rfl,hb2⟩
    have B2:Hid (Below w w w2):=B1.trans (hb2.mono (by have:=HB.size;simp;omega))
    have S2:Hid (Sen w2 s):=HS.below B2
    clear hb2
    by_cases hok:Rl.ok ⟨al,ro,rp,lo,tp⟩
    ·rw[decide_eq_true hok]
     have HD:Hid (chkAt l 0=chkAt (l.drop (j+1)) (j+1)):=by have:=HD.out;rw[if_pos hok]at this;exact this
     clear hok
     go_wp2_with fail
     go_roundw
     case rel=>exact⟨j+1,by omega,by go_num,HD.symm,B2⟩
     case measure=>simp[intOf];omega
    ·rw[decide_eq_false hok]
     have HD:Hid (chkAt l 0=some j):=by have:=HD.out;rw[if_neg hok]at this;exact this
     clear hok
     have d1:=S2.c1
     go_wp2_with fail
     go_ret
     refine⟨⟨_,rfl,.inr (.inr ⟨hsm,j,w2.heap.size,HD,rfl,?_,?_⟩)⟩,B2.alloc B2.size _⟩
     ·simp
     ·simp
   ·obtain rfl:j=l.length:=by omega
    have hf:Hid (chkAt l 0=none):=by show _=_;rw[<- HA.out,List.drop_length];rfl
    go_wp2_with fail
    go_ret
    exact⟨⟨_,rfl,.inr (.inl ⟨hsm,hf.out,rfl⟩)⟩,HB⟩
theorem pcheck_any (p:Option Addr) (l:List Rl) (cap:Nat) (s:Nat->Addr) (w:World) (S:Sen w s) (R:Rul w p l) (hl:l.length<=1000) :
  Calls Tryz.prog 26 #[.slice p l.length cap] w fun e w'=>(∃v,e=.returned v/\ChkV s w' l v)/\Below w w w' :=
 pcheck_big p l cap s w S R (by omega)
section
variable {w w':World}
theorem Rul.below {p:Option Addr} {l:List Rl} (R:Rul w p l) (hb:Below w w w'):Rul w' p l:=R.keep fun _ _ h=>Below.keeps hb h
theorem below2 {w1 w2:World} (h1:Below w w w1) (h2:Below w1 w1 w2):Below w w w2:=h1.trans (h2.mono h1.size)
structure AdmF (w:World) (B:Nat) (p:Option Addr) (n cap:Nat) (pr:Int) (ou:Bool):Prop where
 c0:w.cell? (B,0)=some (.slice p n cap)
 c1:w.cell? (B+1,0)=pr
 c2:w.cell? (B+2,0)=some (.bool ou)
theorem AdmF.below {B:Nat} {p:Option Addr} {n cap:Nat} {pr:Int} {ou:Bool} (h:AdmF w B p n cap pr ou) (hb:Below w w w'):AdmF w' B p n cap pr ou :=
 ⟨Below.keeps hb h.c0,Below.keeps hb h.c1,Below.keeps hb h.c2⟩
abbrev admFn (B:Nat):Value:=.func (.func 255) #[] #[.pointer (some (B,0)),.pointer (some (B+2,0)),.pointer (some (B+1,0))]
theorem admitter_at (B:Nat) (p:Option Addr) (n cap:Nat) (pr:Int) (ou:Bool) (w:World) (hB:w.heap.size=B):Calls Tryz.prog 243 #[.slice p n cap,pr,.bool ou] w fun e w' =>
  e=.returned (admFn B)/\AdmF w' B p n cap pr ou/\Below w w w':=by
 subst hB
 refine(admitter_any p n cap pr ou w).mono ?_
 rintro e w' ⟨rfl,rfl⟩
 exact⟨rfl,⟨by simp[go_sem],by simp[go_sem],by simp[go_sem]⟩,(((Below.refl _ _).alloc (Nat.le_refl _) _).alloc (by simp) _).alloc (by simp;omega) _⟩
theorem admit_at (B:Nat) (p:Option Addr) (l:List Rl) (cap:Nat) (pr port:Int) (ou:Bool) (w:World) (F:AdmF w B p l.length cap pr ou) (R:Rul w p l) (hl:l.length<=1000) :
  Calls Tryz.prog 255 #[port,.pointer (some (B,0)),.pointer (some (B+2,0)),.pointer (some (B+1,0))] w fun e w'=>e=.returned (.bool (adm l pr ou port))/\Below w w w' :=
 admit_any p l cap pr port ou _ _ _ w R hl F.c0 F.c2 F.c1
theorem Below.drewl {B:Nat} (h:Below B w.drew w'):Below B w w':=⟨h.os,h.tape,h.output,h.size,h.block⟩
theorem errVpos (s:Nat->Addr) (k:Nat):errV s (k+1)=.iface 312 (.pointer (some (s k))):=rfl
def RulesOk (l:List Rl):Prop:=l.length<=20/\chkAt l 0=none
def AdmV (s:Nat->Addr) (w:World) (l:List Rl) (pr a1 p1 a2 p2 fl:Int) (ou:Bool) (v:Value) (b:Bool):Prop :=
 (¬RulesOk l/\ChkV s w l v/\b=false)\/(RulesOk l/\(∃k,pkErr pr a1 p1 a2 p2 fl=k+1/\v=errV s (k+1))/\b=false)\/(RulesOk l/\pkErr pr a1 p1 a2 p2 fl=0/\v=.nilIface/\b=adm l pr ou p2)
theorem admits_any (p:Option Addr) (l:List Rl) (cap:Nat) (pr a1 p1 a2 p2 fl:Int) (ou:Bool) (s:Nat->Addr) (w:World) (S:Sen w s) (R:Rul w p l) (hl:l.length<=1000) :
  Calls Tryz.prog 220 #[.slice p l.length cap,pkt pr a1 p1 a2 p2 fl,.bool ou] w fun e w'=>(∃v b,e=.returned (.tuple #[.bool b,v])/\AdmV s w' l pr a1 p1 a2 p2 fl ou v b)/\Below w w w':=by
 have HR:Hid (Rul w p l):=R
 have HS:Hid (Sen w s):=S
 clear R S
 have b1:Hid (Below w w (w.alloc (.cells #[pr,a1,p1,a2,p2,fl] 41))):=(Below.refl _ _).alloc (Nat.le_refl _) _
 go_enter Tryz.func220,Tryz.ntmps220
 go_wp2_with fail
 refine(pcheck_any p l cap s _ (HS.below b1.out) (HR.below b1.out) hl).mono ?_
 rintro e w1 ⟨⟨v,rfl,hv⟩,hb1⟩
 obtain⟨c0,c1,c2,c3,c4,c5⟩:=box6 hb1
 have B1:Hid (Below w w w1):=below2 b1.out hb1
 clear hb1
 rcases hv with⟨h1,rfl⟩ | ⟨h1,h2,rfl⟩ | ⟨h1,i,g,h2,rfl,h3,h4⟩
 ·unfold errV
  clear c0 c1 c2 c3 c4 c5
  go_wp2_with fail
  go_ret2
  exact⟨⟨_,_,rfl,.inl ⟨fun h=>by have:=h.1;omega,.inl ⟨h1,rfl⟩,rfl⟩⟩,B1⟩
 ·have HK:Hid (RulesOk l):=⟨h1,h2⟩
  clear h1 h2
  go_wp2_with fail
  refine(check_any pr a1 p1 a2 p2 fl s _ (HS.below B1)).mono ?_
  rintro e w2 ⟨rfl,hb2⟩
  have B2:Hid (Below w w w2):=below2 B1 hb2
  have k0:=Below.keeps hb2 c0
  have k4:=Below.keeps hb2 c4
  clear hb2 c0 c1 c2 c3 c4 c5
  rcases hk:pkErr pr a1 p1 a2 p2 fl with _ | k
  ·have HZ:Hid (pkErr pr a1 p1 a2 p2 fl=0):=hk
   clear hk
   unfold errV
   go_wp2_with fail
   go_region_with (first
    | (go_at_call 243;refine(admitter_at w2 p l.length cap pr ou _ (by rfl)).mono ?_;rintro e w3 ⟨rfl,hF,hb3⟩;have HB3:Hid (Below w w w3):=below2 B2 (Below.drewl hb3);have HF:Hid (AdmF w3 w2 p l.length cap pr ou):=hF;have m4:=Below.keeps (Below.drewl hb3) k4;clear hF hb3)
    | (go_at_call 255;refine(admit_at w2 p l cap pr p2 ou _ HF (HR.below HB3) hl).mono ?_;rintro e w4 ⟨rfl,hb4⟩;have B4:Hid (Below w w w4):=below2 HB3 hb4;clear hb4))
   all_goals go_wp2_with fail
   all_goals go_ret2
   all_goals exact⟨⟨_,_,rfl,.inr (.inr ⟨HK,HZ,rfl,rfl⟩)⟩,B4⟩
  ·have HZ:Hid (pkErr pr a1 p1 a2 p2 fl=k+1):=hk
   clear hk
   rw[errVpos]
   go_wp2_with fail
   go_ret2
   exact⟨⟨_,_,rfl,.inr (.inl ⟨HK,⟨k,HZ,rfl⟩,rfl⟩)⟩,B2⟩
 ·have H:Hid (l.length<=20/\chkAt l 0=some i/\w1.cell? (g,0)=i/\w1.cell? (g,1)=some (.iface 312 (.pointer (some (s 1))))):=⟨h1,h2,h3,h4⟩
  clear h1 h2 h3 h4 c0 c1 c2 c3 c4 c5
  go_wp2_with fail
  go_ret2
  obtain⟨h1,h2,h3,h4⟩:=H.out
  exact⟨⟨_,_,rfl,.inl ⟨fun h=>absurd (h2.symm.trans h.2) (by simp),.inr (.inr ⟨h1,i,g,h2,rfl,h3,h4⟩),rfl⟩⟩,B1⟩
end
section
variable {T:Tb}
def nxJ (T:Tb) (D:To) (c:Nat):Nat:=((List.range 33).find? fun j=>decide (8<=(wk ((newsL T D).take 8) c j).length)).getD 0
def nxL (T:Tb) (D:To) (c:Nat):List Nat:=wk ((newsL T D).take 8) c (nxJ T D c)
def nxC (T:Tb) (D:To) (c:Nat):Nat:=(c+nxJ T D c) % 32
theorem nxJ_full (T:Tb) (D:To) (c:Nat):Full ((newsL T D).take 8) c (nxJ T D c):=by
 obtain⟨j,hj⟩:=full_ex ((newsL T D).take 8) c
 have hle:=hj.le
 have:(List.range 33).find? (fun j=>decide (8<=(wk ((newsL T D).take 8) c j).length))=some j:=by
  rw[List.find?_range_eq_some]
  refine⟨by simpa using hj.2,by simp;omega,fun i hi=>?_⟩
  have:=hj.1 i hi
  simp;omega
 unfold nxJ
 rw[this]
 exact hj
theorem nx_spec (T:Tb) (D:To) (c:Nat):Nx T D c (nxL T D c) (nxC T D c):=⟨nxJ T D c,nxJ_full T D c,rfl,rfl⟩
def In6 (x:Int):Prop := -9223372036854775808<=x/\x<=9223372036854775807
theorem In6.wf {x:Int} (h:In6 x):(Lit.int .i64 x).wf=true:=WalkArith.wf_i64 (by unfold In6 at h;omega)
theorem In6.small {x:Int} (h0 : -1000000<=x) (h1:x<=1000000):In6 x:=by unfold In6;omega
def WfT (T:Tb):Prop:=∀j,j < 32->In6 (T j).pr/\In6 (T j).st
theorem WfT.new:WfT newT:=fun j _=>⟨In6.small (by show(-1000000:Int)<=0;omega) (by show(0:Int)<=1000000;omega),In6.small (by show(-1000000:Int)<=0;omega) (by show(0:Int)<=1000000;omega)⟩
theorem WfT.upd (h:WfT T) (k:Nat) (c:Ce) (h1:In6 c.pr) (h2:In6 c.st):WfT (upd T k c):=fun j hj=>by
 unfold Go.Proofs.YtabndgfdbdjdgaaGreatDoor.upd
 split
 ·exact⟨h1,h2⟩
 ·exact h j hj
theorem in0:In6 0:=In6.small (by omega) (by omega)
theorem WfT.exp (h:WfT T) (now:Int) (n:Nat):WfT (expT T now n):=fun j hj=>by
 unfold expT
 split
 ·exact⟨in0,in0⟩
 ·exact h j hj
theorem WfT.put (h:WfT T) (pr ia ip fa fp po st un:Int) (h1:In6 pr) (h2:In6 st):WfT (putT T pr ia ip fa fp po st un).2.2:=by
 unfold putT
 repeat' split
 all_goals first | exact h | exact h.upd _ _ h1 h2
theorem WfT.add (h:WfT T) (low pr ia ip fa fp st un:Int) (h1:In6 pr) (h2:In6 st):WfT (addT T low pr ia ip fa fp st un).2.2:=by
 unfold addT
 repeat' split
 all_goals first | exact h | exact h.upd _ _ h1 h2
theorem WfT.set (h:WfT T) (k st un:Int) (h2:In6 st):WfT (setT T k st un):=by
 unfold setT
 split
 ·rename_i he
  obtain⟨a,b,_⟩:=slotE_ok he
  exact h.upd _ _ (h k.toNat (by omega)).1 h2
 ·exact h
theorem WfT.drop (h:WfT T) (k:Int):WfT (dropT T k):=by
 unfold dropT
 split
 ·exact h.upd _ _ in0 in0
 ·exact h
theorem stay_le (pr st:Int):0<=stay pr st/\stay pr st<=100:=by
 unfold stay
 split
 ·omega
 ·split
  ·split
   ·omega
   ·split
    ·omega
    ·split <;> omega
  ·omega
structure No where
 ro:Ro
 id:Int
 life:Int
 now:Int
 ru:List Rl
 off:Bool
 y:By
 T:Tb
 D:To
 cu:Nat
 ml:Int
 mt:Tb
def No.low (x:No):Int:=2000+x.id * 24
def adT (now:Int):Tb->List Ce->Tb
 | T,[]=>T
 | T,c::r=>adT now (putT T c.pr c.ia c.ip c.fa c.fp c.po c.st (now+stay c.pr c.st)).2.2 r
theorem adT_snoc (now:Int):∀(l:List Ce) (T:Tb) (c:Ce),adT now T (l++[c])=(putT (adT now T l) c.pr c.ia c.ip c.fa c.fp c.po c.st (now+stay c.pr c.st)).2.2
 | [],_,_=>rfl
 | _::l,_,c=>adT_snoc now l _ c
theorem Vers.ad (now:Int):∀(l:List Ce) {T:Tb} {m:Nat},Vers T m->Vers (adT now T l) (m+l.length)
 | [],_,_,h=>h
 | c::l,_,m,h=>by
  have:=Vers.ad now l (h.put c.pr c.ia c.ip c.fa c.fp c.po c.st (now+stay c.pr c.st))
  rw[List.length_cons,show m+(l.length+1)=m+1+l.length by omega]
  exact this
theorem WfT.ad (now:Int):∀(l:List Ce) {T:Tb},WfT T->(∀c ∈ l,In6 c.pr/\In6 c.st)->WfT (adT now T l)
 | [],_,h,_=>h
 | c::l,_,h,hl=>WfT.ad now l (h.put _ _ _ _ _ _ _ _ (hl c (by simp)).1 (hl c (by simp)).2) (fun d hd=>hl d (by simp[hd]))
theorem flL_mem :∀{n:Nat} {c:Ce},c ∈ flL T n->∃j,j < n/\c=T j
 | 0,_,h=>by simp[flL]at h
 | n+1,c,h=>by
  unfold flL at h
  split at h
  ·obtain⟨j,a,b⟩:=flL_mem h;exact⟨j,by omega,b⟩
  ·rcases List.mem_append.1 h with h | h
   ·obtain⟨j,a,b⟩:=flL_mem h;exact⟨j,by omega,b⟩
   ·exact⟨n,by omega,by simpa using h⟩
def No.ticked (x:No):No:={x with now:=x.now+1,T:=expT x.T (x.now+1) 32,ro:=x.ro.tick}
def No.cp (x:No):Nat×By×Bool:=putE x.off x.y x.ro.nxV x.life
def No.clE (x:No):Nat:=if x.ro.nxE=0 then x.cp.1 else 0
def No.clm (x:No):No :=
 if x.ro.nxE=0 then
  (if x.cp.1=0 then {x with y:=x.cp.2.1,off:=x.cp.2.2,T:=adT x.now x.T (flL x.mt 32),ro:=x.ro.claim x.ro.nxV} else {x with y:=x.cp.2.1,off:=x.cp.2.2})
 else x
def No.tkE (x:No):Nat:=if x.ro.rings then x.ticked.clE else 0
def No.tk1 (x:No):No:=if x.ro.rings then x.ticked.clm else x.ticked
def No.due (x:No):Bool:=decide (x.now % 3=0)
structure Nt where
 cl:Bool
 L:List Nat
def No.notes (x:No) (fresh:Bool):List Nt :=
 if x.ro.ac then (if fresh || x.due then [⟨true,[]⟩] else [])++(if x.due then [⟨false,nxL x.T x.D x.cu⟩] else []) else []
def No.noted (x:No):No:=if x.ro.ac && x.due then {x with D:=toldD x.T x.D (nxL x.T x.D x.cu),cu:=nxC x.T x.D x.cu} else x
def No.tick (x:No):No:=if x.tkE=0 then x.tk1.noted else x.tk1
def No.tickL (x:No):List Nt:=if x.tkE=0 then x.tk1.notes (!x.ro.ac) else []
end
end Go.Proofs.YtabndgfdbdjdgaaGreatDoor
