/-
  What the claimed theorem reaches, part Q18.
-/
import Derived.Test.YtabndgfdbdjdgaaGreatDoorQ17
import Derived.Test.YtabndgfdbdjdgaaGreatDoorQ00
import Derived.Test.YtabndgfdbdjdgaaGreatDoorQ15
import Derived.OwnWalk
namespace Go.Proofs.YtabndgfdbdjdgaaGreatDoor
open Go.RowKit
set_option maxRecDepth 100000
set_option maxHeartbeats 8000000
def WK.upd (K:WK) (i:Nat) (k:Bk) (a b:Nat):WK:={K with nk:=setN K.nk i (some k),tag:=fun g=>if g < a then K.tag g else if g ∈ k.all then i+1 else if g < b then 5 else 9}
theorem WdB.rise {w:World} {K:WK} {x:Wo} (h:WdB w K x) {i:Nat} (hi:i < 2) (k:Bk) (a b:Nat):WdB (w.setCell (K.wb,i * 2) (.pointer (some (k.nd,0)))) (K.upd i k a b) (x.risen i):=by
 unfold WdB
 show(w.setCell (K.wb,i * 2) (.pointer (some (k.nd,0)))).heap[K.wb]? = _
 rw[heap_setCell_same w _ _ _ _ _ h]
 rcases two_cases hi with rfl | rfl <;> rfl
theorem rise_wd {w0 w:World} {K:WK} {x:Wo} {t i b:Nat} {s:Nat->Addr} (S:SeM w0 s) (h:Wd w0 w K x t) (hi:i < 2) (hd:x.nd i=none) (hb:K.yk i=some b) (N:NewOk i (x.yb i).oned x.ru) :
  Calls Tryz.prog 101 #[.pointer (some (K.wb,i * 2)),i,.slice K.rp x.ru.length K.rc] w fun e w'=>e=.returned .nilIface/\∃K',Wd w0 w' K' (x.risen i) t/\Mv K K' w w':=by
 have HS:Hid (SeM w0 s):=S
 have HW:Hid (Wd w0 w K x t):=h
 have HI:Hid (i < 2):=hi
 have HO:Hid (NewOk i (x.yb i).oned x.ru):=N
 have hq:K.nk i=none/\Byt w b (x.yb i)/\(x.yb i).left<=9223372036854775807:=by
  rcases h.sd hi with⟨k,y,m,n,e1,e2,_⟩ | ⟨b',e1,e2,e3,Y,r⟩ | ⟨e1,e2,e3⟩
  ·rw[hd]at e2;cases e2
  ·rw[hb]at e3;cases e3;exact⟨e1,Y,r⟩
  ·rw[hb]at e3;cases e3
 have HY:Hid (Byt w b (x.yb i)):=hq.2.1
 have HL:Hid ((x.yb i).left<=9223372036854775807):=hq.2.2
 have HD:Hid (x.nd i=none/\K.yk i=some b/\K.nk i=none):=⟨hd,hb,hq.1⟩
 have hbt:K.tag b=i+1/\w0.heap.size<=b:=h.tg (i+1) (by omega) b (by rcases two_cases hi with rfl | rfl <;> simp[WK.part,hq.1,hb])
 have HBT:Hid (K.tag b=i+1/\w0.heap.size<=b):=hbt
 have HNE:Hid (b≠K.wb):=fun e=>by have:=hbt.1;rw[e,h.wb0.1]at this;omega
 have c2:=h.wb.cy hi
 rw[hb]at c2
 simp only[ybV,Option.map_some]at c2
 have HC2:Hid (w.cell? (K.wb,i * 2+1)=some (.pointer (some (b,0)))):=c2
 clear S h hi N hd hb hq hbt
 go_enter Tryz.func101,Tryz.ntmps101
 go_wp2_with fail
 refine(on_any b (x.yb i) w HY.out).mono ?_
 rintro e w1 ⟨rfl,y1,g1⟩
 have Y1:Hid (Byt w1 b (x.yb i).oned):=y1
 have G1:Hid (Chg b w w1):=g1
 have HWB:Hid (K.wb≠b):=fun e=>HNE.out e.symm
 have d2:=g1.keeps HWB.out HC2.out
 have BL1:Hid (Below w0 w0 w1):=Chg.below HW.out.bl g1 HBT.out.2
 have R1:Hid (Sl w1 (.slice K.rp x.ru.length K.rc) x.ru/\∀a n c,Value.slice K.rp x.ru.length K.rc=.slice (some a) n c->a.block≠b):=by
  have hs:∀a n c,Value.slice K.rp x.ru.length K.rc=.slice (some a) n c->a.block≠b:=fun a n c e q=>by have:=HW.out.rt a (Value.slice.inj e).1;rw[q,HBT.out.1]at this;have:=HI.out;omega
  exact⟨HW.out.ru.chg1 (ChgL.one g1 (by simp)) hs,hs⟩
 clear y1 g1 c2
 go_wp2_with fail
 refine(new_nd2 HS.out.n i b (x.yb i).oned _ x.ru Y1.out HBT.out.2 BL1.out HL.out R1.out.1 R1.out.2 HO.out).mono ?_
 rintro e w2 ⟨⟨k,rfl,hkb,nd,hka,hkr⟩,c2⟩
 have ND:Hid (Nd w0 w2 k (No.new i (x.yb i).oned x.ru) 0 0):=nd
 have KA:Hid (k.yb=b/\(∀g ∈ k.all,g=b\/w1.heap.size<=g)/\(x.ru≠[]->∀a,k.rp=some a->w1.heap.size<=a.block)):=⟨hkb,hka,hkr⟩
 have C2:Hid (ChgL [b] w w2):=(ChgL.one G1.out (by simp)).trans c2
 have S1:Hid (w.heap.size<=w1.heap.size):=G1.out.size
 have WB2:Hid (WdB w2 K x):=HW.out.wb.kept (C2.out.block _ HW.out.wb.lt (by simpa using HWB.out))
 have f1:=WB2.out.fr (i * 2)
 have c1:=WB2.out.cn HI.out
 rw[HD.out.2.2]at c1
 simp only[ndV,Option.map_none]at c1
 clear d2 nd hkb hka hkr c2 HC2
 go_wp2_with fail
 go_ret
 have hi:=HI.out
 have hwl:=HW.out.wb.lt
 have hwt:=HW.out.wb0
 have g3:Chg K.wb w2 (w2.setCell (K.wb,i * 2) (.pointer (some (k.nd,0)))):=Chg.set _ _ _ _
 have hWB:=WB2.out.rise hi k w w2.heap.size
 have hsz:(w2.setCell (K.wb,i * 2) (.pointer (some (k.nd,0)))).heap.size=w2.heap.size:=by simp[go_sem]
 generalize w2.setCell (K.wb,i * 2) (.pointer (some (k.nd,0)))=w3 at *
 have hC:ChgL [K.wb,b] w w3:=(C2.out.mono (fun q hq=>.inl (by simp at hq;simp[hq]))).trans (ChgL.one g3 (by simp))
 have hl:∀q ∈ [K.wb,b],w0.heap.size<=q/\(K.tag q=0\/K.tag q=i+1):=fun q hq=>by
  simp only[List.mem_cons,List.not_mem_nil,or_false]at hq
  rcases hq with rfl | rfl
  ·exact⟨hwt.2,.inl hwt.1⟩
  ·exact⟨HBT.out.2,.inr HBT.out.1⟩
 have hbl:b < w.heap.size:=HY.out.lt
 have hkl:∀g ∈ k.all,g < w2.heap.size:=fun g hg=>ND.out.lt g hg
 have hkt:∀g ∈ k.all,(K.upd i k w w2).tag g=i+1:=fun g hg=>by
  show(if g < w.heap.size then K.tag g else if g ∈ k.all then i+1 else if g < w2.heap.size then 5 else 9)=i+1
  rcases KA.out.2.1 g hg with rfl | q
  ·rw[if_pos hbl];exact HBT.out.1
  ·rw[if_neg (by have:=S1.out;omega),if_pos hg]
 have hrl:x.ru≠[]->∀a,k.rp=some a->a.block < w2.heap.size:=fun hn a e=>by
  obtain⟨r,hr'⟩:=List.exists_mem_of_ne_nil _ hn
  obtain⟨j,hj⟩:=List.getElem?_of_mem hr'
  obtain⟨g,o,e2,q0,_⟩:=ND.out.ru j r hj
  rw[e]at e2
  cases e2
  have q:g < w2.heap.size:=tlt q0
  exact q
 refine⟨rfl,K.upd i k w w2.heap.size,?_,Mv.list HW.out hC (fun b hb=>by have:=(hl b hb).2;omega) (fun g hg=>if_pos hg) rfl rfl⟩
 have nd3:Nd w0 w3 k (No.new i (x.yb i).oned x.ru) 0 0:=ND.out.kept (l:=[K.wb]) (ChgL.one g3 (by simp)) (fun g hg hm=>by
   simp only[List.mem_cons,List.not_mem_nil,or_false]at hm
   subst hm
   rcases KA.out.2.1 _ hg with e | q
   ·exact HNE.out e.symm
   ·have:=S1.out;omega) (fun hn a ea hm=>by
   simp only[List.mem_cons,List.not_mem_nil,or_false]at hm
   have:=KA.out.2.2 hn a ea
   have:=S1.out
   omega) (fun g hg=>by simp only[List.mem_cons,List.not_mem_nil,or_false]at hg;subst hg;exact hwt.2)
 have mine:SdP w0 w3 (K.upd i k w w2) (x.risen i) t i:=.inl ⟨k,_,0,0,setN_same _ _ _,setN_same _ _ _,nd3,by rw[KA.out.1];exact HD.out.2.1,by omega,by omega,Int.le_refl _,Int.natCast_nonneg _,HO.out.ru,rfl,fun hn a ea=>by
  have q1:=KA.out.2.2 hn a ea
  have q2:=hrl hn a ea
  show(if a.block < w.heap.size then K.tag a.block else if a.block ∈ k.all then i+1 else if a.block < w2.heap.size then 5 else 9)=5
  rw[if_neg (by have:=S1.out;omega),if_neg (nd3.rb hn a ea).2,if_pos q2]⟩
 have mineP:∀g ∈ (K.upd i k w w2).part (i+1),(K.upd i k w w2).tag g=i+1/\w0.heap.size<=g:=fun g hg=>by
  rw[part_up hi (k:=k) (setN_same _ _ _)]at hg
  exact⟨hkt g hg,ND.out.g0 g hg⟩
 refine HW.out.make [K.wb,b] hC (fun b hb=>⟨(hl b hb).1,by have:=(hl b hb).2;omega⟩) (Nat.le_refl _) (fun g hg=>if_pos hg) (fun g hg=>?_) rfl hWB ?_ ?_ (.inr ⟨rfl,rfl,rfl⟩) (.inr ⟨rfl,rfl,rfl,fun b hb=>by have:=(hl b hb).2;omega⟩) (.inr ⟨rfl,rfl,fun b hb=>by have:=(hl b hb).2;omega⟩)
 ·rw[hsz]at hg
  show(if g < w.heap.size then K.tag g else if g ∈ k.all then i+1 else if g < w2.heap.size then 5 else 9)=9
  rw[if_neg (by have:=C2.out.size;omega),if_neg (fun hm=>by have:=hkl g hm;omega),if_neg (by omega)]
 ·rcases two_cases hi with rfl | rfl
  ·exact .inl ⟨mine,mineP⟩
  ·exact .inr ⟨rfl,rfl,rfl,rfl,fun b hb=>by have:=(hl b hb).2;omega⟩
 ·rcases two_cases hi with rfl | rfl
  ·exact .inr ⟨rfl,rfl,rfl,rfl,fun b hb=>by have:=(hl b hb).2;omega⟩
  ·exact .inl ⟨mine,mineP⟩
def Wo.roE (W:Wo) (n:Int):Nat:=if 0<=n/\n < 2 then (if (W.nd n.toNat).isSome then 11 else 0) else 2
def Wo.upped (W:Wo) (n:Int):Wo:=if W.roE n=0 then W.risen n.toNat else W
theorem rup_wd {w0 w:World} {K:WK} {x:Wo} {t:Nat} {s:Nat->Addr} (S:SeM w0 s) (h:Wd w0 w K x t) (n:Int) (N:∀i:Nat,n=i->i < 2->x.nd i=none->∃b,K.yk i=some b/\NewOk i (x.yb i).oned x.ru) :
  Calls Tryz.prog 48 #[.pointer (some (K.wb,0)),n] w fun e w'=>e=.returned (terr s (x.roE n))/\∃K',Wd w0 w' K' (x.upped n) t/\Mv K K' w w':=by
 have HS:Hid (SeM w0 s):=S
 have HSW:Hid (SeM w s):=S.below h.bl
 have HW:Hid (Wd w0 w K x t):=h
 have HO:Hid (∀i:Nat,n=i->i < 2->x.nd i=none->∃b,K.yk i=some b/\NewOk i (x.yb i).oned x.ru):=N
 clear S h N
 go_enter Tryz.func48,Tryz.ntmps48
 go_wp2_with fail
 refine(whas_any K.wb n w _ rfl).mono ?_
 rintro e w1 ⟨rfl,hw⟩
 obtain rfl:=hw.symm
 clear hw
 by_cases h2:0<=n/\n < 2
 ·rw[decide_eq_true h2]
  obtain⟨i,rfl⟩:∃i:Nat,n=i:=⟨n.toNat,by omega⟩
  have hi:i < 2:=by omega
  have HI:Hid (i < 2):=hi
  have HQ:Hid ((K.nk i).isSome=(x.nd i).isSome):=(HW.sd hi).iff
  have HE:Hid (x.roE (i:Int)=if (x.nd i).isSome then 11 else 0):=by show _=_;unfold Wo.roE;rw[if_pos h2,Int.toNat_natCast]
  have i0:(0:Int)<=(i:Int):=by omega
  have i1:(i:Int) < 2:=by omega
  have c4:w.cell? (K.wb,4)=some (.slice K.rp x.ru.length K.rc):=HW.wb.c 4
  clear h2
  go_wp2_with fail
  refine(isUp_any HW.wb HI).mono ?_
  rintro e w2 ⟨rfl,hw⟩
  obtain rfl:=hw.symm
  clear hw
  cases hk:(K.nk i).isSome
  ·have hnone:x.nd i=none:=by have:=HQ.out;rw[hk]at this;cases hq:x.nd i with | none=>rfl | some y=>rw[hq]at this;cases this
   obtain⟨b,hb,ho⟩:=HO.out i rfl HI hnone
   have HX:Hid (x.roE (i:Int)=0/\x.upped (i:Int)=x.risen i):=by
    have e:x.roE (i:Int)=0:=by rw[HE.out,hnone];rfl
    exact⟨e,by unfold Wo.upped;rw[if_pos e,Int.toNat_natCast]⟩
   have HR:Hid (x.nd i=none/\K.yk i=some b/\NewOk i (x.yb i).oned x.ru):=⟨hnone,hb,ho⟩
   clear hk hnone hb ho
   go_wp2_with fail
   refine(rise_wd HS HW HI HR.1 HR.2.1 HR.2.2).mono ?_
   rintro e w3 ⟨rfl,K',wd,mv⟩
   have W3:Hid (Wd w0 w3 K' (x.risen i) t/\Mv K K' w w3):=⟨wd,mv⟩
   clear wd mv
   go_wp2_with fail
   go_ret
   exact⟨by rw[HX.1];rfl,K',by rw[HX.2];exact W3.1,W3.2⟩
  ·have HX:Hid (x.roE (i:Int)=11/\x.upped (i:Int)=x):=by
    have e:x.roE (i:Int)=11:=by rw[HE.out,<- HQ.out,hk];rfl
    exact⟨e,by unfold Wo.upped;rw[if_neg (by omega)]⟩
   have s10:=HSW.c10
   clear hk
   go_wp2_with fail
   go_ret
   exact⟨by rw[HX.1];rfl,K,by rw[HX.2];exact HW,Mv.of (Below.refl _ _)⟩
 ·rw[decide_eq_false h2]
  have HX:Hid (x.roE n=2/\x.upped n=x):=by
   have e:x.roE n=2:=by unfold Wo.roE;rw[if_neg h2]
   exact⟨e,by unfold Wo.upped;rw[if_neg (by omega)]⟩
  have s1:=HSW.c1
  clear h2
  go_wp2_with fail
  go_ret
  exact⟨by rw[HX.1];rfl,K,by rw[HX.2];exact HW,Mv.of (Below.refl _ _)⟩
section
variable {w:World}
theorem FlP.sl {K:WK} {x:Wo} (h:FlP w K x):∃p c,slV K.fg x.fl.length=.slice p x.fl.length c:=by
 rcases h.rows with⟨e1,e2⟩ | ⟨g,c,_,e,_⟩
 ·rw[e1,e2];exact⟨none,0,rfl⟩
 ·rw[e];exact⟨_,_,rfl⟩
theorem flies_any {K:WK} {x:Wo} (hb:WdB w K x) (hf:FlP w K x) (n:Int) (q:Bool) (hq:decide (0<=n/\n < x.fl.length)=q):Calls Tryz.prog 107 #[.pointer (some (K.wb,0)),n] w fun e w'=>e=.returned (.bool q)/\w'=w:=by
 have c7:w.cell? (K.wb,7)=some (slV K.fg x.fl.length):=hb.c 7
 obtain⟨p,c,e⟩:=hf.sl
 rw[e]at c7
 clear e hb hf
 by_cases h0:0<=n
 ·by_cases h2:n < x.fl.length
  ·obtain rfl:q=true:=by rw[<- hq];exact decide_eq_true ⟨h0,h2⟩
   clear hq
   go_enter Tryz.func107,Tryz.ntmps107
   go_wp2_with fail
   go_ret
   exact⟨rfl,rfl⟩
  ·obtain rfl:q=false:=by rw[<- hq];exact decide_eq_false (fun h=>h2 h.2)
   clear hq
   go_enter Tryz.func107,Tryz.ntmps107
   go_wp2_with fail
   go_ret
   exact⟨rfl,rfl⟩
 ·obtain rfl:q=false:=by rw[<- hq];exact decide_eq_false (fun h=>h0 h.1)
  clear hq
  go_enter Tryz.func107,Tryz.ntmps107
  go_wp2_with fail
  go_ret
  exact⟨rfl,rfl⟩
theorem zip_erase {α β γ:Type} (f:α->β->γ):∀(l:List α) (m:List β) (k:Nat),m.length=l.length->(List.zipWith f l m).eraseIdx k=List.zipWith f (l.eraseIdx k) (m.eraseIdx k)
 | [],_,_,_=>by simp
 | _::_,[],_,h=>by simp at h
 | a::l,b::m,0,_=>by simp
 | a::l,b::m,k+1,h=>by simp[zip_erase f l m k (by simpa using h)]
def WK.land (K:WK) (k:Nat):WK:={K with cv:=K.cv.eraseIdx k}
theorem WdB.land {K:WK} {x:Wo} (h:WdB w K x) {g c k:Nat} (hg:K.fg=some (g,c)) (hk:k < x.fl.length):WdB (w.setCell (K.wb,7) (.slice (some (g,0)) (x.fl.length - 1) c)) (K.land k) (x.landed k):=by
 unfold WdB
 show(w.setCell (K.wb,7) (.slice (some (g,0)) (x.fl.length - 1) c)).heap[K.wb]? = _
 rw[heap_setCell_same w _ _ _ _ _ h]
 show _=some (Obj.cells #[ndV (K.nk 0),ybV (K.yk 0),ndV (K.nk 1),ybV (K.yk 1),.slice K.rp x.ru.length K.rc,x.hn,x.he,slV K.fg (x.fl.eraseIdx k).length,slV K.eg x.ev.length] 112 (0,0))
 rw[hg,List.length_eraseIdx_of_lt hk]
 rfl
theorem land_wd {w0:World} {K:WK} {x:Wo} {t k:Nat} (h:Wd w0 w K x t) (hk:k < x.fl.length) :
  Calls Tryz.prog 108 #[.pointer (some (K.wb,0)),k] w fun e w'=>e=.returned (.tuple #[])/\Wd w0 w' (K.land k) (x.landed k) t/\Mv K (K.land k) w w'/\∀tt v,NtOk w K tt v->NtOk w' (K.land k) tt v:=by
 have hrows:=h.fl.rows
 rcases hrows with⟨_,e⟩ | ⟨g,c,cur,hg,R,hc⟩
 ·rw[e]at hk;simp at hk
 have HW:Hid (Wd w0 w K x t):=h
 have HK:Hid (k < x.fl.length):=hk
 have HG:Hid (K.fg=some (g,c)):=hg
 have HR:Hid (RwB w g c (nfR x.fl K.cv) cur):=R
 have hrl:(nfR x.fl K.cv).length=x.fl.length:=nfR_len h.fl.len
 have HRL:Hid ((nfR x.fl K.cv).length=x.fl.length):=hrl
 have HC:Hid (c<=9223372036854775807):=hc
 have c7:w.cell? (K.wb,7)=some (.slice (some (g,0)) x.fl.length c):=by have:=h.wb.c 7;rw[hg]at this;exact this
 have HGT:Hid (K.tag g=3/\w0.heap.size<=g):=h.tg 3 (by omega) g (by simp[WK.part,hg])
 have HNE:Hid (K.wb≠g):=fun e=>by have:=HGT.out.1;rw[<- e,h.wb0.1]at this;omega
 have hwr:IntKind.i64.wrap ((k:Int)+1)=(k:Int)+1:=by have:=h.fl.le;rw[IntKind.wrap_i64];omega
 have HDL:=ndelete_any g c k (nfR x.fl K.cv) cur w R (by omega) hc
 rw[hrl]at HDL
 have HD:Hid (Calls Tryz.prog 145 #[.slice (some (g,0)) x.fl.length c,k,.int .i64 ((k:Int)+1)] w fun e w'=>e=.returned (.slice (some (g,0)) (x.fl.length - 1) c)/\(∃cur',RwB w' g c ((nfR x.fl K.cv).eraseIdx k) cur')/\Chg g w w'):=HDL
 clear h hk hg R hrl hc HDL
 go_enter Tryz.func108,Tryz.ntmps108
 go_wp2_with fail
 refine HD.out.mono ?_
 rintro e w1 ⟨rfl,⟨cur',r1⟩,g1⟩
 have R1:Hid (RwB w1 g c ((nfR x.fl K.cv).eraseIdx k) cur'):=r1
 have G1:Hid (Chg g w w1):=g1
 have WB1:Hid (WdB w1 K x):=HW.out.wb.kept (g1.block _ HW.out.wb.lt HNE.out)
 have d7:=g1.keeps HNE.out c7
 have f7:=WB1.out.fr 7
 clear r1 g1 c7 hwr
 go_wp2_with fail
 go_end0
 have g3:Chg K.wb w1 (w1.setCell (K.wb,7) (.slice (some (g,0)) (x.fl.length - 1) c)):=Chg.set _ _ _ _
 have hWB:=WB1.out.land HG.out HK.out
 generalize w1.setCell (K.wb,7) (.slice (some (g,0)) (x.fl.length - 1) c)=w3 at *
 have hC:ChgL [K.wb,g] w w3:=(ChgL.one G1.out (by simp)).trans (ChgL.one g3 (by simp))
 have hwt:=HW.out.wb0
 have hl:∀q ∈ [K.wb,g],w0.heap.size<=q/\(K.tag q=0\/K.tag q=3):=fun q hq=>by
  simp only[List.mem_cons,List.not_mem_nil,or_false]at hq
  rcases hq with rfl | rfl
  ·exact⟨hwt.2,.inl hwt.1⟩
  ·exact⟨HGT.out.2,.inr HGT.out.1⟩
 have hk:=HK.out
 have hlen:=HW.out.fl.len
 have hnt:∀tt v,NtOk w K tt v->NtOk w3 (K.land k) tt v:=fun tt v q=>(q.kept hC (fun b hb=>by have:=(hl b hb).2;omega)).turn (fun _ e=>e)
 refine⟨rfl,?_,Mv.list HW.out hC (fun b hb=>by have:=(hl b hb).2;omega) (fun _ _=>rfl) rfl rfl,hnt⟩
 have fl:FlP w3 (K.land k) (x.landed k):=by
  refine⟨?_,?_,fun i tt v ht hv=>?_,.inr ⟨g,c,cur',HG.out,?_,HC.out⟩⟩
  ·show(K.cv.eraseIdx k).length=(x.fl.eraseIdx k).length
   rw[List.length_eraseIdx_of_lt (by omega),List.length_eraseIdx_of_lt hk,hlen]
  ·show(x.fl.eraseIdx k).length<=200
   rw[List.length_eraseIdx_of_lt hk]
   have:=HW.out.fl.le
   omega
  ·have ht':(x.fl.eraseIdx k)[i]? = some tt:=ht
   have hv':(K.cv.eraseIdx k)[i]? = some v:=hv
   rw[List.getElem?_eraseIdx]at ht' hv'
   by_cases hik:i < k
   ·rw[if_pos hik]at ht' hv'
    exact hnt tt v (HW.out.fl.ok i tt v ht' hv')
   ·rw[if_neg hik]at ht' hv'
    exact hnt tt v (HW.out.fl.ok (i+1) tt v ht' hv')
  ·have e:nfR (x.landed k).fl (K.land k).cv=(nfR x.fl K.cv).eraseIdx k:=(zip_erase _ _ _ _ hlen).symm
   rw[e]
   exact R1.out.kept (g3.block g R1.out.lt (fun q=>HNE.out q.symm))
 refine HW.out.make [K.wb,g] hC (fun b hb=>⟨(hl b hb).1,by have:=(hl b hb).2;omega⟩) (Nat.le_refl _) (fun _ _=>rfl) (fun b hb=>HW.out.al b (Nat.le_trans hC.size hb)) rfl hWB (.inr ⟨rfl,rfl,rfl,rfl,fun b hb=>by have:=(hl b hb).2;omega⟩) (.inr ⟨rfl,rfl,rfl,rfl,fun b hb=>by have:=(hl b hb).2;omega⟩) (.inr ⟨rfl,rfl,rfl⟩) (.inl ⟨fl,fun b hb=>?_⟩) (.inr ⟨rfl,rfl,fun b hb=>by have:=(hl b hb).2;omega⟩)
 have:b ∈ K.part 3:=hb
 exact HW.out.tg 3 (by omega) b this
def Wo.flE (W:Wo) (n:Int):Nat:=if 0<=n/\n < W.fl.length then 0 else 4
end
section
variable {w w0:World} {K:WK} {t:Nat} {s:Nat->Addr}
theorem WdB.heard {x:Wo} (h:WdB w K x) (a b:Int):WdB ((w.setCell (K.wb,5) a).setCell (K.wb,6) b) K {x with hn:=a,he:=b}:=by
 have h1:=heap_setCell_same w _ 5 _ _ a h
 have h2:=heap_setCell_same _ _ 6 _ _ b h1
 exact h2
theorem Wd.onSw {w':World} {x:Wo} (h:Wd w0 w K x t) {a b:Int} (g:Chg K.wb w w') (hb:WdB w' K {x with hn:=a,he:=b}):Wd w0 w' K {x with hn:=a,he:=b} t:=by
 have hwt:=h.wb0
 have hC:ChgL [K.wb] w w':=ChgL.one g (by simp)
 have hl:∀q ∈ [K.wb],w0.heap.size<=q/\K.tag q=0:=fun q hq=>by
  simp only[List.mem_cons,List.not_mem_nil,or_false]at hq
  subst hq
  exact⟨hwt.2,hwt.1⟩
 exact h.make [K.wb] hC (fun b hb=>⟨(hl b hb).1,by have:=(hl b hb).2;omega⟩) (Nat.le_refl _) (fun _ _=>rfl) (fun b hb=>h.al b (Nat.le_trans hC.size hb)) rfl hb (.inr ⟨rfl,rfl,rfl,rfl,fun b hb=>by have:=(hl b hb).2;omega⟩) (.inr ⟨rfl,rfl,rfl,rfl,fun b hb=>by have:=(hl b hb).2;omega⟩) (.inr ⟨rfl,rfl,rfl⟩) (.inr ⟨rfl,rfl,rfl,fun b hb=>by have:=(hl b hb).2;omega⟩) (.inr ⟨rfl,rfl,fun b hb=>by have:=(hl b hb).2;omega⟩)
theorem hear_wd {x:Wo} (h:Wd w0 w K x t) (n:Nf) (v:Value) :
  Calls Tryz.prog 109 #[.pointer (some (K.wb,0)),.agg #[n.fr,n.li,n.ep,.bool n.cl,v]] w fun e w'=>e=.returned (.tuple #[])/\Wd w0 w' K (x.heard n) t/\Mv K K w w':=by
 have HW:Hid (Wd w0 w K x t):=h
 clear h
 go_enter Tryz.func109,Tryz.ntmps109
 go_wp2_with fail
 have HB1:Hid (Below w w (w.alloc (.cells #[n.fr,n.li,n.ep,.bool n.cl,v] 175))):=aB _ _
 have HZ1:Hid (NfZ (w.alloc (.cells #[n.fr,n.li,n.ep,.bool n.cl,v] 175)) w n v):=NfZ.new w n v
 generalize w.alloc (.cells #[n.fr,n.li,n.ep,.bool n.cl,v] 175)=w1 at *
 have HL:Hid (w.heap.size<=w.heap.size):=Nat.le_refl _
 generalize w.heap.size=Q at HZ1 ⊢
 have W1:Hid (Wd w0 w1 K x t):=HW.below HB1
 have z0:=HZ1.b.c0
 have z2:=HZ1.b.c2
 have c5:w1.cell? (K.wb,5)=x.hn:=W1.wb.c 5
 have c6:w1.cell? (K.wb,6)=x.he:=W1.wb.c 6
 by_cases hlt:x.he < n.ep
 ·have HX:Hid (x.heard n={x with hn:=n.fr,he:=n.ep}):=by show _=_;unfold Wo.heard;rw[if_pos hlt]
  go_quiet (fail)
  have D1:Hid (Below w1 w1 (w1.drewN nq)):=⟨rfl,rfl,rfl,Nat.le_refl _,fun _ _=>rfl⟩
  have W2:Hid (Wd w0 (w1.drewN nq) K x t):=W1.below D1
  have M2:Hid (Mv K K w (w1.drewN nq)):=(Mv.of HB1.out).then D1
  have y0:=tk D1 z0
  have y2:=tk D1 z2
  generalize w1.drewN nq=w2 at *
  clear z0 z2 c5 c6 hlt
  have f5:=W2.wb.fr 5
  have f6:=W2.wb.fr 6
  have c5:w2.cell? (K.wb,5)=x.hn:=W2.wb.c 5
  have c6:w2.cell? (K.wb,6)=x.he:=W2.wb.c 6
  go_wp2_with fail
  go_end0
  have g:Chg K.wb w2 ((w2.setCell (K.wb,5) n.fr).setCell (K.wb,6) n.ep):=(Chg.set _ _ _ _).trans (Chg.set _ _ _ _)
  exact⟨rfl,by rw[HX.out];exact W2.onSw g (W2.wb.heard _ _),M2.trans (Mv.one W2 (i:=0) (by omega) (ChgL.one g (l:=[K.wb]) (by simp)) (fun b hb=>hb))⟩
 ·have HX:Hid (x.heard n=x):=by show _=_;unfold Wo.heard;rw[if_neg hlt]
  go_quiet (fail)
  have D1:Hid (Below w1 w1 (w1.drewN nq)):=⟨rfl,rfl,rfl,Nat.le_refl _,fun _ _=>rfl⟩
  have W2:Hid (Wd w0 (w1.drewN nq) K x t):=W1.below D1
  have M2:Hid (Mv K K w (w1.drewN nq)):=(Mv.of HB1.out).then D1
  generalize w1.drewN nq=w2 at *
  clear z0 z2 c5 c6 hlt
  go_wp2_with fail
  go_end0
  exact⟨rfl,by rw[HX.out];exact W2,M2⟩
theorem handed_some {x:Wo} {n:Nf} {i:Nat} {y:No} (e:(1 - n.fr).toNat=i) (hy:x.nd i=some y):x.handed n={x with nd:=setN x.nd i (some (y.hrd n))}:=by unfold Wo.handed;rw[e,hy]
theorem handed_none {x:Wo} {n:Nf} {i:Nat} (e:(1 - n.fr).toNat=i) (hy:x.nd i=none):x.handed n=x:=by unfold Wo.handed;rw[e,hy]
theorem hrd_same (x:No) (n:Nf):(x.hrd n).ru=x.ru/\(x.hrd n).id=x.id/\(x.hrd n).now=x.now:=by
 unfold No.hrd
 split <;> exact⟨rfl,rfl,rfl⟩
theorem hand_wd {x:Wo} (S:SeM w0 s) (h:Wd w0 w K x t) (n:Nf) (v:Value) (N:NtOk w K n v) :
  Calls Tryz.prog 110 #[.pointer (some (K.wb,0)),.agg #[n.fr,n.li,n.ep,.bool n.cl,v]] w fun e w'=>e=.returned (.tuple #[])/\Wd w0 w' K (x.handed n) t/\Mv K K w w':=by
 obtain⟨i,hi,hie⟩:∃i:Nat,i < 2/\n.fr=1 - (i:Int):=by
  rcases N.2.2.2 with e | e
  ·exact⟨1,by omega,by omega⟩
  ·exact⟨0,by omega,by omega⟩
 have HS:Hid (SeM w0 s):=S
 have HW:Hid (Wd w0 w K x t):=h
 have HN:Hid (NtOk w K n v):=N
 have HI:Hid (i < 2):=hi
 have HT:Hid ((1 - n.fr).toNat=i):=(by omega:(1 - n.fr).toNat=i)
 have hsub:IntKind.i64.wrap (1 - n.fr)=(i:Int):=by rw[IntKind.wrap_i64];omega
 have hsub2:1 - n.fr=(i:Int):=by omega
 have i0:(0:Int)<=(i:Int):=by omega
 have i1:(i:Int) < 2:=by omega
 have HSU:Hid (IntKind.i64.wrap (1 - n.fr)=(i:Int)/\1 - n.fr=(i:Int)):=⟨hsub,hsub2⟩
 clear S h N hi hie
 go_enter Tryz.func110,Tryz.ntmps110
 go_wp2_with fail
 have HB1:Hid (Below w w (w.alloc (.cells #[n.fr,n.li,n.ep,.bool n.cl,v] 175))):=aB _ _
 have HZ1:Hid (NfZ (w.alloc (.cells #[n.fr,n.li,n.ep,.bool n.cl,v] 175)) w n v):=NfZ.new w n v
 generalize w.alloc (.cells #[n.fr,n.li,n.ep,.bool n.cl,v] 175)=w1 at *
 generalize w.heap.size=Q at HZ1 ⊢
 have W1:Hid (Wd w0 w1 K x t):=HW.below HB1
 have z0:=HZ1.b.c0
 go_quiet (fail)
 have D1:Hid (Below w1 w1 (w1.drewN nq)):=⟨rfl,rfl,rfl,Nat.le_refl _,fun _ _=>rfl⟩
 have W2:Hid (Wd w0 (w1.drewN nq) K x t):=W1.below D1
 have B2:Hid (Below w w (w1.drewN nq)):=t2 HB1 D1
 have Z2:Hid (NfZ (w1.drewN nq) Q n v):=HZ1.below D1
 generalize w1.drewN nq=w2 at *
 clear z0
 go_wp2_with fail
 refine(isUp_any W2.wb HI).mono ?_
 rintro e w3 ⟨rfl,hw⟩
 obtain rfl:=hw.symm
 clear hw
 cases hy:x.nd i with
 | none =>
  have HX:Hid (x.handed n=x):=handed_none HT hy
  have hk:(K.nk i).isSome=false:=by rw[(W2.sd HI).iff,hy];rfl
  rw[hk]
  clear hk hy
  go_wp2_with fail
  go_end0
  exact⟨rfl,by rw[HX.out];exact W2,Mv.of B2.out⟩
 | some y =>
  have HX:Hid (x.handed n={x with nd:=setN x.nd i (some (y.hrd n))}):=handed_some HT hy
  have hks:(K.nk i).isSome=true:=by rw[(W2.sd HI).iff,hy];rfl
  rw[hks]
  obtain⟨k,m,n',hk,nd,hyk,q1,q2,q3,q4,q5,q6,q7,q8⟩:=W2.up HI hy
  obtain⟨⟨p,cap,rfl,R,ht⟩,hl,ho,_⟩:=HN.out
  have HC:Hid (∀u,Below w2 w2 u->Calls Tryz.prog 146 #[.pointer (some (k.nd,0)),.agg #[n.fr,n.li,n.ep,.bool n.cl,.slice p n.cs.length cap]] u fun e w'=>e=.returned (terr s (y.heE n))/\Wd w0 w' K (x.handed n) t/\Mv K K w w'):=fun u hu =>
   (hear_nd HS (nd.below hu) n p cap (R.below (t2 B2 hu)) (fun g o e q=>by have:=ht g o e;rw[q,q8 _ k.m_mi]at this;have:=HI.out;omega) (by omega) ho).mono fun e w' ⟨he,n2,c2⟩=>by
    have W3:=W2.below hu
    have q:=hrd_same y n
    refine⟨he,?_,((Mv.of B2.out).then hu).trans (Mv.one W3 (i:=i+1) (by have:=HI.out;omega) c2 (by rw[part_up HI.out hk];exact fun _ h=>h))⟩
    rw[HX.out]
    exact W3.onNd HI hk hy n2 c2 (Nat.le_refl _) (by omega) (by omega) (by rw[q.2.2];exact q3) (by rw[q.2.2];omega) q.1 q.2.1
  have cn:=W2.wb.cn HI
  rw[hk]at cn
  simp only[ndV,Option.map_some]at cn
  have zb:=Z2.b
  obtain⟨z0,z1,z2,z3,z4⟩:=zb
  clear hks hk hy nd hyk q1 q2 q3 q4 q5 q6 q7 q8 R ht hl ho HN
  go_wp2_with fail
  go_region_with (first
   | (go_at_call 146;refine(HC _ (by first | exact Below.refl _ _ | exact(Below.refl _ _).drew | exact(Below.refl _ _).drew.drew)).mono ?_;rintro e w3 ⟨rfl,hw3,hm3⟩;have W3:Hid (Wd w0 w3 K (x.handed n) t):=hw3;have M3:Hid (Mv K K w w3):=hm3;clear hw3 hm3))
  all_goals go_wp2_with fail
  all_goals go_end0
  all_goals exact⟨rfl,W3,M3⟩
def Wo.dlv (W:Wo) (n:Int):Wo:=if W.flE n=0 then (match W.fl[n.toNat]? with | some t=>W.delivered n.toNat t | none=>W) else W
theorem deliver_wm {x:Wo} (S:SeM w0 s) (h:Wd w0 w K x t) (n:Int) :
  Calls Tryz.prog 53 #[.pointer (some (K.wb,0)),n] w fun e w'=>e=.returned (terr s (x.flE n))/\∃K',Wd w0 w' K' (x.dlv n) t/\Mw K K' w w':=by
 have HS:Hid (SeM w0 s):=S
 have HSW:Hid (SeM w s):=S.below h.bl
 have HW:Hid (Wd w0 w K x t):=h
 clear S h
 go_enter Tryz.func53,Tryz.ntmps53
 go_wp2_with fail
 refine(flies_any HW.wb HW.fl n _ rfl).mono ?_
 rintro e w1 ⟨rfl,hw⟩
 obtain rfl:=hw.symm
 clear hw
 by_cases h2:0<=n/\n < x.fl.length
 ·rw[decide_eq_true h2]
  obtain⟨i,rfl⟩:∃i:Nat,n=i:=⟨n.toNat,by omega⟩
  have hi:i < x.fl.length:=by omega
  have HI:Hid (i < x.fl.length):=hi
  obtain⟨tt,htt⟩:∃tt,x.fl[i]? = some tt:=⟨x.fl[i],List.getElem?_eq_getElem hi⟩
  obtain⟨v,hv⟩:∃v,K.cv[i]? = some v:=⟨K.cv[i]'(by rw[HW.fl.len];exact hi),List.getElem?_eq_getElem _⟩
  have HN:Hid (NtOk w K tt v):=HW.fl.ok i tt v htt hv
  have HX:Hid (x.flE (i:Int)=0/\x.dlv (i:Int)=x.delivered i tt):=by
   have e:x.flE (i:Int)=0:=by unfold Wo.flE;rw[if_pos h2]
   exact⟨e,by unfold Wo.dlv;rw[if_pos e,Int.toNat_natCast,htt]⟩
  rcases HW.fl.rows with⟨_,e⟩ | ⟨g,c,cur,hg,R,hc⟩
  ·rw[e]at hi;simp at hi
  have hr:=nfR_get htt hv
  have r0:w.cell? (g,i * 5)=tt.fr:=R.cell (j:=0) hr (by omega)
  have r1:w.cell? (g,i * 5+1)=tt.li:=R.cell hr (by omega)
  have r2:w.cell? (g,i * 5+2)=tt.ep:=R.cell hr (by omega)
  have r3:w.cell? (g,i * 5+3)=some (.bool tt.cl):=R.cell hr (by omega)
  have r4:w.cell? (g,i * 5+4)=some v:=R.cell hr (by omega)
  have c7:w.cell? (K.wb,7)=some (.slice (some (g,0)) x.fl.length c):=by have:=HW.wb.c 7;rw[hg]at this;exact this
  have i0:(0:Int)<=(i:Int):=by omega
  have i1:(i:Int) < (x.fl.length:Int):=by omega
  have i2:i < x.fl.length:=hi
  clear h2 hi htt hv hg R hc hr
  obtain⟨p,cap,hvs⟩:∃p cap,v=.slice p tt.cs.length cap:=by obtain⟨⟨p,cap,e,_⟩,_⟩:=HN.out;exact⟨p,cap,e⟩
  subst hvs
  go_wp2_with fail
  have hb1:Below w w (w.alloc (.cells #[tt.fr,tt.li,tt.ep,.bool tt.cl,.slice p tt.cs.length cap] 175)):=aB _ _
  have HZ1:Hid (NfZ (w.alloc (.cells #[tt.fr,tt.li,tt.ep,.bool tt.cl,.slice p tt.cs.length cap] 175)) w tt (.slice p tt.cs.length cap)):=NfZ.new w tt _
  generalize w.alloc (.cells #[tt.fr,tt.li,tt.ep,.bool tt.cl,.slice p tt.cs.length cap] 175)=w1 at *
  have B1:Hid (Below w w w1):=hb1
  have HQ:Hid (K.tag w.heap.size=9):=HW.al _ (Nat.le_refl _)
  generalize w.heap.size=Q at HZ1 HQ ⊢
  have W1:Hid (Wd w0 w1 K x t):=HW.below B1
  have N1:Hid (NtOk w1 K tt (.slice p tt.cs.length cap)):=HN.kept (ChgL.of (l:=[]) B1) (by simp)
  clear hb1 r0 r1 r2 r3 r4 c7 i0 i1 i2
  refine(land_wd W1 HI).mono ?_
  rintro e w2 ⟨rfl,w2',m2,n2⟩
  have W2:Hid (Wd w0 w2 (K.land i) (x.landed i) t):=w2'
  have M2:Hid (Mv K (K.land i) w w2):=(Mv.of B1.out).trans m2
  have N2:Hid (NtOk w2 (K.land i) tt (.slice p tt.cs.length cap)):=n2 _ _ N1
  have Z2:Hid (NfZ w2 Q tt (.slice p tt.cs.length cap)):=by show w2.heap[Q]? = _;rw[m2.block Q HZ1.lt (.inl HQ)];exact HZ1
  clear w2' m2 n2 N1 HZ1 HN
  have zb:=Z2.b
  obtain⟨z0,z1,z2,z3,z4⟩:=zb
  cases hcl:tt.cl
  ·have HY:Hid (x.delivered i tt=(x.landed i).handed tt):=by show _=_;unfold Wo.delivered;rw[hcl];rfl
   rw[hcl]at z3
   have HF:Hid (tt.cl=false):=hcl
   clear hcl
   go_wp2_with fail
   have H3:=hand_wd HS W2 tt _ N2
   rw[HF.out]at H3
   refine H3.mono ?_
   rintro e w3 ⟨rfl,w3',m3⟩
   have W3:Hid (Wd w0 w3 (K.land i) ((x.landed i).handed tt) t/\Mv K (K.land i) w w3):=⟨w3',M2.trans m3⟩
   clear w3' m3 H3
   go_wp2_with fail
   go_ret
   exact⟨by rw[HX.1];rfl,_,by rw[HX.2,HY.out];exact W3.1,W3.2,fun _ _ e=>e⟩
  ·have HY:Hid (x.delivered i tt=(x.landed i).heard tt):=by show _=_;unfold Wo.delivered;rw[hcl];rfl
   rw[hcl]at z3
   have HF:Hid (tt.cl=true):=hcl
   clear hcl
   go_wp2_with fail
   have H3:=hear_wd W2 tt (.slice p tt.cs.length cap)
   rw[HF.out]at H3
   refine H3.mono ?_
   rintro e w3 ⟨rfl,w3',m3⟩
   have W3:Hid (Wd w0 w3 (K.land i) ((x.landed i).heard tt) t/\Mv K (K.land i) w w3):=⟨w3',M2.trans m3⟩
   clear w3' m3 H3
   go_wp2_with fail
   go_ret
   exact⟨by rw[HX.1];rfl,_,by rw[HX.2,HY.out];exact W3.1,W3.2,fun _ _ e=>e⟩
 ·rw[decide_eq_false h2]
  have HX:Hid (x.flE n=4/\x.dlv n=x):=by
   have e:x.flE n=4:=by unfold Wo.flE;rw[if_neg h2]
   exact⟨e,by unfold Wo.dlv;rw[if_neg (by omega)]⟩
  have s3:=HSW.c3
  clear h2
  go_wp2_with fail
  go_ret
  exact⟨by rw[HX.1];rfl,K,by rw[HX.2];exact HW,Mw.of (Below.refl _ _)⟩
theorem deliver_wd {x:Wo} (S:SeM w0 s) (h:Wd w0 w K x t) (n:Int) :
  Calls Tryz.prog 53 #[.pointer (some (K.wb,0)),n] w fun e w'=>e=.returned (terr s (x.flE n))/\∃K',Wd w0 w' K' (x.dlv n) t/\Mv K K' w w' :=
 (deliver_wm S h n).mono fun _ _ ⟨e,K',wd,m⟩=>⟨e,K',wd,m.toMv⟩
end
theorem note_nd {w0 w:World} {k:Bk} {x:No} {m n:Nat} (h:Nd w0 w k x m n) (cl:Bool) (p:Option Addr) (a c:Nat) :
  Calls Tryz.prog 212 #[.pointer (some (k.nd,0)),.bool cl,.slice p a c] w fun e w'=>e=.returned (.agg #[x.id,x.life,x.ro.ep,.bool cl,.slice p a c])/\Below w w w':=by
 have HN:Hid (Nd w0 w k x m n):=h
 have HE:Hid (∀u,Rol u k.ro x.ro->Calls Tryz.prog 79 #[.pointer (some (k.ro,0))] u fun e w'=>e=.returned x.ro.ep/\w'=u):=fun u R=>epochR_any k.ro x.ro u R
 clear h
 go_enter Tryz.func212,Tryz.ntmps212
 go_wp2_with fail
 have B1:Hid (Below w w (w.alloc (.cells #[.int .i64 0,.int .i64 0,.int .i64 0,.bool false,.slice none 0 0] 175))):=aB _ _
 have N1:Hid (Nd w0 (w.alloc (.cells #[.int .i64 0,.int .i64 0,.int .i64 0,.bool false,.slice none 0 0] 175)) k x m n):=HN.below B1
 have c0:(w.alloc (.cells #[.int .i64 0,.int .i64 0,.int .i64 0,.bool false,.slice none 0 0] 175)).drew.cell? (k.nd,0)=some (.pointer (some (k.ro,0))):=N1.c0
 have c1:(w.alloc (.cells #[.int .i64 0,.int .i64 0,.int .i64 0,.bool false,.slice none 0 0] 175)).drew.cell? (k.nd,1)=x.id:=N1.c1
 have c2:(w.alloc (.cells #[.int .i64 0,.int .i64 0,.int .i64 0,.bool false,.slice none 0 0] 175)).drew.cell? (k.nd,2)=x.life:=N1.c2
 have R1:Hid (Rol (w.alloc (.cells #[.int .i64 0,.int .i64 0,.int .i64 0,.bool false,.slice none 0 0] 175)).drew k.ro x.ro):=N1.drew.ro
 go_region_with (first
  | (go_at_call 79;refine(HE _ R1).mono ?_;rintro e w2 ⟨rfl,hw2⟩;obtain rfl:=hw2.symm))
 all_goals go_wp2_with fail
 all_goals exact bodyPost_ret (v:=.agg #[x.id,x.life,x.ro.ep,.bool cl,.slice p a c]) (by simp[results,Tryz.results212,go_sem]) rfl ⟨rfl,((Below.refl _ _).alloc (Nat.le_refl _) _).drew⟩
section
variable {w w0:World} {base n m:Nat} {v:Value} {x:No} {k:Bk}
def noteC (x:No) (cl:Bool) (cv:Value):List Value:=[.int .i64 x.id,.int .i64 x.life,.int .i64 x.ro.ep,.bool cl,cv]
theorem Tryz.infoNote:(Tryz.prog.info? 175).map (fun i=>(i.zero,i.size,i.bytes))=some (some (.agg #[.int .i64 0,.int .i64 0,.int .i64 0,.bool false,.slice none 0 0]),5,56):=by kernel_rfl
def CelV (w:World) (base:Nat) (T:Tb) (L:List Nat) (v:Value):Prop:=(L=[]/\v=.slice none 0 0)\/∃Z,v=.slice (some ⟨Z,0,none⟩) 8 8/\base<=Z/\RowsB w Z T L/\L.length=8
def NtsV (w:World) (base:Nat) (x:No) (l:List Nt) (v:Value):Prop:=∃p cap,v=.slice p l.length cap/\(l.length<=cap/\(l=[]->p=none/\cap=0))/\∀(i:Nat) t,l[i]? = some t->∃g cv,p=some ⟨g,0,none⟩/\base<=g/\CelV w base x.T t.L cv/\∀(j:Nat) u,(noteC x t.cl cv)[j]? = some u->w.cell? ⟨g,i * 5+j,none⟩=some u
theorem owns_chgL {w':World} {size:Nat} {e:TypeId} {cs:List Value} {l:List Nat} (h:w.ownsRow base e size v n cs) (hc:ChgL l w w') (hb:∀b ∈ l,b < base):w'.ownsRow base e size v n cs:=by
 have hlt:=h.lt
 obtain⟨h1,h2⟩:=h
 refine⟨h1,?_⟩
 rcases h2 with⟨rfl,h0⟩ | ⟨g,cap,cur,rfl,q1,hh,q2⟩
 ·exact .inl ⟨rfl,h0⟩
 ·refine .inr ⟨g,cap,cur,rfl,q1,?_,q2⟩
  rw[hc.block g (hlt g rfl).2 (fun hm=>by have:=hb g hm;omega)]
  exact hh
theorem NtsV.nil (w:World) (base:Nat) (x:No):NtsV w base x [] (.slice none 0 0):=⟨none,0,rfl,⟨Nat.le_refl _,fun _=>⟨rfl,rfl⟩⟩,fun i t h=>by simp at h⟩
theorem NtsV.one {t:Nt} {cv:Value} (h:w.ownsRow base 175 5 v 1 (noteC x t.cl cv)) (hc:CelV w base x.T t.L cv):NtsV w base x [t] v:=by
 obtain⟨h1,h2⟩:=h
 rcases h2 with⟨_,h0⟩ | ⟨g,cap,cur,rfl,q1,hh,q2,q3,q4,ht⟩
 ·cases h0
 ·refine⟨some ⟨g,0,none⟩,cap,rfl,⟨q2,fun e=>by cases e⟩,fun i t' hi=>?_⟩
  match i,hi with
  | 0,hi =>
   obtain rfl:t=t':=by simpa using hi
   refine⟨g,cv,rfl,q1,hc,fun j u hu=>?_⟩
   have hj:j < 5:=(List.getElem?_eq_some_iff.1 hu).1
   rw[<- ht,List.getElem?_take,if_pos (by omega),Array.getElem?_toList]at hu
   rw[cell_of_row w g _ _ _ _ hh,Nat.zero_mul,Nat.zero_add]
   exact hu
theorem NtsV.two {t u:Nt} {cv dv:Value} (h:w.ownsRow base 175 5 v 2 (noteC x t.cl cv++noteC x u.cl dv)) (hc:CelV w base x.T t.L cv) (hd:CelV w base x.T u.L dv):NtsV w base x [t,u] v:=by
 obtain⟨h1,h2⟩:=h
 rcases h2 with⟨_,h0⟩ | ⟨g,cap,cur,rfl,q1,hh,q2,q3,q4,ht⟩
 ·cases h0
 ·refine⟨some ⟨g,0,none⟩,cap,rfl,⟨q2,fun e=>by cases e⟩,fun i t' hi=>?_⟩
  match i,hi with
  | 0,hi =>
   obtain rfl:t=t':=by simpa using hi
   refine⟨g,cv,rfl,q1,hc,fun j z hu=>?_⟩
   have hj:j < 5:=(List.getElem?_eq_some_iff.1 hu).1
   have hz:(noteC x t.cl cv++noteC x u.cl dv)[j]? = some z:=by rw[List.getElem?_append_left (by simpa [noteC] using hj)];exact hu
   rw[<- ht,List.getElem?_take,if_pos (by omega),Array.getElem?_toList]at hz
   rw[cell_of_row w g _ _ _ _ hh,Nat.zero_mul,Nat.zero_add]
   exact hz
  | 1,hi =>
   obtain rfl:u=t':=by simpa using hi
   refine⟨g,dv,rfl,q1,hd,fun j z hu=>?_⟩
   have hj:j < 5:=(List.getElem?_eq_some_iff.1 hu).1
   have hz:(noteC x t.cl cv++noteC x u.cl dv)[5+j]? = some z:=by rw[List.getElem?_append_right (by simp[noteC])];simpa [noteC] using hu
   rw[<- ht,List.getElem?_take,if_pos (by omega),Array.getElem?_toList]at hz
   rw[cell_of_row w g _ _ _ _ hh,Nat.one_mul]
   exact hz
theorem noteC_one (x:No) (cl:Bool) (p:Option Addr) (a c:Nat):∀u ∈ noteC x cl (.slice p a c),u.oneCell'=true:=fun u hu=>by
 simp only[noteC,List.mem_cons,List.not_mem_nil,or_false]at hu
 rcases hu with rfl | rfl | rfl | rfl | rfl <;> rfl
theorem grown_chgL {u u':World} {row:Option Nat} (h:u.grownBy u' row):ChgL row.toList u u' :=
 ⟨h.os,h.tape,h.output,h.size,fun k hk hn=>h.block k hk (fun e=>hn (by rw[<- e];simp))⟩
theorem RowsB.kept {w':World} {Z:Nat} {T:Tb} {L:List Nat} (h:RowsB w Z T L) (e:w'.heap[Z]? = w.heap[Z]?):RowsB w' Z T L:=by
 obtain⟨cs,h1,h2⟩:=h
 exact⟨cs,by rw[e];exact h1,h2⟩
theorem Nd.rlt2 (h:Nd w0 w k x m n) (hn:x.ru≠[]):∀a,k.rp=some a->a.block < w.heap.size:=fun a e=>by
 obtain⟨r,hr'⟩:=List.exists_mem_of_ne_nil _ hn
 obtain⟨i,hi⟩:=List.getElem?_of_mem hr'
 obtain⟨b,o,e2,h0,_⟩:=h.ru i r hi
 rw[e]at e2
 cases e2
 have q:b < w.heap.size:=tlt h0
 exact q
theorem grown_nd {u u':World} {y:No} {m' n':Nat} {row:Option Nat} (H:Nd w0 w k x m n) (h:Nd w0 u k y m' n') (hy:y.ru=x.ru) (c:ChgL k.all w u) (g:u.grownBy u' row) (hr:∀q,row=some q->w.heap.size<=q):Nd w0 u' k y m' n'/\ChgL k.all w u':=by
 have g':=grown_chgL g
 have hq:∀b ∈ row.toList,w.heap.size<=b:=fun b hb=>hr b (by simpa using hb)
 refine⟨h.kept g' (fun b hb hm=>?_) (fun hn a e hm=>?_) (fun b hb=>Nat.le_trans H.bl.size (hq b hb)),?_⟩
 ·have:=hq b hm;have:=H.lt b hb;omega
 ·have:=hq _ hm;have:=H.rlt2 (by rw[<- hy];exact hn) a e;omega
 ·have h1:ChgL (k.all++row.toList) w u:=c.mono (fun b hb=>Or.inl (List.mem_append_left _ hb))
  have h2:ChgL (k.all++row.toList) u u':=g'.mono (fun b hb=>Or.inl (List.mem_append_right _ hb))
  exact(h1.trans h2).mono (fun b hb=>by rcases List.mem_append.1 hb with q | q;exact Or.inl q;exact Or.inr (hq b q))
theorem notes_nd (h:Nd w0 w k x m n) (fresh:Bool) (h0:0<=x.now) (hm:m<=1000000000) (hn:n<=100000000) :
  Calls Tryz.prog 178 #[.pointer (some ⟨k.nd,0,none⟩),.bool fresh] w fun e w'=>(∃v,e=.returned v/\NtsV w' w.heap.size x (x.notes fresh) v)/\(∃n',n'<=n+8/\Nd w0 w' k x.noted m n')/\ChgL k.all w w':=by
 obtain⟨i0,hi,hz0,hz1,hz2⟩:=info_parts Tryz.infoNote
 have HN:Hid (Nd w0 w k x m n):=h
 have HM:Hid (m<=1000000000/\n<=100000000):=⟨hm,hn⟩
 have c0:=h.c0
 have c3:=h.c3
 have hdue:Int.tmod x.now 3=x.now % 3:=Int.tmod_eq_emod_of_nonneg h0
 have HD:Hid (x.due=decide (x.now % 3=0)):=rfl
 clear h h0 hm hn
 cases ha:x.ro.ac
 ·have HX:Hid (x.notes fresh=[]/\x.noted=x):=by
   constructor
   ·unfold No.notes;rw[ha];rfl
   ·unfold No.noted;rw[ha];rfl
  go_enter Tryz.func178,Tryz.ntmps178
  go_wp2_with fail
  refine(active_any k.ro x.ro w HN.out.ro).mono ?_
  rintro e w1 ⟨rfl,rfl⟩
  rw[ha]
  go_wp2_with fail
  go_ret
  rw[HX.out.1,HX.out.2]
  exact⟨⟨_,rfl,NtsV.nil _ _ _⟩,⟨n,by omega,HN.out⟩,ChgL.refl _ _⟩
 ·have HAC:Hid (x.ro.ac=true):=ha
  have HB:Hid (∀b ∈ k.all,b < w.heap.size):=HN.out.lt
  rcases hd:x.due with _ | _
  ·have hd3:¬x.now % 3=0:=by rw[HD.out]at hd;simpa using hd
   have HX2:Hid (x.noted=x):=by show _=_;unfold No.noted;rw[ha,hd];rfl
   cases fresh
   ·have HX:Hid (x.notes false=[]):=by show _=_;unfold No.notes;rw[ha,hd];rfl
    clear hd HD
    go_enter Tryz.func178,Tryz.ntmps178
    go_wp2_with fail
    refine(active_any k.ro x.ro w HN.out.ro).mono ?_
    rintro e w1 ⟨rfl,rfl⟩
    rw[HAC.out]
    go_wp2_with fail
    go_ret
    rw[HX.out,HX2.out]
    exact⟨⟨_,rfl,NtsV.nil _ _ _⟩,⟨n,by omega,HN.out⟩,ChgL.refl _ _⟩
   ·have HX:Hid (x.notes true=[⟨true,[]⟩]):=by show _=_;unfold No.notes;rw[ha,hd];rfl
    clear hd HD
    go_enter Tryz.func178,Tryz.ntmps178
    go_wp2_with fail
    refine(active_any k.ro x.ro w HN.out.ro).mono ?_
    rintro e w1 ⟨rfl,hw1⟩
    obtain rfl:=hw1.symm
    rw[HAC.out]
    go_wp2_with fail
    refine(note_nd HN.out true none 0 0).mono ?_
    rintro e w2 ⟨rfl,hb2⟩
    have B2:Hid (Below w.heap.size w w2):=hb2
    clear hb2
    go_wp2_with (at_builtin;refine wpList_append_own _ rfl _ _ 109 rfl w.heap.size 175 i0 _ 5 56 Tryz.underlying109 hi hz0 hz1 hz2 rfl (by decide) (.slice none 0 0) 0 [] rfl (World.ownsRow_nil _ _ _ _) ⟨w2.heap.size,0,none⟩ 1 1 (noteC x true (.slice none 0 0)) rfl rfl ?c1 (noteC_one _ _ _ _ _) ?c3 ?c4 ?c5 ?_)
    case c1 =>
     intro q u hu
     rw[tadd,Nat.zero_add,cell_of_row _ _ _ _ _ _ (heap_alloc_new w2 _)]
     simpa [noteC] using hu
    case c3=>unfold maxLen;omega
    case c4=>omega
    case c5=>have:=B2.out.size;simp;omega
    intro v3 w3 hO3 hg3 _
    have O3:Hid (w3.ownsRow w.heap.size 175 5 v3 1 (noteC x true (.slice none 0 0))):=hO3
    have B3:Hid (Below w.heap.size w w3):=(B2.out.alloc B2.out.size _).grown hg3 (by have:=B2.out.size;simp;omega) (fun q hq=>by simp[Value.ownBlock]at hq)
    clear hO3 hg3 B2
    go_wp2_with fail
    go_ret
    rw[HX.out,HX2.out]
    exact⟨⟨_,rfl,NtsV.one O3.out (Or.inl ⟨rfl,rfl⟩)⟩,⟨n,by omega,HN.out.below B3.out⟩,ChgL.of B3.out⟩
  ·have hd3:x.now % 3=0:=by rw[HD.out]at hd;simpa using hd
   have HX:Hid (x.notes fresh=[⟨true,[]⟩,⟨false,nxL x.T x.D x.cu⟩]):=by show _=_;unfold No.notes;rw[ha,hd];cases fresh <;> rfl
   have HX2:Hid (x.noted={x with D:=toldD x.T x.D (nxL x.T x.D x.cu),cu:=nxC x.T x.D x.cu}):=by show _=_;unfold No.noted;rw[ha,hd];rfl
   clear hd HD
   cases fresh
   all_goals
    go_enter Tryz.func178,Tryz.ntmps178
    go_wp2_with fail
    refine(active_any k.ro x.ro w HN.out.ro).mono ?_
    rintro e w1 ⟨rfl,hw1⟩
    obtain rfl:=hw1.symm
    rw[HAC.out]
    go_wp2_with fail
    refine(note_nd HN.out true none 0 0).mono ?_
    rintro e w2 ⟨rfl,hb2⟩
    have B2:Hid (Below w.heap.size w w2):=hb2
    clear hb2
    go_wp2_with (at_builtin;refine wpList_append_own _ rfl _ _ 109 rfl w.heap.size 175 i0 _ 5 56 Tryz.underlying109 hi hz0 hz1 hz2 rfl (by decide) (.slice none 0 0) 0 [] rfl (World.ownsRow_nil _ _ _ _) ⟨w2.heap.size,0,none⟩ 1 1 (noteC x true (.slice none 0 0)) rfl rfl ?c1 (noteC_one _ _ _ _ _) ?c3 ?c4 ?c5 ?_)
    case c1 =>
     intro q u hu
     rw[tadd,Nat.zero_add,cell_of_row _ _ _ _ _ _ (heap_alloc_new w2 _)]
     simpa [noteC] using hu
    case c3=>unfold maxLen;omega
    case c4=>omega
    case c5=>have:=B2.out.size;simp;omega
    intro v3 w3 hO3 hg3 _
    have O3:Hid (w3.ownsRow w.heap.size 175 5 v3 1 (noteC x true (.slice none 0 0))):=hO3
    have B3:Hid (Below w.heap.size w w3):=(B2.out.alloc B2.out.size _).grown hg3 (by have:=B2.out.size;simp;omega) (fun q hq=>by simp[Value.ownBlock]at hq)
    clear hO3 hg3 B2
    have N3:Hid (Nd w0 w3 k x m n):=HN.out.below B3.out
    have c6:=N3.out.c6
    go_wp2_with fail
    refine(tnext_nd N3.out HM.out.1 HM.out.2).mono ?_
    rintro e w4 ⟨⟨Z,rfl,hz,hr⟩,n4,k4⟩
    have N4:Hid (Nd w0 w4 k {x with D:=toldD x.T x.D (nxL x.T x.D x.cu),cu:=nxC x.T x.D x.cu} m (n+8)):=n4
    have K4:Hid (ChgL k.all w w4):=(ChgL.of B3.out).trans k4
    have O4:Hid (w4.ownsRow w.heap.size 175 5 v3 1 (noteC x true (.slice none 0 0))):=owns_chgL O3.out k4 HB.out
    have R4:Hid (RowsB w4 Z x.T (nxL x.T x.D x.cu)):=hr
    have ZZ:Hid (w.heap.size<=Z):=Nat.le_trans B3.out.size hz
    have VZ:Hid (∀q,v3.ownBlock=some q->q≠Z/\w.heap.size<=q):=fun q hq=>by have:=O3.out.lt q hq;exact⟨by omega,this.1⟩
    have S4:Hid (w.heap.size<=w4.heap.size):=K4.out.size
    clear n4 k4 hr hz c6 O3 B3 N3
    go_wp2_with fail
    refine(note_nd N4.out false (some ⟨Z,0,none⟩) 8 8).mono ?_
    rintro e w5 ⟨rfl,hb5⟩
    have B5:Hid (Below w4.heap.size w4 w5):=hb5
    have O5:Hid (w5.ownsRow w.heap.size 175 5 v3 1 (noteC x true (.slice none 0 0))):=owns_chgL (l:=[]) O4.out (ChgL.of hb5) (fun _ hm=>by simp at hm)
    clear hb5 O4
    go_wp2_with (at_builtin;refine wpList_append_own _ rfl _ _ 109 rfl w.heap.size 175 i0 _ 5 56 Tryz.underlying109 hi hz0 hz1 hz2 rfl (by decide) v3 1 (noteC x true (.slice none 0 0)) rfl (O5.out.alloc _) ⟨w5.heap.size,0,none⟩ 1 1 (noteC x false (.slice (some ⟨Z,0,none⟩) 8 8)) rfl rfl ?c1 (noteC_one _ _ _ _ _) ?c3 ?c4 ?c5 ?_)
    case c1 =>
     intro q u hu
     rw[tadd,Nat.zero_add,cell_of_row _ _ _ _ _ _ (heap_alloc_new w5 _)]
     simpa [noteC] using hu
    case c3=>unfold maxLen;omega
    case c4=>omega
    case c5=>have:=B5.out.size;have:=S4.out;simp;omega
    intro v6 w6 hO6 hg6 _
    have O6:Hid (w6.ownsRow w.heap.size 175 5 v6 2 (noteC x true (.slice none 0 0)++noteC x false (.slice (some ⟨Z,0,none⟩) 8 8))):=hO6
    have G6:Hid (∃u,(Below w4.heap.size w4 u)/\u.grownBy w6 v3.ownBlock):=⟨_,B5.out.alloc B5.out.size _,hg6⟩
    clear hO6 hg6
    go_wp2_with fail
    go_ret
    obtain⟨u,bu,gu⟩:=G6.out
    obtain⟨r1,r2⟩:=grown_nd HN.out (N4.out.below bu) rfl (K4.out.then bu) gu (fun q hq=>(VZ.out q hq).2)
    rw[HX.out,HX2.out]
    refine⟨⟨_,rfl,NtsV.two O6.out (Or.inl ⟨rfl,rfl⟩) (Or.inr ⟨Z,rfl,ZZ.out,?_,(nx_spec x.T x.D x.cu).len⟩)⟩,⟨n+8,by omega,r1⟩,r2⟩
    exact(R4.out.below bu).kept (gu.block Z (R4.out.below bu).lt (fun e=>(VZ.out Z e.symm).1 rfl))
theorem NtsV.mono {b b':Nat} {l:List Nt} (h:NtsV w b x l v) (hb:b'<=b):NtsV w b' x l v:=by
 obtain⟨p,cap,e,hq,hh⟩:=h
 refine⟨p,cap,e,hq,fun i t ht=>?_⟩
 obtain⟨g,cv,e1,e2,e3,e4⟩:=hh i t ht
 refine⟨g,cv,e1,Nat.le_trans hb e2,?_,e4⟩
 rcases e3 with q | ⟨Z,q1,q2,q3⟩
 ·exact Or.inl q
 ·exact Or.inr ⟨Z,q1,Nat.le_trans hb q2,q3⟩
theorem rings_ac {r:Ro} (h:r.rings=true):r.tick.ac=false/\r.ac=false:=by
 unfold Ro.rings at h
 unfold Ro.tick
 cases ha:r.ac
 ·exact⟨by simp,rfl⟩
 ·rw[ha]at h;simp at h
theorem onNow_nd (h:Nd w0 w k x m n) (t:Int):Nd w0 (w.setCell ⟨k.nd,3,none⟩ (.int .i64 t)) k {x with now:=t} m n/\ChgL k.all w (w.setCell ⟨k.nd,3,none⟩ (.int .i64 t)):=⟨h.onNow t,ChgL.one (Chg.set _ _ _ _) k.m_nd⟩
theorem tick_nd {s:Nat->Addr} (S:SeN w0 s) (h:Nd w0 w k x m n) (h0:0<=x.now) (h1:x.now<=999999999) (hm:m<=90000000) (hn:n<=100000000) :
  Calls Tryz.prog 142 #[.pointer (some ⟨k.nd,0,none⟩)] w fun e w'=>(∃v,e=.returned (.tuple #[v,terr s x.tkE])/\NtsV w' w.heap.size x.tk1 x.tickL v)/\(∃n',n'<=n+8/\Nd w0 w' k x.tick (m+33) n')/\ChgL k.all w w':=by
 have HS:Hid (SeN w0 s):=S
 have HN:Hid (Nd w0 w k x m n):=h
 have HW:Hid (0<=x.now/\x.now<=999999999/\m<=90000000/\n<=100000000):=⟨h0,h1,hm,hn⟩
 have c3:=h.c3
 have f3:=h.nd.fr 3
 have hne:(x.now==1099511627776)=false:=by rw[beq_eq_false_iff_ne];omega
 have hw:IntKind.i64.wrap (x.now+1)=x.now+1:=by rw[IntKind.wrap_i64];omega
 clear S h h0 h1 hm hn
 go_enter Tryz.func142,Tryz.ntmps142
 go_upto_region 4 with fail
 go_wp2_with fail
 have N1:Hid (Nd w0 (w.setCell ⟨k.nd,3,none⟩ (.int .i64 (x.now+1))) k {x with now:=x.now+1} m n):=(onNow_nd HN.out _).1
 have K1:Hid (ChgL k.all w (w.setCell ⟨k.nd,3,none⟩ (.int .i64 (x.now+1)))):=(onNow_nd HN.out _).2
 clear c3 f3 hne hw
 generalize w.setCell ⟨k.nd,3,none⟩ (.int .i64 (x.now+1))=w1 at *
 have hS:w1.drew.cell? ⟨k.nd,6,none⟩=some (.pointer (some ⟨k.te,0,none⟩))/\w1.drew.cell? ⟨k.te,0,none⟩=some (.pointer (some ⟨k.tb,0,none⟩))/\w1.drew.cell? ⟨k.nd,3,none⟩=some (.int .i64 (x.now+1)):=⟨N1.out.c6,N1.out.t0,N1.out.c3⟩
 go_region_held3 (fun w'=>w'.cell? ⟨k.nd,6,none⟩=some (.pointer (some ⟨k.te,0,none⟩))/\w'.cell? ⟨k.te,0,none⟩=some (.pointer (some ⟨k.tb,0,none⟩))/\w'.cell? ⟨k.nd,3,none⟩=some (.int .i64 (x.now+1)))
  (first | assumption | exact⟨N2.out.c6,N2.out.t0,N2.out.c3⟩)
  (first | (go_at_call 175;refine(expire_nd N1.out.drew (by have:=HW.out;omega) (x.now+1)).mono ?_;rintro e w2 ⟨⟨v2,rfl⟩,n2,k2⟩;have N2:Hid (Nd w0 w2 k {x with now:=x.now+1,T:=expT x.T (x.now+1) 32} (m+1) n):=n2;have K2:Hid (ChgL k.all w w2):=(K1.out.then (Below.refl _ _).drew).trans k2;clear n2 k2))
 clear hS
 have c0:=N2.out.c0
 go_wp2_with fail
 refine(active_any k.ro x.ro w2 N2.out.ro).mono ?_
 rintro e w3 ⟨rfl,hw3⟩
 obtain rfl:=hw3.symm
 clear hw3
 go_wp2_with fail
 obtain⟨r,hr⟩:∃r,x.ro.rings=r:=⟨_,rfl⟩
 refine(rtick_nd N2.out r hr).mono ?_
 rintro e w3 ⟨rfl,n3,k3⟩
 have N3:Hid (Nd w0 w3 k x.ticked (m+1) n):=n3
 have K3:Hid (ChgL k.all w w3):=K2.out.trans k3
 clear n3 k3 N1 K1 N2 K2 c0
 cases r
 ·have HE:Hid (x.tkE=0):=by show _=_;unfold No.tkE;rw[hr];rfl
  have HT:Hid (x.tk1=x.ticked):=by show _=_;unfold No.tk1;rw[hr];rfl
  have HL:Hid (x.tickL=x.ticked.notes (!x.ro.ac)):=by show _=_;unfold No.tickL;rw[HE.out,HT.out];rfl
  have HX:Hid (x.tick=x.ticked.noted):=by show _=_;unfold No.tick;rw[HE.out,HT.out];rfl
  go_wp2_with fail
  refine(notes_nd N3.out (!x.ro.ac) (by have:=HW.out;show 0<=x.now+1;omega) (by have:=HW.out;omega) HW.out.2.2.2).mono ?_
  rintro e w4 ⟨⟨v4,rfl,nv⟩,⟨n',hn',n4⟩,k4⟩
  have V4:Hid (NtsV w4 w.heap.size x.ticked (x.ticked.notes (!x.ro.ac)) v4):=nv.mono K3.out.size
  have N4:Hid (Nd w0 w4 k x.ticked.noted (m+1) n'):=n4
  have K4:Hid (ChgL k.all w w4):=K3.out.trans k4
  have HNN:Hid (n'<=n+8):=hn'
  clear nv n4 k4 hn'
  go_wp2_with fail
  go_ret2
  exact⟨⟨v4,by rw[HE.out];rfl,by rw[HT.out,HL.out];exact V4.out⟩,⟨n',HNN.out,by rw[HX.out];exact N4.out.more (by omega)⟩,K4.out⟩
 ·have HAC:=rings_ac hr
  have HC:Hid (x.tk1=x.ticked.clm/\x.tkE=x.ticked.clE):=by
   constructor
   ·unfold No.tk1;rw[hr];rfl
   ·unfold No.tkE;rw[hr];rfl
  have HF:Hid (x.ro.ac=false):=HAC.2
  have HA2:Hid (x.ticked.ro.ac=false):=HAC.1
  clear HAC
  go_wp2_with fail
  refine(nclaim_nd HS.out N3.out HA2.out (by have:=HW.out;show 0<=x.now+1;omega) (by have:=HW.out;show x.now+1<=_;omega) (by have:=HW.out;omega)).mono ?_
  rintro e w4 ⟨rfl,n4,k4⟩
  have N4:Hid (Nd w0 w4 k x.ticked.clm (m+33) n):=n4.more (by omega)
  have K4:Hid (ChgL k.all w w4):=K3.out.trans k4
  clear n4 k4 N3 K3
  by_cases he:x.ticked.clE=0
  ·have HE:Hid (x.tkE=0):=by show _=_;rw[HC.out.2,he]
   have HL:Hid (x.tickL=x.ticked.clm.notes (!x.ro.ac)):=by show _=_;unfold No.tickL;rw[HE.out,HC.out.1];rfl
   have HX:Hid (x.tick=x.ticked.clm.noted):=by show _=_;unfold No.tick;rw[HE.out,HC.out.1];rfl
   have HNW:Hid (x.ticked.clm.now=x.now+1):=by show _=_;unfold No.clm;split;split;rfl;rfl;rfl
   rw[he]
   clear he
   simp only[terr]
   go_wp2_with fail
   refine(notes_nd N4.out (!x.ro.ac) (by rw[HNW.out];have:=HW.out;omega) (by have:=HW.out;omega) HW.out.2.2.2).mono ?_
   rintro e w5 ⟨⟨v5,rfl,nv⟩,⟨n',hn',n5⟩,k5⟩
   have V5:Hid (NtsV w5 w.heap.size x.ticked.clm (x.ticked.clm.notes (!x.ro.ac)) v5):=nv.mono K4.out.size
   have N5:Hid (Nd w0 w5 k x.ticked.clm.noted (m+33) n'):=n5
   have K5:Hid (ChgL k.all w w5):=K4.out.trans k5
   have HNN:Hid (n'<=n+8):=hn'
   clear nv n5 k5 hn'
   go_wp2_with fail
   go_ret2
   exact⟨⟨v5,by rw[HE.out];rfl,by rw[HC.out.1,HL.out];exact V5.out⟩,⟨n',HNN.out,by rw[HX.out];exact N5.out⟩,K5.out⟩
  ·have HE:Hid (¬x.tkE=0):=by show ¬_=_;rw[HC.out.2];exact he
   have HL:Hid (x.tickL=[]):=by show _=_;unfold No.tickL;rw[if_neg HE.out]
   have HX:Hid (x.tick=x.ticked.clm):=by show _=_;unfold No.tick;rw[if_neg HE.out,HC.out.1]
   obtain⟨e1,he1⟩:∃e1,x.ticked.clE=e1+1:=⟨x.ticked.clE - 1,by omega⟩
   have HE1:Hid (x.tkE=e1+1):=by show _=_;rw[HC.out.2,he1]
   rw[he1]
   clear he he1
   simp only[terr]
   go_wp2_with fail
   go_ret2
   exact⟨⟨_,by rw[HE1.out];rfl,by rw[HL.out];exact NtsV.nil _ _ _⟩,⟨n,by omega,by rw[HX.out];exact N4.out⟩,K4.out⟩
end
end Go.Proofs.YtabndgfdbdjdgaaGreatDoor
