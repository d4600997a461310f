/-
  What the claimed theorem reaches, part Q19.
-/
import Derived.Test.YtabndgfdbdjdgaaGreatDoorQ18
import Derived.Maps.AppendAt
import Derived.Laws.OwnMore
import Derived.Test.YtabndgfdbdjdgaaGreatDoorQ00
namespace Go.Proofs.YtabndgfdbdjdgaaGreatDoor
open Go.RowKit
set_option maxRecDepth 100000
set_option maxHeartbeats 8000000
section
variable {w w0:World} {g n cap t:Nat} {x:Wo}
theorem Tryz.infoEv:(Tryz.prog.info? 108).map (fun i=>(i.zero,i.size,i.bytes))=some (some (.agg #[.int .i64 0,.int .i64 0]),2,16):=by kernel_rfl
def evC (l:List (Int×Int)):List Value:=l.flatMap fun e=>[e.1,e.2]
theorem evC_snoc (l:List (Int×Int)) (a b:Int):evC (l++[(a,b)])=evC l++[.int .i64 a,.int .i64 b]:=by simp[evC]
theorem ownsRow_base {b b' size:Nat} {e:TypeId} {xs:List Value} (h:w.ownsRow b e size (.slice (some (g,0)) n cap) n xs) (hb:b'<=g):w.ownsRow b' e size (.slice (some (g,0)) n cap) n xs:=by
 obtain⟨h1,h2⟩:=h
 rcases h2 with⟨q,_⟩ | ⟨g',cap',cur,q,_,r⟩
 ·cases q
 ·cases q
  exact⟨h1,.inr ⟨_,_,cur,rfl,hb,r⟩⟩
theorem owns_chgW {w':World} {b size c:Nat} {e:TypeId} {v:Value} {xs:List Value} (h:w.ownsRow b e size v n xs) (g:Chg c w w') (hn:v.ownBlock≠some c):w'.ownsRow b e size v n xs:=by
 obtain⟨h1,h2⟩:=h
 refine⟨h1,?_⟩
 rcases h2 with q | ⟨g',cap',cur,rfl,q1,q2,r⟩
 ·exact .inl q
 ·refine .inr ⟨g',cap',cur,rfl,q1,?_,r⟩
  have hl:g' < w.heap.size:=by
   rcases Nat.lt_or_ge g' w with a | a
   ·exact a
   ·rw[Array.getElem?_eq_none a]at q2;cases q2
  rw[g.block g' hl (fun e=>hn (by rw[<- e];rfl))]
  exact q2
theorem ownBlock_some (g n c:Nat):(Value.slice (some (g,0)) n c).ownBlock=some g:=rfl
theorem Wd.evo {K:WK} (h:Wd w0 w K x t):∃p c,slV K.eg x.ev.length=.slice p x.ev.length c/\w.ownsRow w0 108 2 (.slice p x.ev.length c) x.ev.length (evC x.ev)/\(∀g,(Value.slice p x.ev.length c).ownBlock=some g->K.tag g=4/\K.eg=some (g,c)):=by
 rcases h.ev.rows with⟨e1,e2⟩ | ⟨g,c,e,R⟩
 ·rw[e1,e2]
  exact⟨none,0,rfl,⟨rfl,.inl ⟨rfl,rfl⟩⟩,fun g hg=>by cases hg⟩
 ·have ht:=h.tg 4 (by omega) g (by simp[WK.part,e])
  rw[e]
  exact⟨_,c,rfl,ownsRow_base R ht.2,fun g' hg=>by cases hg;exact⟨ht.1,rfl⟩⟩
def WK.evd (K:WK) (g c a:Nat):WK:={K with eg:=some (g,c),tag:=fun b=>if b < a then K.tag b else if b=g then 4 else 9}
theorem WdB.evd {K:WK} (h:WdB w K x) (g c a:Nat) (l:List (Int×Int)):WdB (w.setCell (K.wb,8) (.slice (some (g,0)) l.length c)) (K.evd g c a) {x with ev:=l}:=by
 unfold WdB
 show(w.setCell (K.wb,8) (.slice (some (g,0)) l.length c)).heap[K.wb]? = _
 rw[heap_setCell_same w _ _ _ _ _ h]
 rfl
theorem Wd.evFin {w4:World} {K:WK} {g' c':Nat} {a b:Int} (h:Wd w0 w K x t) (C4:ChgL (K.part 4) w w4) (own:w4.ownsRow w0 108 2 (.slice (some (g',0)) (x.ev.length+1) c') (x.ev.length+1) (evC x.ev++[.int .i64 a,.int .i64 b])) (hg:g' ∈ K.part 4\/w.heap.size<=g') (hlt:x.ev.length < 1000) :
  Wd w0 (w4.setCell (K.wb,8) (.slice (some (g',0)) (x.ev.length+1) c')) (K.evd g' c' w) {x with ev:=x.ev++[(a,b)]} t/\Mv K (K.evd g' c' w) w (w4.setCell (K.wb,8) (.slice (some (g',0)) (x.ev.length+1) c')):=by
 have hwt:=h.wb0
 have hp4:=h.tg 4 (by omega)
 have hwb4:¬K.wb ∈ K.part 4:=fun hm=>by have:=(hp4 _ hm).1;omega
 have hl:∀q ∈ K.wb::K.part 4,w0.heap.size<=q/\(K.tag q=0\/K.tag q=4):=fun q hq=>by
  rcases List.mem_cons.1 hq with rfl | hm
  ·exact⟨hwt.2,.inl hwt.1⟩
  ·exact⟨(hp4 q hm).2,.inr (hp4 q hm).1⟩
 have hgw:g'≠K.wb:=by
  rcases hg with hm | hm
  ·exact fun e=>hwb4 (e ▸ hm)
  ·have:=h.wb.lt;omega
 obtain⟨_,_,e,hg0,hgl,_,_⟩:∃g c,Value.slice (some (g',0)) (x.ev.length+1) c'=.slice (some ⟨g,0,none⟩) (x.ev.length+1) c/\w0.heap.size<=g/\g < w4.heap.size/\x.ev.length+1<=c/\c<=maxLen:=by
  rcases ownsRow_cases own with⟨q,_⟩ | q
  ·cases q
  ·exact q
 cases e
 have g3:Chg K.wb w4 (w4.setCell (K.wb,8) (.slice (some (g',0)) (x.ev.length+1) c')):=Chg.set _ _ _ _
 have hWB4:WdB w4 K x:=h.wb.kept (C4.block _ h.wb.lt hwb4)
 have hWB:=hWB4.evd g' c' w (x.ev++[(a,b)])
 have hlen:(x.ev++[(a,b)]).length=x.ev.length+1:=by simp
 rw[hlen]at hWB
 have own5:=owns_chgW own g3 (by rw[ownBlock_some];intro e;cases e;exact hgw rfl)
 have hsz:(w4.setCell (K.wb,8) (.slice (some (g',0)) (x.ev.length+1) c')).heap.size=w4.heap.size:=by simp[go_sem]
 generalize w4.setCell (K.wb,8) (.slice (some (g',0)) (x.ev.length+1) c')=w5 at *
 have hC:ChgL (K.wb::K.part 4) w w5:=(C4.mono (fun q hq=>.inl (List.mem_cons.2 (.inr hq)))).trans (ChgL.one g3 (by simp))
 have htag:∀q,q < w.heap.size->(K.evd g' c' w).tag q=K.tag q:=fun q hq=>if_pos hq
 have hgt:(K.evd g' c' w).tag g'=4:=by
  show(if g' < w.heap.size then K.tag g' else if g'=g' then 4 else 9)=4
  rcases hg with hm | hm
  ·rw[if_pos (h.lt (by have:=(hp4 _ hm).1;omega))];exact(hp4 _ hm).1
  ·rw[if_neg (by omega),if_pos rfl]
 have ev:EvP w5 (K.evd g' c' w) {x with ev:=x.ev++[(a,b)]}:=by
  refine⟨by show(x.ev++[(a,b)]).length<=1000;omega,.inr ⟨g',c',rfl,?_⟩⟩
  show w5.ownsRow g' 108 2 (.slice (some (g',0)) (x.ev++[(a,b)]).length c') (x.ev++[(a,b)]).length (evC (x.ev++[(a,b)]))
  rw[hlen,evC_snoc]
  exact ownsRow_base own5 (Nat.le_refl _)
 refine⟨h.make (K.wb::K.part 4) hC (fun q hq=>⟨(hl q hq).1,by have:=(hl q hq).2;omega⟩) (Nat.le_refl _) htag (fun q hq=>?_) rfl hWB (.inr ⟨rfl,rfl,rfl,rfl,fun q hq=>by have:=(hl q hq).2;omega⟩) (.inr ⟨rfl,rfl,rfl,rfl,fun q hq=>by have:=(hl q hq).2;omega⟩) (.inr ⟨rfl,rfl,rfl⟩) (.inr ⟨rfl,rfl,rfl,fun q hq=>by have:=(hl q hq).2;omega⟩) (.inl ⟨ev,fun q hq=>?_⟩),Mv.list h hC (fun q hq=>by have:=(hl q hq).2;omega) htag rfl rfl⟩
 ·rw[hsz]at hq
  show(if q < w.heap.size then K.tag q else if q=g' then 4 else 9)=9
  rw[if_neg (by have:=C4.size;omega),if_neg (by omega)]
 ·have:q=g':=by simpa [WK.part,WK.evd] using hq
  subst this
  exact⟨hgt,hg0⟩
theorem two_at (W:World) (a b:Int) (j:Nat) (u:Value) (hj:[Value.int .i64 a,b][j]? = some u):(W.alloc (.cells #[a,b] 108)).cell? (Addr.add (W.heap.size,0) j)=some u:=by
 rw[addr_addW]
 match j,hj with
 | 0,hj=>simp at hj;subst hj;simp[go_sem]
 | 1,hj=>simp at hj;subst hj;simp[go_sem]
theorem record_wm {K:WK} (h:Wd w0 w K x t) (a b:Int) :
  Calls Tryz.prog 143 #[.pointer (some (K.wb,0)),.agg #[a,b]] w fun e w'=>e=.returned (.tuple #[])/\∃K',Wd w0 w' K' (x.noted (a,b)) t/\Mw K K' w w':=by
 obtain⟨p,c,hV,hown,htag⟩:=h.evo
 obtain⟨i0,hi,hz0,hz1,hz2⟩:=info_parts Tryz.infoEv
 have HW:Hid (Wd w0 w K x t):=h
 have HV:Hid (slV K.eg x.ev.length=.slice p x.ev.length c):=hV
 have HO:Hid (w.ownsRow w0 108 2 (.slice p x.ev.length c) x.ev.length (evC x.ev)):=hown
 have HT:Hid (∀g,(Value.slice p x.ev.length c).ownBlock=some g->K.tag g=4/\K.eg=some (g,c)):=htag
 have HLE:Hid (x.ev.length<=1000):=h.ev.le
 clear h hV hown htag
 go_enter Tryz.func143,Tryz.ntmps143
 go_upto_region 1 with fail
 have HB1:Hid (Below w w (w.alloc (.cells #[a,b] 108))):=aB _ _
 have q0:(w.alloc (.cells #[a,b] 108)).cell? (w.heap.size,0)=a:=by simp[go_sem]
 have q1:(w.alloc (.cells #[a,b] 108)).cell? (w.heap.size,1)=b:=by simp[go_sem]
 generalize w.alloc (.cells #[a,b] 108)=w1 at *
 have HQ:Hid (K.tag w.heap.size=9):=HW.al _ (Nat.le_refl _)
 generalize w.heap.size=Q at q0 q1 HQ ⊢
 have W1:Hid (Wd w0 w1 K x t):=HW.below HB1
 have c8:w1.cell? (K.wb,8)=some (.slice p x.ev.length c):=by have:=W1.wb.c 8;rw[<- HV.out];exact this
 by_cases hlt:x.ev.length < 1000
 ·have HX:Hid (x.noted (a,b)={x with ev:=x.ev++[(a,b)]}):=by show _=_;unfold Wo.noted;rw[if_pos hlt]
  have hlt':(x.ev.length:Int) < 1000:=by omega
  go_wp2_with fail
  have HLT:Hid (x.ev.length < 1000):=hlt
  have O1:(w1.drew.alloc (.cells #[a,b] 108)).ownsRow w0 108 2 (.slice p x.ev.length c) x.ev.length (evC x.ev):=owns_chgL HO (ChgL.of (l:=[]) (t2 HB1 (t2 (Below.refl _ _).drew (aB _ _)))) (by simp)
  have hb2:Below w1 w1 (w1.drew.alloc (.cells #[a,b] 108)):=t2 (Below.refl _ _).drew (aB _ _)
  obtain⟨v',w4,hr,hown',hgrow,hnil,hat⟩:=run_append_own_at (P := Tryz.prog) (w1.drew.alloc (.cells #[a,b] 108)) w0 110 110 108 i0 _ 2 16 Tryz.underlying110 hi hz0 hz1 hz2 rfl (by decide) (.slice p x.ev.length c) x.ev.length (evC x.ev) O1 ⟨w1.heap.size,0,none⟩ 1 1 [a,b] rfl (two_at w1.drew a b) (by simp[Value.oneCell']) (by unfold maxLen;omega) (by omega) (by have:=W1.bl.size;simp[go_sem];omega)
  obtain⟨g',c',rfl,hg0,hg1,hg2,hg3⟩:∃g' c',v'=.slice (some ⟨g',0,none⟩) (x.ev.length+1) c'/\w0.heap.size<=g'/\g' < w4.heap.size/\x.ev.length+1<=c'/\c'<=maxLen:=by
   rcases ownsRow_cases hown' with⟨_,q⟩ | q
   ·omega
   ·exact q
  have HWB:Hid (some K.wb≠(Value.slice p x.ev.length c).ownBlock):=fun e=>by have:=(HT _ e.symm).1;rw[HW.wb0.1]at this;omega
  have HQB:Hid (some Q≠(Value.slice p x.ev.length c).ownBlock):=fun e=>by have:=(HT _ e.symm).1;rw[HQ.out]at this;omega
  have s0:w1.drew.cell? (K.wb,8)=some (.slice p x.ev.length c)/\w1.drew.cell? (Q,0)=a/\w1.drew.cell? (Q,1)=b:=⟨c8,q0,q1⟩
  have s1:(w1.drew.alloc (.cells #[a,b] 108)).cell? (K.wb,8)=some (.slice p x.ev.length c)/\(w1.drew.alloc (.cells #[a,b] 108)).cell? (Q,0)=a/\(w1.drew.alloc (.cells #[a,b] 108)).cell? (Q,1)=b:=⟨tk hb2 c8,tk hb2 q0,tk hb2 q1⟩
  have s2:w4.cell? (K.wb,8)=some (.slice p x.ev.length c)/\w4.cell? (Q,0)=a/\w4.cell? (Q,1)=b:=⟨hgrow.cell s1.1 HWB,hgrow.cell s1.2.1 HQB,hgrow.cell s1.2.2 HQB⟩
  have C4:ChgL (K.part 4) w w4:=(ChgL.of (t2 HB1 hb2)).trans ⟨hgrow.os,hgrow.tape,hgrow.output,hgrow.size,fun q hq hn=>hgrow.block q hq (fun e=>hn (by have:=(HT q e.symm).2;simp[WK.part,this]))⟩
  have hg:g' ∈ K.part 4\/w.heap.size<=g':=by
   rcases hat with e | e
   ·have:=(HT g' (e ▸ rfl)).2;exact .inl (by simp[WK.part,this])
   ·refine .inr ?_
    have e2:g'=(w1.drew.alloc (.cells #[a,b] 108)).heap.size:=by cases e;rfl
    rw[e2]
    exact(t2 HB1 hb2).size
  have FIN:Hid (Wd w0 (w4.setCell (K.wb,8) (.slice (some (g',0)) (x.ev.length+1) c')) (K.evd g' c' w) {x with ev:=x.ev++[(a,b)]} t/\Mv K (K.evd g' c' w) w (w4.setCell (K.wb,8) (.slice (some (g',0)) (x.ev.length+1) c'))):=HW.evFin C4 hown' hg HLT
  have f8:w4.frozen? (K.wb,8)=false:=(HW.wb.kept (C4.block _ HW.wb.lt (fun hm=>by have:=(HW.tg 4 (by omega) _ hm).1;rw[HW.wb0.1]at this;omega))).fr 8
  obtain⟨x0,x1,x2⟩:=s0
  obtain⟨y0,y1,y2⟩:=s1
  obtain⟨z0,z1,z2⟩:=s2
  have y3:(w1.alloc (.cells #[a,b] 108)).cell? (K.wb,8)=some (.slice p x.ev.length c):=tk (aB _ _) c8
  clear hown' hgrow hnil hat C4 hg O1 hg0 hg1 hg2 hg3 c8 q0 q1 z1 z2
  refine wp_region_any (by kernel_rfl) ?_
  try (change wpAny _ _ _ _ _ _ _ (World.drew _))
  refine wpAny_take (i:=0) (v:=?_) rfl (by kernel_rfl) (by kernel_rfl) (by kernel_rfl) (fun _ _ _ h=>h) (Or.inl ⟨by rfl,?_⟩) ?_
  rotate_left
  ·intro w9;go_simp;try (with_reducible rfl)
  simp only[sP]
  refine wpAny_take (i:=1) (v:=?_) rfl (by kernel_rfl) (by kernel_rfl) (by kernel_rfl) (fun _ _ _ h=>h) (Or.inl ⟨by rfl,?_⟩) ?_
  rotate_left
  ·intro w9;go_simp;try (with_reducible rfl)
  simp only[sP]
  refine wpAny_take (i:=2) (v:=?_) rfl (by kernel_rfl) (by kernel_rfl) (by kernel_rfl) (fun _ _ _ h=>h) (Or.inl ⟨by rfl,?_⟩) ?_
  rotate_left
  ·intro w9;go_simp;try (with_reducible rfl)
  simp only[sP]
  refine wpAny_take (i:=3) (v:=?_) rfl (by kernel_rfl) (by kernel_rfl) (by kernel_rfl) (fun _ _ _ h=>h) (Or.inl ⟨by rfl,?_⟩) ?_
  rotate_left
  ·intro w9;go_simp;try (with_reducible rfl)
  simp only[sP]
  refine wpAny_ready (rs:=[4,5]) (by kernel_rfl) (by simp) ?_
  refine AllReady.cons rfl (fun K hK=>?_) ?_
  ·go_simp
   refine hK _ _ ?_
   clear hK K
   try simp only[sP]
   refine wpAny_ready (rs:=[5]) (by kernel_rfl) (by simp) ?_
   refine AllReady.cons rfl (fun K hK=>?_) AllReady.nil
   go_simp
   refine hK _ _ ?_
   clear hK K
   try simp only[sP]
   refine wpAny_ready (rs:=[6]) (by kernel_rfl) (by simp) ?_
   refine AllReady.cons rfl (fun K hK=>?_) AllReady.nil
   go_simp
   refine hK _ _ ?_
   clear hK K
   try simp only[sP]
   refine wpAny_ready (rs:=[7]) (by kernel_rfl) (by simp) ?_
   refine AllReady.cons rfl (fun K hK=>?_) AllReady.nil
   refine Eq.mpr (if_pos (by kernel_rfl)) ?_
   refine wp_append_eq (Operand.tmp 14) (Operand.tmp 16) 110 rfl _ _ _ w4 rfl rfl hr ?_
   refine hK _ _ ?_
   clear hK K
   try simp only[sP]
   refine wpAny_take (i:=8) (v:=?_) rfl (by kernel_rfl) (by kernel_rfl) (by kernel_rfl) (fun _ _ _ h=>h) (Or.inl ⟨by rfl,?_⟩) ?_
   rotate_left
   ·intro w9;go_simp;try (with_reducible rfl)
   simp only[sP]
   refine wpAny_take (i:=9) (v:=?_) rfl (by kernel_rfl) (by kernel_rfl) (by kernel_rfl) (fun _ _ _ h=>h) (Or.inl ⟨by rfl,?_⟩) ?_
   rotate_left
   ·intro w9;go_simp;try (with_reducible rfl)
   simp only[sP]
   refine wpAny_ready (rs:=[10]) (by kernel_rfl) (by simp) ?_
   refine AllReady.cons rfl (fun K hK=>?_) AllReady.nil
   go_simp
   refine hK _ _ ?_
   clear hK K
   try simp only[sP]
   refine wpAny_done (by kernel_rfl) ?_ _
   go_wp2_with fail
   go_end0
   exact⟨rfl,_,by rw[HX.out];exact FIN.1,FIN.2,fun _ _ e=>e⟩
  refine AllReady.cons rfl (fun K hK=>?_) AllReady.nil
  go_simp
  refine hK _ _ ?_
  clear hK K
  try simp only[sP]
  refine wpAny_ready (rs:=[4,6]) (by kernel_rfl) (by simp) ?_
  refine AllReady.cons rfl (fun K hK=>?_) ?_
  ·go_simp
   refine hK _ _ ?_
   clear hK K
   try simp only[sP]
   refine wpAny_ready (rs:=[6]) (by kernel_rfl) (by simp) ?_
   refine AllReady.cons rfl (fun K hK=>?_) AllReady.nil
   go_simp
   refine hK _ _ ?_
   clear hK K
   try simp only[sP]
   refine wpAny_ready (rs:=[7]) (by kernel_rfl) (by simp) ?_
   refine AllReady.cons rfl (fun K hK=>?_) AllReady.nil
   refine Eq.mpr (if_pos (by kernel_rfl)) ?_
   refine wp_append_eq (Operand.tmp 14) (Operand.tmp 16) 110 rfl _ _ _ w4 rfl rfl hr ?_
   refine hK _ _ ?_
   clear hK K
   try simp only[sP]
   refine wpAny_take (i:=8) (v:=?_) rfl (by kernel_rfl) (by kernel_rfl) (by kernel_rfl) (fun _ _ _ h=>h) (Or.inl ⟨by rfl,?_⟩) ?_
   rotate_left
   ·intro w9;go_simp;try (with_reducible rfl)
   simp only[sP]
   refine wpAny_take (i:=9) (v:=?_) rfl (by kernel_rfl) (by kernel_rfl) (by kernel_rfl) (fun _ _ _ h=>h) (Or.inl ⟨by rfl,?_⟩) ?_
   rotate_left
   ·intro w9;go_simp;try (with_reducible rfl)
   simp only[sP]
   refine wpAny_ready (rs:=[10]) (by kernel_rfl) (by simp) ?_
   refine AllReady.cons rfl (fun K hK=>?_) AllReady.nil
   go_simp
   refine hK _ _ ?_
   clear hK K
   try simp only[sP]
   refine wpAny_done (by kernel_rfl) ?_ _
   go_wp2_with fail
   go_end0
   exact⟨rfl,_,by rw[HX.out];exact FIN.1,FIN.2,fun _ _ e=>e⟩
  refine AllReady.cons rfl (fun K hK=>?_) AllReady.nil
  go_simp
  refine hK _ _ ?_
  clear hK K
  try simp only[sP]
  refine wpAny_ready (rs:=[4]) (by kernel_rfl) (by simp) ?_
  refine AllReady.cons rfl (fun K hK=>?_) AllReady.nil
  go_simp
  refine hK _ _ ?_
  clear hK K
  try simp only[sP]
  refine wpAny_ready (rs:=[7]) (by kernel_rfl) (by simp) ?_
  refine AllReady.cons rfl (fun K hK=>?_) AllReady.nil
  refine Eq.mpr (if_pos (by kernel_rfl)) ?_
  refine wp_append_eq (Operand.tmp 14) (Operand.tmp 16) 110 rfl _ _ _ w4 rfl rfl hr ?_
  refine hK _ _ ?_
  clear hK K
  try simp only[sP]
  refine wpAny_take (i:=8) (v:=?_) rfl (by kernel_rfl) (by kernel_rfl) (by kernel_rfl) (fun _ _ _ h=>h) (Or.inl ⟨by rfl,?_⟩) ?_
  rotate_left
  ·intro w9;go_simp;try (with_reducible rfl)
  simp only[sP]
  refine wpAny_take (i:=9) (v:=?_) rfl (by kernel_rfl) (by kernel_rfl) (by kernel_rfl) (fun _ _ _ h=>h) (Or.inl ⟨by rfl,?_⟩) ?_
  rotate_left
  ·intro w9;go_simp;try (with_reducible rfl)
  simp only[sP]
  refine wpAny_ready (rs:=[10]) (by kernel_rfl) (by simp) ?_
  refine AllReady.cons rfl (fun K hK=>?_) AllReady.nil
  go_simp
  refine hK _ _ ?_
  clear hK K
  try simp only[sP]
  refine wpAny_done (by kernel_rfl) ?_ _
  go_wp2_with fail
  go_end0
  exact⟨rfl,_,by rw[HX.out];exact FIN.1,FIN.2,fun _ _ e=>e⟩
 ·have HX:Hid (x.noted (a,b)=x):=by show _=_;unfold Wo.noted;rw[if_neg hlt]
  have hlt':¬(x.ev.length:Int) < 1000:=by omega
  go_wp2_with fail
  go_end0
  exact⟨rfl,K,by rw[HX.out];exact W1,Mw.of HB1.out⟩
theorem RwB.own {base:Nat} {R:List (List Value)} {cur:Array Value} (h:RwB w g cap R cur) (hm:cap<=maxLen) (hb:base<=g):w.ownsRow base 175 5 (.slice (some (g,0)) R.length cap) R.length R.flatten:=by
 refine⟨flat_len h.ok,.inr ⟨g,cap,cur,rfl,hb,h.h,h.le,hm,h.sz,?_⟩⟩
 refine List.ext_getElem? fun k=>?_
 by_cases hk:k < R.length * 5
 ·rw[List.getElem?_take,if_pos hk,Array.getElem?_toList]
  have e:k=k / 5 * 5+k % 5:=by omega
  have hr:R[k / 5]? = some R[k / 5]:=List.getElem?_eq_getElem (by omega)
  rw[e,flat_get h.ok (k / 5) (k % 5) (by omega),hr,h.at' (k / 5) _ (k % 5) hr (by omega)]
  rfl
 ·rw[List.getElem?_take,if_neg hk,List.getElem?_eq_none (by rw[flat_len h.ok];omega)]
theorem RwB.of_own {base:Nat} {R:List (List Value)} (h:w.ownsRow base 175 5 (.slice (some (g,0)) n cap) n R.flatten) (hR:∀r ∈ R,Five r) (hn:R.length=n):∃cur,RwB w g cap R cur:=by
 rcases h.2 with⟨q,_⟩ | ⟨g',cap',cur,q,q1,q2,q3,q4,q5,q6⟩
 ·cases q
 ·cases q
  refine⟨cur,q2,q5,by omega,fun i r j hr hj=>?_,hR⟩
  have hi:i < R.length:=(List.getElem?_eq_some_iff.1 hr).1
  have e:=flat_get hR i j hj
  rw[<- q6,List.getElem?_take,if_pos (by omega),Array.getElem?_toList,hr]at e
  exact e
theorem nfC_five {t:Nf} {v:Value} {K:WK} (h:NtOk w K t v):Five (nfC t v):=by
 obtain⟨⟨p,cap,rfl,_⟩,_⟩:=h
 refine⟨rfl,fun u hu=>?_⟩
 simp only[nfC,List.mem_cons,List.not_mem_nil,or_false]at hu
 rcases hu with rfl | rfl | rfl | rfl | rfl <;> rfl
theorem nfR_five {K:WK} {l:List Nf} {cv:List Value} (h:∀(i:Nat) t v,l[i]? = some t->cv[i]? = some v->NtOk w K t v):∀r ∈ nfR l cv,Five r:=fun r hr=>by
 obtain⟨i,hi⟩:=List.getElem?_of_mem hr
 rw[nfR,List.getElem?_zipWith]at hi
 cases h1:l[i]? with
 | none=>rw[h1]at hi;cases hi
 | some t =>
  cases h2:cv[i]? with
  | none=>rw[h1,h2]at hi;cases hi
  | some v =>
   rw[h1,h2]at hi
   cases hi
   exact nfC_five (h i t v h1 h2)
def fgT (fg:Option (Nat×Nat)) (b:Nat):Nat:=match fg with | some (g,_)=>if b=g then 3 else 9 | none=>9
def WK.fld (K:WK) (fg:Option (Nat×Nat)) (cv:List Value) (a:Nat):WK:={K with fg:=fg,cv:=cv,tag:=fun b=>if b < a then K.tag b else fgT fg b}
theorem WdB.fld {K:WK} (h:WdB w K x) (fg:Option (Nat×Nat)) (cv:List Value) (a:Nat) (l:List Nf):WdB (w.setCell (K.wb,7) (slV fg l.length)) (K.fld fg cv a) {x with fl:=l}:=by
 unfold WdB
 show(w.setCell (K.wb,7) (slV fg l.length)).heap[K.wb]? = _
 rw[heap_setCell_same w _ _ _ _ _ h]
 rfl
theorem Wd.flFin {w4:World} {K:WK} {l':List Nf} {cv':List Value} {fg':Option (Nat×Nat)} (h:Wd w0 w K x t) (C4:ChgL (K.part 3) w w4) (len:cv'.length=l'.length) (le:l'.length<=200)
  (ok:∀(i:Nat) tt v,l'[i]? = some tt->cv'[i]? = some v->NtOk w K tt v)
  (rows:(fg'=none/\l'=[])\/∃g' c',fg'=some (g',c')/\(g' ∈ K.part 3\/w.heap.size<=g')/\w4.ownsRow w0 175 5 (.slice (some ⟨g',0,none⟩) l'.length c') l'.length (nfR l' cv').flatten) :
  Wd w0 (w4.setCell (K.wb,7) (slV fg' l'.length)) (K.fld fg' cv' w) {x with fl:=l'} t/\Mv K (K.fld fg' cv' w) w (w4.setCell (K.wb,7) (slV fg' l'.length)):=by
 have hwt:=h.wb0
 have hp3:=h.tg 3 (by omega)
 have hwb3:¬K.wb ∈ K.part 3:=fun hm=>by have:=(hp3 _ hm).1;omega
 have hl:∀q ∈ K.wb::K.part 3,w0.heap.size<=q/\(K.tag q=0\/K.tag q=3):=fun q hq=>by
  rcases List.mem_cons.1 hq with rfl | hm
  ·exact⟨hwt.2,.inl hwt.1⟩
  ·exact⟨(hp3 q hm).2,.inr (hp3 q hm).1⟩
 have g3:Chg K.wb w4 (w4.setCell (K.wb,7) (slV fg' l'.length)):=Chg.set _ _ _ _
 have hWB4:WdB w4 K x:=h.wb.kept (C4.block _ h.wb.lt hwb3)
 have hWB:=hWB4.fld fg' cv' w l'
 have hsz:(w4.setCell (K.wb,7) (slV fg' l'.length)).heap.size=w4.heap.size:=by simp[go_sem]
 generalize w4.setCell (K.wb,7) (slV fg' l'.length)=w5 at *
 have hC:ChgL (K.wb::K.part 3) w w5:=(C4.mono (fun q hq=>.inl (List.mem_cons.2 (.inr hq)))).trans (ChgL.one g3 (by simp))
 have htag:∀q,q < w.heap.size->(K.fld fg' cv' w).tag q=K.tag q:=fun q hq=>if_pos hq
 have t5:∀b,K.tag b=5->(K.fld fg' cv' w).tag b=5:=fun b hb=>by rw[htag b (h.lt (by omega))];exact hb
 have ok5:∀(i:Nat) tt v,l'[i]? = some tt->cv'[i]? = some v->NtOk w5 (K.fld fg' cv' w) tt v:=fun i tt v h1 h2=>((ok i tt v h1 h2).kept hC (fun q hq=>by have:=(hl q hq).2;omega)).turn t5
 have hfl:FlP w5 (K.fld fg' cv' w) {x with fl:=l'}/\(∀b ∈ (K.fld fg' cv' w).part 3,(K.fld fg' cv' w).tag b=3/\w0.heap.size<=b/\b < w5.heap.size):=by
  rcases rows with⟨rfl,rfl⟩ | ⟨g',c',rfl,hg,own⟩
  ·exact⟨⟨len,by simp,ok5,.inl ⟨rfl,rfl⟩⟩,fun b hb=>by simp[WK.part,WK.fld]at hb⟩
  ·obtain⟨hg0,hgl,hcl⟩:w0.heap.size<=g'/\g' < w4.heap.size/\c'<=maxLen:=by
    rcases ownsRow_cases own with⟨q,_⟩ | ⟨g,c,q,q1,q2,q3,q4⟩
    ·cases q
    ·cases q;exact⟨q1,q2,q4⟩
   have hgw:g'≠K.wb:=by
    rcases hg with hm | hm
    ·exact fun e=>hwb3 (e ▸ hm)
    ·have:=h.wb.lt;omega
   have own5:=owns_chgW own g3 (by rw[ownBlock_some];intro e;cases e;exact hgw rfl)
   obtain⟨cur,R⟩:=RwB.of_own own5 (nfR_five ok) (nfR_len len)
   refine⟨⟨len,le,ok5,.inr ⟨g',c',cur,rfl,R,by unfold maxLen at hcl;omega⟩⟩,fun b hb=>?_⟩
   have e:b=g':=by simpa [WK.part,WK.fld] using hb
   subst e
   refine⟨?_,hg0,by omega⟩
   show(if b < w.heap.size then K.tag b else if b=b then 3 else 9)=3
   rcases hg with hm | hm
   ·rw[if_pos (h.lt (by have:=(hp3 _ hm).1;omega))];exact(hp3 _ hm).1
   ·rw[if_neg (by omega),if_pos rfl]
 refine⟨h.make (K.wb::K.part 3) hC (fun q hq=>⟨(hl q hq).1,by have:=(hl q hq).2;omega⟩) (Nat.le_refl _) htag (fun q hq=>?_) rfl hWB (.inr ⟨rfl,rfl,rfl,rfl,fun q hq=>by have:=(hl q hq).2;omega⟩) (.inr ⟨rfl,rfl,rfl,rfl,fun q hq=>by have:=(hl q hq).2;omega⟩) (.inr ⟨rfl,rfl,rfl⟩) (.inl ⟨hfl.1,fun b hb=>⟨(hfl.2 b hb).1,(hfl.2 b hb).2.1⟩⟩) (.inr ⟨rfl,rfl,fun q hq=>by have:=(hl q hq).2;omega⟩),Mv.list h hC (fun q hq=>by have:=(hl q hq).2;omega) htag rfl rfl⟩
 have hnot:¬q ∈ (K.fld fg' cv' w).part 3:=fun hm=>by have:=(hfl.2 q hm).2.2;omega
 have hq':¬q < w.heap.size:=by have:=hC.size;omega
 show(if q < w.heap.size then K.tag q else fgT fg' q)=9
 rw[if_neg hq']
 cases fg' with
 | none=>rfl
 | some gc =>
  obtain⟨g,c⟩:=gc
  show(if q=g then 3 else 9)=9
  rw[if_neg (fun e=>hnot (by simp[WK.part,WK.fld,e]))]
theorem Wd.flo {K:WK} (h:Wd w0 w K x t):∃p c,slV K.fg x.fl.length=.slice p x.fl.length c/\w.ownsRow w0 175 5 (.slice p x.fl.length c) x.fl.length (nfR x.fl K.cv).flatten/\(∀g,(Value.slice p x.fl.length c).ownBlock=some g->K.tag g=3/\K.fg=some (g,c)):=by
 rcases h.fl.rows with⟨e1,e2⟩ | ⟨g,c,cur,e,R,hc⟩
 ·rw[e1,e2]
  exact⟨none,0,rfl,⟨rfl,.inl ⟨rfl,rfl⟩⟩,fun g hg=>by cases hg⟩
 ·have ht:=h.tg 3 (by omega) g (by simp[WK.part,e])
  rw[e]
  have own:=R.own (base:=w0.heap.size) (by unfold maxLen;omega) ht.2
  rw[nfR_len h.fl.len]at own
  exact⟨_,c,rfl,own,fun g' hg=>by cases hg;exact⟨ht.1,rfl⟩⟩
theorem nfR_append {l m:List Nf} {cv cw:List Value} (h:cv.length=l.length):nfR (l++m) (cv++cw)=nfR l cv++nfR m cw:=by unfold nfR;exact List.zipWith_append h.symm
theorem send_wm {K:WK} (h:Wd w0 w K x t) (l:List Nf) (cvs:List Value) (p:Option Addr) (cap:Nat) (hl:cvs.length=l.length) (h8:l.length<=8) (hcap:l.length<=cap) (hp:l=[]->p=none/\cap=0)
  (hn:∀(i:Nat) tt v,l[i]? = some tt->cvs[i]? = some v->NtOk w K tt v/\∃g,p=some ⟨g,0,none⟩/\∀(j:Nat) u,(nfC tt v)[j]? = some u->w.cell? ⟨g,i * 5+j,none⟩=some u) :
  Calls Tryz.prog 144 #[.pointer (some (K.wb,0)),.slice p l.length cap] w fun e w'=>e=.returned (.tuple #[])/\∃K',Wd w0 w' K' (x.sent l) t/\Mw K K' w w':=by
 obtain⟨P,c,hV,hown,htag⟩:=h.flo
 obtain⟨i0,hi,hz0,hz1,hz2⟩:=info_parts Tryz.infoNote
 have hfl:=h.fl.le
 have c7:w.cell? (K.wb,7)=some (.slice P x.fl.length c):=by have:=h.wb.c 7;rw[<- hV];exact this
 obtain⟨m,hm⟩:∃m,m=min l.length (200 - x.fl.length):=⟨_,rfl⟩
 have hlen:(l.take m).length=m:=by rw[List.length_take];omega
 have hclen:(cvs.take m).length=m:=by rw[List.length_take];omega
 have hok:∀(i:Nat) tt v,(l.take m)[i]? = some tt->(cvs.take m)[i]? = some v->i < m/\l[i]? = some tt/\cvs[i]? = some v:=fun i tt v h1 h2=>by
  rw[List.getElem?_take]at h1 h2
  by_cases him:i < m
  ·rw[if_pos him]at h1 h2;exact⟨him,h1,h2⟩
  ·rw[if_neg him]at h1;cases h1
 have hfive:∀r ∈ nfR (l.take m) (cvs.take m),Five r:=nfR_five (w:=w) (K:=K) (fun i tt v h1 h2=>(hn i tt v (hok i tt v h1 h2).2.1 (hok i tt v h1 h2).2.2).1)
 have HAP:∃v' w4,(Builtin.append_ #[109,109] 109 #[.slice P x.fl.length c,.slice p m cap]).run Tryz.prog w.drew=.ok v' w4/\w4.ownsRow w0 175 5 v' (x.fl.length+m) (nfR x.fl K.cv++nfR (l.take m) (cvs.take m)).flatten/\w.drew.grownBy w4 (Value.slice P x.fl.length c).ownBlock/\(v'.ownBlock=(Value.slice P x.fl.length c).ownBlock\/v'.ownBlock=some w.drew.heap.size):=by
  cases hl0:l with
  | nil =>
   obtain⟨rfl,rfl⟩:=hp hl0
   have hm0:m=0:=by rw[hm,hl0];simp
   subst hm0
   exact⟨_,_,run_append_owned_none (P := Tryz.prog) w.drew w0 109 109 175 i0 5 Tryz.underlying109 hi _ _ _ (owns_chgL hown (ChgL.of (l:=[]) (Below.refl _ _).drew) (by simp)),by simpa [nfR] using owns_chgL hown (ChgL.of (l:=[]) (Below.refl _ _).drew) (by simp),⟨rfl,rfl,rfl,Nat.le_refl _,fun _ _ _=>rfl⟩,.inl rfl⟩
  | cons t0 l0 =>
   have h0:l[0]? = some t0:=by rw[hl0];rfl
   obtain⟨v0,hv0⟩:∃v,cvs[0]? = some v:=⟨cvs[0]'(by rw[hl,hl0];simp),List.getElem?_eq_getElem _⟩
   obtain⟨_,g,rfl,_⟩:=hn 0 t0 v0 h0 hv0
   obtain⟨v',w4,a1,a2,a3,_,a5⟩:=run_append_own_at (P := Tryz.prog) w.drew w0 109 109 175 i0 _ 5 56 Tryz.underlying109 hi hz0 hz1 hz2 rfl (by decide) (.slice P x.fl.length c) x.fl.length (nfR x.fl K.cv).flatten (owns_chgL hown (ChgL.of (l:=[]) (Below.refl _ _).drew) (by simp)) ⟨g,0,none⟩ m cap (nfR (l.take m) (cvs.take m)).flatten (by rw[flat_len hfive,nfR_len (by omega),hlen]) (fun j u hj=>by
     rw[addr_addW,Nat.zero_add]
     have e:j=j / 5 * 5+j % 5:=by omega
     rw[e,flat_get hfive (j / 5) (j % 5) (by omega)]at hj
     obtain⟨r,hr,hu⟩:=Option.bind_eq_some_iff.1 hj
     rw[nfR,List.getElem?_zipWith]at hr
     cases h1:(l.take m)[j / 5]? with
     | none=>rw[h1]at hr;cases hr
     | some tt =>
      cases h2:(cvs.take m)[j / 5]? with
      | none=>rw[h1,h2]at hr;cases hr
      | some v =>
       rw[h1,h2]at hr
       cases hr
       obtain⟨_,g2,e2,hc⟩:=hn _ tt v (hok _ tt v h1 h2).2.1 (hok _ tt v h1 h2).2.2
       cases e2
       rw[e]
       exact hc (j % 5) u hu) (flat_one hfive) (by unfold maxLen;omega) (by omega) (by have:=h.bl.size;exact this)
   exact⟨v',w4,a1,by rw[List.flatten_append,<- hl0];exact a2,a3,a5⟩
 obtain⟨v',w4,hr,hown',hgrow,hat⟩:=HAP
 have C4:ChgL (K.part 3) w w4:=⟨hgrow.os,hgrow.tape,hgrow.output,hgrow.size,fun q hq hn=>hgrow.block q hq (fun e=>hn (by have:=(htag q e.symm).2;simp[WK.part,this]))⟩
 have hlen2:(x.fl++l.take m).length=x.fl.length+m:=by rw[List.length_append,hlen]
 obtain⟨fg',hfg,hrows⟩:∃fg',v'=slV fg' (x.fl++l.take m).length/\((fg'=none/\x.fl++l.take m=[])\/∃g' c',fg'=some (g',c')/\(g' ∈ K.part 3\/w.heap.size<=g')/\w4.ownsRow w0 175 5 (.slice (some ⟨g',0,none⟩) (x.fl++l.take m).length c') (x.fl++l.take m).length (nfR (x.fl++l.take m) (K.cv++cvs.take m)).flatten):=by
  rw[nfR_append h.fl.len,hlen2]
  rcases ownsRow_cases hown' with⟨e,e0⟩ | ⟨g',c',e,_⟩
  ·exact⟨none,e,.inl ⟨rfl,List.length_eq_zero_iff.1 (by omega)⟩⟩
  ·refine⟨some (g',c'),e,.inr ⟨g',c',rfl,?_,e ▸ hown'⟩⟩
   rcases hat with q | q
   ·rw[e]at q;have:=(htag g' q.symm).2;exact .inl (by simp[WK.part,this])
   ·rw[e]at q;have e2:g'=w.heap.size:=by cases q;rfl
    exact .inr (by omega)
 have FIN:Hid (Wd w0 (w4.setCell (K.wb,7) v') (K.fld fg' (K.cv++cvs.take m) w) (x.sent l) t/\Mv K (K.fld fg' (K.cv++cvs.take m) w) w (w4.setCell (K.wb,7) v')):=by
  have hx:x.sent l={x with fl:=x.fl++l.take m}:=by
   unfold Wo.sent
   have:l.take (200 - x.fl.length)=l.take m:=by
    rw[hm]
    by_cases hq:l.length<=200 - x.fl.length
    ·rw[Nat.min_eq_left hq,List.take_of_length_le hq,List.take_length]
    ·rw[Nat.min_eq_right (by omega)]
   rw[this]
  rw[hfg,hx]
  refine h.flFin C4 (by rw[List.length_append,List.length_append,h.fl.len,hclen,hlen]) (by rw[hlen2];omega) (fun i tt v h1 h2=>?_) hrows
  by_cases hil:i < x.fl.length
  ·rw[List.getElem?_append_left hil]at h1
   rw[List.getElem?_append_left (by rw[h.fl.len];exact hil)]at h2
   exact h.fl.ok i tt v h1 h2
  ·rw[List.getElem?_append_right (by omega)]at h1
   rw[List.getElem?_append_right (by rw[h.fl.len];omega),h.fl.len]at h2
   have q:=hok _ tt v h1 h2
   exact(hn _ tt v q.2.1 q.2.2).1
 have d7:w.drew.cell? (K.wb,7)=some (.slice P x.fl.length c):=c7
 have hwb4:WdB w4 K x:=h.wb.kept (C4.block _ h.wb.lt (fun hm=>by have:=(h.tg 3 (by omega) _ hm).1;rw[h.wb0.1]at this;omega))
 have f7:w4.frozen? (K.wb,7)=false:=hwb4.fr 7
 have e7:w4.cell? (K.wb,7)=some (.slice P x.fl.length c):=by have:=hwb4.c 7;rw[<- hV];exact this
 obtain⟨vp,vn,vc,hv⟩:∃vp vn vc,v'=.slice vp vn vc:=by
  rcases ownsRow_cases hown' with⟨e,_⟩ | ⟨g',c',e,_⟩
  ·exact⟨_,_,_,e⟩
  ·exact⟨_,_,_,e⟩
 subst hv
 have r0:IntKind.i64.wrap (200 - (x.fl.length:Int))=200 - (x.fl.length:Int):=by rw[IntKind.wrap_i64];omega
 have m1:(if 200 - (x.fl.length:Int) < (l.length:Int) then 200 - (x.fl.length:Int) else (l.length:Int))=(m:Int):=by split <;> omega
 have m2:(0:Int)<=(m:Int):=by omega
 have m3:(m:Int)<=(cap:Int):=by omega
 clear h hV hown htag hl h8 hcap hp hn hlen hclen hok hfive hown' hgrow hat C4 hlen2 hfg hrows hwb4 hfl hm
 go_enter Tryz.func144,Tryz.ntmps144
 go_wp2_with fail
 refine wp_region_any (by kernel_rfl) ?_
 try (change wpAny _ _ _ _ _ _ _ (World.drew _))
 refine wpAny_take (i:=0) (v:=?_) rfl (by kernel_rfl) (by kernel_rfl) (by kernel_rfl) (fun _ _ _ h=>h) (Or.inl ⟨by rfl,?_⟩) ?_
 rotate_left
 ·intro w9;go_simp;try (with_reducible rfl)
 simp only[sP]
 refine wpAny_take (i:=1) (v:=?_) rfl (by kernel_rfl) (by kernel_rfl) (by kernel_rfl) (fun _ _ _ h=>h) (Or.inl ⟨by rfl,?_⟩) ?_
 rotate_left
 ·intro w9;go_simp;try (with_reducible rfl)
 simp only[sP]
 refine wpAny_take (i:=2) (v:=?_) rfl (by kernel_rfl) (by kernel_rfl) (by kernel_rfl) (fun _ _ _ h=>h) (Or.inl ⟨by rfl,?_⟩) ?_
 rotate_left
 ·intro w9;go_simp;try (with_reducible rfl)
 simp only[sP]
 refine wpAny_take (i:=3) (v:=?_) rfl (by kernel_rfl) (by kernel_rfl) (by kernel_rfl) (fun _ _ _ h=>h) (Or.inl ⟨by rfl,?_⟩) ?_
 rotate_left
 ·intro w9;go_simp;try (with_reducible rfl)
 simp only[sP]
 refine wpAny_take (i:=5) (v:=?_) rfl (by kernel_rfl) (by kernel_rfl) (by kernel_rfl) (fun _ _ _ h=>h) (Or.inl ⟨by rfl,?_⟩) ?_
 rotate_left
 ·intro w9;go_simp;try (with_reducible rfl)
 simp only[sP]
 refine wpAny_take (i:=6) (v:=?_) rfl (by kernel_rfl) (by kernel_rfl) (by kernel_rfl) (fun _ _ _ h=>h) (Or.inl ⟨by rfl,?_⟩) ?_
 rotate_left
 ·intro w9;go_simp;try (with_reducible rfl)
 simp only[sP]
 refine wpAny_take (i:=7) (v:=?_) rfl (by kernel_rfl) (by kernel_rfl) (by kernel_rfl) (fun _ _ _ h=>h) (Or.inl ⟨by rfl,?_⟩) ?_
 rotate_left
 ·intro w9;go_simp;try (with_reducible rfl)
 simp only[sP]
 refine wpAny_take (i:=8) (v:=?_) rfl (by kernel_rfl) (by kernel_rfl) (by kernel_rfl) (fun _ _ _ h=>h) (Or.inl ⟨by rfl,?_⟩) ?_
 rotate_left
 ·intro w9;go_simp;try (with_reducible rfl)
 simp only[sP]
 refine wpAny_take (i:=9) (v:=?_) rfl (by kernel_rfl) (by kernel_rfl) (by kernel_rfl) (fun _ _ _ h=>h) (Or.inl ⟨by rfl,?_⟩) ?_
 rotate_left
 ·intro w9;go_simp;try (with_reducible rfl)
 simp only[sP]
 refine wpAny_take (i:=10) (v:=?_) rfl (by kernel_rfl) (by kernel_rfl) (by kernel_rfl) (fun _ _ _ h=>h) (Or.inl ⟨by rfl,?_⟩) ?_
 rotate_left
 ·intro w9;go_simp;try (with_reducible rfl)
 simp only[sP]
 refine wpAny_ready (rs:=[4]) (by kernel_rfl) (by simp) ?_
 refine AllReady.cons rfl (fun K hK=>?_) AllReady.nil
 go_simp
 refine hK _ _ ?_
 clear hK K
 try simp only[sP]
 refine wpAny_ready (rs:=[11]) (by kernel_rfl) (by simp) ?_
 refine AllReady.cons rfl (fun K hK=>?_) AllReady.nil
 refine Eq.mpr (if_pos (by kernel_rfl)) ?_
 refine wp_append_eq (Operand.tmp 15) (Operand.tmp 21) 109 rfl _ _ _ w4 rfl rfl hr ?_
 refine hK _ _ ?_
 clear hK K
 try simp only[sP]
 refine wpAny_take (i:=12) (v:=?_) rfl (by kernel_rfl) (by kernel_rfl) (by kernel_rfl) (fun _ _ _ h=>h) (Or.inl ⟨by rfl,?_⟩) ?_
 rotate_left
 ·intro w9;go_simp;try (with_reducible rfl)
 simp only[sP]
 refine wpAny_take (i:=13) (v:=?_) rfl (by kernel_rfl) (by kernel_rfl) (by kernel_rfl) (fun _ _ _ h=>h) (Or.inl ⟨by rfl,?_⟩) ?_
 rotate_left
 ·intro w9;go_simp;try (with_reducible rfl)
 simp only[sP]
 refine wpAny_ready (rs:=[14]) (by kernel_rfl) (by simp) ?_
 refine AllReady.cons rfl (fun K hK=>?_) AllReady.nil
 go_simp
 refine hK _ _ ?_
 clear hK K
 try simp only[sP]
 refine wpAny_done (by kernel_rfl) ?_ _
 go_wp2_with fail
 go_end0
 exact⟨rfl,_,FIN.1,FIN.2,fun _ _ e=>e⟩
end
end Go.Proofs.YtabndgfdbdjdgaaGreatDoor
