/-
  What the claimed theorem reaches, part Q40.
-/
import Derived.Test.YtdpmeoflgpaljaaGreatDoorQ39
import Derived.Test.YtdpmeoflgpaljaaGreatDoorQ27
import Derived.Test.YtdpmeoflgpaljaaGreatDoorQ23
import Derived.Test.YtdpmeoflgpaljaaGreatDoorQ00
import Derived.Test.YtdpmeoflgpaljaaGreatDoorQ28
import Derived.Test.YtdpmeoflgpaljaaGreatDoorQ24
import Derived.Lib.Overlaps
import Derived.Lib.AppendZerosOnto
import Derived.Laws.NewBlocks
namespace Go.Proofs.YtdpmeoflgpaljaaGreatDoor
open Go.RowKit
set_option maxRecDepth 100000
set_option maxHeartbeats 8000000
section
variable {w0 w:World} {D:RK} {W:Wo} {u:Nat}
theorem ddrop_any (h:RWd w0 w D W u) (n:Int) :
  Calls Tryz.prog 67 #[.pointer (some (D.wb,0)),n] w fun e w'=>e=.returned (.int .i64 (W.flE n:Nat))/\∃D',RWd w0 w' D' (W.dropped n) u/\RMv D D' w w':=by
 have HW:Hid (RWd w0 w D W u):=h
 clear h
 go_enter Tryz.func67,Tryz.ntmps67
 go_wp2_with fail
 refine(dtake_any HW n).mono ?_
 rintro e w1 (⟨he,rfl,wd,mv⟩ | ⟨t,v,D',he,ht,rfl,wd,mv,nt⟩)
 ·have K1:Hid (W.flE n=4/\RWd w0 w1 D W u/\RMv D D w w1):=⟨he,wd,mv⟩
  clear he wd mv
  go_wp2_with fail
  go_ret
  have b:=aB w1 (.cells #[.int .i64 0,.int .i64 0,.int .i64 0,.bool false,.slice none 0 0] 149)
  exact⟨by rw[K1.1];rfl,D,by unfold Wo.dropped;rw[if_neg (by have:=K1.1;omega)];exact K1.2.1.below b,K1.2.2.then b⟩
 ·have K1:Hid (W.flE n=0/\RWd w0 w1 D' (W.landed n.toNat) u/\RMv D D' w w1):=⟨he,wd,mv⟩
  obtain⟨⟨p,cap,rfl,_⟩,_⟩:=nt
  clear he wd mv ht
  go_wp2_with fail
  go_ret
  have b:=aB w1 (.cells #[t.fr,t.li,t.ep,.bool t.cl,.slice p t.cs.length cap] 149)
  exact⟨by rw[K1.1];rfl,D',by unfold Wo.dropped;rw[if_pos K1.1];exact K1.2.1.below b,K1.2.2.then b⟩
def FlOk (W:Wo):Prop:=0<=W.he/\∀t ∈ W.fl,t.cl=true->0 < t.ep
theorem RWd.hears (h:RWd w0 w D W u) (t:Nf) (he:W.he < t.ep) (h0:0<=W.he) {w':World} (e:w'=(w.setCell (D.wb,4) t.fr).setCell (D.wb,5) t.ep):RWd w0 w' D (W.heard t) u/\RMv D D w w':=by
 unfold Wo.heard
 rw[if_pos he]
 exact h.onTo t.fr t.ep (by omega) e
theorem RWd.hrd {w':World} {i:Nat} {r:RBk} {x:No} {t:Nf} (h:RWd w0 w D W u) (hi:i < 2) (hk:D.nk i=some r) (hx:W.nd i=some x) (nd:HearR w0 w' r (x.hrd t) (loU u) u (33 * u) w) (c:ChgL r.all w w') :
  ∃D',RWd w0 w' D' {W with nd:=setN W.nd i (some (x.hrd t))} u/\RMv D D' w w':=by
 obtain⟨r0,q0,e1,nd0,ey,n0,n1,id,ht⟩:=h.up hi hx
 rw[hk]at e1
 cases e1
 obtain⟨g',cap',q',hg,nd'⟩:=nd
 have hlt:g' < w'.heap.size:=nd'.blk g' (by rw[RBk.all_pre];simp)
 have hn:(x.hrd t).now=x.now/\(x.hrd t).id=x.id:=by unfold No.hrd;split <;> exact⟨rfl,rfl⟩
 refine⟨_,h.onNd hi hk hx nd' c (Nat.le_refl _) ⟨rfl,rfl⟩ (by rw[hn.1];exact n0) (by rw[hn.1];exact n1) (hn.2.trans id) (fun b=>if b < w.heap.size then D.tag b else if b=g' then i+1 else 9) (fun b hb=>if_pos hb) (fun b hb=>?_) (fun b hb=>?_)⟩
 ·have:=c.size
  show(if b < w.heap.size then D.tag b else if b=g' then i+1 else 9)=_
  rw[if_neg (by omega),if_neg (by omega)]
 ·have hb':b ∈ r.all\/b=g':=by
   rw[RBk.all_pre]at hb ⊢
   rcases List.mem_append.1 hb with q | q
   ·exact .inl (List.mem_append_left _ q)
   ·exact .inr (by simpa using q)
  show(if b < w.heap.size then D.tag b else if b=g' then i+1 else 9)=_
  rcases hb' with q | rfl
  ·rw[if_pos (nd0.blk b q)]
   exact ht b q
  ·rcases hg with e | e
   ·rw[if_pos (by rw[e];exact nd0.blk _ r.m_mg),e]
    exact ht _ r.m_mg
   ·rw[if_neg (by omega),if_pos rfl]
theorem ddlv_any (h:RWd w0 w D W u) (hs:SwOk W) (hf:FlOk W) (n:Int) :
  Calls Tryz.prog 39 #[.pointer (some (D.wb,0)),n] w fun e w'=>e=.returned (.int .i64 (W.flE n:Nat))/\∃D',RWd w0 w' D' (W.dlv n) u/\RMv D D' w w':=by
 have HW:Hid (RWd w0 w D W u):=h
 have HF:Hid (SwOk W/\FlOk W):=⟨hs,hf⟩
 clear h hs hf
 go_enter Tryz.func39,Tryz.ntmps39
 go_wp2_with fail
 refine(dtake_any HW n).mono ?_
 rintro e w1 (⟨he,rfl,wd,mv⟩ | ⟨t,v,D',he,ht,rfl,wd,mv,nt⟩)
 ·have K1:Hid (W.flE n=4/\RWd w0 w1 D W u/\RMv D D w w1):=⟨he,wd,mv⟩
  clear he wd mv
  go_wp2_with fail
  go_ret
  refine⟨by rw[K1.1];rfl,D,?_⟩
  have e:W.dlv n=W:=by unfold Wo.dlv;rw[if_neg (by have:=K1.1;omega)]
  rw[e]
  have b:=aB w1 (.cells #[.int .i64 0,.int .i64 0,.int .i64 0,.bool false,.slice none 0 0] 149)
  exact⟨K1.2.1.below b,K1.2.2.then b⟩
 ·have K1:Hid (W.flE n=0/\W.fl[n.toNat]? = some t/\RWd w0 w1 D' (W.landed n.toNat) u/\RMv D D' w w1/\RNt w1 D' t v):=⟨he,ht,wd,mv,nt⟩
  have HE:Hid (W.dlv n=W.delivered n.toNat t):=by show _=_;unfold Wo.dlv;rw[if_pos he,ht]
  obtain⟨⟨p,cap,rfl,_⟩,_⟩:=nt
  clear he wd mv ht
  go_upto_region 2 with fail
  have Z2:Hid (RfZ (w1.alloc (.cells #[t.fr,t.li,t.ep,.bool t.cl,.slice p t.cs.length cap] 149)) w1 t (.slice p t.cs.length cap)):=RfZ.new w1 t _
  have B2:Hid (Below w1 w1 (w1.alloc (.cells #[t.fr,t.li,t.ep,.bool t.cl,.slice p t.cs.length cap] 149))):=aB _ _
  generalize w1.alloc (.cells #[t.fr,t.li,t.ep,.bool t.cl,.slice p t.cs.length cap] 149)=w2 at *
  have HXT:Hid (D'.tag w1.heap.size=9):=K1.2.2.1.al _ (Nat.le_refl _)
  generalize w1.heap.size=X at Z2 HXT ⊢
  have W2:Hid (RWd w0 w2 D' (W.landed n.toNat) u):=K1.2.2.1.below B2
  have M2:Hid (RMv D D' w w2):=K1.2.2.2.1.then B2
  have NT:Hid (RNt w2 D' t (.slice p t.cs.length cap)):=K1.2.2.2.2.keep (ChgL.of (l:=[]) B2) (fun b hb=>by simp at hb)
  have HM:Hid (t ∈ W.fl/\W.flE n=0):=⟨List.mem_of_getElem? K1.2.1,K1.1⟩
  have HWB:Hid (D'.wb=D.wb):=K1.2.2.2.1.wb
  clear K1 B2
  obtain⟨x0,x1,x2,x3,x4⟩:=Z2.b
  cases hcl:t.cl
  ·rw[hcl]at x3
   have HD:Hid (W.dlv n=(W.landed n.toNat).handed t):=by show _=_;rw[HE.out];unfold Wo.delivered;rw[hcl];rfl
   obtain⟨i,hi,hfr⟩:∃i:Nat,i < 2/\t.fr=1 - (i:Int):=by
    rcases NT.2.2 with e | e
    ·exact⟨1,by omega,by omega⟩
    ·exact⟨0,by omega,by omega⟩
   have hto:(1 - t.fr).toNat=i:=by omega
   have hw:IntKind.i64.wrap (1 - t.fr)=(i:Int):=by rw[IntKind.wrap_i64];omega
   have c0:w2.cell? (D.wb,0)=some (.slice (some (D'.nb,0)) 2 D'.nc):=by rw[<- HWB.out];exact(W2.wb.c 0).trans rfl
   have n2:(0:Int)<=(i:Int):=by omega
   have n3:(i:Int) < 2:=by omega
   have HI:Hid (i < 2):=hi
   cases hx:(W.landed n.toNat).nd i with
   | none =>
    have HF2:Hid (W.dlv n=W.landed n.toNat):=by show _=_;rw[HD.out];unfold Wo.handed;rw[hto,hx]
    obtain⟨hk,_⟩:=W2.down hi hx
    have cn:=W2.nvD hi hk
    clear hcl hx hk hto hi hfr
    go_wp2_with fail
    go_quiet (fail)
    have D3:Hid (Below w2 w2 (w2.drewN nq)):=⟨rfl,rfl,rfl,Nat.le_refl _,fun _ _=>rfl⟩
    generalize w2.drewN nq=w3 at *
    go_wp2_with fail
    go_ret
    exact⟨by rw[HM.2];rfl,D',by rw[HF2.out];exact W2.below D3,M2.then D3⟩
   | some x =>
    have HF2:Hid (W.dlv n={W.landed n.toNat with nd:=setN (W.landed n.toNat).nd i (some (x.hrd t))}):=by show _=_;rw[HD.out];unfold Wo.handed;rw[hto,hx]
    obtain⟨r,q,hk,nd,ey,q0,q1,qi,ht⟩:=W2.up hi hx
    have HK:Hid (D'.nk i=some r/\(W.landed n.toNat).nd i=some x/\RNd w0 w2 r x q (loU u) u (33 * u)/\∀b ∈ r.all,D'.tag b=i+1):=⟨hk,hx,nd,ht⟩
    have cn:=W2.nvU hi hk
    clear hx hk hto hi hfr nd ey q0 q1 qi ht
    have HCL:Hid (t.cl=false):=hcl
    clear hcl
    go_wp2_with fail
    go_quiet (fail)
    have D3:Hid (Below w2 w2 (w2.drewN nq)):=⟨rfl,rfl,rfl,Nat.le_refl _,fun _ _=>rfl⟩
    have s0:=tk D3 c0
    have sn:=tk D3 cn
    have y0:=tk D3 x0
    have y1:=tk D3 x1
    have y2:=tk D3 x2
    have y3:=tk D3 x3
    have y4:=tk D3 x4
    generalize w2.drewN nq=w3 at *
    clear x0 x1 x2 x3 x4 c0 cn
    have HC:Hid (∀v,Below w2 w2 v->Calls Tryz.prog 86 #[.pointer (some (r.nd,0)),.agg #[t.fr,t.li,t.ep,.bool false,.slice p t.cs.length cap]] v fun e w'=>e=.returned (.int .i64 (x.heE t:Nat))/\(∃D2,RWd w0 w' D2 (W.dlv n) u/\RMv D D2 w w')/\ChgL r.all v w'):=fun v hv=>by
     have hh:=rhear_rn (HK.2.2.1.below hv) t p cap (by obtain⟨p',cap',e,R,_⟩:=NT.1;cases e;exact R.below hv) (fun hne b o e=>by
      have q:=NT.1
      obtain⟨p',cap',e',_,q5⟩:=q
      cases e'
      have q6:=q5 hne b o e
      exact⟨fun e2=>by have:=HK.2.2.2 _ r.m_mi;rw[<- e2]at this;have:=HI.out;omega,fun e2=>by have:=HK.2.2.2 _ r.m_mg;rw[<- e2]at this;have:=HI.out;omega⟩) (by have:=NT.2.1;omega)
     rw[HCL.out]at hh
     refine hh.mono ?_
     rintro e w' ⟨he,nd2,c2⟩
     obtain⟨D2,k1,k2⟩:=(W2.below hv).hrd HI HK.1 HK.2.1 nd2 c2
     exact⟨he,⟨D2,by rw[HF2.out];exact k1,(M2.then hv).trans k2⟩,c2⟩
    have HN:Hid (¬D.wb ∈ r.all/\¬D'.nb ∈ r.all/\¬X ∈ r.all):=by
     have q:=W2.tw
     rw[HWB.out]at q
     have hi:=HI.out
     exact⟨fun hm=>by have:=HK.2.2.2 _ hm;omega,fun hm=>by have:=HK.2.2.2 _ hm;omega,fun hm=>by have:=HK.2.2.2 _ hm;have:=HXT.out;omega⟩
    go_wp2_with fail
    have hS:w3.drew.cell? (D.wb,0)=some (.slice (some (D'.nb,0)) 2 D'.nc)/\w3.drew.cell? (D'.nb,i)=some (.pointer (some (r.nd,0)))/\w3.drew.cell? (X,0)=t.fr/\w3.drew.cell? (X,1)=t.li/\w3.drew.cell? (X,2)=t.ep/\w3.drew.cell? (X,3)=some (.bool false)/\w3.drew.cell? (X,4)=some (.slice p t.cs.length cap):=⟨s0,sn,y0,y1,y2,y3,y4⟩
    have D4:Hid (Below w2 w2 w3.drew):=D3.drew
    clear s0 sn y0 y1 y2 y3 y4
    go_region_held3 (fun w'=>w'.cell? (D.wb,0)=some (.slice (some (D'.nb,0)) 2 D'.nc)/\w'.cell? (D'.nb,i)=some (.pointer (some (r.nd,0)))/\w'.cell? (X,0)=t.fr/\w'.cell? (X,1)=t.li/\w'.cell? (X,2)=t.ep/\w'.cell? (X,3)=some (.bool false)/\w'.cell? (X,4)=some (.slice p t.cs.length cap))
     (first | assumption | exact⟨C5.keeps HN.1 hS.1,C5.keeps HN.2.1 hS.2.1,C5.keeps HN.2.2 hS.2.2.1,C5.keeps HN.2.2 hS.2.2.2.1,C5.keeps HN.2.2 hS.2.2.2.2.1,C5.keeps HN.2.2 hS.2.2.2.2.2.1,C5.keeps HN.2.2 hS.2.2.2.2.2.2⟩)
     (first | (go_at_call 86;refine(HC _ D4).mono ?_;rintro e w5 ⟨rfl,k5,c5⟩;have K5:Hid (∃D2,RWd w0 w5 D2 (W.dlv n) u/\RMv D D2 w w5):=k5;have C5:Hid (ChgL r.all w3.drew w5):=c5;clear k5 c5))
    clear hS
    go_wp2_with fail
    go_ret
    exact⟨by rw[HM.2];rfl,K5⟩
  ·rw[hcl]at x3
   have HD:Hid (W.dlv n=(W.landed n.toNat).heard t):=by show _=_;rw[HE.out];unfold Wo.delivered;rw[hcl];rfl
   have c4:w2.cell? (D.wb,4)=W.to:=by rw[<- HWB.out];exact(W2.wb.c 4).trans rfl
   have c5:w2.cell? (D.wb,5)=W.he:=by rw[<- HWB.out];exact(W2.wb.c 5).trans rfl
   have f4:∀j,w2.frozen? ⟨D.wb,j,none⟩=false:=by rw[<- HWB.out];exact W2.wb.fr
   have h0:=HF.2.1
   by_cases hlt:W.he < t.ep
   ·have K3:Hid (∀w3,Below w2 w2 w3->∀w4,w4=(w3.setCell (D.wb,4) t.fr).setCell (D.wb,5) t.ep->RWd w0 w4 D' (W.dlv n) u/\RMv D D' w w4):=fun w3 b3 w4 e4=>by
     have KH:=(W2.below b3).hears t hlt h0 (w':=w4) (by rw[HWB.out];exact e4)
     rw[HD.out]
     exact⟨KH.1,(M2.then b3).trans KH.2⟩
    clear h0
    by_cases hz:W.he=0
    ·have e:W.to = -1:=if_pos hz
     rw[e]at c4
     clear e hz hcl hlt
     go_wp2_with fail
     go_quiet (fail)
     go_wp2_with fail
     go_ret
     exact⟨by rw[HM.2];rfl,D',K3 (w2.drewN nq) ⟨rfl,rfl,rfl,Nat.le_refl _,fun _ _=>rfl⟩ _ rfl⟩
    ·have e:W.to=W.hn:=if_neg hz
     have n0:¬W.hn < 0:=by have:=HF.1 hz;omega
     rw[e]at c4
     clear e hz hcl
     go_wp2_with fail
     go_quiet (fail)
     go_wp2_with fail
     go_ret
     exact⟨by rw[HM.2];rfl,D',K3 (w2.drewN nq) ⟨rfl,rfl,rfl,Nat.le_refl _,fun _ _=>rfl⟩ _ rfl⟩
   ·have hz:W.he≠0:=fun e=>by
     have:=HF.2.2 t HM.1 hcl
     omega
    have e:W.to=W.hn:=if_neg hz
    have n0:¬W.hn < 0:=by have:=HF.1 hz;omega
    have HN:Hid (W.dlv n=W.landed n.toNat):=by show _=_;rw[HD.out];unfold Wo.heard;exact if_neg hlt
    rw[e]at c4
    clear e hz hcl h0
    go_wp2_with fail
    go_quiet (fail)
    have D3:Hid (Below w2 w2 (w2.drewN nq)):=⟨rfl,rfl,rfl,Nat.le_refl _,fun _ _=>rfl⟩
    generalize w2.drewN nq=w3 at *
    go_wp2_with fail
    go_ret
    exact⟨by rw[HM.2];rfl,D',by rw[HN.out];exact W2.below D3,M2.then D3⟩
end
section
variable {x:No} {W:Wo}
theorem wrs_on:∀(l:List (Nat×UInt8)) (s:By),((wrs s l).2=true->s.on=true->(wrs s l).1.on=true)/\((wrs s l).2=false->(wrs s l).1.on=false)
 | [],s=>⟨fun _ h=>h,fun h=>by cases h⟩
 | (a,v)::r,s=>by
  have k:=wrs_on r (s.wr a v)
  have e:wrs s ((a,v)::r)=if s.ok then wrs (s.wr a v) r else (s.off,false):=rfl
  rw[e]
  by_cases h:s.ok=true
  ·rw[if_pos h]
   exact⟨fun h2 _=>k.1 h2 rfl,k.2⟩
  ·rw[if_neg h]
   exact⟨fun h2=>by(cases h2),fun _=>rfl⟩
theorem putE_on {y:By} {ep li:Int} (h:y.on=true):((putE false y ep li).1=0/\(putE false y ep li).2.1.on=true/\(putE false y ep li).2.2=false)\/((putE false y ep li).1=7/\(putE false y ep li).2.1.on=false)\/((putE false y ep li).1≠0/\(putE false y ep li).1≠7/\(putE false y ep li).2.1.on=true/\(putE false y ep li).2.2=false):=by
 have k:=wrs_on (putW y.B (nextNm y ep li)) y
 unfold putE
 rw[if_neg (by simp)]
 split
 ·exact .inr (.inr ⟨(by intro e;cases e),(by intro e;cases e),h,rfl⟩)
 split
 ·exact .inr (.inr ⟨(by intro e;cases e),(by intro e;cases e),h,rfl⟩)
 split
 ·exact .inr (.inr ⟨(by intro e;cases e),(by intro e;cases e),h,rfl⟩)
 split
 ·rename_i h5
  exact .inl ⟨rfl,k.1 h5 h,rfl⟩
 ·rename_i h5
  exact .inr (.inl ⟨rfl,k.2 (by simpa [putS] using h5)⟩)
theorem tick_y (x:No):(x.tick.y=x.ticked.cp.2.1/\x.tick.off=x.ticked.cp.2.2/\x.tkE=x.ticked.cp.1)\/(x.tick.y=x.y/\x.tick.off=x.off/\x.tkE=0):=by
 have hn:∀z:No,z.noted.y=z.y/\z.noted.off=z.off:=fun z=>by unfold No.noted;split <;> exact⟨rfl,rfl⟩
 have ht:x.tick.y=x.tk1.y/\x.tick.off=x.tk1.off:=by
  unfold No.tick
  split
  ·exact hn _
  ·exact⟨rfl,rfl⟩
 rw[ht.1,ht.2]
 unfold No.tk1 No.tkE
 split
 ·unfold No.clm No.clE
  split
  ·split
   ·exact .inl ⟨rfl,rfl,rfl⟩
   ·exact .inl ⟨rfl,rfl,rfl⟩
  ·exact .inr ⟨rfl,rfl,rfl⟩
 ·exact .inr ⟨rfl,rfl,rfl⟩
theorem tick_nd' (r:Ro):r.tick.nd=r.nd/\r.tick.ac=r.ac:=by
 unfold Ro.tick
 split
 ·exact⟨rfl,rfl⟩
 ·rename_i h
  exact⟨rfl,by simpa using h⟩
theorem tick_tk2 (x:No):x.tick.id=x.id/\x.tick.ro=x.tk1.ro/\x.tk1.id=x.id:=by
 have hn:∀z:No,z.noted.id=z.id/\z.noted.ro=z.ro:=fun z=>by unfold No.noted;split <;> exact⟨rfl,rfl⟩
 have h1:x.tk1.id=x.id:=by
  unfold No.tk1 No.clm
  repeat' split
  all_goals rfl
 unfold No.tick
 split
 ·exact⟨(hn _).1.trans h1,(hn _).2,h1⟩
 ·exact⟨h1,rfl,h1⟩
theorem tk1_ac (h0:0<=x.ro.ep) (ha:x.ro.ac=true->0 < x.ro.ep):x.tk1.ro.ac=true->0 < x.tk1.ro.ep:=by
 have ht:x.ticked.ro.ac=true->0 < x.ticked.ro.ep:=fun k=>by
  have e:x.ticked.ro.ep=x.ro.ep:=tick_ep x.ro
  have e2:x.ticked.ro.ac=x.ro.ac:=(tick_nd' x.ro).2
  rw[e];exact ha (by rw[<- e2];exact k)
 unfold No.tk1
 split
 ·unfold No.clm
  split
  ·rename_i hz
   split
   ·show(x.ticked.ro.claim x.ticked.ro.nxV).ac=true->0 < (x.ticked.ro.claim x.ticked.ro.nxV).ep
    unfold Ro.claim
    split
    ·intro _
     show 0 < x.ticked.ro.nxV
     have hb:=nx_bound x.ticked.ro
     have e:x.ticked.ro.ep=x.ro.ep:=tick_ep x.ro
     unfold Ro.nxE at hz
     unfold Ro.nxV
     split
     ·rename_i h7;rw[if_pos h7]at hz;cases hz
     ·omega
    ·exact ht
   ·exact ht
  ·exact ht
 ·exact ht
def Liv (x:No):Prop:=(x.y.on=true/\x.off=false)/\(x.id=0\/x.id=1)/\(x.ro.ac=true->0 < x.ro.ep)
theorem Liv.as {z:No} (h:Liv x) (y:z.y.on=x.y.on) (o:z.off=x.off) (i:z.id=x.id) (r:z.ro=x.ro):Liv z:=⟨⟨y.trans h.1.1,o.trans h.1.2⟩,by rw[i];exact h.2.1,by rw[r];exact h.2.2⟩
theorem Liv.tick (h:Liv x) (h0:0<=x.ro.ep):(x.tkE=0/\Liv x.tick)\/(x.tkE=7/\x.tick.y.on=false)\/(x.tkE≠0/\x.tkE≠7/\Liv x.tick):=by
 have e:x.ticked.cp=putE false x.y x.ticked.ro.nxV x.life:=by show putE x.off x.y x.ticked.ro.nxV x.life=_;rw[h.1.2]
 have t:=tick_tk2 x
 have r:(x.tick.id=0\/x.tick.id=1)/\(x.tick.ro.ac=true->0 < x.tick.ro.ep):=by rw[t.1,t.2.1];exact⟨h.2.1,tk1_ac h0 h.2.2⟩
 unfold Liv
 rcases tick_y x with⟨h1,h2,h3⟩ | ⟨h1,h2,h3⟩
 ·rw[h1,h2,h3,e]
  rcases putE_on (ep:=x.ticked.ro.nxV) (li:=x.life) h.1.1 with⟨k1,k2,k3⟩ | ⟨k1,k2⟩ | ⟨k1,k2,k3,k4⟩
  ·exact .inl ⟨k1,⟨k2,k3⟩,r⟩
  ·exact .inr (.inl ⟨k1,k2⟩)
  ·exact .inr (.inr ⟨k1,k2,⟨k3,k4⟩,r⟩)
 ·rw[h1,h2,h3]
  exact .inl ⟨rfl,h.1,r⟩
theorem Liv.new {i:Nat} (hi:i < 2) {y:By} {l:List Rl} (h:(putE false y ((newest y.B).e:Int) (((newest y.B).l:Int)+1)).1=0) (ho:y.on=true):Liv (No.new i y l):=by
 refine⟨⟨?_,rfl⟩,(by show(i:Int)=0\/(i:Int)=1;omega),fun k=>by cases k⟩
 show(putE false y ((newest y.B).e:Int) (((newest y.B).l:Int)+1)).2.1.on=true
 rcases putE_on (y:=y) (ep:=((newest y.B).e:Int)) (li:=((newest y.B).l:Int)+1) ho with⟨_,k2,_⟩ | ⟨k1,_⟩ | ⟨_,_,k3,_⟩
 ·exact k2
 ·rw[h]at k1;cases k1
 ·exact k3
def Cla (a e:Int):Prop:=(a=0\/a=1)/\0 < e
structure Lv (W:Wo):Prop where
 n:∀i x,W.nd i=some x->Liv x
 f:∀t ∈ W.fl,t.cl=true->Cla t.fr t.ep
 s:W.he≠0->Cla W.hn W.he
theorem Lv.born {l:List Rl} (hr:RulesOk l):Lv (Wo.born l):=by
 refine⟨fun i x hx=>?_,fun t ht=>?_,fun h=>absurd rfl h⟩
 ·have hx':(if i < 2 then some (No.new i new0.oned l) else none)=some x:=hx
  split at hx'
  ·rename_i hi
   cases hx'
   exact Liv.new hi (YI.zero.newOk (by omega) hi hr).pu rfl
  ·cases hx'
 ·have h':t ∈ ([]:List Nf):=ht
  simp at h'
theorem Lv.set (h:Lv W) {i:Nat} {x:No} (hx:Liv x):Lv {W with nd:=setN W.nd i (some x)}:=⟨fun j y hy=>by
 have hy':setN W.nd i (some x) j=some y:=hy
 by_cases e:j=i
 ·subst e;rw[setN_same]at hy';cases hy';exact hx
 ·rw[setN_other _ _ e]at hy';exact h.n j y hy',h.f,h.s⟩
theorem Lv.fallen (h:Lv W) {i:Nat} {y:By}:Lv (W.fallen i y):=⟨fun j x hx=>by
 have hx':setN W.nd i none j=some x:=hx
 by_cases e:j=i
 ·subst e;rw[setN_same]at hx';cases hx'
 ·rw[setN_other _ _ e]at hx';exact h.n j x hx',h.f,h.s⟩
theorem Lv.landed (h:Lv W) (k:Nat):Lv (W.landed k):=⟨h.n,fun t ht=>h.f t (List.mem_of_mem_eraseIdx ht),h.s⟩
theorem Lv.sent (h:Lv W) {l:List Nf} (hl:∀t ∈ l,t.cl=true->Cla t.fr t.ep):Lv (W.sent l):=⟨h.n,fun t ht hc=>by
 rcases List.mem_append.1 ht with k | k
 ·exact h.f t k hc
 ·exact hl t (List.mem_of_mem_take k) hc,h.s⟩
theorem Lv.stp {q:Nat} {W':Wo} (h:Lv W) (hI:In q W) (hq:q<=100000) (hr:RulesOk W.ru) (s:Stp W W'):Lv W':=by
 cases s with
 | tick n =>
  unfold Wo.tcd
  split
  ·cases hx:W.nd n.toNat with
   | none=>exact h
   | some x =>
    show Lv (W.ticked n.toNat x)
    have h0:0<=x.ro.ep:=by have:=(hI.up _ x hx).ep;omega
    have hl:=h.n _ x hx
    have k:=hl.tick h0
    have hf:∀t ∈ x.tickL.map x.tk1.fly,t.cl=true->Cla t.fr t.ep:=fun t ht _=>by
     obtain⟨u,hu,rfl⟩:=List.mem_map.1 ht
     have hac:x.tk1.ro.ac=true:=by
      unfold No.tickL at hu
      split at hu
      ·unfold No.notes at hu
       split at hu
       ·assumption
       ·simp at hu
      ·simp at hu
     refine⟨?_,tk1_ac h0 hl.2.2 hac⟩
     show x.tk1.id=0\/x.tk1.id=1
     rw[(tick_tk2 x).2.2]
     exact hl.2.1
    unfold Wo.ticked
    split
    ·rename_i e0
     have hl:Liv x.tick:=by
      rcases k with k | k | k
      ·exact k.2
      ·omega
      ·exact absurd e0 k.1
     refine Lv.sent ?_ hf
     have k2:=h.set (i:=n.toNat) hl
     split
     ·exact⟨k2.n,k2.f,k2.s⟩
     ·exact k2
    ·rename_i e0
     split
     ·exact h.fallen
     ·rename_i e7
      have hl:Liv x.tick:=by
       rcases k with k | k | k
       ·exact absurd k.1 e0
       ·exact absurd k.1 e7
       ·exact k.2.2
      exact h.set hl
  ·exact h
 | down n =>
  unfold Wo.downed
  split
  ·cases hx:W.nd n.toNat with
   | none=>exact h
   | some x=>exact h.fallen
  ·exact h
 | up n =>
  unfold Wo.upped
  split
  ·rename_i e
   unfold Wo.roE at e
   split at e
   ·rename_i h2
    split at e
    ·omega
    ·rename_i hs
     have hn:W.nd n.toNat=none:=by cases hq2:W.nd n.toNat with | none=>rfl | some y=>rw[hq2]at hs;simp at hs
     exact h.set (i:=n.toNat) (Liv.new (by omega) ((hI.dn _ (by omega) hn).newOk hq (i:=n.toNat) (by omega) hr).pu rfl)
   ·omega
  ·exact h
 | cut n m =>
  unfold Wo.cutted
  split
  ·cases hx:W.nd n.toNat with
   | none=>exact h
   | some x =>
    refine h.set (i:=n.toNat) (x:=x.setCut m) ((h.n _ x hx).as ?_ rfl rfl rfl)
    show(x.y.setCut m).on=x.y.on
    unfold By.setCut
    split <;> rfl
  ·exact h
 | ins p =>
  unfold Wo.ins
  split
  ·rename_i i x hc
   have e:(x.ins p).y=x.y/\(x.ins p).off=x.off/\(x.ins p).id=x.id/\(x.ins p).ro=x.ro:=by
    unfold No.ins No.ou No.stp No.bg
    repeat' split
    all_goals exact⟨rfl,rfl,rfl,rfl⟩
   exact h.set ((h.n i x (cho_some hc).2.1).as (by rw[e.1]) e.2.1 e.2.2.1 e.2.2.2)
  ·exact h
 | ots p =>
  unfold Wo.ots
  split
  ·rename_i i x hc
   have e:(x.ots p).y=x.y/\(x.ots p).off=x.off/\(x.ots p).id=x.id/\(x.ots p).ro=x.ro:=by
    unfold No.ots No.stp
    repeat' split
    all_goals exact⟨rfl,rfl,rfl,rfl⟩
   exact h.set ((h.n i x (cho_some hc).2.1).as (by rw[e.1]) e.2.1 e.2.2.1 e.2.2.2)
  ·exact h
 | drop n =>
  unfold Wo.dropped
  split
  ·exact h.landed _
  ·exact h
 | twice n =>
  have s:=W.twiced_same n
  refine⟨fun i x hx=>?_,fun t ht=>h.f t (Wo.twiced_mem t ht),?_⟩
  ·rw[s.1]at hx
   exact h.n i x hx
  ·rw[s.2.2.2.1,s.2.2.2.2.1]
   exact h.s
 | rules l hl =>
  refine⟨fun i x hx=>?_,h.f,h.s⟩
  have hx':(if i < 2 then (W.nd i).map (fun y=>({y with ru:=l}:No)) else W.nd i)=some x:=hx
  split at hx'
  ·obtain⟨y,hy,rfl⟩:=Option.map_eq_some_iff.1 hx'
   exact h.n i y hy
  ·exact h.n i x hx'
 | dlv n =>
  unfold Wo.dlv
  split
  ·cases ht:W.fl[n.toNat]? with
   | none=>exact h
   | some t =>
    show Lv (W.delivered n.toNat t)
    have h':=h.landed n.toNat
    unfold Wo.delivered
    split
    ·rename_i hc
     unfold Wo.heard
     split
     ·exact⟨h'.n,h'.f,fun _=>h.f t (List.mem_of_getElem? ht) hc⟩
     ·exact h'
    ·unfold Wo.handed
     split
     ·rename_i x hx
      have k:=h'.n _ x hx
      refine h'.set ?_
      unfold No.hrd
      split
      ·refine⟨k.1,k.2.1,?_⟩
       show(x.ro.hear t.ep).ac=true->0 < (x.ro.hear t.ep).ep
       unfold Ro.hear
       split
       ·rename_i hh
        intro ha
        have ha':(x.ro.ac && !decide (x.ro.ep < t.ep))=true:=ha
        unfold Ro.heard at hh
        simp at ha' hh
        have:=k.2.2 ha'.1
        show 0 < t.ep
        omega
       ·exact k.2.2
      ·exact k
     ·exact h'
  ·exact h
 | stay=>exact h
theorem Lv.tkOk {q:Nat} (h:Lv W) (hI:In q W) (hq:q<=100000) (n:Int):TkOk W n:=fun i x _ hx=>by
 have k:=(h.n i x hx).tick (by have:=(hI.up _ x hx).ep;omega)
 rcases(hI.up i x hx).tkE hq with e | e
 ·rcases k with k | k | k
  ·exact .inl ⟨k.1,k.2.1.1⟩
  ·omega
  ·exact absurd e k.1
 ·rcases k with k | k | k
  ·omega
  ·exact .inr k
  ·exact absurd e k.2.1
theorem Lv.swOk (h:Lv W):SwOk W:=fun hz=>by
 have:=(h.s hz).1
 omega
theorem Lv.flOk (h:Lv W):FlOk W:=by
 refine⟨?_,fun t ht hc=>(h.f t ht hc).2⟩
 by_cases hz:W.he=0
 ·omega
 ·exact Int.le_of_lt (h.s hz).2
end
section
variable {w:World} {g cap k:Nat}
theorem wp_copy_eq {P:Program} {o:Oper} {a:Act} {K:Act->World->Prop} {Q:Exit->Act->World->Prop} (d s:Operand) (t:TypeId) (ho:o.op=.call {callee:=.builtin .copy,args:=#[d,s],argTypes:=#[t,t]})
  (u v v':Value) (w':World) (hd:a.eval d=u) (hs:a.eval s=v) (hr:(Builtin.copy_ #[t,t] o.type #[u,v]).run P w=.ok v' w') (h:K (a.put o.dst v') w'):o.wp P a w K Q:=by
 unfold Oper.wp execOp
 simp only[ho,resolve,invoke,builtin,Sem.run_bind,Sem.run_pure,Result.andThen_ok,List.map_toArray,List.map_cons,List.map_nil,hd,hs,hr]
 exact h
theorem wpList_copy_eq {P:Program} {ops:Array Oper} {rest:List Oper} {o:Oper} {a:Act} {Q:Exit->Act->World->Prop} (hgd:o.guard=none) (d s:Operand) (t:TypeId) (ho:o.op=.call {callee:=.builtin .copy,args:=#[d,s],argTypes:=#[t,t]})
  (u v v':Value) (w':World) (hd:a.eval d=u) (hs:a.eval s=v) (hr:(Builtin.copy_ #[t,t] o.type #[u,v]).run P w=.ok v' w') (h:wpList P ops Q rest (a.put o.dst v') w'):wpList P ops Q (o::rest) a w :=
 wpList_plain hgd fun _ hK=>wp_copy_eq d s t ho u v v' w' hd hs hr (hK _ _ h)
theorem rw_copy {cur:Array Value} (h:w.heap[g]? = some (.cells cur 105 (0,0))) (o n dl dc sl sc:Nat) (sa:Addr) (news:List Value) (hn:Nat.min sl dl=n) (hlen:news.length=n * 5) (hone:∀u ∈ news,u.oneCell'=true)
  (hsrc:∀j v,news[j]? = some v->w.cell? (sa.add j)=some v) (hfit:o+news.length<=cur.size) (ty:TypeId) :
  ∃w',(Builtin.copy_ #[47,47] ty #[.slice (some (g,o)) dl dc,.slice (some sa) sl sc]).run Tryz.prog w=.ok (goInt n) w'/\w'.heap[g]? = some (.cells (cur.toList.take o++news++cur.toList.drop (o+news.length)).toArray 105 (0,0))/\Chg g w w':=by
 obtain⟨i,hi,hz⟩:=noteInfo
 have hf:=run_firstCells_some (P := Tryz.prog) w i.size n sa sl sc news (by rw[hz];exact hlen) hsrc
 have hst:=run_storeCells_at Tryz.prog g o 105 news 0 cur w h (by simpa using hfit) hone
 rw[Nat.add_zero]at hst
 refine⟨_,?_,setRow_heap w g cur _ _ _ h,chg_row _ _ _⟩
 rw[hz]at hf
 simp[Builtin.copy_,run_underlying Tryz.underlying47,sizeOf,typeInfo,hi,hz,Builtin.lenOf,hn,hf,hst]
theorem insertIdx_get {α:Type} (l:List α) (k:Nat) (r:α) (hk:k<=l.length) (i:Nat):(l.insertIdx k r)[i]? = if i < k then l[i]? else if i=k then some r else l[i - 1]? := by
 rw[List.getElem?_insertIdx]
 by_cases h1:i < k
 ·rw[if_pos h1,if_pos h1]
 ·rw[if_neg h1,if_neg h1]
  by_cases h2:i=k
  ·rw[if_pos h2,if_pos h2,if_pos (by omega)]
  ·rw[if_neg h2,if_neg h2]
theorem insertIdx_five {R:List (List Value)} {k:Nat} {r:List Value} (h:∀x ∈ R,Five x) (hr:Five r):∀x ∈ R.insertIdx k r,Five x:=fun x hx=>by
 by_cases hk:k<=R.length
 ·rcases(List.mem_insertIdx hk).1 hx with e | e
  ·rw[e];exact hr
  ·exact h x e
 ·rw[List.insertIdx_of_length_lt (by omega)]at hx
  exact h x hx
theorem rw_put {n:Nat} {R:List (List Value)} {cur:Array Value} {r:List Value} (h:w.heap[g]? = some (.cells cur 105 (0,0))) (hsz:cur.size=cap * 5) (hR:R.length=n) (hok:∀x ∈ R,Five x) (hr:Five r) (hk:k<=n) (hn:n+1<=cap)
  (hlo:∀i x j,i < k->R[i]? = some x->j < 5->cur[i * 5+j]? = x[j]?) (hhi:∀i x j,k<=i->R[i]? = some x->j < 5->cur[(i+1) * 5+j]? = x[j]?) (hat:∀j,j < 5->cur[k * 5+j]? = r[j]?):RwB w g cap (R.insertIdx k r) cur:=by
 refine⟨h,hsz,by rw[List.length_insertIdx_of_le_length (by omega)];omega,fun i x j hx hj=>?_,insertIdx_five hok hr⟩
 rw[insertIdx_get R k r (by omega)]at hx
 by_cases h1:i < k
 ·rw[if_pos h1]at hx;exact hlo i x j h1 hx hj
 ·rw[if_neg h1]at hx
  by_cases h2:i=k
  ·rw[if_pos h2]at hx
   cases hx
   rw[h2]
   exact hat j hj
  ·rw[if_neg h2]at hx
   have:=hhi (i - 1) x j (by omega) hx hj
   rw[show i - 1+1=i by omega]at this
   exact this
theorem drop_src {R:List (List Value)} (hok:∀x ∈ R,Five x) (k:Nat):((R.drop k).flatten).length=(R.length - k) * 5/\(∀u ∈ (R.drop k).flatten,u.oneCell'=true)/\∀a j,j < 5->((R.drop k).flatten)[a * 5+j]? = (R[k+a]?).bind (·[j]?):=by
 have hN:∀r ∈ R.drop k,Five r:=fun r hr=>hok r (List.mem_of_mem_drop hr)
 refine⟨by rw[flat_len hN,List.length_drop],flat_one hN,fun a j hj=>by rw[flat_get hN a j hj,List.getElem?_drop]⟩
theorem rw_ins {R:List (List Value)} {cur:Array Value} {r:List Value} (h:RwB w g cap R cur) (hr:Five r) (hk:k < R.length) (hroom:R.length+1<=cap) (vb:Nat) (hvb:vb≠g) (hv:∀j u,r[j]? = some u->w.cell? ⟨vb,j,none⟩=some u) (ty:TypeId) (d1 s1 d2 s2:Nat) :
  ∃w1 w2,(Builtin.copy_ #[47,47] ty #[.slice (some (g,(k+1) * 5)) (R.length - k) d1,.slice (some (g,k * 5)) (R.length+1 - k) s1]).run Tryz.prog w=.ok (goInt ((R.length - k:Nat):Int)) w1/\(Builtin.copy_ #[47,47] ty #[.slice (some (g,k * 5)) (R.length+1 - k) d2,.slice (some (vb,0)) 1 s2]).run Tryz.prog w1=.ok (goInt 1) w2/\(∃cur',RwB w2 g cap (R.insertIdx k r) cur')/\Chg g w w2:=by
 obtain⟨hl,hone,hget⟩:=drop_src h.ok k
 have hsz:=h.sz
 have hfit:(k+1) * 5+((R.drop k).flatten).length<=cur.size:=by rw[hl,hsz];omega
 obtain⟨w1,e1,q1,c1⟩:=rw_copy h.h ((k+1) * 5) (R.length - k) (R.length - k) d1 (R.length+1 - k) s1 (g,k * 5) _ (by simp only[Nat.min_def];split <;> omega) hl hone (fun j v hv=>by
  have e:j=j / 5 * 5+j % 5:=by omega
  have hj5:j % 5 < 5:=Nat.mod_lt _ (by omega)
  rw[e,hget _ _ hj5]at hv
  obtain⟨x,hx,hv⟩:=Option.bind_eq_some_iff.1 hv
  have:=h.cell hx hj5
  rw[hv]at this
  rw[addr_addW,show k * 5+j=(k+j / 5) * 5+j % 5 by omega]
  exact this) hfit ty
 have hsz1:=patch_size cur ((k+1) * 5) _ hfit
 have hat1:=patch_at cur ((k+1) * 5) _ hfit
 generalize (cur.toList.take ((k+1) * 5)++(R.drop k).flatten++cur.toList.drop ((k+1) * 5+((R.drop k).flatten).length)).toArray=cur1 at q1 hsz1 hat1
 have hfit2:k * 5+r.length<=cur1.size:=by rw[hsz1,hsz,hr.1];omega
 obtain⟨w2,e2,q2,c2⟩:=rw_copy q1 (k * 5) 1 (R.length+1 - k) d2 1 s2 (vb,0) r (by simp only[Nat.min_def];split <;> omega) (by rw[hr.1]) hr.2 (fun j v hj=>by
  rw[addr_addW,Nat.zero_add]
  exact c1.keeps hvb (hv j v hj)) hfit2 ty
 have hsz2:=patch_size cur1 (k * 5) _ hfit2
 have hat2:=patch_at cur1 (k * 5) _ hfit2
 generalize (cur1.toList.take (k * 5)++r++cur1.toList.drop (k * 5+r.length)).toArray=cur2 at q2 hsz2 hat2
 refine⟨w1,w2,e1,e2,⟨cur2,rw_put q2 (by omega) rfl h.ok hr (by omega) hroom ?_ ?_ ?_⟩,c1.trans c2⟩
 ·intro i x j hi hx hj
  rw[hat2,if_neg (by omega),hat1,if_neg (by omega)]
  exact h.at' i x j hx hj
 ·intro i x j hi hx hj
  have hil:=(List.getElem?_eq_some_iff.1 hx).1
  rw[hat2,if_neg (by rw[hr.1];omega),hat1,if_pos (by rw[hl];omega),show(i+1) * 5+j - (k+1) * 5=(i - k) * 5+j by omega,hget _ _ hj,show k+(i - k)=i by omega,hx]
  rfl
 ·intro j hj
  rw[hat2,if_pos (by rw[hr.1];omega),show k * 5+j - k * 5=j by omega]
theorem rw_gro {G cap':Nat} {R:List (List Value)} {cur ROW:Array Value} {r:List Value} (h:RwB w g cap R cur) (hG:w.heap[G]? = some (.cells ROW 105 (0,0))) (hg:g≠G) (hr:Five r) (hk:k < R.length) (hsz:ROW.size=cap' * 5) (hroom:R.length+1<=cap')
  (hlo:∀i x j,i < k->R[i]? = some x->j < 5->ROW[i * 5+j]? = x[j]?) (vb:Nat) (hv:∀j u,r[j]? = some u->w.cell? ⟨vb,j,none⟩=some u) (ty:TypeId) (d1 s1 d2 s2:Nat) :
  ∃w1 w2,(Builtin.copy_ #[47,47] ty #[.slice (some (G,k * 5)) (R.length+1 - k) d1,.slice (some (vb,0)) 1 s1]).run Tryz.prog w=.ok (goInt 1) w1/\(Builtin.copy_ #[47,47] ty #[.slice (some (G,(k+1) * 5)) (R.length - k) d2,.slice (some (g,k * 5)) (R.length - k) s2]).run Tryz.prog w1.drew=.ok (goInt ((R.length - k:Nat):Int)) w2/\(∃cur',RwB w2 G cap' (R.insertIdx k r) cur')/\Chg G w w2:=by
 obtain⟨hl,hone,hget⟩:=drop_src h.ok k
 have hfit2:k * 5+r.length<=ROW.size:=by rw[hsz,hr.1];omega
 obtain⟨w1,e1,q1,c1⟩:=rw_copy hG (k * 5) 1 (R.length+1 - k) d1 1 s1 (vb,0) r (by simp only[Nat.min_def];split <;> omega) (by rw[hr.1]) hr.2 (fun j v hj=>by
  rw[addr_addW,Nat.zero_add]
  exact hv j v hj) hfit2 ty
 have hsz1:=patch_size ROW (k * 5) _ hfit2
 have hat1:=patch_at ROW (k * 5) _ hfit2
 generalize (ROW.toList.take (k * 5)++r++ROW.toList.drop (k * 5+r.length)).toArray=cur1 at q1 hsz1 hat1
 have hfit:(k+1) * 5+((R.drop k).flatten).length<=cur1.size:=by rw[hl,hsz1,hsz];omega
 have q1':w1.drew.heap[G]? = some (.cells cur1 105 (0,0)):=q1
 obtain⟨w2,e2,q2,c2⟩:=rw_copy q1' ((k+1) * 5) (R.length - k) (R.length - k) d2 (R.length - k) s2 (g,k * 5) _ (by simp only[Nat.min_def];split <;> omega) hl hone (fun j v hv=>by
  have e:j=j / 5 * 5+j % 5:=by omega
  have hj5:j % 5 < 5:=Nat.mod_lt _ (by omega)
  rw[e,hget _ _ hj5]at hv
  obtain⟨x,hx,hv⟩:=Option.bind_eq_some_iff.1 hv
  have:=h.cell hx hj5
  rw[hv]at this
  rw[addr_addW,show k * 5+j=(k+j / 5) * 5+j % 5 by omega]
  exact c1.keeps hg this) hfit ty
 have hsz2:=patch_size cur1 ((k+1) * 5) _ hfit
 have hat2:=patch_at cur1 ((k+1) * 5) _ hfit
 generalize (cur1.toList.take ((k+1) * 5)++(R.drop k).flatten++cur1.toList.drop ((k+1) * 5+((R.drop k).flatten).length)).toArray=cur2 at q2 hsz2 hat2
 refine⟨w1,w2,e1,e2,⟨cur2,rw_put q2 (by omega) rfl h.ok hr (by omega) hroom ?_ ?_ ?_⟩,(c1.trans (Chg.of (Below.refl _ _).drew)).trans c2⟩
 ·intro i x j hi hx hj
  rw[hat2,if_neg (by omega),hat1,if_neg (by omega)]
  exact hlo i x j hi hx hj
 ·intro i x j hi hx hj
  have hil:=(List.getElem?_eq_some_iff.1 hx).1
  rw[hat2,if_pos (by rw[hl];omega),show(i+1) * 5+j - (k+1) * 5=(i - k) * 5+j by omega,hget _ _ hj,show k+(i - k)=i by omega,hx]
  rfl
 ·intro j hj
  rw[hat2,if_neg (by omega),hat1,if_pos (by rw[hr.1];omega),show k * 5+j - k * 5=j by omega]
def Insd (w:World) (g n k:Nat) (R:List (List Value)) (r:List Value) (e:Ending) (w':World):Prop:=∃g' c' cur',e=.returned (.slice (some ⟨g',0,none⟩) (n+1) c')/\RwB w' g' c' (R.insertIdx k r) cur'/\c'<=maxLen/\Chg g w w'/\(g'=g\/w.heap.size<=g')
end
theorem ninsert_end (g cap:Nat) (R:List (List Value)) (r:List Value) (cur:Array Value) (w:World) (h:RwB w g cap R cur) (hr:Five r) (hn:R.length<=200) (hc:cap<=maxLen) (vb:Nat) (hv:∀j u,r[j]? = some u->w.cell? ⟨vb,j,none⟩=some u) :
  Calls Tryz.prog 153 #[.slice (some (g,0)) R.length cap,R.length,.slice (some (vb,0)) 1 1] w fun e w'=>Insd w g R.length R.length R r e w':=by
 obtain⟨i0,hi,hz0,hz1,hz2⟩:=info_parts Tryz.infoNote
 have hlt:=h.lt
 have own:=h.own (base:=0) hc (Nat.zero_le _)
 obtain⟨v',w4,a1,a2,a3,_,a5⟩:=run_append_own_at (P := Tryz.prog) w 0 47 47 105 i0 _ 5 56 Tryz.underlying47 hi hz0 hz1 hz2 rfl (by decide) (.slice (some ⟨g,0,none⟩) R.length cap) R.length R.flatten own ⟨vb,0,none⟩ 1 1 r (by rw[hr.1]) (fun j u hj=>by rw[addr_addW,Nat.zero_add];exact hv j u hj) hr.2 (by unfold maxLen;omega) (by omega) (Nat.zero_le _)
 have hfl:R.flatten++r=(R++[r]).flatten:=by simp
 rw[hfl]at a2
 have hRr:∀x ∈ R++[r],Five x:=fun x hx=>by
  rcases List.mem_append.1 hx with q | q
  ·exact h.ok x q
  ·have:x=r:=by simpa using q
   rw[this];exact hr
 obtain⟨g',c',rfl,hg0,hg1,hg2,hg3⟩:∃g' c',v'=.slice (some ⟨g',0,none⟩) (R.length+1) c'/\0<=g'/\g' < w4.heap.size/\R.length+1<=c'/\c'<=maxLen:=by
  rcases ownsRow_cases a2 with⟨_,q⟩ | q
  ·omega
  ·exact q
 obtain⟨cur',R4⟩:=RwB.of_own a2 hRr (by simp)
 have HR4:Hid (RwB w4 g' c' (R.insertIdx R.length r) cur'):=by rw[List.insertIdx_length_self];exact R4
 have HC4:Hid (c'<=maxLen/\Chg g w w4/\(g'=g\/w.heap.size<=g')):=by
  refine⟨hg3,⟨a3.os,a3.tape,a3.output,a3.size,fun q hq hn=>a3.block q hq (fun e=>hn (by cases e;rfl))⟩,?_⟩
  rcases a5 with q | q
  ·cases q;exact .inl rfl
  ·cases q;exact .inr (Nat.le_refl _)
 have k1:(R.length:Int)<=(cap:Int):=by have:=h.le;omega
 have k2:R.length<=cap:=h.le
 clear h hr hn hc hv own a2 a3 a5 hfl hRr hg0 hg1 hg2 hg3 R4 hlt
 by_cases hcap:cap=R.length
 all_goals
  go_enter Tryz.func153,Tryz.ntmps153
  go_wp2_with (at_builtin;refine wpList_append_eq rfl _ _ 47 rfl _ _ _ _ rfl rfl a1 ?_)
  go_ret
  exact⟨g',c',cur',rfl,HR4,HC4⟩
theorem overlaps_apart (w:World) (g vb cap vc la lb o:Nat) (cur:Array Value) (r:List Value) (hg:w.heap[g]? = some (.cells cur 105 (0,0))) (hz:cur.size≠0) (hv:w.heap[vb]? = some (.cells r.toArray 105 (0,0))) (hne:vb≠g) :
  (callFunc 185 #[.slice (some (vb,0)) la vc,.slice (some (g,o)) lb cap]).run Tryz.prog w=.ok (.value (.bool false)) w:=by
 have hsz:∀w,(Go.sizeOf 105).run Tryz.prog w=.ok 5 w:=fun w=>by kernel_rfl
 rw[run_callFunc_extern Tryz.func185 (by kernel_rfl) (by kernel_rfl) (by kernel_rfl) (e:=Extern.SlicesOverlaps.overlaps #[47,47] #[4]) (by kernel_rfl),
  Go.Lib.run_overlaps_apart w 47 4 105 Tryz.underlying47 5 hsz ⟨vb,0,none⟩ ⟨g,o,none⟩ la vc lb cap hne 105 105 r.toArray.size cur.size (by simp[World.shape?,hv]) (by simp[World.shape?,hg]) hz (by simp[World.frozen?,hv]) (by simp[World.frozen?,hv])]
 rfl
theorem ninsert_shift (g cap k:Nat) (R:List (List Value)) (r:List Value) (cur:Array Value) (w:World) (h:RwB w g cap R cur) (hr:Five r) (hk:k < R.length) (hroom:R.length+1<=cap) (hc:cap<=maxLen) (vb:Nat) (hvb:vb≠g) (hv:w.heap[vb]? = some (.cells r.toArray 105 (0,0))) :
  Calls Tryz.prog 153 #[.slice (some (g,0)) R.length cap,k,.slice (some (vb,0)) 1 1] w fun e w'=>Insd w g R.length k R r e w':=by
 have hD:RwB w.drew g cap R cur:=⟨h.h,h.sz,h.le,h.at',h.ok⟩
 have hov:=overlaps_apart w g vb (cap - (k+1)) 1 1 (R.length - k) ((k+1) * 5) cur r h.h (by rw[h.sz];omega) hv hvb
 obtain⟨w1,w2,e1,e2,⟨cur',R2⟩,C2⟩:=rw_ins hD hr hk hroom vb hvb (fun j u hj=>by rw[cell_of_row w.drew vb _ _ _ _ hv];simpa using hj) 3 (cap - (k+1)) (cap - k) (cap - k) 1
 have HR2:Hid (RwB w2 g cap (R.insertIdx k r) cur'/\Chg g w w2/\cap<=maxLen):=⟨R2,(Chg.of (Below.refl _ _).drew).trans C2,hc⟩
 obtain⟨n,hn⟩:∃n,n=R.length:=⟨_,rfl⟩
 rw[<- hn]at hov e1 e2 hk hroom ⊢
 have k0:(0:Int)<=(k:Int):=by omega
 have k1:(k:Int)<=(n:Int):=by omega
 have k2:(k:Int)<=(cap:Int):=by omega
 have k3:((k:Int)==(n:Int))=false:=by rw[beq_eq_false_iff_ne];omega
 have k4:¬(cap:Int) < (n:Int)+1:=by omega
 have k5:(0:Int)<=(n:Int)+1:=by omega
 have k6:(n:Int)+1<=(cap:Int):=by omega
 have k7:IntKind.i64.wrap ((k:Int)+1)=(k:Int)+1:=by unfold maxLen at hc;rw[IntKind.wrap_i64];omega
 have k8:IntKind.i64.wrap ((n:Int)+1)=(n:Int)+1:=by unfold maxLen at hc;rw[IntKind.wrap_i64];omega
 have k9:(0:Int)<=(k:Int)+1:=by omega
 have k10:(k:Int)+1<=(n:Int)+1:=by omega
 have k11:¬cap=k+1:=by omega
 have k12:¬cap=k:=by omega
 have k13:(k:Int)<=(n:Int)+1:=by omega
 have k14:k<=n:=by omega
 have k15:k<=n+1:=by omega
 clear h hr hk hroom hc hv hvb hD R2 C2 hn
 go_enter Tryz.func153,Tryz.ntmps153
 go_wp2_with (simp only[hov])
 refine wp_region_noPanic ?_
 refine wp_region_held_drew (S:=(fun w':World=>w'=w.drew\/w'=w1)) (by kernel_rfl) (.inl rfl) (fun _=>?_)
 refine tkA 0 (v:=?_) rfl (Or.inl ⟨by rfl,?_⟩) (.inl rfl) ?_
 rotate_left
 ·intro w9 hSw;(try dsimp only at hSw);go_simp;try (with_reducible rfl)
 simp only[sP]
 refine tkA 1 (v:=?_) rfl (Or.inl ⟨by rfl,?_⟩) (.inl rfl) ?_
 rotate_left
 ·intro w9 hSw;(try dsimp only at hSw);go_simp;try (with_reducible rfl)
 simp only[sP]
 refine tkA 2 (v:=?_) rfl (Or.inl ⟨by rfl,?_⟩) (.inl rfl) ?_
 rotate_left
 ·intro w9 hSw;(try dsimp only at hSw);go_simp;try (with_reducible rfl)
 simp only[sP]
 refine tkA 3 (v:=?_) rfl (Or.inl ⟨by rfl,?_⟩) (.inl rfl) ?_
 rotate_left
 ·intro w9 hSw;(try dsimp only at hSw);go_simp;try (with_reducible rfl)
 simp only[sP]
 refine tkA 4 (v:=?_) rfl (Or.inl ⟨by rfl,?_⟩) (.inl rfl) ?_
 rotate_left
 ·intro w9 hSw;(try dsimp only at hSw);go_simp;try (with_reducible rfl)
 simp only[sP]
 refine tkA 5 (v:=?_) rfl (Or.inl ⟨by rfl,?_⟩) (.inl rfl) ?_
 rotate_left
 ·intro w9 hSw;(try dsimp only at hSw);go_simp;try (with_reducible rfl)
 simp only[sP]
 refine tkA 6 (v:=?_) rfl (Or.inl ⟨by rfl,?_⟩) (.inl rfl) ?_
 rotate_left
 ·intro w9 hSw;(try dsimp only at hSw);go_simp;try (with_reducible rfl)
 simp only[sP]
 refine tkA 7 (v:=?_) rfl (Or.inl ⟨by rfl,?_⟩) (.inl rfl) ?_
 rotate_left
 ·intro w9 hSw;(try dsimp only at hSw);go_simp;try (with_reducible rfl)
 simp only[sP]
 refine wpAnyH_ready (rs:=[8]) (by kernel_rfl) (by simp) ?_
 refine AllReadyH.cons (o:=_) rfl (fun K hK=>?_) AllReadyH.nil
 refine Eq.mpr (if_pos (by kernel_rfl)) ?_
 refine wp_copy_eq (Operand.tmp 73) (Operand.tmp 76) 47 rfl _ _ _ _ rfl rfl e1 ?_
 refine hK.out _ _ ?_ (fun _=>?_)
 ·exact .inr rfl
 clear hK K
 try simp only[sP]
 refine wpAnyH_done (by kernel_rfl) ?_ _
 refine NoPanic.normal ?_
 clear e1 hov
 go_wp2_with (at_builtin;refine wpList_copy_eq rfl _ _ 47 rfl _ _ _ _ rfl rfl e2 ?_)
 go_ret
 exact⟨g,cap,cur',rfl,HR2.1,HR2.2.2,HR2.2.1,.inl rfl⟩
theorem ninsert_grow (g cap k:Nat) (R:List (List Value)) (r:List Value) (cur:Array Value) (w:World) (h:RwB w g cap R cur) (hr:Five r) (hk:k < R.length) (hn200:R.length<=200) (hroom:cap < R.length+1) (vb:Nat) (hv:∀j u,r[j]? = some u->w.cell? ⟨vb,j,none⟩=some u) :
  Calls Tryz.prog 153 #[.slice (some (g,0)) R.length cap,k,.slice (some (vb,0)) 1 1] w fun e w'=>Insd w g R.length k R r e w':=by
 obtain⟨i0,hi,hz0,hz1,hz2⟩:=info_parts Tryz.infoNote
 have hle:=h.le
 have hlt:=h.lt
 have hTk:∀x ∈ R.take k,Five x:=fun x hx=>h.ok x (List.mem_of_mem_take hx)
 have hold:(Builtin.firstCells i0.size k (.slice (some (g,0)) k cap)).run Tryz.prog w.drew=.ok ((R.take k).flatten).toArray w.drew:=run_firstCells_some w.drew i0.size k (g,0) k cap ((R.take k).flatten) (by rw[hz1,flat_len hTk,List.length_take];congr 1;omega) (fun j v hj=>by
  have e:j=j / 5 * 5+j % 5:=by omega
  have hj5:j % 5 < 5:=Nat.mod_lt _ (by omega)
  rw[e,flat_get hTk _ _ hj5]at hj
  obtain⟨x,hx,hv⟩:=Option.bind_eq_some_iff.1 hj
  rw[List.getElem?_take]at hx
  split at hx
  ·have:=h.cell hx hj5
   rw[hv]at this
   rw[addr_addW,Nat.zero_add,e]
   exact this
  ·cases hx)
 obtain⟨c',hc'⟩:∃c',c'=grownCap w (R.length+1) cap 105:=⟨_,rfl⟩
 have hc1:R.length+1<=c':=by rw[hc'];exact grownCap_ge _ _ _ _
 have hc2:c'<=maxLen:=by rw[hc'];exact grownCap_le_maxLen _ _ _ _ (by unfold maxLen;omega)
 have hap:=fun ty=>Go.Lib.run_append_grow_zeros (P := Tryz.prog) w 47 3 ty 105 i0 _ .i64 .i64 Tryz.underlying47 Tryz.underlying3 hi hz0 (some (g,0)) k cap ((R.take k).flatten) hold (R.length+1 - k) (by omega) (by rw[hz1];omega) (by omega) (by omega) (by rw[hz2];omega) (by rw[hz2];exact growslice_fits (by omega) (by omega))
 rw[show k+(R.length+1 - k)=R.length+1 by omega,<- hc']at hap
 obtain⟨ROW,hROW⟩:∃ROW:Array Value,ROW=((R.take k).flatten).toArray++Builtin.zeroCells (Value.cells (.agg #[.int .i64 0,.int .i64 0,.int .i64 0,.bool false,.slice none 0 0])) (R.length+1 - k)++Builtin.zeroCells (Value.cells (.agg #[.int .i64 0,.int .i64 0,.int .i64 0,.bool false,.slice none 0 0])) (c' - (R.length+1)):=⟨_,rfl⟩
 rw[<- hROW]at hap
 have hz5:(Value.cells (.agg #[.int .i64 0,.int .i64 0,.int .i64 0,.bool false,.slice none 0 0])).size=5:=by kernel_rfl
 have hsz:ROW.size=c' * 5:=by
  rw[hROW,Array.size_append,Array.size_append,size_zeroCells,size_zeroCells,hz5,List.size_toArray,flat_len hTk,List.length_take]
  omega
 have hlo:∀i x j,i < k->R[i]? = some x->j < 5->ROW[i * 5+j]? = x[j]? := fun i x j hik hx hj=>by
  have hl:i * 5+j < ((R.take k).flatten).toArray.size:=by rw[List.size_toArray,flat_len hTk,List.length_take];omega
  rw[hROW,Array.append_assoc,Array.getElem?_append_left hl,List.getElem?_toArray,flat_get hTk _ _ hj,List.getElem?_take,if_pos hik,hx]
  rfl
 obtain⟨W1,hW1⟩:∃W1,W1=w.drew.alloc (.cells ROW 105):=⟨_,rfl⟩
 rw[<- hW1]at hap
 have hb1:Below w w W1:=by rw[hW1];exact t2 (Below.refl _ _).drew (aB _ _)
 have hG:W1.heap[w.heap.size]? = some (.cells ROW 105 (0,0)):=by rw[hW1];exact heap_alloc_new w.drew _
 have h1:RwB W1 g cap R cur:=h.kept (hb1.block g hlt)
 obtain⟨w2,w3,e1,e2,⟨cur',R3⟩,C3⟩:=rw_gro h1 hG (by omega) hr hk hsz hc1 hlo vb (fun j u hj=>tk hb1 (hv j u hj)) 3 (c' - k) 1 (c' - (k+1)) (cap - k)
 have HR3:Hid (RwB w3 w c' (R.insertIdx k r) cur'/\Chg g w w3/\c'<=maxLen):=by
  refine⟨R3,⟨C3.os.trans hb1.os,C3.tape.trans hb1.tape,C3.output.trans hb1.output,Nat.le_trans hb1.size C3.size,fun q hq _=>(C3.block q (Nat.lt_of_lt_of_le hq hb1.size) (by omega)).trans (hb1.block q hq)⟩,hc2⟩
 obtain⟨n,hn⟩:∃n,n=R.length:=⟨_,rfl⟩
 rw[<- hn]at hap e1 e2 hk hroom hc1 hle hn200 ⊢
 have k5':((n+1 - k:Nat):Int)=(n:Int)+1 - (k:Int):=by omega
 rw[k5']at hap
 have k17:(n:Int)<=200:=by omega
 have k18:0 < (n:Int)+1 - (k:Int):=by omega
 have k0:(0:Int)<=(k:Int):=by omega
 have k1:(k:Int)<=(n:Int):=by omega
 have k2:(k:Int)<=(cap:Int):=by omega
 have k3:((k:Int)==(n:Int))=false:=by rw[beq_eq_false_iff_ne];omega
 have k4:(cap:Int) < (n:Int)+1:=by omega
 have k7:IntKind.i64.wrap ((k:Int)+1)=(k:Int)+1:=by rw[IntKind.wrap_i64];omega
 have k8:IntKind.i64.wrap ((n:Int)+1)=(n:Int)+1:=by rw[IntKind.wrap_i64];omega
 have k5:IntKind.i64.wrap ((n:Int)+1 - (k:Int))=(n:Int)+1 - (k:Int):=by rw[IntKind.wrap_i64];omega
 have k9:(0:Int)<=(k:Int)+1:=by omega
 have k10:(k:Int)+1<=(n:Int)+1:=by omega
 have k11:¬c'=k+1:=by omega
 have k12:¬c'=k:=by omega
 have k16:¬cap=k:=by omega
 have k13:(k:Int)<=(n:Int)+1:=by omega
 have k14:k<=n:=by omega
 have k15:k<=n+1:=by omega
 have HW:Hid (W1=w.drew.alloc (.cells ROW 105)):=hW1
 generalize hGe:w.heap.size=G at *
 have HGE:Hid (w.heap.size<=G):=(by omega:w.heap.size<=G)
 clear hGe k5' h hr hk hroom hv hTk hold hc' hc2 hROW hz5 hsz hlo hW1 hb1 hG h1 R3 C3 hn hlt hle hn200 hi hz0 hz1 hz2
 go_enter Tryz.func153,Tryz.ntmps153
 go_wp2_with (first
  | (at_builtin;refine Go.Lib.wpList_append_run _ rfl _ _ _ _ rfl _ _ rfl rfl _ _ (hap _) ?_)
  | (at_builtin;refine wpList_copy_eq rfl _ _ 47 rfl _ _ _ _ rfl rfl e1 ?_))
 refine wp_region_noPanic ?_
 refine wp_region_held_drew (S:=(fun w':World=>w'=w2.drew\/w'=w3)) (by kernel_rfl) (.inl rfl) (fun _=>?_)
 refine tkA 0 (v:=?_) rfl (Or.inl ⟨by rfl,?_⟩) (.inl rfl) ?_
 rotate_left
 ·intro w9 hSw;(try dsimp only at hSw);go_simp;try (with_reducible rfl)
 simp only[sP]
 refine tkA 1 (v:=?_) rfl (Or.inl ⟨by rfl,?_⟩) (.inl rfl) ?_
 rotate_left
 ·intro w9 hSw;(try dsimp only at hSw);go_simp;try (with_reducible rfl)
 simp only[sP]
 refine tkA 2 (v:=?_) rfl (Or.inl ⟨by rfl,?_⟩) (.inl rfl) ?_
 rotate_left
 ·intro w9 hSw;(try dsimp only at hSw);go_simp;try (with_reducible rfl)
 simp only[sP]
 refine tkA 3 (v:=?_) rfl (Or.inl ⟨by rfl,?_⟩) (.inl rfl) ?_
 rotate_left
 ·intro w9 hSw;(try dsimp only at hSw);go_simp;try (with_reducible rfl)
 simp only[sP]
 refine tkA 4 (v:=?_) rfl (Or.inl ⟨by rfl,?_⟩) (.inl rfl) ?_
 rotate_left
 ·intro w9 hSw;(try dsimp only at hSw);go_simp;try (with_reducible rfl)
 simp only[sP]
 refine tkA 5 (v:=?_) rfl (Or.inl ⟨by rfl,?_⟩) (.inl rfl) ?_
 rotate_left
 ·intro w9 hSw;(try dsimp only at hSw);go_simp;try (with_reducible rfl)
 simp only[sP]
 refine tkA 6 (v:=?_) rfl (Or.inl ⟨by rfl,?_⟩) (.inl rfl) ?_
 rotate_left
 ·intro w9 hSw;(try dsimp only at hSw);go_simp;try (with_reducible rfl)
 simp only[sP]
 refine tkA 7 (v:=?_) rfl (Or.inl ⟨by rfl,?_⟩) (.inl rfl) ?_
 rotate_left
 ·intro w9 hSw;(try dsimp only at hSw);go_simp;try (with_reducible rfl)
 simp only[sP]
 refine wpAnyH_ready (rs:=[8]) (by kernel_rfl) (by simp) ?_
 refine AllReadyH.cons (o:=_) rfl (fun K hK=>?_) AllReadyH.nil
 refine Eq.mpr (if_pos (by kernel_rfl)) ?_
 refine wp_copy_eq (Operand.tmp 50) (Operand.tmp 53) 47 rfl _ _ _ _ rfl rfl e2 ?_
 refine hK.out _ _ ?_ (fun _=>?_)
 ·exact .inr rfl
 clear hK K
 try simp only[sP]
 refine wpAnyH_done (by kernel_rfl) ?_ _
 refine NoPanic.normal ?_
 go_wp2_with fail
 go_ret
 exact⟨G,c',cur',rfl,HR3.1,HR3.2.2,HR3.2.1,.inr HGE⟩
end Go.Proofs.YtdpmeoflgpaljaaGreatDoor
