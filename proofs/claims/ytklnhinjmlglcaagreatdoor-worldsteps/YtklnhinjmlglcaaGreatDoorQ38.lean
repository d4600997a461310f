/-
  What the claimed theorem reaches, part Q38.
-/
import Derived.Test.YtklnhinjmlglcaaGreatDoorQ37
import Derived.Test.YtklnhinjmlglcaaGreatDoorQ25
import Derived.Test.YtklnhinjmlglcaaGreatDoorQ21
import Derived.Test.YtklnhinjmlglcaaGreatDoorQ00
import Derived.Test.YtklnhinjmlglcaaGreatDoorQ26
import Derived.Test.YtklnhinjmlglcaaGreatDoorQ22
import Derived.Lib.Overlaps
import Derived.Lib.AppendZerosOnto
import Derived.Laws.NewBlocks
import Derived.Test.YtklnhinjmlglcaaGreatDoorQ28
import Derived.Test.YtklnhinjmlglcaaGreatDoorQ20
import Derived.Test.YtklnhinjmlglcaaGreatDoorQ36
import Derived.Deep.RegionHeld3
import Derived.Test.YtklnhinjmlglcaaGreatDoorQ06
namespace Go.Proofs.YtklnhinjmlglcaaGreatDoor
open Go.RowKit
set_option maxRecDepth 100000
set_option maxHeartbeats 8000000
section
variable {w0 w:World} {D:RK} {W:Wo} {u:Nat}
theorem ddrop_any (h:RWd w0 w D W u) (n:Int) :
  Calls Tryz.prog 37 #[.pointer (some (D.wb,0)),n] w fun e w'=>e=.returned (.int .i64 (W.flE n:Nat))/\∃D',RWd w0 w' D' (W.dropped n) u/\RMv D D' w w':=by
 have HW:Hid (RWd w0 w D W u):=h
 clear h
 go_enter Tryz.func37,Tryz.ntmps37
 go_wp2_with fail
 refine(dtake_any HW n).mono ?_
 rintro e w1 (⟨he,rfl,wd,mv⟩ | ⟨t,v,D',he,ht,rfl,wd,mv,nt⟩)
 ·have K1:Hid (W.flE n=4/\RWd w0 w1 D W u/\RMv D D w w1):=⟨he,wd,mv⟩
  clear he wd mv
  go_wp2_with fail
  go_ret
  have b:=aB w1 (.cells #[.int .i64 0,.int .i64 0,.int .i64 0,.bool false,.slice none 0 0] 158)
  exact⟨by rw[K1.1];rfl,D,by unfold Wo.dropped;rw[if_neg (by have:=K1.1;omega)];exact K1.2.1.below b,K1.2.2.then b⟩
 ·have K1:Hid (W.flE n=0/\RWd w0 w1 D' (W.landed n.toNat) u/\RMv D D' w w1):=⟨he,wd,mv⟩
  obtain⟨⟨p,cap,rfl,_⟩,_⟩:=nt
  clear he wd mv ht
  go_wp2_with fail
  go_ret
  have b:=aB w1 (.cells #[t.fr,t.li,t.ep,.bool t.cl,.slice p t.cs.length cap] 158)
  exact⟨by rw[K1.1];rfl,D',by unfold Wo.dropped;rw[if_pos K1.1];exact K1.2.1.below b,K1.2.2.then b⟩
def FlOk (W:Wo):Prop:=0<=W.he/\∀t ∈ W.fl,t.cl=true->0 < t.ep
theorem RWd.hears (h:RWd w0 w D W u) (t:Nf) (he:W.he < t.ep) (h0:0<=W.he) {w':World} (e:w'=(w.setCell (D.wb,4) t.fr).setCell (D.wb,5) t.ep):RWd w0 w' D (W.heard t) u/\RMv D D w w':=by
 unfold Wo.heard
 rw[if_pos he]
 exact h.onTo t.fr t.ep (by omega) e
theorem RWd.hrd {w':World} {i:Nat} {r:RBk} {x:No} {t:Nf} (h:RWd w0 w D W u) (hi:i < 2) (hk:D.nk i=some r) (hx:W.nd i=some x) (nd:HearR w0 w' r (x.hrd t) (loU u) u (33 * u) w) (c:ChgL r.all w w') :
  ∃D',RWd w0 w' D' {W with nd:=setN W.nd i (some (x.hrd t))} u/\RMv D D' w w':=by
 obtain⟨r0,q0,e1,nd0,ey,n0,n1,id,ht⟩:=h.up hi hx
 rw[hk]at e1
 cases e1
 obtain⟨g',cap',q',hg,nd'⟩:=nd
 have hlt:g' < w'.heap.size:=nd'.blk g' (by rw[RBk.all_pre];simp)
 have hn:(x.hrd t).now=x.now/\(x.hrd t).id=x.id:=by unfold No.hrd;split <;> exact⟨rfl,rfl⟩
 refine⟨_,h.onNd hi hk hx nd' c (Nat.le_refl _) ⟨rfl,rfl⟩ (by rw[hn.1];exact n0) (by rw[hn.1];exact n1) (hn.2.trans id) (fun b=>if b < w.heap.size then D.tag b else if b=g' then i+1 else 9) (fun b hb=>if_pos hb) (fun b hb=>?_) (fun b hb=>?_)⟩
 ·have:=c.size
  show(if b < w.heap.size then D.tag b else if b=g' then i+1 else 9)=_
  rw[if_neg (by omega),if_neg (by omega)]
 ·have hb':b ∈ r.all\/b=g':=by
   rw[RBk.all_pre]at hb ⊢
   rcases List.mem_append.1 hb with q | q
   ·exact .inl (List.mem_append_left _ q)
   ·exact .inr (by simpa using q)
  show(if b < w.heap.size then D.tag b else if b=g' then i+1 else 9)=_
  rcases hb' with q | rfl
  ·rw[if_pos (nd0.blk b q)]
   exact ht b q
  ·rcases hg with e | e
   ·rw[if_pos (by rw[e];exact nd0.blk _ r.m_mg),e]
    exact ht _ r.m_mg
   ·rw[if_neg (by omega),if_pos rfl]
theorem ddlv_any (h:RWd w0 w D W u) (hs:SwOk W) (hf:FlOk W) (n:Int) :
  Calls Tryz.prog 41 #[.pointer (some (D.wb,0)),n] w fun e w'=>e=.returned (.int .i64 (W.flE n:Nat))/\∃D',RWd w0 w' D' (W.dlv n) u/\RMv D D' w w':=by
 have HW:Hid (RWd w0 w D W u):=h
 have HF:Hid (SwOk W/\FlOk W):=⟨hs,hf⟩
 clear h hs hf
 go_enter Tryz.func41,Tryz.ntmps41
 go_wp2_with fail
 refine(dtake_any HW n).mono ?_
 rintro e w1 (⟨he,rfl,wd,mv⟩ | ⟨t,v,D',he,ht,rfl,wd,mv,nt⟩)
 ·have K1:Hid (W.flE n=4/\RWd w0 w1 D W u/\RMv D D w w1):=⟨he,wd,mv⟩
  clear he wd mv
  go_wp2_with fail
  go_ret
  refine⟨by rw[K1.1];rfl,D,?_⟩
  have e:W.dlv n=W:=by unfold Wo.dlv;rw[if_neg (by have:=K1.1;omega)]
  rw[e]
  have b:=aB w1 (.cells #[.int .i64 0,.int .i64 0,.int .i64 0,.bool false,.slice none 0 0] 158)
  exact⟨K1.2.1.below b,K1.2.2.then b⟩
 ·have K1:Hid (W.flE n=0/\W.fl[n.toNat]? = some t/\RWd w0 w1 D' (W.landed n.toNat) u/\RMv D D' w w1/\RNt w1 D' t v):=⟨he,ht,wd,mv,nt⟩
  have HE:Hid (W.dlv n=W.delivered n.toNat t):=by show _=_;unfold Wo.dlv;rw[if_pos he,ht]
  obtain⟨⟨p,cap,rfl,_⟩,_⟩:=nt
  clear he wd mv ht
  go_upto_region 2 with fail
  have Z2:Hid (RfZ (w1.alloc (.cells #[t.fr,t.li,t.ep,.bool t.cl,.slice p t.cs.length cap] 158)) w1 t (.slice p t.cs.length cap)):=RfZ.new w1 t _
  have B2:Hid (Below w1 w1 (w1.alloc (.cells #[t.fr,t.li,t.ep,.bool t.cl,.slice p t.cs.length cap] 158))):=aB _ _
  generalize w1.alloc (.cells #[t.fr,t.li,t.ep,.bool t.cl,.slice p t.cs.length cap] 158)=w2 at *
  have HXT:Hid (D'.tag w1.heap.size=9):=K1.2.2.1.al _ (Nat.le_refl _)
  generalize w1.heap.size=X at Z2 HXT ⊢
  have W2:Hid (RWd w0 w2 D' (W.landed n.toNat) u):=K1.2.2.1.below B2
  have M2:Hid (RMv D D' w w2):=K1.2.2.2.1.then B2
  have NT:Hid (RNt w2 D' t (.slice p t.cs.length cap)):=K1.2.2.2.2.keep (ChgL.of (l:=[]) B2) (fun b hb=>by simp at hb)
  have HM:Hid (t ∈ W.fl/\W.flE n=0):=⟨List.mem_of_getElem? K1.2.1,K1.1⟩
  have HWB:Hid (D'.wb=D.wb):=K1.2.2.2.1.wb
  clear K1 B2
  obtain⟨x0,x1,x2,x3,x4⟩:=Z2.b
  cases hcl:t.cl
  ·rw[hcl]at x3
   have HD:Hid (W.dlv n=(W.landed n.toNat).handed t):=by show _=_;rw[HE.out];unfold Wo.delivered;rw[hcl];rfl
   obtain⟨i,hi,hfr⟩:∃i:Nat,i < 2/\t.fr=1 - (i:Int):=by
    rcases NT.2.2 with e | e
    ·exact⟨1,by omega,by omega⟩
    ·exact⟨0,by omega,by omega⟩
   have hto:(1 - t.fr).toNat=i:=by omega
   have hw:IntKind.i64.wrap (1 - t.fr)=(i:Int):=by rw[IntKind.wrap_i64];omega
   have c0:w2.cell? (D.wb,0)=some (.slice (some (D'.nb,0)) 2 D'.nc):=by rw[<- HWB.out];exact(W2.wb.c 0).trans rfl
   have n2:(0:Int)<=(i:Int):=by omega
   have n3:(i:Int) < 2:=by omega
   have HI:Hid (i < 2):=hi
   cases hx:(W.landed n.toNat).nd i with
   | none =>
    have HF2:Hid (W.dlv n=W.landed n.toNat):=by show _=_;rw[HD.out];unfold Wo.handed;rw[hto,hx]
    obtain⟨hk,_⟩:=W2.down hi hx
    have cn:=W2.nvD hi hk
    clear hcl hx hk hto hi hfr
    go_wp2_with fail
    go_quiet (fail)
    have D3:Hid (Below w2 w2 (w2.drewN nq)):=⟨rfl,rfl,rfl,Nat.le_refl _,fun _ _=>rfl⟩
    generalize w2.drewN nq=w3 at *
    go_wp2_with fail
    go_ret
    exact⟨by rw[HM.2];rfl,D',by rw[HF2.out];exact W2.below D3,M2.then D3⟩
   | some x =>
    have HF2:Hid (W.dlv n={W.landed n.toNat with nd:=setN (W.landed n.toNat).nd i (some (x.hrd t))}):=by show _=_;rw[HD.out];unfold Wo.handed;rw[hto,hx]
    obtain⟨r,q,hk,nd,ey,q0,q1,qi,ht⟩:=W2.up hi hx
    have HK:Hid (D'.nk i=some r/\(W.landed n.toNat).nd i=some x/\RNd w0 w2 r x q (loU u) u (33 * u)/\∀b ∈ r.all,D'.tag b=i+1):=⟨hk,hx,nd,ht⟩
    have cn:=W2.nvU hi hk
    clear hx hk hto hi hfr nd ey q0 q1 qi ht
    have HCL:Hid (t.cl=false):=hcl
    clear hcl
    go_wp2_with fail
    go_quiet (fail)
    have D3:Hid (Below w2 w2 (w2.drewN nq)):=⟨rfl,rfl,rfl,Nat.le_refl _,fun _ _=>rfl⟩
    have s0:=tk D3 c0
    have sn:=tk D3 cn
    have y0:=tk D3 x0
    have y1:=tk D3 x1
    have y2:=tk D3 x2
    have y3:=tk D3 x3
    have y4:=tk D3 x4
    generalize w2.drewN nq=w3 at *
    clear x0 x1 x2 x3 x4 c0 cn
    have HC:Hid (∀v,Below w2 w2 v->Calls Tryz.prog 88 #[.pointer (some (r.nd,0)),.agg #[t.fr,t.li,t.ep,.bool false,.slice p t.cs.length cap]] v fun e w'=>e=.returned (.int .i64 (x.heE t:Nat))/\(∃D2,RWd w0 w' D2 (W.dlv n) u/\RMv D D2 w w')/\ChgL r.all v w'):=fun v hv=>by
     have hh:=rhear_rn (HK.2.2.1.below hv) t p cap (by obtain⟨p',cap',e,R,_⟩:=NT.1;cases e;exact R.below hv) (fun hne b o e=>by
      have q:=NT.1
      obtain⟨p',cap',e',_,q5⟩:=q
      cases e'
      have q6:=q5 hne b o e
      exact⟨fun e2=>by have:=HK.2.2.2 _ r.m_mi;rw[<- e2]at this;have:=HI.out;omega,fun e2=>by have:=HK.2.2.2 _ r.m_mg;rw[<- e2]at this;have:=HI.out;omega⟩) (by have:=NT.2.1;omega)
     rw[HCL.out]at hh
     refine hh.mono ?_
     rintro e w' ⟨he,nd2,c2⟩
     obtain⟨D2,k1,k2⟩:=(W2.below hv).hrd HI HK.1 HK.2.1 nd2 c2
     exact⟨he,⟨D2,by rw[HF2.out];exact k1,(M2.then hv).trans k2⟩,c2⟩
    have HN:Hid (¬D.wb ∈ r.all/\¬D'.nb ∈ r.all/\¬X ∈ r.all):=by
     have q:=W2.tw
     rw[HWB.out]at q
     have hi:=HI.out
     exact⟨fun hm=>by have:=HK.2.2.2 _ hm;omega,fun hm=>by have:=HK.2.2.2 _ hm;omega,fun hm=>by have:=HK.2.2.2 _ hm;have:=HXT.out;omega⟩
    go_wp2_with fail
    have hS:w3.drew.cell? (D.wb,0)=some (.slice (some (D'.nb,0)) 2 D'.nc)/\w3.drew.cell? (D'.nb,i)=some (.pointer (some (r.nd,0)))/\w3.drew.cell? (X,0)=t.fr/\w3.drew.cell? (X,1)=t.li/\w3.drew.cell? (X,2)=t.ep/\w3.drew.cell? (X,3)=some (.bool false)/\w3.drew.cell? (X,4)=some (.slice p t.cs.length cap):=⟨s0,sn,y0,y1,y2,y3,y4⟩
    have D4:Hid (Below w2 w2 w3.drew):=D3.drew
    clear s0 sn y0 y1 y2 y3 y4
    go_region_held3 (fun w'=>w'.cell? (D.wb,0)=some (.slice (some (D'.nb,0)) 2 D'.nc)/\w'.cell? (D'.nb,i)=some (.pointer (some (r.nd,0)))/\w'.cell? (X,0)=t.fr/\w'.cell? (X,1)=t.li/\w'.cell? (X,2)=t.ep/\w'.cell? (X,3)=some (.bool false)/\w'.cell? (X,4)=some (.slice p t.cs.length cap))
     (first | assumption | exact⟨C5.keeps HN.1 hS.1,C5.keeps HN.2.1 hS.2.1,C5.keeps HN.2.2 hS.2.2.1,C5.keeps HN.2.2 hS.2.2.2.1,C5.keeps HN.2.2 hS.2.2.2.2.1,C5.keeps HN.2.2 hS.2.2.2.2.2.1,C5.keeps HN.2.2 hS.2.2.2.2.2.2⟩)
     (first | (go_at_call 88;refine(HC _ D4).mono ?_;rintro e w5 ⟨rfl,k5,c5⟩;have K5:Hid (∃D2,RWd w0 w5 D2 (W.dlv n) u/\RMv D D2 w w5):=k5;have C5:Hid (ChgL r.all w3.drew w5):=c5;clear k5 c5))
    clear hS
    go_wp2_with fail
    go_ret
    exact⟨by rw[HM.2];rfl,K5⟩
  ·rw[hcl]at x3
   have HD:Hid (W.dlv n=(W.landed n.toNat).heard t):=by show _=_;rw[HE.out];unfold Wo.delivered;rw[hcl];rfl
   have c4:w2.cell? (D.wb,4)=W.to:=by rw[<- HWB.out];exact(W2.wb.c 4).trans rfl
   have c5:w2.cell? (D.wb,5)=W.he:=by rw[<- HWB.out];exact(W2.wb.c 5).trans rfl
   have f4:∀j,w2.frozen? ⟨D.wb,j,none⟩=false:=by rw[<- HWB.out];exact W2.wb.fr
   have h0:=HF.2.1
   by_cases hlt:W.he < t.ep
   ·have K3:Hid (∀w3,Below w2 w2 w3->∀w4,w4=(w3.setCell (D.wb,4) t.fr).setCell (D.wb,5) t.ep->RWd w0 w4 D' (W.dlv n) u/\RMv D D' w w4):=fun w3 b3 w4 e4=>by
     have KH:=(W2.below b3).hears t hlt h0 (w':=w4) (by rw[HWB.out];exact e4)
     rw[HD.out]
     exact⟨KH.1,(M2.then b3).trans KH.2⟩
    clear h0
    by_cases hz:W.he=0
    ·have e:W.to = -1:=if_pos hz
     rw[e]at c4
     clear e hz hcl hlt
     go_wp2_with fail
     go_quiet (fail)
     go_wp2_with fail
     go_ret
     exact⟨by rw[HM.2];rfl,D',K3 (w2.drewN nq) ⟨rfl,rfl,rfl,Nat.le_refl _,fun _ _=>rfl⟩ _ rfl⟩
    ·have e:W.to=W.hn:=if_neg hz
     have n0:¬W.hn < 0:=by have:=HF.1 hz;omega
     rw[e]at c4
     clear e hz hcl
     go_wp2_with fail
     go_quiet (fail)
     go_wp2_with fail
     go_ret
     exact⟨by rw[HM.2];rfl,D',K3 (w2.drewN nq) ⟨rfl,rfl,rfl,Nat.le_refl _,fun _ _=>rfl⟩ _ rfl⟩
   ·have hz:W.he≠0:=fun e=>by
     have:=HF.2.2 t HM.1 hcl
     omega
    have e:W.to=W.hn:=if_neg hz
    have n0:¬W.hn < 0:=by have:=HF.1 hz;omega
    have HN:Hid (W.dlv n=W.landed n.toNat):=by show _=_;rw[HD.out];unfold Wo.heard;exact if_neg hlt
    rw[e]at c4
    clear e hz hcl h0
    go_wp2_with fail
    go_quiet (fail)
    have D3:Hid (Below w2 w2 (w2.drewN nq)):=⟨rfl,rfl,rfl,Nat.le_refl _,fun _ _=>rfl⟩
    generalize w2.drewN nq=w3 at *
    go_wp2_with fail
    go_ret
    exact⟨by rw[HM.2];rfl,D',by rw[HN.out];exact W2.below D3,M2.then D3⟩
end
section
variable {x:No} {W:Wo}
theorem wrs_on:∀(l:List (Nat×UInt8)) (s:By),((wrs s l).2=true->s.on=true->(wrs s l).1.on=true)/\((wrs s l).2=false->(wrs s l).1.on=false)
 | [],s=>⟨fun _ h=>h,fun h=>by cases h⟩
 | (a,v)::r,s=>by
  have k:=wrs_on r (s.wr a v)
  have e:wrs s ((a,v)::r)=if s.ok then wrs (s.wr a v) r else (s.off,false):=rfl
  rw[e]
  by_cases h:s.ok=true
  ·rw[if_pos h]
   exact⟨fun h2 _=>k.1 h2 rfl,k.2⟩
  ·rw[if_neg h]
   exact⟨fun h2=>by(cases h2),fun _=>rfl⟩
theorem putE_on {y:By} {ep li:Int} (h:y.on=true):((putE false y ep li).1=0/\(putE false y ep li).2.1.on=true/\(putE false y ep li).2.2=false)\/((putE false y ep li).1=7/\(putE false y ep li).2.1.on=false)\/((putE false y ep li).1≠0/\(putE false y ep li).1≠7/\(putE false y ep li).2.1.on=true/\(putE false y ep li).2.2=false):=by
 have k:=wrs_on (putW y.B (nextNm y ep li)) y
 unfold putE
 rw[if_neg (by simp)]
 split
 ·exact .inr (.inr ⟨(by intro e;cases e),(by intro e;cases e),h,rfl⟩)
 split
 ·exact .inr (.inr ⟨(by intro e;cases e),(by intro e;cases e),h,rfl⟩)
 split
 ·exact .inr (.inr ⟨(by intro e;cases e),(by intro e;cases e),h,rfl⟩)
 split
 ·rename_i h5
  exact .inl ⟨rfl,k.1 h5 h,rfl⟩
 ·rename_i h5
  exact .inr (.inl ⟨rfl,k.2 (by simpa [putS] using h5)⟩)
theorem tick_y (x:No):(x.tick.y=x.ticked.cp.2.1/\x.tick.off=x.ticked.cp.2.2/\x.tkE=x.ticked.cp.1)\/(x.tick.y=x.y/\x.tick.off=x.off/\x.tkE=0):=by
 have hn:∀z:No,z.noted.y=z.y/\z.noted.off=z.off:=fun z=>by unfold No.noted;split <;> exact⟨rfl,rfl⟩
 have ht:x.tick.y=x.tk1.y/\x.tick.off=x.tk1.off:=by
  unfold No.tick
  split
  ·exact hn _
  ·exact⟨rfl,rfl⟩
 rw[ht.1,ht.2]
 unfold No.tk1 No.tkE
 split
 ·unfold No.clm No.clE
  split
  ·split
   ·exact .inl ⟨rfl,rfl,rfl⟩
   ·exact .inl ⟨rfl,rfl,rfl⟩
  ·exact .inr ⟨rfl,rfl,rfl⟩
 ·exact .inr ⟨rfl,rfl,rfl⟩
theorem tick_nd' (r:Ro):r.tick.nd=r.nd/\r.tick.ac=r.ac:=by
 unfold Ro.tick
 split
 ·exact⟨rfl,rfl⟩
 ·rename_i h
  exact⟨rfl,by simpa using h⟩
theorem tick_tk2 (x:No):x.tick.id=x.id/\x.tick.ro=x.tk1.ro/\x.tk1.id=x.id:=by
 have hn:∀z:No,z.noted.id=z.id/\z.noted.ro=z.ro:=fun z=>by unfold No.noted;split <;> exact⟨rfl,rfl⟩
 have h1:x.tk1.id=x.id:=by
  unfold No.tk1 No.clm
  repeat' split
  all_goals rfl
 unfold No.tick
 split
 ·exact⟨(hn _).1.trans h1,(hn _).2,h1⟩
 ·exact⟨h1,rfl,h1⟩
theorem tk1_ac (h0:0<=x.ro.ep) (ha:x.ro.ac=true->0 < x.ro.ep):x.tk1.ro.ac=true->0 < x.tk1.ro.ep:=by
 have ht:x.ticked.ro.ac=true->0 < x.ticked.ro.ep:=fun k=>by
  have e:x.ticked.ro.ep=x.ro.ep:=tick_ep x.ro
  have e2:x.ticked.ro.ac=x.ro.ac:=(tick_nd' x.ro).2
  rw[e];exact ha (by rw[<- e2];exact k)
 unfold No.tk1
 split
 ·unfold No.clm
  split
  ·rename_i hz
   split
   ·show(x.ticked.ro.claim x.ticked.ro.nxV).ac=true->0 < (x.ticked.ro.claim x.ticked.ro.nxV).ep
    unfold Ro.claim
    split
    ·intro _
     show 0 < x.ticked.ro.nxV
     have hb:=nx_bound x.ticked.ro
     have e:x.ticked.ro.ep=x.ro.ep:=tick_ep x.ro
     unfold Ro.nxE at hz
     unfold Ro.nxV
     split
     ·rename_i h7;rw[if_pos h7]at hz;cases hz
     ·omega
    ·exact ht
   ·exact ht
  ·exact ht
 ·exact ht
def Liv (x:No):Prop:=(x.y.on=true/\x.off=false)/\(x.id=0\/x.id=1)/\(x.ro.ac=true->0 < x.ro.ep)
theorem Liv.as {z:No} (h:Liv x) (y:z.y.on=x.y.on) (o:z.off=x.off) (i:z.id=x.id) (r:z.ro=x.ro):Liv z:=⟨⟨y.trans h.1.1,o.trans h.1.2⟩,by rw[i];exact h.2.1,by rw[r];exact h.2.2⟩
theorem Liv.tick (h:Liv x) (h0:0<=x.ro.ep):(x.tkE=0/\Liv x.tick)\/(x.tkE=7/\x.tick.y.on=false)\/(x.tkE≠0/\x.tkE≠7/\Liv x.tick):=by
 have e:x.ticked.cp=putE false x.y x.ticked.ro.nxV x.life:=by show putE x.off x.y x.ticked.ro.nxV x.life=_;rw[h.1.2]
 have t:=tick_tk2 x
 have r:(x.tick.id=0\/x.tick.id=1)/\(x.tick.ro.ac=true->0 < x.tick.ro.ep):=by rw[t.1,t.2.1];exact⟨h.2.1,tk1_ac h0 h.2.2⟩
 unfold Liv
 rcases tick_y x with⟨h1,h2,h3⟩ | ⟨h1,h2,h3⟩
 ·rw[h1,h2,h3,e]
  rcases putE_on (ep:=x.ticked.ro.nxV) (li:=x.life) h.1.1 with⟨k1,k2,k3⟩ | ⟨k1,k2⟩ | ⟨k1,k2,k3,k4⟩
  ·exact .inl ⟨k1,⟨k2,k3⟩,r⟩
  ·exact .inr (.inl ⟨k1,k2⟩)
  ·exact .inr (.inr ⟨k1,k2,⟨k3,k4⟩,r⟩)
 ·rw[h1,h2,h3]
  exact .inl ⟨rfl,h.1,r⟩
theorem Liv.new {i:Nat} (hi:i < 2) {y:By} {l:List Rl} (h:(putE false y ((newest y.B).e:Int) (((newest y.B).l:Int)+1)).1=0) (ho:y.on=true):Liv (No.new i y l):=by
 refine⟨⟨?_,rfl⟩,(by show(i:Int)=0\/(i:Int)=1;omega),fun k=>by cases k⟩
 show(putE false y ((newest y.B).e:Int) (((newest y.B).l:Int)+1)).2.1.on=true
 rcases putE_on (y:=y) (ep:=((newest y.B).e:Int)) (li:=((newest y.B).l:Int)+1) ho with⟨_,k2,_⟩ | ⟨k1,_⟩ | ⟨_,_,k3,_⟩
 ·exact k2
 ·rw[h]at k1;cases k1
 ·exact k3
def Cla (a e:Int):Prop:=(a=0\/a=1)/\0 < e
structure Lv (W:Wo):Prop where
 n:∀i x,W.nd i=some x->Liv x
 f:∀t ∈ W.fl,t.cl=true->Cla t.fr t.ep
 s:W.he≠0->Cla W.hn W.he
theorem Lv.born {l:List Rl} (hr:RulesOk l):Lv (Wo.born l):=by
 refine⟨fun i x hx=>?_,fun t ht=>?_,fun h=>absurd rfl h⟩
 ·have hx':(if i < 2 then some (No.new i new0.oned l) else none)=some x:=hx
  split at hx'
  ·rename_i hi
   cases hx'
   exact Liv.new hi (YI.zero.newOk (by omega) hi hr).pu rfl
  ·cases hx'
 ·have h':t ∈ ([]:List Nf):=ht
  simp at h'
theorem Lv.set (h:Lv W) {i:Nat} {x:No} (hx:Liv x):Lv {W with nd:=setN W.nd i (some x)}:=⟨fun j y hy=>by
 have hy':setN W.nd i (some x) j=some y:=hy
 by_cases e:j=i
 ·subst e;rw[setN_same]at hy';cases hy';exact hx
 ·rw[setN_other _ _ e]at hy';exact h.n j y hy',h.f,h.s⟩
theorem Lv.fallen (h:Lv W) {i:Nat} {y:By}:Lv (W.fallen i y):=⟨fun j x hx=>by
 have hx':setN W.nd i none j=some x:=hx
 by_cases e:j=i
 ·subst e;rw[setN_same]at hx';cases hx'
 ·rw[setN_other _ _ e]at hx';exact h.n j x hx',h.f,h.s⟩
theorem Lv.landed (h:Lv W) (k:Nat):Lv (W.landed k):=⟨h.n,fun t ht=>h.f t (List.mem_of_mem_eraseIdx ht),h.s⟩
theorem Lv.sent (h:Lv W) {l:List Nf} (hl:∀t ∈ l,t.cl=true->Cla t.fr t.ep):Lv (W.sent l):=⟨h.n,fun t ht hc=>by
 rcases List.mem_append.1 ht with k | k
 ·exact h.f t k hc
 ·exact hl t (List.mem_of_mem_take k) hc,h.s⟩
theorem Lv.stp {q:Nat} {W':Wo} (h:Lv W) (hI:In q W) (hq:q<=100000) (hr:RulesOk W.ru) (s:Stp W W'):Lv W':=by
 cases s with
 | tick n =>
  unfold Wo.tcd
  split
  ·cases hx:W.nd n.toNat with
   | none=>exact h
   | some x =>
    show Lv (W.ticked n.toNat x)
    have h0:0<=x.ro.ep:=by have:=(hI.up _ x hx).ep;omega
    have hl:=h.n _ x hx
    have k:=hl.tick h0
    have hf:∀t ∈ x.tickL.map x.tk1.fly,t.cl=true->Cla t.fr t.ep:=fun t ht _=>by
     obtain⟨u,hu,rfl⟩:=List.mem_map.1 ht
     have hac:x.tk1.ro.ac=true:=by
      unfold No.tickL at hu
      split at hu
      ·unfold No.notes at hu
       split at hu
       ·assumption
       ·simp at hu
      ·simp at hu
     refine⟨?_,tk1_ac h0 hl.2.2 hac⟩
     show x.tk1.id=0\/x.tk1.id=1
     rw[(tick_tk2 x).2.2]
     exact hl.2.1
    unfold Wo.ticked
    split
    ·rename_i e0
     have hl:Liv x.tick:=by
      rcases k with k | k | k
      ·exact k.2
      ·omega
      ·exact absurd e0 k.1
     refine Lv.sent ?_ hf
     have k2:=h.set (i:=n.toNat) hl
     split
     ·exact⟨k2.n,k2.f,k2.s⟩
     ·exact k2
    ·rename_i e0
     split
     ·exact h.fallen
     ·rename_i e7
      have hl:Liv x.tick:=by
       rcases k with k | k | k
       ·exact absurd k.1 e0
       ·exact absurd k.1 e7
       ·exact k.2.2
      exact h.set hl
  ·exact h
 | down n =>
  unfold Wo.downed
  split
  ·cases hx:W.nd n.toNat with
   | none=>exact h
   | some x=>exact h.fallen
  ·exact h
 | up n =>
  unfold Wo.upped
  split
  ·rename_i e
   unfold Wo.roE at e
   split at e
   ·rename_i h2
    split at e
    ·omega
    ·rename_i hs
     have hn:W.nd n.toNat=none:=by cases hq2:W.nd n.toNat with | none=>rfl | some y=>rw[hq2]at hs;simp at hs
     exact h.set (i:=n.toNat) (Liv.new (by omega) ((hI.dn _ (by omega) hn).newOk hq (i:=n.toNat) (by omega) hr).pu rfl)
   ·omega
  ·exact h
 | cut n m =>
  unfold Wo.cutted
  split
  ·cases hx:W.nd n.toNat with
   | none=>exact h
   | some x =>
    refine h.set (i:=n.toNat) (x:=x.setCut m) ((h.n _ x hx).as ?_ rfl rfl rfl)
    show(x.y.setCut m).on=x.y.on
    unfold By.setCut
    split <;> rfl
  ·exact h
 | ins p =>
  unfold Wo.ins
  split
  ·rename_i i x hc
   have e:(x.ins p).y=x.y/\(x.ins p).off=x.off/\(x.ins p).id=x.id/\(x.ins p).ro=x.ro:=by
    unfold No.ins No.ou No.stp No.bg
    repeat' split
    all_goals exact⟨rfl,rfl,rfl,rfl⟩
   exact h.set ((h.n i x (cho_some hc).2.1).as (by rw[e.1]) e.2.1 e.2.2.1 e.2.2.2)
  ·exact h
 | ots p =>
  unfold Wo.ots
  split
  ·rename_i i x hc
   have e:(x.ots p).y=x.y/\(x.ots p).off=x.off/\(x.ots p).id=x.id/\(x.ots p).ro=x.ro:=by
    unfold No.ots No.stp
    repeat' split
    all_goals exact⟨rfl,rfl,rfl,rfl⟩
   exact h.set ((h.n i x (cho_some hc).2.1).as (by rw[e.1]) e.2.1 e.2.2.1 e.2.2.2)
  ·exact h
 | drop n =>
  unfold Wo.dropped
  split
  ·exact h.landed _
  ·exact h
 | twice n =>
  have s:=W.twiced_same n
  refine⟨fun i x hx=>?_,fun t ht=>h.f t (Wo.twiced_mem t ht),?_⟩
  ·rw[s.1]at hx
   exact h.n i x hx
  ·rw[s.2.2.2.1,s.2.2.2.2.1]
   exact h.s
 | rules l hl =>
  refine⟨fun i x hx=>?_,h.f,h.s⟩
  have hx':(if i < 2 then (W.nd i).map (fun y=>({y with ru:=l}:No)) else W.nd i)=some x:=hx
  split at hx'
  ·obtain⟨y,hy,rfl⟩:=Option.map_eq_some_iff.1 hx'
   exact h.n i y hy
  ·exact h.n i x hx'
 | dlv n =>
  unfold Wo.dlv
  split
  ·cases ht:W.fl[n.toNat]? with
   | none=>exact h
   | some t =>
    show Lv (W.delivered n.toNat t)
    have h':=h.landed n.toNat
    unfold Wo.delivered
    split
    ·rename_i hc
     unfold Wo.heard
     split
     ·exact⟨h'.n,h'.f,fun _=>h.f t (List.mem_of_getElem? ht) hc⟩
     ·exact h'
    ·unfold Wo.handed
     split
     ·rename_i x hx
      have k:=h'.n _ x hx
      refine h'.set ?_
      unfold No.hrd
      split
      ·refine⟨k.1,k.2.1,?_⟩
       show(x.ro.hear t.ep).ac=true->0 < (x.ro.hear t.ep).ep
       unfold Ro.hear
       split
       ·rename_i hh
        intro ha
        have ha':(x.ro.ac && !decide (x.ro.ep < t.ep))=true:=ha
        unfold Ro.heard at hh
        simp at ha' hh
        have:=k.2.2 ha'.1
        show 0 < t.ep
        omega
       ·exact k.2.2
      ·exact k
     ·exact h'
  ·exact h
 | stay=>exact h
theorem Lv.tkOk {q:Nat} (h:Lv W) (hI:In q W) (hq:q<=100000) (n:Int):TkOk W n:=fun i x _ hx=>by
 have k:=(h.n i x hx).tick (by have:=(hI.up _ x hx).ep;omega)
 rcases(hI.up i x hx).tkE hq with e | e
 ·rcases k with k | k | k
  ·exact .inl ⟨k.1,k.2.1.1⟩
  ·omega
  ·exact absurd e k.1
 ·rcases k with k | k | k
  ·omega
  ·exact .inr k
  ·exact absurd e k.2.1
theorem Lv.swOk (h:Lv W):SwOk W:=fun hz=>by
 have:=(h.s hz).1
 omega
theorem Lv.flOk (h:Lv W):FlOk W:=by
 refine⟨?_,fun t ht hc=>(h.f t ht hc).2⟩
 by_cases hz:W.he=0
 ·omega
 ·exact Int.le_of_lt (h.s hz).2
end
section
variable {w:World} {g cap k:Nat}
theorem wp_copy_eq {P:Program} {o:Oper} {a:Act} {K:Act->World->Prop} {Q:Exit->Act->World->Prop} (d s:Operand) (t:TypeId) (ho:o.op=.call {callee:=.builtin .copy,args:=#[d,s],argTypes:=#[t,t]})
  (u v v':Value) (w':World) (hd:a.eval d=u) (hs:a.eval s=v) (hr:(Builtin.copy_ #[t,t] o.type #[u,v]).run P w=.ok v' w') (h:K (a.put o.dst v') w'):o.wp P a w K Q:=by
 unfold Oper.wp execOp
 simp only[ho,resolve,invoke,builtin,Sem.run_bind,Sem.run_pure,Result.andThen_ok,List.map_toArray,List.map_cons,List.map_nil,hd,hs,hr]
 exact h
theorem wpList_copy_eq {P:Program} {ops:Array Oper} {rest:List Oper} {o:Oper} {a:Act} {Q:Exit->Act->World->Prop} (hgd:o.guard=none) (d s:Operand) (t:TypeId) (ho:o.op=.call {callee:=.builtin .copy,args:=#[d,s],argTypes:=#[t,t]})
  (u v v':Value) (w':World) (hd:a.eval d=u) (hs:a.eval s=v) (hr:(Builtin.copy_ #[t,t] o.type #[u,v]).run P w=.ok v' w') (h:wpList P ops Q rest (a.put o.dst v') w'):wpList P ops Q (o::rest) a w :=
 wpList_plain hgd fun _ hK=>wp_copy_eq d s t ho u v v' w' hd hs hr (hK _ _ h)
theorem rw_copy {cur:Array Value} (h:w.heap[g]? = some (.cells cur 115 (0,0))) (o n dl dc sl sc:Nat) (sa:Addr) (news:List Value) (hn:Nat.min sl dl=n) (hlen:news.length=n * 5) (hone:∀u ∈ news,u.oneCell'=true)
  (hsrc:∀j v,news[j]? = some v->w.cell? (sa.add j)=some v) (hfit:o+news.length<=cur.size) (ty:TypeId) :
  ∃w',(Builtin.copy_ #[50,50] ty #[.slice (some (g,o)) dl dc,.slice (some sa) sl sc]).run Tryz.prog w=.ok (goInt n) w'/\w'.heap[g]? = some (.cells (cur.toList.take o++news++cur.toList.drop (o+news.length)).toArray 115 (0,0))/\Chg g w w':=by
 obtain⟨i,hi,hz⟩:=noteInfo
 have hf:=run_firstCells_some (P := Tryz.prog) w i.size n sa sl sc news (by rw[hz];exact hlen) hsrc
 have hst:=run_storeCells_at Tryz.prog g o 115 news 0 cur w h (by simpa using hfit) hone
 rw[Nat.add_zero]at hst
 refine⟨_,?_,setRow_heap w g cur _ _ _ h,chg_row _ _ _⟩
 rw[hz]at hf
 simp[Builtin.copy_,run_underlying Tryz.underlying50,sizeOf,typeInfo,hi,hz,Builtin.lenOf,hn,hf,hst]
theorem insertIdx_get {α:Type} (l:List α) (k:Nat) (r:α) (hk:k<=l.length) (i:Nat):(l.insertIdx k r)[i]? = if i < k then l[i]? else if i=k then some r else l[i - 1]? := by
 rw[List.getElem?_insertIdx]
 by_cases h1:i < k
 ·rw[if_pos h1,if_pos h1]
 ·rw[if_neg h1,if_neg h1]
  by_cases h2:i=k
  ·rw[if_pos h2,if_pos h2,if_pos (by omega)]
  ·rw[if_neg h2,if_neg h2]
theorem insertIdx_five {R:List (List Value)} {k:Nat} {r:List Value} (h:∀x ∈ R,Five x) (hr:Five r):∀x ∈ R.insertIdx k r,Five x:=fun x hx=>by
 by_cases hk:k<=R.length
 ·rcases(List.mem_insertIdx hk).1 hx with e | e
  ·rw[e];exact hr
  ·exact h x e
 ·rw[List.insertIdx_of_length_lt (by omega)]at hx
  exact h x hx
theorem rw_put {n:Nat} {R:List (List Value)} {cur:Array Value} {r:List Value} (h:w.heap[g]? = some (.cells cur 115 (0,0))) (hsz:cur.size=cap * 5) (hR:R.length=n) (hok:∀x ∈ R,Five x) (hr:Five r) (hk:k<=n) (hn:n+1<=cap)
  (hlo:∀i x j,i < k->R[i]? = some x->j < 5->cur[i * 5+j]? = x[j]?) (hhi:∀i x j,k<=i->R[i]? = some x->j < 5->cur[(i+1) * 5+j]? = x[j]?) (hat:∀j,j < 5->cur[k * 5+j]? = r[j]?):RwB w g cap (R.insertIdx k r) cur:=by
 refine⟨h,hsz,by rw[List.length_insertIdx_of_le_length (by omega)];omega,fun i x j hx hj=>?_,insertIdx_five hok hr⟩
 rw[insertIdx_get R k r (by omega)]at hx
 by_cases h1:i < k
 ·rw[if_pos h1]at hx;exact hlo i x j h1 hx hj
 ·rw[if_neg h1]at hx
  by_cases h2:i=k
  ·rw[if_pos h2]at hx
   cases hx
   rw[h2]
   exact hat j hj
  ·rw[if_neg h2]at hx
   have:=hhi (i - 1) x j (by omega) hx hj
   rw[show i - 1+1=i by omega]at this
   exact this
theorem drop_src {R:List (List Value)} (hok:∀x ∈ R,Five x) (k:Nat):((R.drop k).flatten).length=(R.length - k) * 5/\(∀u ∈ (R.drop k).flatten,u.oneCell'=true)/\∀a j,j < 5->((R.drop k).flatten)[a * 5+j]? = (R[k+a]?).bind (·[j]?):=by
 have hN:∀r ∈ R.drop k,Five r:=fun r hr=>hok r (List.mem_of_mem_drop hr)
 refine⟨by rw[flat_len hN,List.length_drop],flat_one hN,fun a j hj=>by rw[flat_get hN a j hj,List.getElem?_drop]⟩
theorem rw_ins {R:List (List Value)} {cur:Array Value} {r:List Value} (h:RwB w g cap R cur) (hr:Five r) (hk:k < R.length) (hroom:R.length+1<=cap) (vb:Nat) (hvb:vb≠g) (hv:∀j u,r[j]? = some u->w.cell? ⟨vb,j,none⟩=some u) (ty:TypeId) (d1 s1 d2 s2:Nat) :
  ∃w1 w2,(Builtin.copy_ #[50,50] ty #[.slice (some (g,(k+1) * 5)) (R.length - k) d1,.slice (some (g,k * 5)) (R.length+1 - k) s1]).run Tryz.prog w=.ok (goInt ((R.length - k:Nat):Int)) w1/\(Builtin.copy_ #[50,50] ty #[.slice (some (g,k * 5)) (R.length+1 - k) d2,.slice (some (vb,0)) 1 s2]).run Tryz.prog w1=.ok (goInt 1) w2/\(∃cur',RwB w2 g cap (R.insertIdx k r) cur')/\Chg g w w2:=by
 obtain⟨hl,hone,hget⟩:=drop_src h.ok k
 have hsz:=h.sz
 have hfit:(k+1) * 5+((R.drop k).flatten).length<=cur.size:=by rw[hl,hsz];omega
 obtain⟨w1,e1,q1,c1⟩:=rw_copy h.h ((k+1) * 5) (R.length - k) (R.length - k) d1 (R.length+1 - k) s1 (g,k * 5) _ (by simp only[Nat.min_def];split <;> omega) hl hone (fun j v hv=>by
  have e:j=j / 5 * 5+j % 5:=by omega
  have hj5:j % 5 < 5:=Nat.mod_lt _ (by omega)
  rw[e,hget _ _ hj5]at hv
  obtain⟨x,hx,hv⟩:=Option.bind_eq_some_iff.1 hv
  have:=h.cell hx hj5
  rw[hv]at this
  rw[addr_addW,show k * 5+j=(k+j / 5) * 5+j % 5 by omega]
  exact this) hfit ty
 have hsz1:=patch_size cur ((k+1) * 5) _ hfit
 have hat1:=patch_at cur ((k+1) * 5) _ hfit
 generalize (cur.toList.take ((k+1) * 5)++(R.drop k).flatten++cur.toList.drop ((k+1) * 5+((R.drop k).flatten).length)).toArray=cur1 at q1 hsz1 hat1
 have hfit2:k * 5+r.length<=cur1.size:=by rw[hsz1,hsz,hr.1];omega
 obtain⟨w2,e2,q2,c2⟩:=rw_copy q1 (k * 5) 1 (R.length+1 - k) d2 1 s2 (vb,0) r (by simp only[Nat.min_def];split <;> omega) (by rw[hr.1]) hr.2 (fun j v hj=>by
  rw[addr_addW,Nat.zero_add]
  exact c1.keeps hvb (hv j v hj)) hfit2 ty
 have hsz2:=patch_size cur1 (k * 5) _ hfit2
 have hat2:=patch_at cur1 (k * 5) _ hfit2
 generalize (cur1.toList.take (k * 5)++r++cur1.toList.drop (k * 5+r.length)).toArray=cur2 at q2 hsz2 hat2
 refine⟨w1,w2,e1,e2,⟨cur2,rw_put q2 (by omega) rfl h.ok hr (by omega) hroom ?_ ?_ ?_⟩,c1.trans c2⟩
 ·intro i x j hi hx hj
  rw[hat2,if_neg (by omega),hat1,if_neg (by omega)]
  exact h.at' i x j hx hj
 ·intro i x j hi hx hj
  have hil:=(List.getElem?_eq_some_iff.1 hx).1
  rw[hat2,if_neg (by rw[hr.1];omega),hat1,if_pos (by rw[hl];omega),show(i+1) * 5+j - (k+1) * 5=(i - k) * 5+j by omega,hget _ _ hj,show k+(i - k)=i by omega,hx]
  rfl
 ·intro j hj
  rw[hat2,if_pos (by rw[hr.1];omega),show k * 5+j - k * 5=j by omega]
theorem rw_gro {G cap':Nat} {R:List (List Value)} {cur ROW:Array Value} {r:List Value} (h:RwB w g cap R cur) (hG:w.heap[G]? = some (.cells ROW 115 (0,0))) (hg:g≠G) (hr:Five r) (hk:k < R.length) (hsz:ROW.size=cap' * 5) (hroom:R.length+1<=cap')
  (hlo:∀i x j,i < k->R[i]? = some x->j < 5->ROW[i * 5+j]? = x[j]?) (vb:Nat) (hv:∀j u,r[j]? = some u->w.cell? ⟨vb,j,none⟩=some u) (ty:TypeId) (d1 s1 d2 s2:Nat) :
  ∃w1 w2,(Builtin.copy_ #[50,50] ty #[.slice (some (G,k * 5)) (R.length+1 - k) d1,.slice (some (vb,0)) 1 s1]).run Tryz.prog w=.ok (goInt 1) w1/\(Builtin.copy_ #[50,50] ty #[.slice (some (G,(k+1) * 5)) (R.length - k) d2,.slice (some (g,k * 5)) (R.length - k) s2]).run Tryz.prog w1.drew=.ok (goInt ((R.length - k:Nat):Int)) w2/\(∃cur',RwB w2 G cap' (R.insertIdx k r) cur')/\Chg G w w2:=by
 obtain⟨hl,hone,hget⟩:=drop_src h.ok k
 have hfit2:k * 5+r.length<=ROW.size:=by rw[hsz,hr.1];omega
 obtain⟨w1,e1,q1,c1⟩:=rw_copy hG (k * 5) 1 (R.length+1 - k) d1 1 s1 (vb,0) r (by simp only[Nat.min_def];split <;> omega) (by rw[hr.1]) hr.2 (fun j v hj=>by
  rw[addr_addW,Nat.zero_add]
  exact hv j v hj) hfit2 ty
 have hsz1:=patch_size ROW (k * 5) _ hfit2
 have hat1:=patch_at ROW (k * 5) _ hfit2
 generalize (ROW.toList.take (k * 5)++r++ROW.toList.drop (k * 5+r.length)).toArray=cur1 at q1 hsz1 hat1
 have hfit:(k+1) * 5+((R.drop k).flatten).length<=cur1.size:=by rw[hl,hsz1,hsz];omega
 have q1':w1.drew.heap[G]? = some (.cells cur1 115 (0,0)):=q1
 obtain⟨w2,e2,q2,c2⟩:=rw_copy q1' ((k+1) * 5) (R.length - k) (R.length - k) d2 (R.length - k) s2 (g,k * 5) _ (by simp only[Nat.min_def];split <;> omega) hl hone (fun j v hv=>by
  have e:j=j / 5 * 5+j % 5:=by omega
  have hj5:j % 5 < 5:=Nat.mod_lt _ (by omega)
  rw[e,hget _ _ hj5]at hv
  obtain⟨x,hx,hv⟩:=Option.bind_eq_some_iff.1 hv
  have:=h.cell hx hj5
  rw[hv]at this
  rw[addr_addW,show k * 5+j=(k+j / 5) * 5+j % 5 by omega]
  exact c1.keeps hg this) hfit ty
 have hsz2:=patch_size cur1 ((k+1) * 5) _ hfit
 have hat2:=patch_at cur1 ((k+1) * 5) _ hfit
 generalize (cur1.toList.take ((k+1) * 5)++(R.drop k).flatten++cur1.toList.drop ((k+1) * 5+((R.drop k).flatten).length)).toArray=cur2 at q2 hsz2 hat2
 refine⟨w1,w2,e1,e2,⟨cur2,rw_put q2 (by omega) rfl h.ok hr (by omega) hroom ?_ ?_ ?_⟩,(c1.trans (Chg.of (Below.refl _ _).drew)).trans c2⟩
 ·intro i x j hi hx hj
  rw[hat2,if_neg (by omega),hat1,if_neg (by omega)]
  exact hlo i x j hi hx hj
 ·intro i x j hi hx hj
  have hil:=(List.getElem?_eq_some_iff.1 hx).1
  rw[hat2,if_pos (by rw[hl];omega),show(i+1) * 5+j - (k+1) * 5=(i - k) * 5+j by omega,hget _ _ hj,show k+(i - k)=i by omega,hx]
  rfl
 ·intro j hj
  rw[hat2,if_neg (by omega),hat1,if_pos (by rw[hr.1];omega),show k * 5+j - k * 5=j by omega]
def Insd (w:World) (g n k:Nat) (R:List (List Value)) (r:List Value) (e:Ending) (w':World):Prop:=∃g' c' cur',e=.returned (.slice (some ⟨g',0,none⟩) (n+1) c')/\RwB w' g' c' (R.insertIdx k r) cur'/\c'<=maxLen/\Chg g w w'/\(g'=g\/w.heap.size<=g')
end
theorem nfR_insert {l:List Nf} {us:List Value} {k:Nat} {t:Nf} {v:Value} (hk:k < l.length) (hl:us.length=l.length) (h5:∀r ∈ nfR l us,Five r):(nfR (l.insertIdx (k+1) t) (us.insertIdx (k+1) v)).flatten=(nfR l us).flatten.take ((k+1) * 5)++nfC t v++(nfR l us).flatten.drop ((k+1) * 5):=by
 rw[(flat_part h5 (k+1)).1,(flat_part h5 (k+1)).2]
 have key:∀(k:Nat) (l:List Nf) (us:List Value),us.length=l.length->k<=l.length->nfR (l.insertIdx k t) (us.insertIdx k v)=(nfR l us).take k++[nfC t v]++(nfR l us).drop k:=by
  intro k
  induction k with
  | zero=>intro l us _ _;simp[nfR]
  | succ k ih =>
   intro l us hl hk
   match l,us,hl with
   | [],_,_=>simp at hk
   | a::l,[],hl=>simp at hl
   | a::l,b::us,hl =>
    have:=ih l us (by simpa using hl) (by simpa using hk)
    simp only[nfR,List.insertIdx_succ_cons,List.zipWith_cons_cons,List.take_succ_cons,List.drop_succ_cons,List.cons_append]at this ⊢
    rw[this]
 rw[key (k+1) l us hl (by omega)]
 simp
theorem twE_cases (W:Wo) (n:Int) (hl:W.fl.length<=200):(∃k t,n=((k:Nat):Int)/\k < W.fl.length/\W.fl.length < 200/\W.fl[k]? = some t/\W.twE n=0/\W.twiced n={W with fl:=W.fl.insertIdx (k+1) t})\/(∃k,n=((k:Nat):Int)/\k < W.fl.length/\W.fl.length=200/\W.twE n=6/\W.twiced n=W)\/(¬(0<=n/\n < W.fl.length)/\W.twE n=4/\W.twiced n=W):=by
 rcases flE_cases W n with⟨k,rfl,hk,he⟩ | ⟨hn,he⟩
 ·by_cases h2:W.fl.length=200
  ·have e:W.twE (k:Int)=6:=by unfold Wo.twE;rw[if_pos he,if_pos h2]
   exact .inr (.inl ⟨k,rfl,hk,h2,e,by unfold Wo.twiced;rw[if_neg (by omega)]⟩)
  ·have e:W.twE (k:Int)=0:=by unfold Wo.twE;rw[if_pos he,if_neg h2]
   obtain⟨t,ht⟩:∃t,W.fl[k]? = some t:=⟨_,List.getElem?_eq_getElem hk⟩
   exact .inl ⟨k,t,rfl,hk,by omega,ht,e,by unfold Wo.twiced;rw[if_pos e,Int.toNat_natCast,ht]⟩
 ·have e:W.twE n=4:=by unfold Wo.twE;rw[if_neg (by omega),he]
  exact .inr (.inr ⟨hn,e,by unfold Wo.twiced;rw[if_neg (by omega)]⟩)
theorem dtwice_any {w0 w:World} {D:RK} {W:Wo} {u:Nat} (h:RWd w0 w D W u) (n:Int) :
  Calls Tryz.prog 39 #[.pointer (some (D.wb,0)),n] w fun e w'=>e=.returned (.int .i64 (W.twE n:Nat))/\∃D',RWd w0 w' D' (W.twiced n) u/\RMv D D' w w':=by
 have HW:Hid (RWd w0 w D W u):=h
 have c3:w.cell? (D.wb,3)=some D.lv:=(h.wb.c 3).trans rfl
 rcases twE_cases W n h.fl.le with⟨k,t,rfl,hk,hl,ht,he,hw⟩ | ⟨k,rfl,hk,hl,he,hw⟩ | ⟨hn,he,hw⟩
 ·obtain⟨g,cap,t',v,e,h1,h2,ht',hv,nt,⟨a0,a1,a2,a3,a4⟩,hc⟩:=h.fl.at' hk
  obtain rfl:t=t':=by rw[ht]at ht';cases ht';rfl
  obtain⟨p,vc,ev,_⟩:=nt.1
  have f3:=h.wb.fr 3
  rw[ev]at a4
  rw[e]at c3
  have k0:¬(k:Int) < 0:=by omega
  have k1:(0:Int)<=(k:Int):=by omega
  have k2:(k:Int) < (W.fl.length:Int):=by omega
  have k3:¬(W.fl.length:Int)<=(k:Int):=by omega
  have k4:¬(200:Int)<=(W.fl.length:Int):=by omega
  have k5:(k:Int)+1<=(W.fl.length:Int):=by omega
  have k6:(W.fl.length:Int)<=(cap:Int):=by omega
  have k7:(k:Int)+1<=(cap:Int):=by omega
  have hwr:IntKind.i64.wrap ((k:Int)+1)=(k:Int)+1:=by rw[IntKind.wrap_i64];omega
  have HC:Hid (∀j x,(nfR W.fl D.cv).flatten[j]? = some x->w.cell? ⟨g,j,none⟩=some x):=hc
  have HT:Hid (W.fl[k]? = some t/\D.lv=.slice (some (g,0)) W.fl.length cap/\v=.slice p t.cs.length vc/\k < W.fl.length/\W.fl.length < 200/\D.cv[k]? = some v):=⟨ht,e,ev,hk,hl,hv⟩
  have HE:Hid (W.twE (k:Int)=0/\W.twiced (k:Int)={W with fl:=W.fl.insertIdx (k+1) t}):=⟨he,hw⟩
  have hfive:=h.fl.five
  have hflat:(nfR W.fl D.cv).flatten.length=W.fl.length * 5:=h.fl.own.1
  have hone:=flat_one hfive
  clear hc he ht e hv nt h1 h2 hk hw hl ht' h
  obtain⟨v3,w3,hr3,own3,gr3,ob3⟩:=app_rows (c:=cap) (m:=k+1) (World.ownsRow_nil w w 158 5) (g,0) ((nfR W.fl D.cv).flatten.take ((k+1) * 5)) (by rw[List.length_take,hflat];have:=HT.2.2.2.1;omega) (fun j x hx=>by
   rw[addr_addW,Nat.zero_add]
   rw[List.getElem?_take]at hx
   split at hx
   ·exact HC j x hx
   ·cases hx) (fun x hx=>hone x (List.mem_of_mem_take hx)) (by have:=HW.fl.le;have:=HT.2.2.2.1;omega) (Nat.le_refl _)
  have O3:Hid (w3.ownsRow w 158 5 v3 (k+1) ((nfR W.fl D.cv).flatten.take ((k+1) * 5))):=by show World.ownsRow _ _ _ _ _ _ _;simpa using own3
  have B3:Hid (Below w w w3):=⟨gr3.os,gr3.tape,gr3.output,gr3.size,fun q hq=>gr3.block q hq (fun e=>by cases e)⟩
  clear own3 gr3 ob3
  go_enter Tryz.func39,Tryz.ntmps39
  go_upto_region 7 with(at_builtin;refine wpList_append_eq rfl _ _ 72 rfl _ _ _ _ rfl rfl hr3 ?_)
  obtain⟨v5,w5,hr5,own5,b5,_⟩:=app_note2 (u:=w3) (u':=w3) (base:=w.heap.size) (v:=v3) (n:=k+1) t p t.cs.length vc (Below.refl _ _) O3 (by have:=HT.out;omega) B3.size
  have O5:Hid (w5.ownsRow w 158 5 v5 (k+1+1) ((nfR W.fl D.cv).flatten.take ((k+1) * 5)++nfC t (.slice p t.cs.length vc))):=own5
  have B5:Hid (Below w w w5):=B3.trans b5
  have c3':=tk B3 c3
  have a0':=tk B3 a0
  have a1':=tk B3 a1
  have a2':=tk B3 a2
  have a3':=tk B3 a3
  have a4':=tk B3 a4
  have l1:D.wb < w3.heap.size:=tlt c3'
  have l2:g < w3.heap.size:=tlt a0'
  clear hr3 own5 b5 a0 a1 a2 a3 a4
  go_upto_region 8 with(at_builtin;refine wpList_append_eq rfl _ _ 72 rfl _ _ _ _ rfl rfl hr5 ?_)
  have HO:Hid (∀(a:Addr) (c:Nat),(W.fl.length - (k+1)≠0->a=(g,(k+1) * 5))->∃v6 w6,(Builtin.append_ #[72,72] 72 #[v5,.slice (some a) (W.fl.length - (k+1)) c]).run Tryz.prog w5=.ok v6 w6/\w6.ownsRow w 158 5 v6 (W.fl.length+1) ((nfR W.fl D.cv).flatten.take ((k+1) * 5)++nfC t (.slice p t.cs.length vc)++(nfR W.fl D.cv).flatten.drop ((k+1) * 5))/\Below w w w6):=fun a c ha=>by
   have hk:=HT.2.2.2.1
   have hl3:((nfR W.fl D.cv).flatten.drop ((k+1) * 5)).length=(W.fl.length - (k+1)) * 5:=by rw[List.length_drop,hflat];omega
   obtain⟨v4,w4,hr4,own4,gr4,ob4⟩:=app_rows (c:=c) (m:=W.fl.length - (k+1)) O5 a ((nfR W.fl D.cv).flatten.drop ((k+1) * 5)) hl3 (fun j x hx=>by
    have hj:j < (W.fl.length - (k+1)) * 5:=by rw[<- hl3];exact(List.getElem?_eq_some_iff.1 hx).1
    rw[ha (by omega),addr_addW]
    rw[List.getElem?_drop]at hx
    exact tk B5 (HC _ x hx)) (fun x hx=>hone x (List.mem_of_mem_drop hx)) (by have:=HW.fl.le;omega) B5.size
   refine⟨v4,w4,hr4,?_,B5.grown gr4 B5.size (fun q hq=>(O5.lt q hq).1)⟩
   have e:k+1+1+(W.fl.length - (k+1))=W.fl.length+1:=by omega
   rw[e]at own4
   exact own4
  have c5:=tk B5 c3
  clear c3' a0' a1' a2' a3' a4' hr5 hone hflat hfive
  by_cases hcap:cap=k+1
  ·obtain⟨v6,w6,hr6,own6,b6⟩:=HO.out (g,0) 0 (fun hne=>by have:=HT.out;omega)
   subst hcap
   obtain⟨p6,cp6,rfl⟩:∃p6 cp6,v6=.slice p6 (W.fl.length+1) cp6:=by
    rcases ownsRow_cases own6 with⟨e,e0⟩ | ⟨g',c',e,_⟩
    ·omega
    ·exact⟨_,_,e⟩
   have O6:Hid (w6.ownsRow w 158 5 (.slice p6 (W.fl.length+1) cp6) (W.fl.length+1) ((nfR W.fl D.cv).flatten.take ((k+1) * 5)++nfC t (.slice p t.cs.length vc)++(nfR W.fl D.cv).flatten.drop ((k+1) * 5))/\Below w w w6):=⟨own6,b6⟩
   have c6:=(World.cell?_of_block (b6.block D.wb HW.wb.lt)).trans c3
   have f6:w6.frozen? (D.wb,3)=false:=(World.frozen?_of_block (b6.block D.wb HW.wb.lt)).trans f3
   clear own6 b6 c3 f3
   go_wp2_with (at_builtin;refine wpList_append_eq rfl _ _ 72 rfl _ _ _ _ rfl rfl hr6 ?_)
   go_ret
   have hk:=HT.2.2.2.1
   have hk':k+1<=W.fl.length:=by omega
   have hcl:k+1<=D.cv.length:=by rw[HW.fl.len];exact hk'
   have kk:=HW.onFl (w2:=w6) (v2:=.slice p6 (W.fl.length+1) cp6) (fl':=W.fl.insertIdx (k+1) t) (cv':=D.cv.insertIdx (k+1) (.slice p t.cs.length vc)) (ChgL.of O6.2)
    (by
     rw[List.length_insertIdx_of_le_length hk',nfR_insert hk HW.fl.len HW.fl.five]
     exact owns_zero O6.1)
    (fun q hq=>Or.inr (O6.1.lt q hq).1)
    (by rw[List.length_insertIdx_of_le_length hk',List.length_insertIdx_of_le_length hcl,HW.fl.len])
    (by rw[List.length_insertIdx_of_le_length hk'];have:=HT.2.2.2.2.1;omega)
    (fun i t' v' ht hv=>by
     rw[insertIdx_get _ _ _ hk']at ht
     rw[insertIdx_get _ _ _ hcl]at hv
     by_cases h1:i < k+1
     ·rw[if_pos h1]at ht hv;exact HW.fl.ok i t' v' ht hv
     ·rw[if_neg h1]at ht hv
      by_cases h2:i=k+1
      ·rw[if_pos h2]at ht hv
       cases ht
       cases hv
       have e1:=HT.2.2.1
       exact HW.fl.ok k t _ HT.1 (by rw[HT.2.2.2.2.2,e1])
      ·rw[if_neg h2]at ht hv;exact HW.fl.ok _ t' v' ht hv) rfl
   exact⟨by rw[HE.1];rfl,_,by rw[HE.2];exact kk.1,kk.2⟩
  ·obtain⟨v6,w6,hr6,own6,b6⟩:=HO.out (g,(k+1) * 5) (cap - (k+1)) (fun _=>rfl)
   have k8:¬(cap:Int)=(k:Int)+1:=by omega
   have k9:(k:Int)+1 < (cap:Int):=by omega
   obtain⟨p6,cp6,rfl⟩:∃p6 cp6,v6=.slice p6 (W.fl.length+1) cp6:=by
    rcases ownsRow_cases own6 with⟨e,e0⟩ | ⟨g',c',e,_⟩
    ·omega
    ·exact⟨_,_,e⟩
   have O6:Hid (w6.ownsRow w 158 5 (.slice p6 (W.fl.length+1) cp6) (W.fl.length+1) ((nfR W.fl D.cv).flatten.take ((k+1) * 5)++nfC t (.slice p t.cs.length vc)++(nfR W.fl D.cv).flatten.drop ((k+1) * 5))/\Below w w w6):=⟨own6,b6⟩
   have c6:=(World.cell?_of_block (b6.block D.wb HW.wb.lt)).trans c3
   have f6:w6.frozen? (D.wb,3)=false:=(World.frozen?_of_block (b6.block D.wb HW.wb.lt)).trans f3
   clear own6 b6 c3 f3
   go_wp2_with (at_builtin;refine wpList_append_eq rfl _ _ 72 rfl _ _ _ _ rfl rfl hr6 ?_)
   go_ret
   have hk:=HT.2.2.2.1
   have hk':k+1<=W.fl.length:=by omega
   have hcl:k+1<=D.cv.length:=by rw[HW.fl.len];exact hk'
   have kk:=HW.onFl (w2:=w6) (v2:=.slice p6 (W.fl.length+1) cp6) (fl':=W.fl.insertIdx (k+1) t) (cv':=D.cv.insertIdx (k+1) (.slice p t.cs.length vc)) (ChgL.of O6.2)
    (by
     rw[List.length_insertIdx_of_le_length hk',nfR_insert hk HW.fl.len HW.fl.five]
     exact owns_zero O6.1)
    (fun q hq=>Or.inr (O6.1.lt q hq).1)
    (by rw[List.length_insertIdx_of_le_length hk',List.length_insertIdx_of_le_length hcl,HW.fl.len])
    (by rw[List.length_insertIdx_of_le_length hk'];have:=HT.2.2.2.2.1;omega)
    (fun i t' v' ht hv=>by
     rw[insertIdx_get _ _ _ hk']at ht
     rw[insertIdx_get _ _ _ hcl]at hv
     by_cases h1:i < k+1
     ·rw[if_pos h1]at ht hv;exact HW.fl.ok i t' v' ht hv
     ·rw[if_neg h1]at ht hv
      by_cases h2:i=k+1
      ·rw[if_pos h2]at ht hv
       cases ht
       cases hv
       have e1:=HT.2.2.1
       exact HW.fl.ok k t _ HT.1 (by rw[HT.2.2.2.2.2,e1])
      ·rw[if_neg h2]at ht hv;exact HW.fl.ok _ t' v' ht hv) rfl
   exact⟨by rw[HE.1];rfl,_,by rw[HE.2];exact kk.1,kk.2⟩
 ·obtain⟨g,cap,t',v,e,h1,h2,_⟩:=h.fl.at' hk
  rw[e]at c3
  have k0:¬(k:Int) < 0:=by omega
  have k3:¬(W.fl.length:Int)<=(k:Int):=by omega
  have k4:(200:Int)<=(W.fl.length:Int):=by omega
  have HE:Hid (W.twE (k:Int)=6/\W.twiced (k:Int)=W):=⟨he,hw⟩
  clear he hw h hk hl h1 h2 e
  go_enter Tryz.func39,Tryz.ntmps39
  go_wp2_with fail
  go_ret
  exact⟨by rw[HE.1];rfl,D,by rw[HE.2];exact HW,RMv.of (Below.refl _ _)⟩
 ·obtain⟨p,cap,e⟩:∃p cap,D.lv=.slice p W.fl.length cap:=by
   rcases ownsRow_cases h.fl.own with⟨e,e0⟩ | ⟨g',c',e,_⟩
   ·exact⟨none,0,by rw[e,e0]⟩
   ·exact⟨_,_,e⟩
  rw[e]at c3
  have HE:Hid (W.twE n=4/\W.twiced n=W):=⟨he,hw⟩
  clear he hw h e
  by_cases n0:n < 0
  ·clear hn
   go_enter Tryz.func39,Tryz.ntmps39
   go_wp2_with fail
   go_ret
   exact⟨by rw[HE.1];rfl,D,by rw[HE.2];exact HW,RMv.of (Below.refl _ _)⟩
  ·have n1:(W.fl.length:Int)<=n:=by omega
   clear hn
   go_enter Tryz.func39,Tryz.ntmps39
   go_wp2_with fail
   go_ret
   exact⟨by rw[HE.1];rfl,D,by rw[HE.2];exact HW,RMv.of (Below.refl _ _)⟩
theorem ron_any (n:Nat) (s:By) (lv:Int) (w:World) (S:RBy w n s lv):Calls Tryz.prog 77 #[.pointer (some (n,0))] w fun e w'=>e=.returned (.tuple #[])/\RBy w' n s.turnOn lv/\Chg n w w':=by
 have HS:Hid (RBy w n s lv):=S
 have c1:=S.c1
 have c3:=S.c3
 have f:=fun i=>S.fr i
 clear S
 go_enter Tryz.func77,Tryz.ntmps77
 go_wp2_with fail
 go_end0
 exact⟨rfl,(HS.s1 true).s3 false,(Chg.set _ _ _ _).trans (Chg.set _ _ _ _)⟩
theorem RWd.rise {w0 w w2 w3:World} {D:RK} {W:Wo} {u i:Nat} {r:RBk} {q:Ro} (h:RWd w0 w D W u) (hi:i < 2) (hx:W.nd i=none) (hy:r.yb=D.yk i) (hn:∀g ∈ r.all,g=D.yk i\/w.heap.size<=g) (nd:RNd w0 w2 r (No.new i (W.yb i).oned W.ru) q (loU (u+1)) ((u+1:Nat):Int) (33 * (u+1))) (c:ChgL [D.yk i] w w2) (e:w3=w2.setCell (D.nb,i) (.pointer (some (r.nd,0)))) :
  ∃D',RWd w0 w3 D' (W.risen i) (u+1)/\RMv D D' w w3:=by
 obtain⟨hk,_,ty⟩:=h.down hi hx
 obtain⟨tw0,tw6,tw7⟩:=h.tw
 have C:Chg D.nb w2 w3:=by rw[e];exact Chg.set _ _ _ _
 have hc:ChgL [D.yk i,D.nb] w w3:=(c.mono (fun b hb=>.inl (by simp at hb ⊢;exact .inl hb))).trans (ChgL.one C (by simp))
 have tl:∀b ∈ [D.yk i,D.nb],D.tag b=i+1\/D.tag b=6:=fun b hb=>by
  simp only[List.mem_cons,List.not_mem_nil,or_false]at hb
  rcases hb with rfl | rfl
  ·exact .inl ty
  ·exact .inr tw6
 have hnbr:∀b ∈ r.all,b≠D.nb:=fun b hb e=>by
  rcases hn b hb with q | q
  ·rw[<- q,e]at ty;omega
  ·have:=h.nb.lt;omega
 have hsz:=c.size
 have nd3:RNd w0 w3 r (No.new i (W.yb i).oned W.ru) q (loU (u+1)) ((u+1:Nat):Int) (33 * (u+1)):=nd.kept (ChgL.one (l:=[D.nb]) C (by simp)) (fun b hb hm=>hnbr b hb (by simpa using hm)) (fun b hb=>by rw[List.mem_singleton.1 hb];exact h.g0 _ (by omega))
 have t1:∀b,b < w.heap.size->(if b < w.heap.size then D.tag b else if b ∈ r.all then i+1 else 9)=D.tag b:=fun b hb=>if_pos hb
 refine⟨{D with nk:=setN D.nk i (some r),tag:=fun b=>if b < w.heap.size then D.tag b else if b ∈ r.all then i+1 else 9},h.make [D.yk i,D.nb] hc (fun b hb=>⟨h.g0 b (by have:=tl b hb;omega),by have:=tl b hb;omega,by have:=tl b hb;omega⟩) (Nat.le_succ u) t1 (fun b hb=>?_) ⟨rfl,rfl,rfl,rfl⟩ (h.wb.kept (hc.block _ h.wb.lt (fun hm=>by have:=tl _ hm;omega))) (.inl ?_) (fun j hj=>?_) (.inr ⟨rfl,rfl⟩) (.inr ⟨rfl,rfl,rfl,fun b hb=>by have:=tl b hb;omega⟩) (.inr ⟨rfl,rfl,fun b hb=>by have:=tl b hb;omega⟩),RMv.list hc (fun b hb=>by have:=tl b hb;omega) t1 rfl⟩
 ·have:=C.size
  show(if b < w.heap.size then _ else _)=_
  rw[if_neg (by omega),if_neg (fun hm=>by have:=nd3.blk b hm;omega)]
 ·have p2:PtB w2 D.nb D.nv:=h.nb.kept (c.block _ h.nb.lt (fun hm=>by have q:=List.mem_singleton.1 hm;rw[q]at tw6;omega))
  rw[e]
  refine(p2.put hi _).as (fun j hj=>?_)
  show(.pointer ((setN D.nk i (some r) j).map fun r=>(r.nd,0)):Value)=setN D.nv i _ j
  by_cases e:j=i
  ·subst e;rw[setN_same,setN_same];rfl
  ·rw[setN_other _ _ e,setN_other _ _ e];rfl
 ·by_cases e:j=i
  ·subst e
   refine .inl ⟨.inl ⟨r,_,q,setN_same _ _ _,setN_same _ _ _,nd3,hy,?_,?_,rfl⟩,fun b hb=>?_⟩
   ·show(0:Int)<=0;omega
   ·show(0:Int)<=_;omega
   ·have hb':b ∈ (match setN D.nk j (some r) j with | some r=>r.all | none=>[D.yk j]):=hb
    rw[setN_same]at hb'
    show(if b < w.heap.size then _ else _)=_
    rcases hn b hb' with q | q
    ·rw[if_pos (by rw[q];exact h.lt (by omega)),q]
     exact ty
    ·rw[if_neg (by omega),if_pos hb']
  ·exact .inr ⟨setN_other _ _ e,setN_other _ _ e,rfl,fun b hb=>by have:=tl b hb;omega⟩
theorem dup_any {w0 w:World} {D:RK} {W:Wo} {u:Nat} (h:RWd w0 w D W u) (hu:u<=100000) (n:Int) (N:∀i:Nat,n=i->i < 2->W.nd i=none->NewOk i (W.yb i).oned W.ru) :
  Calls Tryz.prog 30 #[.pointer (some ⟨D.wb,0,none⟩),.int .i64 n] w fun e w'=>e=.returned (.int .i64 (W.roE n:Nat))/\∃D',RWd w0 w' D' (W.upped n) (u+1)/\RMv D D' w w':=by
 have HW:Hid (RWd w0 w D W u):=h
 have HU:Hid (u<=100000/\∀i:Nat,n=i->i < 2->W.nd i=none->NewOk i (W.yb i).oned W.ru):=⟨hu,N⟩
 have c0:w.cell? ⟨D.wb,0,none⟩=some (.slice (some ⟨D.nb,0,none⟩) 2 D.nc):=(h.wb.c 0).trans rfl
 rcases upE_cases W n with⟨i,x,rfl,hi,hx,he⟩ | ⟨i,rfl,hi,hx,he⟩ | ⟨hn,he⟩
 ·have HX:Hid (W.roE (i:Int)=11/\W.upped (i:Int)=W):=by
   have e:W.roE (i:Int)=11:=by unfold Wo.roE;rw[if_pos (by omega),Int.toNat_natCast,hx];rfl
   exact⟨e,by unfold Wo.upped;rw[if_neg (by omega)]⟩
  obtain⟨r,q,hk,_⟩:=h.up hi hx
  have cn:=h.nvU hi hk
  have n0:¬(i:Int) < 0:=by omega
  have n1:¬(1:Int) < (i:Int):=by omega
  have n2:(0:Int)<=(i:Int):=by omega
  have n3:(i:Int) < 2:=by omega
  clear h hu N he hx hi hk
  go_enter Tryz.func30,Tryz.ntmps30
  go_wp2_with fail
  go_ret
  exact⟨by rw[HX.out.1];rfl,D,by rw[HX.out.2];exact HW.out.mono (by omega),RMv.of (Below.refl _ _)⟩
 ·have HX:Hid (W.roE (i:Int)=0/\W.upped (i:Int)=W.risen i):=by
   have e:W.roE (i:Int)=0:=by unfold Wo.roE;rw[if_pos (by omega),Int.toNat_natCast,hx];rfl
   exact⟨e,by unfold Wo.upped;rw[if_pos e,Int.toNat_natCast]⟩
  have HI:Hid (i < 2/\W.nd i=none):=⟨hi,hx⟩
  obtain⟨hk,⟨lv,y1,y2,y3,y4,y5⟩,ty⟩:=h.down hi hx
  have HY:Hid (RBy w (D.yk i) (W.yb i) lv/\loU u<=lv/\lv<=9223372036854775807/\(W.yb i).B.length=64/\D.tag (D.yk i)=i+1):=⟨y1,y3,y4,y5,ty⟩
  have cn:=h.nvD hi hk
  have c1:w.cell? ⟨D.wb,1,none⟩=some (.slice (some ⟨D.bb,0,none⟩) 2 D.bc):=(h.wb.c 1).trans rfl
  have c2:w.cell? ⟨D.wb,2,none⟩=some (.slice D.rp W.ru.length D.rc):=(h.wb.c 2).trans rfl
  have cb:=h.bb.c i hi
  have n0:¬(i:Int) < 0:=by omega
  have n1:¬(1:Int) < (i:Int):=by omega
  have n2:(0:Int)<=(i:Int):=by omega
  have n3:(i:Int) < 2:=by omega
  clear h hu N he hx hi hk y1 y2 y3 y4 y5 ty
  go_enter Tryz.func30,Tryz.ntmps30
  go_wp2_with fail
  refine(ron_any (D.yk i) (W.yb i) lv w HY.out.1).mono ?_
  rintro e w1 ⟨rfl,y1,g1⟩
  have Y1:Hid (RBy w1 (D.yk i) (W.yb i).oned lv/\Chg (D.yk i) w w1):=⟨y1,g1⟩
  have hne:D.wb≠D.yk i/\D.nb≠D.yk i/\D.bb≠D.yk i:=by
   have q:=HW.out.tw
   have q2:=HY.out.2.2.2.2
   have q3:=HI.out.1
   exact⟨fun e=>by rw[e]at q;omega,fun e=>by rw[e]at q;omega,fun e=>by rw[e]at q;omega⟩
  have d1:=g1.keeps hne.1 c1
  have d2:=g1.keeps hne.1 c2
  have d0:=g1.keeps hne.1 c0
  have db:=g1.keeps hne.2.2 cb
  have dn:=g1.keeps hne.2.1 cn
  have fn:w1.frozen? ⟨D.nb,i,none⟩=false:=(World.frozen?_of_block (g1.block _ HW.out.nb.lt hne.2.1)).trans (HW.out.nb.fr i HI.out.1)
  clear y1 g1 c0 c1 c2 cb cn
  have HC:Hid (Calls Tryz.prog 25 #[.int .i64 i,.pointer (some ⟨D.yk i,0,none⟩),.slice D.rp W.ru.length D.rc] w1.drew fun e w'=>∃r,e=.returned (.tuple #[.pointer (some ⟨r.nd,0,none⟩),.int .i64 0])/\(r.yb=D.yk i/\(∀g ∈ r.all,g=D.yk i\/w.heap.size<=g)/\∃q,RNd w0 w' r (No.new i (W.yb i).oned W.ru) q (loU (u+1)) ((u+1:Nat):Int) (33 * (u+1)))/\ChgL [D.yk i] w1.drew w'):=by
   have b1:Below w0.heap.size w0 w1.drew:=(Chg.below HW.out.bl Y1.out.2 (HW.out.g0 _ (by have:=HY.out.2.2.2.2;omega))).drew
   refine(rnewnode_any (w0:=w0) i HI.out.1 (D.yk i) (W.yb i).oned (loU u) D.rp D.rc W.ru ⟨lv,Y1.out.1.below (Below.refl _ _).drew,(fun e=>by cases e),HY.out.2.1,HY.out.2.2.1⟩ (by have:=HU.out.1;unfold loU;omega) HY.out.2.2.2.1 (HW.out.g0 _ (by have:=HY.out.2.2.2.2;omega)) b1 (HW.out.ru.kept (fun hne a ha=>by
    have q:=HW.out.rb hne a ha
    exact(b1.block _ q).trans (HW.out.bl.block _ q).symm)) HW.out.rl HW.out.rb).mono ?_
   rintro e w' ⟨hq,hc⟩
   rcases hq with⟨n,hn,hn2,_⟩ | ⟨_,r,he,hy,hg,nd⟩
   ·exact absurd (hn2.trans (HU.out.2 i rfl HI.out.1 HI.out.2).pu) hn
   ·have hl:loU u - 20=loU (u+1):=by unfold loU;omega
    have hsz:=Y1.out.2.size
    refine⟨r,he,⟨hy,fun g hg'=>(hg g hg').imp id (fun e=>Nat.le_trans hsz e),⟨(i:Int),((newest (W.yb i).oned.B).e:Int),0,false⟩,?_⟩,hc⟩
    obtain⟨lv2,a,b,c,d⟩:=nd.yb
    exact {nd with yb:=⟨lv2,a,b,by omega,d⟩,sm:=nd.sm.mono (by omega),vs:=nd.vs.more (by omega)}
  go_wp2_with fail
  have hS:w1.drew.cell? ⟨D.wb,1,none⟩=some (.slice (some ⟨D.bb,0,none⟩) 2 D.bc)/\w1.drew.cell? ⟨D.bb,i,none⟩=some (.pointer (some ⟨D.yk i,0,none⟩))/\w1.drew.cell? ⟨D.wb,2,none⟩=some (.slice D.rp W.ru.length D.rc):=⟨d1,db,d2⟩
  have HN:Hid (¬D.wb ∈ [D.yk i]/\¬D.bb ∈ [D.yk i]/\¬D.nb ∈ [D.yk i]):=⟨fun hm=>hne.1 (by simpa using hm),fun hm=>hne.2.2 (by simpa using hm),fun hm=>hne.2.1 (by simpa using hm)⟩
  go_region_held3 (fun w'=>w'.cell? ⟨D.wb,1,none⟩=some (.slice (some ⟨D.bb,0,none⟩) 2 D.bc)/\w'.cell? ⟨D.bb,i,none⟩=some (.pointer (some ⟨D.yk i,0,none⟩))/\w'.cell? ⟨D.wb,2,none⟩=some (.slice D.rp W.ru.length D.rc))
   (first | assumption | exact⟨C2.out.keeps HN.out.1 hS.1,C2.out.keeps HN.out.2.1 hS.2.1,C2.out.keeps HN.out.1 hS.2.2⟩)
   (first | (go_at_call 25;refine HC.out.mono ?_;rintro e w2 ⟨r,rfl,k2,c2⟩;have K2:Hid (r.yb=D.yk i/\(∀g ∈ r.all,g=D.yk i\/w.heap.size<=g)/\∃q,RNd w0 w2 r (No.new i (W.yb i).oned W.ru) q (loU (u+1)) ((u+1:Nat):Int) (33 * (u+1))):=k2;have C2:Hid (ChgL [D.yk i] w1.drew w2):=c2;clear k2 c2))
  have e0:=C2.out.keeps (a:=⟨D.wb,0,none⟩) HN.out.1 d0
  have en:=C2.out.keeps (a:=⟨D.nb,i,none⟩) HN.out.2.2 dn
  have fn2:w2.frozen? ⟨D.nb,i,none⟩=false:=(World.frozen?_of_block (C2.out.block _ (tlt dn) HN.out.2.2)).trans fn
  clear hS d0 d1 d2 db dn fn hne
  go_wp2_with fail
  go_ret
  obtain⟨q,nd⟩:=K2.out.2.2
  have cc:ChgL [D.yk i] w w2:=((ChgL.one Y1.out.2 (by simp)).trans (ChgL.of (Below.refl _ _).drew)).trans C2.out
  obtain⟨D',k1,k2⟩:=HW.out.rise HI.out.1 HI.out.2 K2.out.1 K2.out.2.1 nd cc rfl
  exact⟨by rw[HX.out.1];rfl,D',by rw[HX.out.2];exact k1,k2⟩
 ·have HX:Hid (W.roE n=2/\W.upped n=W):=by
   have e:W.roE n=2:=by unfold Wo.roE;rw[if_neg hn]
   exact⟨e,by unfold Wo.upped;rw[if_neg (by omega)]⟩
  clear h hu N he c0
  by_cases n0:n < 0
  ·clear hn
   go_enter Tryz.func30,Tryz.ntmps30
   go_wp2_with fail
   go_ret
   exact⟨by rw[HX.out.1];rfl,D,by rw[HX.out.2];exact HW.out.mono (by omega),RMv.of (Below.refl _ _)⟩
  ·have n1:(1:Int) < n:=by omega
   clear hn
   go_enter Tryz.func30,Tryz.ntmps30
   go_wp2_with fail
   go_ret
   exact⟨by rw[HX.out.1];rfl,D,by rw[HX.out.2];exact HW.out.mono (by omega),RMv.of (Below.refl _ _)⟩
theorem zeros_convW (w:World) (Z:Nat) (h:w.heap[Z]? = some (.cells (Array.replicate 64 (.int .u8 0)) 5 (0,0))):(convert 135 9 (.slice (some (Z,0)) 64 64)).run Tryz.prog w=.ok (.string (stB zero64)) w:=by
 have hcv:=run_convert_bytes_arg (P := Tryz.prog) w 135 5 Tryz.underlying135 Tryz.underlying5 Z 0 64 64 (List.replicate 64 0) rfl (fun i hi=>by
  rw[Nat.zero_add,cell_of_row w Z i _ _ _ h,Array.getElem?_replicate,if_pos hi,List.getD_eq_getElem?_getD,List.getElem?_replicate,if_pos hi]
  rfl) 9 Tryz.underlying9
 have hst:strOfNums (List.replicate 64 0)=stB zero64:=by decide +kernel
 rw[hst]at hcv
 exact hcv
theorem mk64W (w:World):(Instr.makeSlice 135 (.int .i64 64) (.int .i64 64)).run Tryz.prog w=.ok (.slice (some (w.heap.size,0)) 64 64) (w.alloc (.cells (Array.replicate 64 (.int .u8 0)) 5)):=by kernel_rfl
theorem rnewbytes_any (w:World):Calls Tryz.prog 24 #[] w fun e w'=>(∃b,e=.returned (.pointer (some ⟨b,0,none⟩))/\w.heap.size<=b/\RBy w' b new0 0)/\Below w w w':=by
 have h1:=mk64W w
 have h2:=zeros_convW (w.alloc (.cells (Array.replicate 64 (.int .u8 0)) 5)) w (heap_alloc_new w _)
 have B1:Hid (Below w w (w.alloc (.cells (Array.replicate 64 (.int .u8 0)) 5))):=aB _ _
 obtain⟨w1,hw1⟩:∃w1,w.alloc (.cells (Array.replicate 64 (.int .u8 0)) 5)=w1:=⟨_,rfl⟩
 rw[hw1]at h1 h2 B1
 clear hw1
 go_enter Tryz.func24,Tryz.ntmps24
 go_wp2_with fail
 go_ret
 exact⟨⟨w1.heap.size,rfl,B1.size,heap_alloc_new w1 _⟩,t2 B1 (aB _ _)⟩
def FarR (w0:World) (p:Option Addr) (l:List Rl):Prop:=Rul w0 p l/\l.length<=1000
theorem FarR.lt {w0:World} {p:Option Addr} {l:List Rl} (h:FarR w0 p l):l≠[]->∀a,p=some a->a.block < w0.heap.size:=fun hne a ha=>by
 obtain⟨t,ht⟩:=List.exists_mem_of_ne_nil _ hne
 obtain⟨i,hi⟩:=List.getElem?_of_mem ht
 obtain⟨b,o,e2,c0,_⟩:=h.1 i t hi
 rw[show p=some a from ha]at e2
 cases e2
 have q:b < w0.heap.size:=tlt c0
 exact q
end Go.Proofs.YtklnhinjmlglcaaGreatDoor
