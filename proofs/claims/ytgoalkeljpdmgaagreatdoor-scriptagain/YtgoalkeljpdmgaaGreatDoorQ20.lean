/-
  What the claimed theorem reaches, part Q20.
-/
import Derived.Test.YtgoalkeljpdmgaaGreatDoorQ19
import Derived.Test.YtgoalkeljpdmgaaGreatDoorQ00
import Derived.Test.YtgoalkeljpdmgaaGreatDoorQ16
import Derived.OwnWalk
namespace Go.Proofs.YtgoalkeljpdmgaaGreatDoor
open Go.RowKit
set_option maxRecDepth 100000
set_option maxHeartbeats 8000000
section
variable {w w0:World} {K:WK} {t:Nat} {s:Nat->Addr}
theorem WdB.heard {x:Wo} (h:WdB w K x) (a b:Int):WdB ((w.setCell (K.wb,5) a).setCell (K.wb,6) b) K {x with hn:=a,he:=b}:=by
 have h1:=heap_setCell_same w _ 5 _ _ a h
 have h2:=heap_setCell_same _ _ 6 _ _ b h1
 exact h2
theorem Wd.onSw {w':World} {x:Wo} (h:Wd w0 w K x t) {a b:Int} (g:Chg K.wb w w') (hb:WdB w' K {x with hn:=a,he:=b}):Wd w0 w' K {x with hn:=a,he:=b} t:=by
 have hwt:=h.wb0
 have hC:ChgL [K.wb] w w':=ChgL.one g (by simp)
 have hl:∀q ∈ [K.wb],w0.heap.size<=q/\K.tag q=0:=fun q hq=>by
  simp only[List.mem_cons,List.not_mem_nil,or_false]at hq
  subst hq
  exact⟨hwt.2,hwt.1⟩
 exact h.make [K.wb] hC (fun b hb=>⟨(hl b hb).1,by have:=(hl b hb).2;omega⟩) (Nat.le_refl _) (fun _ _=>rfl) (fun b hb=>h.al b (Nat.le_trans hC.size hb)) rfl hb (.inr ⟨rfl,rfl,rfl,rfl,fun b hb=>by have:=(hl b hb).2;omega⟩) (.inr ⟨rfl,rfl,rfl,rfl,fun b hb=>by have:=(hl b hb).2;omega⟩) (.inr ⟨rfl,rfl,rfl⟩) (.inr ⟨rfl,rfl,rfl,fun b hb=>by have:=(hl b hb).2;omega⟩) (.inr ⟨rfl,rfl,fun b hb=>by have:=(hl b hb).2;omega⟩)
theorem hear_wd {x:Wo} (h:Wd w0 w K x t) (n:Nf) (v:Value) :
  Calls Tryz.prog 91 #[.pointer (some (K.wb,0)),.agg #[n.fr,n.li,n.ep,.bool n.cl,v]] w fun e w'=>e=.returned (.tuple #[])/\Wd w0 w' K (x.heard n) t/\Mv K K w w':=by
 have HW:Hid (Wd w0 w K x t):=h
 clear h
 go_enter Tryz.func91,Tryz.ntmps91
 go_wp2_with fail
 have HB1:Hid (Below w w (w.alloc (.cells #[n.fr,n.li,n.ep,.bool n.cl,v] 143))):=aB _ _
 have HZ1:Hid (NfZ (w.alloc (.cells #[n.fr,n.li,n.ep,.bool n.cl,v] 143)) w n v):=NfZ.new w n v
 generalize w.alloc (.cells #[n.fr,n.li,n.ep,.bool n.cl,v] 143)=w1 at *
 have HL:Hid (w.heap.size<=w.heap.size):=Nat.le_refl _
 generalize w.heap.size=Q at HZ1 ⊢
 have W1:Hid (Wd w0 w1 K x t):=HW.below HB1
 have z0:=HZ1.b.c0
 have z2:=HZ1.b.c2
 have c5:w1.cell? (K.wb,5)=x.hn:=W1.wb.c 5
 have c6:w1.cell? (K.wb,6)=x.he:=W1.wb.c 6
 by_cases hlt:x.he < n.ep
 ·have HX:Hid (x.heard n={x with hn:=n.fr,he:=n.ep}):=by show _=_;unfold Wo.heard;rw[if_pos hlt]
  go_quiet (fail)
  have D1:Hid (Below w1 w1 (w1.drewN nq)):=⟨rfl,rfl,rfl,Nat.le_refl _,fun _ _=>rfl⟩
  have W2:Hid (Wd w0 (w1.drewN nq) K x t):=W1.below D1
  have M2:Hid (Mv K K w (w1.drewN nq)):=(Mv.of HB1.out).then D1
  have y0:=tk D1 z0
  have y2:=tk D1 z2
  generalize w1.drewN nq=w2 at *
  clear z0 z2 c5 c6 hlt
  have f5:=W2.wb.fr 5
  have f6:=W2.wb.fr 6
  have c5:w2.cell? (K.wb,5)=x.hn:=W2.wb.c 5
  have c6:w2.cell? (K.wb,6)=x.he:=W2.wb.c 6
  go_wp2_with fail
  go_end0
  have g:Chg K.wb w2 ((w2.setCell (K.wb,5) n.fr).setCell (K.wb,6) n.ep):=(Chg.set _ _ _ _).trans (Chg.set _ _ _ _)
  exact⟨rfl,by rw[HX.out];exact W2.onSw g (W2.wb.heard _ _),M2.trans (Mv.one W2 (i:=0) (by omega) (ChgL.one g (l:=[K.wb]) (by simp)) (fun b hb=>hb))⟩
 ·have HX:Hid (x.heard n=x):=by show _=_;unfold Wo.heard;rw[if_neg hlt]
  go_quiet (fail)
  have D1:Hid (Below w1 w1 (w1.drewN nq)):=⟨rfl,rfl,rfl,Nat.le_refl _,fun _ _=>rfl⟩
  have W2:Hid (Wd w0 (w1.drewN nq) K x t):=W1.below D1
  have M2:Hid (Mv K K w (w1.drewN nq)):=(Mv.of HB1.out).then D1
  generalize w1.drewN nq=w2 at *
  clear z0 z2 c5 c6 hlt
  go_wp2_with fail
  go_end0
  exact⟨rfl,by rw[HX.out];exact W2,M2⟩
theorem handed_some {x:Wo} {n:Nf} {i:Nat} {y:No} (e:(1 - n.fr).toNat=i) (hy:x.nd i=some y):x.handed n={x with nd:=setN x.nd i (some (y.hrd n))}:=by unfold Wo.handed;rw[e,hy]
theorem handed_none {x:Wo} {n:Nf} {i:Nat} (e:(1 - n.fr).toNat=i) (hy:x.nd i=none):x.handed n=x:=by unfold Wo.handed;rw[e,hy]
theorem hrd_same (x:No) (n:Nf):(x.hrd n).ru=x.ru/\(x.hrd n).id=x.id/\(x.hrd n).now=x.now:=by
 unfold No.hrd
 split <;> exact⟨rfl,rfl,rfl⟩
theorem hand_wd {x:Wo} (S:SeM w0 s) (h:Wd w0 w K x t) (n:Nf) (v:Value) (N:NtOk w K n v) :
  Calls Tryz.prog 92 #[.pointer (some (K.wb,0)),.agg #[n.fr,n.li,n.ep,.bool n.cl,v]] w fun e w'=>e=.returned (.tuple #[])/\Wd w0 w' K (x.handed n) t/\Mv K K w w':=by
 obtain⟨i,hi,hie⟩:∃i:Nat,i < 2/\n.fr=1 - (i:Int):=by
  rcases N.2.2.2 with e | e
  ·exact⟨1,by omega,by omega⟩
  ·exact⟨0,by omega,by omega⟩
 have HS:Hid (SeM w0 s):=S
 have HW:Hid (Wd w0 w K x t):=h
 have HN:Hid (NtOk w K n v):=N
 have HI:Hid (i < 2):=hi
 have HT:Hid ((1 - n.fr).toNat=i):=(by omega:(1 - n.fr).toNat=i)
 have hsub:IntKind.i64.wrap (1 - n.fr)=(i:Int):=by rw[IntKind.wrap_i64];omega
 have hsub2:1 - n.fr=(i:Int):=by omega
 have i0:(0:Int)<=(i:Int):=by omega
 have i1:(i:Int) < 2:=by omega
 have HSU:Hid (IntKind.i64.wrap (1 - n.fr)=(i:Int)/\1 - n.fr=(i:Int)):=⟨hsub,hsub2⟩
 clear S h N hi hie
 go_enter Tryz.func92,Tryz.ntmps92
 go_wp2_with fail
 have HB1:Hid (Below w w (w.alloc (.cells #[n.fr,n.li,n.ep,.bool n.cl,v] 143))):=aB _ _
 have HZ1:Hid (NfZ (w.alloc (.cells #[n.fr,n.li,n.ep,.bool n.cl,v] 143)) w n v):=NfZ.new w n v
 generalize w.alloc (.cells #[n.fr,n.li,n.ep,.bool n.cl,v] 143)=w1 at *
 generalize w.heap.size=Q at HZ1 ⊢
 have W1:Hid (Wd w0 w1 K x t):=HW.below HB1
 have z0:=HZ1.b.c0
 go_quiet (fail)
 have D1:Hid (Below w1 w1 (w1.drewN nq)):=⟨rfl,rfl,rfl,Nat.le_refl _,fun _ _=>rfl⟩
 have W2:Hid (Wd w0 (w1.drewN nq) K x t):=W1.below D1
 have B2:Hid (Below w w (w1.drewN nq)):=t2 HB1 D1
 have Z2:Hid (NfZ (w1.drewN nq) Q n v):=HZ1.below D1
 generalize w1.drewN nq=w2 at *
 clear z0
 go_wp2_with fail
 refine(isUp_any W2.wb HI).mono ?_
 rintro e w3 ⟨rfl,hw⟩
 obtain rfl:=hw.symm
 clear hw
 cases hy:x.nd i with
 | none =>
  have HX:Hid (x.handed n=x):=handed_none HT hy
  have hk:(K.nk i).isSome=false:=by rw[(W2.sd HI).iff,hy];rfl
  rw[hk]
  clear hk hy
  go_wp2_with fail
  go_end0
  exact⟨rfl,by rw[HX.out];exact W2,Mv.of B2.out⟩
 | some y =>
  have HX:Hid (x.handed n={x with nd:=setN x.nd i (some (y.hrd n))}):=handed_some HT hy
  have hks:(K.nk i).isSome=true:=by rw[(W2.sd HI).iff,hy];rfl
  rw[hks]
  obtain⟨k,m,n',hk,nd,hyk,q1,q2,q3,q4,q5,q6,q7,q8⟩:=W2.up HI hy
  obtain⟨⟨p,cap,rfl,R,ht⟩,hl,ho,_⟩:=HN.out
  have HC:Hid (∀u,Below w2 w2 u->Calls Tryz.prog 127 #[.pointer (some (k.nd,0)),.agg #[n.fr,n.li,n.ep,.bool n.cl,.slice p n.cs.length cap]] u fun e w'=>e=.returned (terr s (y.heE n))/\Wd w0 w' K (x.handed n) t/\Mv K K w w'):=fun u hu =>
   (hear_nd HS (nd.below hu) n p cap (R.below (t2 B2 hu)) (fun g o e q=>by have:=ht g o e;rw[q,q8 _ k.m_mi]at this;have:=HI.out;omega) (by omega) ho).mono fun e w' ⟨he,n2,c2⟩=>by
    have W3:=W2.below hu
    have q:=hrd_same y n
    refine⟨he,?_,((Mv.of B2.out).then hu).trans (Mv.one W3 (i:=i+1) (by have:=HI.out;omega) c2 (by rw[part_up HI.out hk];exact fun _ h=>h))⟩
    rw[HX.out]
    exact W3.onNd HI hk hy n2 c2 (Nat.le_refl _) (by omega) (by omega) (by rw[q.2.2];exact q3) (by rw[q.2.2];omega) q.1 q.2.1
  have cn:=W2.wb.cn HI
  rw[hk]at cn
  simp only[ndV,Option.map_some]at cn
  have zb:=Z2.b
  obtain⟨z0,z1,z2,z3,z4⟩:=zb
  clear hks hk hy nd hyk q1 q2 q3 q4 q5 q6 q7 q8 R ht hl ho HN
  go_wp2_with fail
  go_region_with (first
   | (go_at_call 127;refine(HC _ (by first | exact Below.refl _ _ | exact(Below.refl _ _).drew | exact(Below.refl _ _).drew.drew)).mono ?_;rintro e w3 ⟨rfl,hw3,hm3⟩;have W3:Hid (Wd w0 w3 K (x.handed n) t):=hw3;have M3:Hid (Mv K K w w3):=hm3;clear hw3 hm3))
  all_goals go_wp2_with fail
  all_goals go_end0
  all_goals exact⟨rfl,W3,M3⟩
def Wo.dlv (W:Wo) (n:Int):Wo:=if W.flE n=0 then (match W.fl[n.toNat]? with | some t=>W.delivered n.toNat t | none=>W) else W
theorem deliver_wm {x:Wo} (S:SeM w0 s) (h:Wd w0 w K x t) (n:Int) :
  Calls Tryz.prog 43 #[.pointer (some (K.wb,0)),n] w fun e w'=>e=.returned (terr s (x.flE n))/\∃K',Wd w0 w' K' (x.dlv n) t/\Mw K K' w w':=by
 have HS:Hid (SeM w0 s):=S
 have HSW:Hid (SeM w s):=S.below h.bl
 have HW:Hid (Wd w0 w K x t):=h
 clear S h
 go_enter Tryz.func43,Tryz.ntmps43
 go_wp2_with fail
 refine(flies_any HW.wb HW.fl n _ rfl).mono ?_
 rintro e w1 ⟨rfl,hw⟩
 obtain rfl:=hw.symm
 clear hw
 by_cases h2:0<=n/\n < x.fl.length
 ·rw[decide_eq_true h2]
  obtain⟨i,rfl⟩:∃i:Nat,n=i:=⟨n.toNat,by omega⟩
  have hi:i < x.fl.length:=by omega
  have HI:Hid (i < x.fl.length):=hi
  obtain⟨tt,htt⟩:∃tt,x.fl[i]? = some tt:=⟨x.fl[i],List.getElem?_eq_getElem hi⟩
  obtain⟨v,hv⟩:∃v,K.cv[i]? = some v:=⟨K.cv[i]'(by rw[HW.fl.len];exact hi),List.getElem?_eq_getElem _⟩
  have HN:Hid (NtOk w K tt v):=HW.fl.ok i tt v htt hv
  have HX:Hid (x.flE (i:Int)=0/\x.dlv (i:Int)=x.delivered i tt):=by
   have e:x.flE (i:Int)=0:=by unfold Wo.flE;rw[if_pos h2]
   exact⟨e,by unfold Wo.dlv;rw[if_pos e,Int.toNat_natCast,htt]⟩
  rcases HW.fl.rows with⟨_,e⟩ | ⟨g,c,cur,hg,R,hc⟩
  ·rw[e]at hi;simp at hi
  have hr:=nfR_get htt hv
  have r0:w.cell? (g,i * 5)=tt.fr:=R.cell (j:=0) hr (by omega)
  have r1:w.cell? (g,i * 5+1)=tt.li:=R.cell hr (by omega)
  have r2:w.cell? (g,i * 5+2)=tt.ep:=R.cell hr (by omega)
  have r3:w.cell? (g,i * 5+3)=some (.bool tt.cl):=R.cell hr (by omega)
  have r4:w.cell? (g,i * 5+4)=some v:=R.cell hr (by omega)
  have c7:w.cell? (K.wb,7)=some (.slice (some (g,0)) x.fl.length c):=by have:=HW.wb.c 7;rw[hg]at this;exact this
  have i0:(0:Int)<=(i:Int):=by omega
  have i1:(i:Int) < (x.fl.length:Int):=by omega
  have i2:i < x.fl.length:=hi
  clear h2 hi htt hv hg R hc hr
  obtain⟨p,cap,hvs⟩:∃p cap,v=.slice p tt.cs.length cap:=by obtain⟨⟨p,cap,e,_⟩,_⟩:=HN.out;exact⟨p,cap,e⟩
  subst hvs
  go_wp2_with fail
  have hb1:Below w w (w.alloc (.cells #[tt.fr,tt.li,tt.ep,.bool tt.cl,.slice p tt.cs.length cap] 143)):=aB _ _
  have HZ1:Hid (NfZ (w.alloc (.cells #[tt.fr,tt.li,tt.ep,.bool tt.cl,.slice p tt.cs.length cap] 143)) w tt (.slice p tt.cs.length cap)):=NfZ.new w tt _
  generalize w.alloc (.cells #[tt.fr,tt.li,tt.ep,.bool tt.cl,.slice p tt.cs.length cap] 143)=w1 at *
  have B1:Hid (Below w w w1):=hb1
  have HQ:Hid (K.tag w.heap.size=9):=HW.al _ (Nat.le_refl _)
  generalize w.heap.size=Q at HZ1 HQ ⊢
  have W1:Hid (Wd w0 w1 K x t):=HW.below B1
  have N1:Hid (NtOk w1 K tt (.slice p tt.cs.length cap)):=HN.kept (ChgL.of (l:=[]) B1) (by simp)
  clear hb1 r0 r1 r2 r3 r4 c7 i0 i1 i2
  refine(land_wd W1 HI).mono ?_
  rintro e w2 ⟨rfl,w2',m2,n2⟩
  have W2:Hid (Wd w0 w2 (K.land i) (x.landed i) t):=w2'
  have M2:Hid (Mv K (K.land i) w w2):=(Mv.of B1.out).trans m2
  have N2:Hid (NtOk w2 (K.land i) tt (.slice p tt.cs.length cap)):=n2 _ _ N1
  have Z2:Hid (NfZ w2 Q tt (.slice p tt.cs.length cap)):=by show w2.heap[Q]? = _;rw[m2.block Q HZ1.lt (.inl HQ)];exact HZ1
  clear w2' m2 n2 N1 HZ1 HN
  have zb:=Z2.b
  obtain⟨z0,z1,z2,z3,z4⟩:=zb
  cases hcl:tt.cl
  ·have HY:Hid (x.delivered i tt=(x.landed i).handed tt):=by show _=_;unfold Wo.delivered;rw[hcl];rfl
   rw[hcl]at z3
   have HF:Hid (tt.cl=false):=hcl
   clear hcl
   go_wp2_with fail
   have H3:=hand_wd HS W2 tt _ N2
   rw[HF.out]at H3
   refine H3.mono ?_
   rintro e w3 ⟨rfl,w3',m3⟩
   have W3:Hid (Wd w0 w3 (K.land i) ((x.landed i).handed tt) t/\Mv K (K.land i) w w3):=⟨w3',M2.trans m3⟩
   clear w3' m3 H3
   go_wp2_with fail
   go_ret
   exact⟨by rw[HX.1];rfl,_,by rw[HX.2,HY.out];exact W3.1,W3.2,fun _ _ e=>e⟩
  ·have HY:Hid (x.delivered i tt=(x.landed i).heard tt):=by show _=_;unfold Wo.delivered;rw[hcl];rfl
   rw[hcl]at z3
   have HF:Hid (tt.cl=true):=hcl
   clear hcl
   go_wp2_with fail
   have H3:=hear_wd W2 tt (.slice p tt.cs.length cap)
   rw[HF.out]at H3
   refine H3.mono ?_
   rintro e w3 ⟨rfl,w3',m3⟩
   have W3:Hid (Wd w0 w3 (K.land i) ((x.landed i).heard tt) t/\Mv K (K.land i) w w3):=⟨w3',M2.trans m3⟩
   clear w3' m3 H3
   go_wp2_with fail
   go_ret
   exact⟨by rw[HX.1];rfl,_,by rw[HX.2,HY.out];exact W3.1,W3.2,fun _ _ e=>e⟩
 ·rw[decide_eq_false h2]
  have HX:Hid (x.flE n=4/\x.dlv n=x):=by
   have e:x.flE n=4:=by unfold Wo.flE;rw[if_neg h2]
   exact⟨e,by unfold Wo.dlv;rw[if_neg (by omega)]⟩
  have s3:=HSW.c3
  clear h2
  go_wp2_with fail
  go_ret
  exact⟨by rw[HX.1];rfl,K,by rw[HX.2];exact HW,Mw.of (Below.refl _ _)⟩
theorem deliver_wd {x:Wo} (S:SeM w0 s) (h:Wd w0 w K x t) (n:Int) :
  Calls Tryz.prog 43 #[.pointer (some (K.wb,0)),n] w fun e w'=>e=.returned (terr s (x.flE n))/\∃K',Wd w0 w' K' (x.dlv n) t/\Mv K K' w w' :=
 (deliver_wm S h n).mono fun _ _ ⟨e,K',wd,m⟩=>⟨e,K',wd,m.toMv⟩
end
theorem note_nd {w0 w:World} {k:Bk} {x:No} {m n:Nat} (h:Nd w0 w k x m n) (cl:Bool) (p:Option Addr) (a c:Nat) :
  Calls Tryz.prog 204 #[.pointer (some (k.nd,0)),.bool cl,.slice p a c] w fun e w'=>e=.returned (.agg #[x.id,x.life,x.ro.ep,.bool cl,.slice p a c])/\Below w w w':=by
 have HN:Hid (Nd w0 w k x m n):=h
 have HE:Hid (∀u,Rol u k.ro x.ro->Calls Tryz.prog 69 #[.pointer (some (k.ro,0))] u fun e w'=>e=.returned x.ro.ep/\w'=u):=fun u R=>epochR_any k.ro x.ro u R
 clear h
 go_enter Tryz.func204,Tryz.ntmps204
 go_wp2_with fail
 have B1:Hid (Below w w (w.alloc (.cells #[.int .i64 0,.int .i64 0,.int .i64 0,.bool false,.slice none 0 0] 143))):=aB _ _
 have N1:Hid (Nd w0 (w.alloc (.cells #[.int .i64 0,.int .i64 0,.int .i64 0,.bool false,.slice none 0 0] 143)) k x m n):=HN.below B1
 have c0:(w.alloc (.cells #[.int .i64 0,.int .i64 0,.int .i64 0,.bool false,.slice none 0 0] 143)).drew.cell? (k.nd,0)=some (.pointer (some (k.ro,0))):=N1.c0
 have c1:(w.alloc (.cells #[.int .i64 0,.int .i64 0,.int .i64 0,.bool false,.slice none 0 0] 143)).drew.cell? (k.nd,1)=x.id:=N1.c1
 have c2:(w.alloc (.cells #[.int .i64 0,.int .i64 0,.int .i64 0,.bool false,.slice none 0 0] 143)).drew.cell? (k.nd,2)=x.life:=N1.c2
 have R1:Hid (Rol (w.alloc (.cells #[.int .i64 0,.int .i64 0,.int .i64 0,.bool false,.slice none 0 0] 143)).drew k.ro x.ro):=N1.drew.ro
 go_region_with (first
  | (go_at_call 69;refine(HE _ R1).mono ?_;rintro e w2 ⟨rfl,hw2⟩;obtain rfl:=hw2.symm))
 all_goals go_wp2_with fail
 all_goals exact bodyPost_ret (v:=.agg #[x.id,x.life,x.ro.ep,.bool cl,.slice p a c]) (by simp[results,Tryz.results204,go_sem]) rfl ⟨rfl,((Below.refl _ _).alloc (Nat.le_refl _) _).drew⟩
section
variable {w w0:World} {base n m:Nat} {v:Value} {x:No} {k:Bk}
def noteC (x:No) (cl:Bool) (cv:Value):List Value:=[.int .i64 x.id,.int .i64 x.life,.int .i64 x.ro.ep,.bool cl,cv]
theorem Tryz.infoNote:(Tryz.prog.info? 143).map (fun i=>(i.zero,i.size,i.bytes))=some (some (.agg #[.int .i64 0,.int .i64 0,.int .i64 0,.bool false,.slice none 0 0]),5,56):=by kernel_rfl
def CelV (w:World) (base:Nat) (T:Tb) (L:List Nat) (v:Value):Prop:=(L=[]/\v=.slice none 0 0)\/∃Z,v=.slice (some ⟨Z,0,none⟩) 8 8/\base<=Z/\RowsB w Z T L/\L.length=8
def NtsV (w:World) (base:Nat) (x:No) (l:List Nt) (v:Value):Prop:=∃p cap,v=.slice p l.length cap/\(l.length<=cap/\(l=[]->p=none/\cap=0))/\∀(i:Nat) t,l[i]? = some t->∃g cv,p=some ⟨g,0,none⟩/\base<=g/\CelV w base x.T t.L cv/\∀(j:Nat) u,(noteC x t.cl cv)[j]? = some u->w.cell? ⟨g,i * 5+j,none⟩=some u
theorem owns_chgL {w':World} {size:Nat} {e:TypeId} {cs:List Value} {l:List Nat} (h:w.ownsRow base e size v n cs) (hc:ChgL l w w') (hb:∀b ∈ l,b < base):w'.ownsRow base e size v n cs:=by
 have hlt:=h.lt
 obtain⟨h1,h2⟩:=h
 refine⟨h1,?_⟩
 rcases h2 with⟨rfl,h0⟩ | ⟨g,cap,cur,rfl,q1,hh,q2⟩
 ·exact .inl ⟨rfl,h0⟩
 ·refine .inr ⟨g,cap,cur,rfl,q1,?_,q2⟩
  rw[hc.block g (hlt g rfl).2 (fun hm=>by have:=hb g hm;omega)]
  exact hh
theorem NtsV.nil (w:World) (base:Nat) (x:No):NtsV w base x [] (.slice none 0 0):=⟨none,0,rfl,⟨Nat.le_refl _,fun _=>⟨rfl,rfl⟩⟩,fun i t h=>by simp at h⟩
theorem NtsV.one {t:Nt} {cv:Value} (h:w.ownsRow base 143 5 v 1 (noteC x t.cl cv)) (hc:CelV w base x.T t.L cv):NtsV w base x [t] v:=by
 obtain⟨h1,h2⟩:=h
 rcases h2 with⟨_,h0⟩ | ⟨g,cap,cur,rfl,q1,hh,q2,q3,q4,ht⟩
 ·cases h0
 ·refine⟨some ⟨g,0,none⟩,cap,rfl,⟨q2,fun e=>by cases e⟩,fun i t' hi=>?_⟩
  match i,hi with
  | 0,hi =>
   obtain rfl:t=t':=by simpa using hi
   refine⟨g,cv,rfl,q1,hc,fun j u hu=>?_⟩
   have hj:j < 5:=(List.getElem?_eq_some_iff.1 hu).1
   rw[<- ht,List.getElem?_take,if_pos (by omega),Array.getElem?_toList]at hu
   rw[cell_of_row w g _ _ _ _ hh,Nat.zero_mul,Nat.zero_add]
   exact hu
theorem NtsV.two {t u:Nt} {cv dv:Value} (h:w.ownsRow base 143 5 v 2 (noteC x t.cl cv++noteC x u.cl dv)) (hc:CelV w base x.T t.L cv) (hd:CelV w base x.T u.L dv):NtsV w base x [t,u] v:=by
 obtain⟨h1,h2⟩:=h
 rcases h2 with⟨_,h0⟩ | ⟨g,cap,cur,rfl,q1,hh,q2,q3,q4,ht⟩
 ·cases h0
 ·refine⟨some ⟨g,0,none⟩,cap,rfl,⟨q2,fun e=>by cases e⟩,fun i t' hi=>?_⟩
  match i,hi with
  | 0,hi =>
   obtain rfl:t=t':=by simpa using hi
   refine⟨g,cv,rfl,q1,hc,fun j z hu=>?_⟩
   have hj:j < 5:=(List.getElem?_eq_some_iff.1 hu).1
   have hz:(noteC x t.cl cv++noteC x u.cl dv)[j]? = some z:=by rw[List.getElem?_append_left (by simpa [noteC] using hj)];exact hu
   rw[<- ht,List.getElem?_take,if_pos (by omega),Array.getElem?_toList]at hz
   rw[cell_of_row w g _ _ _ _ hh,Nat.zero_mul,Nat.zero_add]
   exact hz
  | 1,hi =>
   obtain rfl:u=t':=by simpa using hi
   refine⟨g,dv,rfl,q1,hd,fun j z hu=>?_⟩
   have hj:j < 5:=(List.getElem?_eq_some_iff.1 hu).1
   have hz:(noteC x t.cl cv++noteC x u.cl dv)[5+j]? = some z:=by rw[List.getElem?_append_right (by simp[noteC])];simpa [noteC] using hu
   rw[<- ht,List.getElem?_take,if_pos (by omega),Array.getElem?_toList]at hz
   rw[cell_of_row w g _ _ _ _ hh,Nat.one_mul]
   exact hz
theorem noteC_one (x:No) (cl:Bool) (p:Option Addr) (a c:Nat):∀u ∈ noteC x cl (.slice p a c),u.oneCell'=true:=fun u hu=>by
 simp only[noteC,List.mem_cons,List.not_mem_nil,or_false]at hu
 rcases hu with rfl | rfl | rfl | rfl | rfl <;> rfl
theorem grown_chgL {u u':World} {row:Option Nat} (h:u.grownBy u' row):ChgL row.toList u u' :=
 ⟨h.os,h.tape,h.output,h.size,fun k hk hn=>h.block k hk (fun e=>hn (by rw[<- e];simp))⟩
theorem RowsB.kept {w':World} {Z:Nat} {T:Tb} {L:List Nat} (h:RowsB w Z T L) (e:w'.heap[Z]? = w.heap[Z]?):RowsB w' Z T L:=by
 obtain⟨cs,h1,h2⟩:=h
 exact⟨cs,by rw[e];exact h1,h2⟩
theorem Nd.rlt2 (h:Nd w0 w k x m n) (hn:x.ru≠[]):∀a,k.rp=some a->a.block < w.heap.size:=fun a e=>by
 obtain⟨r,hr'⟩:=List.exists_mem_of_ne_nil _ hn
 obtain⟨i,hi⟩:=List.getElem?_of_mem hr'
 obtain⟨b,o,e2,h0,_⟩:=h.ru i r hi
 rw[e]at e2
 cases e2
 have q:b < w.heap.size:=tlt h0
 exact q
theorem grown_nd {u u':World} {y:No} {m' n':Nat} {row:Option Nat} (H:Nd w0 w k x m n) (h:Nd w0 u k y m' n') (hy:y.ru=x.ru) (c:ChgL k.all w u) (g:u.grownBy u' row) (hr:∀q,row=some q->w.heap.size<=q):Nd w0 u' k y m' n'/\ChgL k.all w u':=by
 have g':=grown_chgL g
 have hq:∀b ∈ row.toList,w.heap.size<=b:=fun b hb=>hr b (by simpa using hb)
 refine⟨h.kept g' (fun b hb hm=>?_) (fun hn a e hm=>?_) (fun b hb=>Nat.le_trans H.bl.size (hq b hb)),?_⟩
 ·have:=hq b hm;have:=H.lt b hb;omega
 ·have:=hq _ hm;have:=H.rlt2 (by rw[<- hy];exact hn) a e;omega
 ·have h1:ChgL (k.all++row.toList) w u:=c.mono (fun b hb=>Or.inl (List.mem_append_left _ hb))
  have h2:ChgL (k.all++row.toList) u u':=g'.mono (fun b hb=>Or.inl (List.mem_append_right _ hb))
  exact(h1.trans h2).mono (fun b hb=>by rcases List.mem_append.1 hb with q | q;exact Or.inl q;exact Or.inr (hq b q))
theorem notes_nd (h:Nd w0 w k x m n) (fresh:Bool) (h0:0<=x.now) (hm:m<=1000000000) (hn:n<=100000000) :
  Calls Tryz.prog 166 #[.pointer (some ⟨k.nd,0,none⟩),.bool fresh] w fun e w'=>(∃v,e=.returned v/\NtsV w' w.heap.size x (x.notes fresh) v)/\(∃n',n'<=n+8/\Nd w0 w' k x.noted m n')/\ChgL k.all w w':=by
 obtain⟨i0,hi,hz0,hz1,hz2⟩:=info_parts Tryz.infoNote
 have HN:Hid (Nd w0 w k x m n):=h
 have HM:Hid (m<=1000000000/\n<=100000000):=⟨hm,hn⟩
 have c0:=h.c0
 have c3:=h.c3
 have hdue:Int.tmod x.now 3=x.now % 3:=Int.tmod_eq_emod_of_nonneg h0
 have HD:Hid (x.due=decide (x.now % 3=0)):=rfl
 clear h h0 hm hn
 cases ha:x.ro.ac
 ·have HX:Hid (x.notes fresh=[]/\x.noted=x):=by
   constructor
   ·unfold No.notes;rw[ha];rfl
   ·unfold No.noted;rw[ha];rfl
  go_enter Tryz.func166,Tryz.ntmps166
  go_wp2_with fail
  refine(active_any k.ro x.ro w HN.out.ro).mono ?_
  rintro e w1 ⟨rfl,rfl⟩
  rw[ha]
  go_wp2_with fail
  go_ret
  rw[HX.out.1,HX.out.2]
  exact⟨⟨_,rfl,NtsV.nil _ _ _⟩,⟨n,by omega,HN.out⟩,ChgL.refl _ _⟩
 ·have HAC:Hid (x.ro.ac=true):=ha
  have HB:Hid (∀b ∈ k.all,b < w.heap.size):=HN.out.lt
  rcases hd:x.due with _ | _
  ·have hd3:¬x.now % 3=0:=by rw[HD.out]at hd;simpa using hd
   have HX2:Hid (x.noted=x):=by show _=_;unfold No.noted;rw[ha,hd];rfl
   cases fresh
   ·have HX:Hid (x.notes false=[]):=by show _=_;unfold No.notes;rw[ha,hd];rfl
    clear hd HD
    go_enter Tryz.func166,Tryz.ntmps166
    go_wp2_with fail
    refine(active_any k.ro x.ro w HN.out.ro).mono ?_
    rintro e w1 ⟨rfl,rfl⟩
    rw[HAC.out]
    go_wp2_with fail
    go_ret
    rw[HX.out,HX2.out]
    exact⟨⟨_,rfl,NtsV.nil _ _ _⟩,⟨n,by omega,HN.out⟩,ChgL.refl _ _⟩
   ·have HX:Hid (x.notes true=[⟨true,[]⟩]):=by show _=_;unfold No.notes;rw[ha,hd];rfl
    clear hd HD
    go_enter Tryz.func166,Tryz.ntmps166
    go_wp2_with fail
    refine(active_any k.ro x.ro w HN.out.ro).mono ?_
    rintro e w1 ⟨rfl,hw1⟩
    obtain rfl:=hw1.symm
    rw[HAC.out]
    go_wp2_with fail
    refine(note_nd HN.out true none 0 0).mono ?_
    rintro e w2 ⟨rfl,hb2⟩
    have B2:Hid (Below w.heap.size w w2):=hb2
    clear hb2
    go_wp2_with (at_builtin;refine wpList_append_own _ rfl _ _ 93 rfl w.heap.size 143 i0 _ 5 56 Tryz.underlying93 hi hz0 hz1 hz2 rfl (by decide) (.slice none 0 0) 0 [] rfl (World.ownsRow_nil _ _ _ _) ⟨w2.heap.size,0,none⟩ 1 1 (noteC x true (.slice none 0 0)) rfl rfl ?c1 (noteC_one _ _ _ _ _) ?c3 ?c4 ?c5 ?_)
    case c1 =>
     intro q u hu
     rw[tadd,Nat.zero_add,cell_of_row _ _ _ _ _ _ (heap_alloc_new w2 _)]
     simpa [noteC] using hu
    case c3=>unfold maxLen;omega
    case c4=>omega
    case c5=>have:=B2.out.size;simp;omega
    intro v3 w3 hO3 hg3 _
    have O3:Hid (w3.ownsRow w.heap.size 143 5 v3 1 (noteC x true (.slice none 0 0))):=hO3
    have B3:Hid (Below w.heap.size w w3):=(B2.out.alloc B2.out.size _).grown hg3 (by have:=B2.out.size;simp;omega) (fun q hq=>by simp[Value.ownBlock]at hq)
    clear hO3 hg3 B2
    go_wp2_with fail
    go_ret
    rw[HX.out,HX2.out]
    exact⟨⟨_,rfl,NtsV.one O3.out (Or.inl ⟨rfl,rfl⟩)⟩,⟨n,by omega,HN.out.below B3.out⟩,ChgL.of B3.out⟩
  ·have hd3:x.now % 3=0:=by rw[HD.out]at hd;simpa using hd
   have HX:Hid (x.notes fresh=[⟨true,[]⟩,⟨false,nxL x.T x.D x.cu⟩]):=by show _=_;unfold No.notes;rw[ha,hd];cases fresh <;> rfl
   have HX2:Hid (x.noted={x with D:=toldD x.T x.D (nxL x.T x.D x.cu),cu:=nxC x.T x.D x.cu}):=by show _=_;unfold No.noted;rw[ha,hd];rfl
   clear hd HD
   cases fresh
   all_goals
    go_enter Tryz.func166,Tryz.ntmps166
    go_wp2_with fail
    refine(active_any k.ro x.ro w HN.out.ro).mono ?_
    rintro e w1 ⟨rfl,hw1⟩
    obtain rfl:=hw1.symm
    rw[HAC.out]
    go_wp2_with fail
    refine(note_nd HN.out true none 0 0).mono ?_
    rintro e w2 ⟨rfl,hb2⟩
    have B2:Hid (Below w.heap.size w w2):=hb2
    clear hb2
    go_wp2_with (at_builtin;refine wpList_append_own _ rfl _ _ 93 rfl w.heap.size 143 i0 _ 5 56 Tryz.underlying93 hi hz0 hz1 hz2 rfl (by decide) (.slice none 0 0) 0 [] rfl (World.ownsRow_nil _ _ _ _) ⟨w2.heap.size,0,none⟩ 1 1 (noteC x true (.slice none 0 0)) rfl rfl ?c1 (noteC_one _ _ _ _ _) ?c3 ?c4 ?c5 ?_)
    case c1 =>
     intro q u hu
     rw[tadd,Nat.zero_add,cell_of_row _ _ _ _ _ _ (heap_alloc_new w2 _)]
     simpa [noteC] using hu
    case c3=>unfold maxLen;omega
    case c4=>omega
    case c5=>have:=B2.out.size;simp;omega
    intro v3 w3 hO3 hg3 _
    have O3:Hid (w3.ownsRow w.heap.size 143 5 v3 1 (noteC x true (.slice none 0 0))):=hO3
    have B3:Hid (Below w.heap.size w w3):=(B2.out.alloc B2.out.size _).grown hg3 (by have:=B2.out.size;simp;omega) (fun q hq=>by simp[Value.ownBlock]at hq)
    clear hO3 hg3 B2
    have N3:Hid (Nd w0 w3 k x m n):=HN.out.below B3.out
    have c6:=N3.out.c6
    go_wp2_with fail
    refine(tnext_nd N3.out HM.out.1 HM.out.2).mono ?_
    rintro e w4 ⟨⟨Z,rfl,hz,hr⟩,n4,k4⟩
    have N4:Hid (Nd w0 w4 k {x with D:=toldD x.T x.D (nxL x.T x.D x.cu),cu:=nxC x.T x.D x.cu} m (n+8)):=n4
    have K4:Hid (ChgL k.all w w4):=(ChgL.of B3.out).trans k4
    have O4:Hid (w4.ownsRow w.heap.size 143 5 v3 1 (noteC x true (.slice none 0 0))):=owns_chgL O3.out k4 HB.out
    have R4:Hid (RowsB w4 Z x.T (nxL x.T x.D x.cu)):=hr
    have ZZ:Hid (w.heap.size<=Z):=Nat.le_trans B3.out.size hz
    have VZ:Hid (∀q,v3.ownBlock=some q->q≠Z/\w.heap.size<=q):=fun q hq=>by have:=O3.out.lt q hq;exact⟨by omega,this.1⟩
    have S4:Hid (w.heap.size<=w4.heap.size):=K4.out.size
    clear n4 k4 hr hz c6 O3 B3 N3
    go_wp2_with fail
    refine(note_nd N4.out false (some ⟨Z,0,none⟩) 8 8).mono ?_
    rintro e w5 ⟨rfl,hb5⟩
    have B5:Hid (Below w4.heap.size w4 w5):=hb5
    have O5:Hid (w5.ownsRow w.heap.size 143 5 v3 1 (noteC x true (.slice none 0 0))):=owns_chgL (l:=[]) O4.out (ChgL.of hb5) (fun _ hm=>by simp at hm)
    clear hb5 O4
    go_wp2_with (at_builtin;refine wpList_append_own _ rfl _ _ 93 rfl w.heap.size 143 i0 _ 5 56 Tryz.underlying93 hi hz0 hz1 hz2 rfl (by decide) v3 1 (noteC x true (.slice none 0 0)) rfl (O5.out.alloc _) ⟨w5.heap.size,0,none⟩ 1 1 (noteC x false (.slice (some ⟨Z,0,none⟩) 8 8)) rfl rfl ?c1 (noteC_one _ _ _ _ _) ?c3 ?c4 ?c5 ?_)
    case c1 =>
     intro q u hu
     rw[tadd,Nat.zero_add,cell_of_row _ _ _ _ _ _ (heap_alloc_new w5 _)]
     simpa [noteC] using hu
    case c3=>unfold maxLen;omega
    case c4=>omega
    case c5=>have:=B5.out.size;have:=S4.out;simp;omega
    intro v6 w6 hO6 hg6 _
    have O6:Hid (w6.ownsRow w.heap.size 143 5 v6 2 (noteC x true (.slice none 0 0)++noteC x false (.slice (some ⟨Z,0,none⟩) 8 8))):=hO6
    have G6:Hid (∃u,(Below w4.heap.size w4 u)/\u.grownBy w6 v3.ownBlock):=⟨_,B5.out.alloc B5.out.size _,hg6⟩
    clear hO6 hg6
    go_wp2_with fail
    go_ret
    obtain⟨u,bu,gu⟩:=G6.out
    obtain⟨r1,r2⟩:=grown_nd HN.out (N4.out.below bu) rfl (K4.out.then bu) gu (fun q hq=>(VZ.out q hq).2)
    rw[HX.out,HX2.out]
    refine⟨⟨_,rfl,NtsV.two O6.out (Or.inl ⟨rfl,rfl⟩) (Or.inr ⟨Z,rfl,ZZ.out,?_,(nx_spec x.T x.D x.cu).len⟩)⟩,⟨n+8,by omega,r1⟩,r2⟩
    exact(R4.out.below bu).kept (gu.block Z (R4.out.below bu).lt (fun e=>(VZ.out Z e.symm).1 rfl))
theorem NtsV.mono {b b':Nat} {l:List Nt} (h:NtsV w b x l v) (hb:b'<=b):NtsV w b' x l v:=by
 obtain⟨p,cap,e,hq,hh⟩:=h
 refine⟨p,cap,e,hq,fun i t ht=>?_⟩
 obtain⟨g,cv,e1,e2,e3,e4⟩:=hh i t ht
 refine⟨g,cv,e1,Nat.le_trans hb e2,?_,e4⟩
 rcases e3 with q | ⟨Z,q1,q2,q3⟩
 ·exact Or.inl q
 ·exact Or.inr ⟨Z,q1,Nat.le_trans hb q2,q3⟩
theorem rings_ac {r:Ro} (h:r.rings=true):r.tick.ac=false/\r.ac=false:=by
 unfold Ro.rings at h
 unfold Ro.tick
 cases ha:r.ac
 ·exact⟨by simp,rfl⟩
 ·rw[ha]at h;simp at h
theorem onNow_nd (h:Nd w0 w k x m n) (t:Int):Nd w0 (w.setCell ⟨k.nd,3,none⟩ (.int .i64 t)) k {x with now:=t} m n/\ChgL k.all w (w.setCell ⟨k.nd,3,none⟩ (.int .i64 t)):=⟨h.onNow t,ChgL.one (Chg.set _ _ _ _) k.m_nd⟩
theorem tick_nd {s:Nat->Addr} (S:SeN w0 s) (h:Nd w0 w k x m n) (h0:0<=x.now) (h1:x.now<=999999999) (hm:m<=90000000) (hn:n<=100000000) :
  Calls Tryz.prog 122 #[.pointer (some ⟨k.nd,0,none⟩)] w fun e w'=>(∃v,e=.returned (.tuple #[v,terr s x.tkE])/\NtsV w' w.heap.size x.tk1 x.tickL v)/\(∃n',n'<=n+8/\Nd w0 w' k x.tick (m+33) n')/\ChgL k.all w w':=by
 have HS:Hid (SeN w0 s):=S
 have HN:Hid (Nd w0 w k x m n):=h
 have HW:Hid (0<=x.now/\x.now<=999999999/\m<=90000000/\n<=100000000):=⟨h0,h1,hm,hn⟩
 have c3:=h.c3
 have f3:=h.nd.fr 3
 have hne:(x.now==1099511627776)=false:=by rw[beq_eq_false_iff_ne];omega
 have hw:IntKind.i64.wrap (x.now+1)=x.now+1:=by rw[IntKind.wrap_i64];omega
 clear S h h0 h1 hm hn
 go_enter Tryz.func122,Tryz.ntmps122
 go_upto_region 4 with fail
 go_wp2_with fail
 have N1:Hid (Nd w0 (w.setCell ⟨k.nd,3,none⟩ (.int .i64 (x.now+1))) k {x with now:=x.now+1} m n):=(onNow_nd HN.out _).1
 have K1:Hid (ChgL k.all w (w.setCell ⟨k.nd,3,none⟩ (.int .i64 (x.now+1)))):=(onNow_nd HN.out _).2
 clear c3 f3 hne hw
 generalize w.setCell ⟨k.nd,3,none⟩ (.int .i64 (x.now+1))=w1 at *
 have hS:w1.drew.cell? ⟨k.nd,6,none⟩=some (.pointer (some ⟨k.te,0,none⟩))/\w1.drew.cell? ⟨k.te,0,none⟩=some (.pointer (some ⟨k.tb,0,none⟩))/\w1.drew.cell? ⟨k.nd,3,none⟩=some (.int .i64 (x.now+1)):=⟨N1.out.c6,N1.out.t0,N1.out.c3⟩
 go_region_held3 (fun w'=>w'.cell? ⟨k.nd,6,none⟩=some (.pointer (some ⟨k.te,0,none⟩))/\w'.cell? ⟨k.te,0,none⟩=some (.pointer (some ⟨k.tb,0,none⟩))/\w'.cell? ⟨k.nd,3,none⟩=some (.int .i64 (x.now+1)))
  (first | assumption | exact⟨N2.out.c6,N2.out.t0,N2.out.c3⟩)
  (first | (go_at_call 163;refine(expire_nd N1.out.drew (by have:=HW.out;omega) (x.now+1)).mono ?_;rintro e w2 ⟨⟨v2,rfl⟩,n2,k2⟩;have N2:Hid (Nd w0 w2 k {x with now:=x.now+1,T:=expT x.T (x.now+1) 32} (m+1) n):=n2;have K2:Hid (ChgL k.all w w2):=(K1.out.then (Below.refl _ _).drew).trans k2;clear n2 k2))
 clear hS
 have c0:=N2.out.c0
 go_wp2_with fail
 refine(active_any k.ro x.ro w2 N2.out.ro).mono ?_
 rintro e w3 ⟨rfl,hw3⟩
 obtain rfl:=hw3.symm
 clear hw3
 go_wp2_with fail
 obtain⟨r,hr⟩:∃r,x.ro.rings=r:=⟨_,rfl⟩
 refine(rtick_nd N2.out r hr).mono ?_
 rintro e w3 ⟨rfl,n3,k3⟩
 have N3:Hid (Nd w0 w3 k x.ticked (m+1) n):=n3
 have K3:Hid (ChgL k.all w w3):=K2.out.trans k3
 clear n3 k3 N1 K1 N2 K2 c0
 cases r
 ·have HE:Hid (x.tkE=0):=by show _=_;unfold No.tkE;rw[hr];rfl
  have HT:Hid (x.tk1=x.ticked):=by show _=_;unfold No.tk1;rw[hr];rfl
  have HL:Hid (x.tickL=x.ticked.notes (!x.ro.ac)):=by show _=_;unfold No.tickL;rw[HE.out,HT.out];rfl
  have HX:Hid (x.tick=x.ticked.noted):=by show _=_;unfold No.tick;rw[HE.out,HT.out];rfl
  go_wp2_with fail
  refine(notes_nd N3.out (!x.ro.ac) (by have:=HW.out;show 0<=x.now+1;omega) (by have:=HW.out;omega) HW.out.2.2.2).mono ?_
  rintro e w4 ⟨⟨v4,rfl,nv⟩,⟨n',hn',n4⟩,k4⟩
  have V4:Hid (NtsV w4 w.heap.size x.ticked (x.ticked.notes (!x.ro.ac)) v4):=nv.mono K3.out.size
  have N4:Hid (Nd w0 w4 k x.ticked.noted (m+1) n'):=n4
  have K4:Hid (ChgL k.all w w4):=K3.out.trans k4
  have HNN:Hid (n'<=n+8):=hn'
  clear nv n4 k4 hn'
  go_wp2_with fail
  go_ret2
  exact⟨⟨v4,by rw[HE.out];rfl,by rw[HT.out,HL.out];exact V4.out⟩,⟨n',HNN.out,by rw[HX.out];exact N4.out.more (by omega)⟩,K4.out⟩
 ·have HAC:=rings_ac hr
  have HC:Hid (x.tk1=x.ticked.clm/\x.tkE=x.ticked.clE):=by
   constructor
   ·unfold No.tk1;rw[hr];rfl
   ·unfold No.tkE;rw[hr];rfl
  have HF:Hid (x.ro.ac=false):=HAC.2
  have HA2:Hid (x.ticked.ro.ac=false):=HAC.1
  clear HAC
  go_wp2_with fail
  refine(nclaim_nd HS.out N3.out HA2.out (by have:=HW.out;show 0<=x.now+1;omega) (by have:=HW.out;show x.now+1<=_;omega) (by have:=HW.out;omega)).mono ?_
  rintro e w4 ⟨rfl,n4,k4⟩
  have N4:Hid (Nd w0 w4 k x.ticked.clm (m+33) n):=n4.more (by omega)
  have K4:Hid (ChgL k.all w w4):=K3.out.trans k4
  clear n4 k4 N3 K3
  by_cases he:x.ticked.clE=0
  ·have HE:Hid (x.tkE=0):=by show _=_;rw[HC.out.2,he]
   have HL:Hid (x.tickL=x.ticked.clm.notes (!x.ro.ac)):=by show _=_;unfold No.tickL;rw[HE.out,HC.out.1];rfl
   have HX:Hid (x.tick=x.ticked.clm.noted):=by show _=_;unfold No.tick;rw[HE.out,HC.out.1];rfl
   have HNW:Hid (x.ticked.clm.now=x.now+1):=by show _=_;unfold No.clm;split;split;rfl;rfl;rfl
   rw[he]
   clear he
   simp only[terr]
   go_wp2_with fail
   refine(notes_nd N4.out (!x.ro.ac) (by rw[HNW.out];have:=HW.out;omega) (by have:=HW.out;omega) HW.out.2.2.2).mono ?_
   rintro e w5 ⟨⟨v5,rfl,nv⟩,⟨n',hn',n5⟩,k5⟩
   have V5:Hid (NtsV w5 w.heap.size x.ticked.clm (x.ticked.clm.notes (!x.ro.ac)) v5):=nv.mono K4.out.size
   have N5:Hid (Nd w0 w5 k x.ticked.clm.noted (m+33) n'):=n5
   have K5:Hid (ChgL k.all w w5):=K4.out.trans k5
   have HNN:Hid (n'<=n+8):=hn'
   clear nv n5 k5 hn'
   go_wp2_with fail
   go_ret2
   exact⟨⟨v5,by rw[HE.out];rfl,by rw[HC.out.1,HL.out];exact V5.out⟩,⟨n',HNN.out,by rw[HX.out];exact N5.out⟩,K5.out⟩
  ·have HE:Hid (¬x.tkE=0):=by show ¬_=_;rw[HC.out.2];exact he
   have HL:Hid (x.tickL=[]):=by show _=_;unfold No.tickL;rw[if_neg HE.out]
   have HX:Hid (x.tick=x.ticked.clm):=by show _=_;unfold No.tick;rw[if_neg HE.out,HC.out.1]
   obtain⟨e1,he1⟩:∃e1,x.ticked.clE=e1+1:=⟨x.ticked.clE - 1,by omega⟩
   have HE1:Hid (x.tkE=e1+1):=by show _=_;rw[HC.out.2,he1]
   rw[he1]
   clear he he1
   simp only[terr]
   go_wp2_with fail
   go_ret2
   exact⟨⟨_,by rw[HE1.out];rfl,by rw[HL.out];exact NtsV.nil _ _ _⟩,⟨n,by omega,by rw[HX.out];exact N4.out⟩,K4.out⟩
end
end Go.Proofs.YtgoalkeljpdmgaaGreatDoor
