/-
  What the claimed theorem reaches, part Q39.
-/
import Derived.Test.YtgoalkeljpdmgaaGreatDoorQ10
import Derived.Test.YtgoalkeljpdmgaaGreatDoorQ18
import Derived.ProofKit
import Derived.OpenShut
import Derived.Lib.SmallJoins
import Derived.Deep.Slices
import Derived.Test.YtgoalkeljpdmgaaGreatDoorQ00
import Derived.Test.YtgoalkeljpdmgaaGreatDoorQ38
import Derived.ChangeMaps5
namespace Go.Proofs.YtgoalkeljpdmgaaGreatDoor
open Go.ChangeShapes Go.WideShapes Go.ChangeAt Go.RowKit
set_option maxRecDepth 100000
set_option maxHeartbeats 8000000
theorem Tryz.cellsPk : Tryz.prog.cellsOf 33=6:=by kernel_rfl
theorem Tryz.cellsEnd : Tryz.prog.cellsOf 31=2:=by kernel_rfl
theorem Tryz.cellsI : Tryz.prog.cellsOf 3=1:=by kernel_rfl
theorem Tryz.cellsRl : Tryz.prog.cellsOf 47=5:=by kernel_rfl
theorem Tryz.cellsB : Tryz.prog.cellsOf 4=1:=by kernel_rfl
theorem rl_cells {H:Type} {enc:TypeId×Value->H} {W:World} {b0:Nat} {sp:Nat->Bool} {held:Bool} {fuel:Nat} {cs:List Value} {x:DataW H×List MemPlace}
  (h:DataW.trod enc Tryz.prog W b0 sp held fuel 47 cs=some x):∃r:Rl,cs=rlC r:=by
 obtain⟨xs,n,_,_,hlen,hxl,hf⟩:=DataW.trod_struct Tryz.underlying47 h
 rw[Tryz.cellsRl]at hlen
 have hxl:xs.length=5:=hxl
 match cs,hlen with
 | [c0,c1,c2,c3,c4],_ =>
  have g0:DataW.trod enc Tryz.prog W b0 sp held n 4 (([c0,c1,c2,c3,c4].drop 0).take (Tryz.prog.cellsOf 4))=xs[0]? := hf 0 _ rfl
  have g1:DataW.trod enc Tryz.prog W b0 sp held n 4 (([c0,c1,c2,c3,c4].drop 1).take (Tryz.prog.cellsOf 4))=xs[1]? := hf 1 _ rfl
  have g2:DataW.trod enc Tryz.prog W b0 sp held n 3 (([c0,c1,c2,c3,c4].drop 2).take (Tryz.prog.cellsOf 3))=xs[2]? := hf 2 _ rfl
  have g3:DataW.trod enc Tryz.prog W b0 sp held n 3 (([c0,c1,c2,c3,c4].drop 3).take (Tryz.prog.cellsOf 3))=xs[3]? := hf 3 _ rfl
  have g4:DataW.trod enc Tryz.prog W b0 sp held n 3 (([c0,c1,c2,c3,c4].drop 4).take (Tryz.prog.cellsOf 3))=xs[4]? := hf 4 _ rfl
  rw[Tryz.cellsB]at g0 g1
  rw[Tryz.cellsI]at g2 g3 g4
  rw[List.getElem?_eq_getElem (by omega)]at g0 g1 g2 g3 g4
  obtain⟨y0,e0,_⟩:=DataW.trod_bool Tryz.underlying4 g0
  obtain⟨y1,e1,_⟩:=DataW.trod_bool Tryz.underlying4 g1
  obtain⟨y2,e2,_⟩:=DataW.trod_int Tryz.underlying3 g2
  obtain⟨y3,e3,_⟩:=DataW.trod_int Tryz.underlying3 g3
  obtain⟨y4,e4,_⟩:=DataW.trod_int Tryz.underlying3 g4
  simp at e0 e1 e2 e3 e4
  subst e0 e1 e2 e3 e4
  exact⟨⟨y0,y1,y2,y3,y4⟩,rfl⟩
theorem mapM_at {α β:Type} {f:α->Option β}:∀{l:List α} {r:List β},l.mapM f=some r->∀(i:Nat) x,l[i]? = some x->f x=r[i]?
 | [],r,h,i,x,hx=>by simp at hx
 | a::l,r,h,i,x,hx=>by
  rw[List.mapM_cons]at h
  obtain⟨y,hy,h⟩:=Option.bind_eq_some_iff.1 h
  obtain⟨ys,hys,h⟩:=Option.bind_eq_some_iff.1 h
  obtain rfl:=Option.some.inj h
  cases i with
  | zero=>simp at hx;subst hx;simpa using hy
  | succ i=>simp at hx;simpa using mapM_at hys i x hx
theorem open_rules {H:Type} {enc:TypeId×Value->H} {W:World} {b0:Nat} {v:Value} {d:DataW H} {p:List MemPlace} {sp:Nat->Bool}
  (hv:Value.okWide Tryz.prog W .any b0 22 v) (h:DataW.Trod enc Tryz.prog W 0 sp true 22 v d p):∃l,Sl W v l:=by
 obtain⟨a0,len0,cap0,rfl⟩:=okWide_slice Tryz.underlying22 hv
 obtain⟨fuel,hf⟩:=h
 rcases Go.Deep.open_slice Tryz.underlying22 hf with⟨h0,_⟩ | ⟨a,len,cap,m,n,D,Pl,hcs,_,hlc,hmx,hm,_,hx⟩
 ·have h0:[Value.slice a0 len0 cap0]=[.slice none 0 0]:=h0
  exact⟨[],.inl ⟨by simpa using h0,rfl⟩⟩
 ·have hcs:[Value.slice a0 len0 cap0]=[.slice (some a) len cap]:=hcs
  have hcs:Value.slice a0 len0 cap0=.slice (some a) len cap:=by simpa using hcs
  rw[hcs]
  have hlm:len<=m:=by rw[hm];split <;> omega
  obtain⟨R,hR⟩:=Go.Deep.choose_lt (α:=Rl) (n:=len) (p:=fun i r=>W.cells? 0 (a.add (i * 5)) 5=some (rlC r)) (fun i hi=>by
   obtain⟨cs',h1,h2⟩:=hx i (by omega)
   rw[Tryz.cellsRl]at h1
   obtain⟨r,rfl⟩:=rl_cells h2
   exact⟨r,h1⟩)
  refine⟨(List.range len).map R,.inr ⟨a,cap,by simp,by simpa using hlc,hmx,fun i r hr=>?_⟩⟩
  rw[List.getElem?_map]at hr
  obtain⟨i',hi',rfl⟩:=Option.map_eq_some_iff.1 hr
  obtain⟨hlt,e⟩:=List.getElem?_eq_some_iff.1 hi'
  simp at hlt e
  subst e
  have key:∀j k u,j < len->k < 5->(rlC (R j))[k]? = some u->W.cell? ((a.add (j * 5)).add k)=some u:=fun j k u hj hk hu=>by
   have h1:=hR j hj
   unfold World.cells? at h1
   rw[if_pos (Nat.zero_le _)]at h1
   have:=mapM_at h1 k k (by rw[List.getElem?_range hk])
   rw[this];exact hu
  have hsp:a.spot=none:=by
   have h0:=key 0 0 _ (by omega) (by omega) rfl
   have e:(a.add (0 * 5)).add 0=a:=rfl
   rw[e]at h0
   unfold World.cell? at h0
   split at h0
   ·cases hs:a.spot with
    | none=>rfl
    | some q=>simp[hs]at h0
   ·cases h0
  obtain⟨b,o,sp'⟩:=a
  obtain rfl:sp'=none:=hsp
  refine⟨b,o,rfl,?_⟩
  have k2:∀k u,k < 5->(rlC (R i))[k]? = some u->W.cell? ⟨b,o+i * 5+k,none⟩=some u:=fun k u hk hu=>by
   have:=key i k u hlt hk hu
   rw[addr_add,addr_add]at this
   exact this
  exact⟨k2 0 _ (by omega) rfl,k2 1 _ (by omega) rfl,k2 2 _ (by omega) rfl,k2 3 _ (by omega) rfl,k2 4 _ (by omega) rfl⟩
section
variable {H:Type} {W:World} {sp:Nat->Bool} {held:Bool} {fuel:Nat}
theorem Tryz.cellsLm : Tryz.prog.cellsOf 35=8:=by kernel_rfl
theorem Tryz.cellsStr : Tryz.prog.cellsOf 9=1:=by kernel_rfl
theorem Tryz.cellsNs : Tryz.prog.cellsOf 29=1:=by kernel_rfl
instance:Inhabited Lm:=⟨⟨⟨#[]⟩,[],⟨0,0,0,0,0,0⟩,none,0⟩⟩
theorem wf_in6 {n:Int} (k:(Lit.int .i64 n).wf=true):In6 n:=by
 simp only[Lit.wf,Bool.and_eq_true,decide_eq_true_eq]at k
 have e1:IntKind.i64.min = -9223372036854775808:=by decide
 have e2:IntKind.i64.max=9223372036854775807:=by decide
 unfold In6
 omega
theorem pk_cells {enc:TypeId×Value->H} {c0 c1 c2 c3 c4 c5:Value} {x:DataW H×List MemPlace} 
  (hf:DataW.trod enc Tryz.prog W 0 sp held fuel 33 [c0,c1,c2,c3,c4,c5]=some x):∃p:Pk,P6 p/\c0=.int .i64 p.pr/\c1=.int .i64 p.a1/\c2=.int .i64 p.p1/\c3=.int .i64 p.a2/\c4=.int .i64 p.p2/\c5=.int .i64 p.fl:=by
 obtain⟨y0,y1,y2,y3,n,hx,_,h0,h1,h2,h3⟩:=Joins.trod_struct4 Tryz.underlying33 hf
 simp only[Tryz.cellsI,Tryz.cellsEnd]at h0 h1 h2 h3
 obtain⟨x0,e0,_,k0⟩:=DataW.trod_int Tryz.underlying3 h0
 obtain⟨x3,e3,_,k3⟩:=DataW.trod_int Tryz.underlying3 h3
 obtain⟨z0,z1,n1,hx1,_,g0,g1⟩:=trod_struct2 Tryz.underlying31 h1
 obtain⟨z2,z3,n2,hx2,_,g2,g3⟩:=trod_struct2 Tryz.underlying31 h2
 simp only[Tryz.cellsI]at g0 g1 g2 g3
 obtain⟨q0,f0,_,r0⟩:=DataW.trod_int Tryz.underlying3 g0
 obtain⟨q1,f1,_,r1⟩:=DataW.trod_int Tryz.underlying3 g1
 obtain⟨q2,f2,_,r2⟩:=DataW.trod_int Tryz.underlying3 g2
 obtain⟨q3,f3,_,r3⟩:=DataW.trod_int Tryz.underlying3 g3
 simp at e0 e3 f0 f1 f2 f3
 exact⟨⟨x0,q0,q1,q2,q3,x3⟩,⟨wf_in6 k0,wf_in6 r0,wf_in6 r1,wf_in6 r2,wf_in6 r3,wf_in6 k3⟩,e0,f0,f1,f2,f3,e3⟩
theorem ns_of {enc:TypeId×Value->H} {v:Value} {x:DataW H×List MemPlace} 
  (hf:DataW.trod enc Tryz.prog W 0 sp held fuel 29 [v]=some x):∃ns z c,v=.slice z (List.length ns) c/\NsI W z ns:=by
 rcases Go.Deep.open_slice Tryz.underlying29 hf with⟨h0,_⟩ | ⟨a,len,cap,m,n,D,Pl,hcs,_,hlc,hmx,hm,_,hx⟩
 ·exact⟨[],none,0,by simpa using h0,fun j n hn=>by simp at hn⟩
 ·have hcs:v=.slice (some a) len cap:=by simpa using hcs
  rw[hcs]
  have hlm:len<=m:=by rw[hm];split <;> omega
  obtain⟨R,hR⟩:=Go.Deep.choose_lt (α:=Int) (n:=len) (p:=fun i x=>W.cell? (a.add i)=some (.int .i64 x)/\In6 x) (fun i hi=>by
   obtain⟨cs',h1,h2⟩:=hx i (by omega)
   rw[Tryz.cellsI]at h1
   obtain⟨y,e,_,k⟩:=DataW.trod_int Tryz.underlying3 h2
   refine⟨y,?_,wf_in6 k⟩
   unfold World.cells? at h1
   rw[if_pos (Nat.zero_le _)]at h1
   have h3:=mapM_at h1 0 0 rfl
   rw[e]at h3
   rw[Nat.mul_one]at h3
   exact h3)
  refine⟨(List.range len).map R,some a,cap,by simp,fun i r hr=>?_⟩
  rw[List.getElem?_map]at hr
  obtain⟨i',hi',rfl⟩:=Option.map_eq_some_iff.1 hr
  obtain⟨hlt,e⟩:=List.getElem?_eq_some_iff.1 hi'
  simp at hlt e
  subst e
  have hsp:a.spot=none:=by
   have h0:=(hR 0 (by omega)).1
   have e:a.add 0=a:=rfl
   rw[e]at h0
   unfold World.cell? at h0
   split at h0
   ·cases hs:a.spot with
    | none=>rfl
    | some q=>simp[hs]at h0
   ·cases h0
  obtain⟨b,o,sp'⟩:=a
  obtain rfl:sp'=none:=hsp
  have h1:=hR i hlt
  rw[addr_addT]at h1
  exact⟨h1.2,b,o,rfl,h1.1⟩
theorem lm_cells {enc:TypeId×Value->H} {cs:List Value} {x:DataW H×List MemPlace} 
  (h:DataW.trod enc Tryz.prog W 0 sp held fuel 35 cs=some x):∃a:Lm,cs=lmC a/\LmOk W a:=by
 obtain⟨xs,n,_,_,hlen,hxl,hf⟩:=DataW.trod_struct Tryz.underlying35 h
 rw[Tryz.cellsLm]at hlen
 have hxl:xs.length=3:=hxl
 match cs,hlen with
 | [c0,c1,c2,c3,c4,c5,c6,c7],_ =>
  have g0:DataW.trod enc Tryz.prog W 0 sp held n 9 (([c0,c1,c2,c3,c4,c5,c6,c7].drop 0).take (Tryz.prog.cellsOf 9))=xs[0]? := hf 0 _ rfl
  have g1:DataW.trod enc Tryz.prog W 0 sp held n 29 (([c0,c1,c2,c3,c4,c5,c6,c7].drop 1).take (Tryz.prog.cellsOf 29))=xs[1]? := hf 1 _ rfl
  have g2:DataW.trod enc Tryz.prog W 0 sp held n 33 (([c0,c1,c2,c3,c4,c5,c6,c7].drop 2).take (Tryz.prog.cellsOf 33))=xs[2]? := hf 2 _ rfl
  rw[Tryz.cellsStr]at g0
  rw[Tryz.cellsNs]at g1
  rw[Tryz.cellsPk]at g2
  rw[List.getElem?_eq_getElem (by omega)]at g0 g1 g2
  obtain⟨y0,e0,_⟩:=DataW.trod_string Tryz.underlying9 g0
  obtain⟨ns,z,c,e1,hns⟩:=ns_of (v:=c1) (by simpa using g1)
  obtain⟨p,hp,f0,f1,f2,f3,f4,f5⟩:=pk_cells (c0:=c2) (c1:=c3) (c2:=c4) (c3:=c5) (c4:=c6) (c5:=c7) (by simpa using g2)
  simp at e0
  subst e0 e1 f0 f1 f2 f3 f4 f5
  exact⟨⟨y0,ns,p,z,c⟩,rfl,hns,hp⟩
theorem open_lines {enc:TypeId×Value->H} {b0:Nat} {v:Value} {d:DataW H} {p:List MemPlace} 
  (hv:Value.okWide Tryz.prog W .any b0 23 v) (h:DataW.Trod enc Tryz.prog W 0 sp true 23 v d p):∃l,LmsI W v l:=by
 obtain⟨a0,len0,cap0,rfl⟩:=okWide_slice Tryz.underlying23 hv
 obtain⟨fuel,hf⟩:=h
 rcases Go.Deep.open_slice Tryz.underlying23 hf with⟨h0,_⟩ | ⟨a,len,cap,m,n,D,Pl,hcs,_,hlc,hmx,hm,_,hx⟩
 ·have h0:[Value.slice a0 len0 cap0]=[.slice none 0 0]:=h0
  have h0:Value.slice a0 len0 cap0=.slice none 0 0:=by simpa using h0
  exact⟨[],none,0,h0,Nat.zero_le _,fun j x hx=>by simp at hx⟩
 ·have hcs:[Value.slice a0 len0 cap0]=[.slice (some a) len cap]:=hcs
  have hcs:Value.slice a0 len0 cap0=.slice (some a) len cap:=by simpa using hcs
  rw[hcs]
  have hlm:len<=m:=by rw[hm];split <;> omega
  obtain⟨R,hR⟩:=Go.Deep.choose_lt (α:=Lm) (n:=len) (p:=fun i r=>W.cells? 0 (a.add (i * 8)) 8=some (lmC r)/\LmOk W r) (fun i hi=>by
   obtain⟨cs',h1,h2⟩:=hx i (by omega)
   rw[Tryz.cellsLm]at h1
   obtain⟨r,rfl,ok⟩:=lm_cells h2
   exact⟨r,h1,ok⟩)
  refine⟨(List.range len).map R,some a,cap,by simp,by rw[List.length_map,List.length_range];exact Nat.le_trans hlc hmx,fun i r hr=>?_⟩
  rw[List.getElem?_map]at hr
  obtain⟨i',hi',rfl⟩:=Option.map_eq_some_iff.1 hr
  obtain⟨hlt,e⟩:=List.getElem?_eq_some_iff.1 hi'
  simp at hlt e
  subst e
  have key:∀j k u,j < len->k < 8->(lmC (R j))[k]? = some u->W.cell? ((a.add (j * 8)).add k)=some u:=fun j k u hj hk hu=>by
   have h1:=(hR j hj).1
   unfold World.cells? at h1
   rw[if_pos (Nat.zero_le _)]at h1
   have:=mapM_at h1 k k (by rw[List.getElem?_range hk])
   rw[this];exact hu
  have hsp:a.spot=none:=by
   have h0:=key 0 0 _ (by omega) (by omega) rfl
   have e:(a.add (0 * 8)).add 0=a:=rfl
   rw[e]at h0
   unfold World.cell? at h0
   split at h0
   ·cases hs:a.spot with
    | none=>rfl
    | some q=>simp[hs]at h0
   ·cases h0
  obtain⟨b,o,sp'⟩:=a
  obtain rfl:sp'=none:=hsp
  refine⟨(hR i hlt).2,b,o,rfl,fun k u hu=>?_⟩
  have hk:k < 8:=by
   rcases Nat.lt_or_ge k 8 with q | q
   ·exact q
   ·rw[List.getElem?_eq_none (by simpa [lmC] using q)]at hu;cases hu
  have:=key i k u hlt hk hu
  rw[addr_addT,addr_addT]at this
  exact this
end
end Go.Proofs.YtgoalkeljpdmgaaGreatDoor
