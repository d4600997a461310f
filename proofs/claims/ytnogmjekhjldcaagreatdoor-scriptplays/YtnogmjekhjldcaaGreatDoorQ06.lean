/-
  What the claimed theorem reaches, part Q06.
-/
import Derived.Test.YtnogmjekhjldcaaGreatDoorQ02
namespace Go.Proofs.YtnogmjekhjldcaaGreatDoor
open Go.RowKit Go.Proofs.Tryz
set_option maxRecDepth 100000
set_option maxHeartbeats 8000000
section
variable {k n:Nat}
structure Ce where
 ve:Int
 pr:Int
 ia:Int
 ip:Int
 fa:Int
 fp:Int
 po:Int
 st:Int
 un:Int
deriving DecidableEq
def Ce.get (c:Ce) (i:Nat):Nat->Int
 | 0=>i | 1=>c.ve | 2=>c.pr | 3=>c.ia | 4=>c.ip | 5=>c.fa | 6=>c.fp | 7=>c.po | 8=>c.st | _=>c.un
def Ce.put (c:Ce) (x:Int):Nat->Ce
 | 1=>{c with ve:=x} | 2=>{c with pr:=x} | 3=>{c with ia:=x} | 4=>{c with ip:=x} | 5=>{c with fa:=x}
 | 6=>{c with fp:=x} | 7=>{c with po:=x} | 8=>{c with st:=x} | 9=>{c with un:=x} | _=>c
theorem Ce.get_put (c:Ce) (x:Int) (i k l:Nat) (f:1<=k) (h:k < 10) (j:l < 10):(c.put x k).get i l=if l=k then x else c.get i l:=by
 have a:k=1\/k=2\/k=3\/k=4\/k=5\/k=6\/k=7\/k=8\/k=9:=by omega
 have e:l=0\/l=1\/l=2\/l=3\/l=4\/l=5\/l=6\/l=7\/l=8\/l=9:=by omega
 rcases a with rfl | rfl | rfl | rfl | rfl | rfl | rfl | rfl | rfl <;> rcases e with rfl | rfl | rfl | rfl | rfl | rfl | rfl | rfl | rfl | rfl <;> rfl
abbrev Tb:=Nat->Ce
def upd (T:Tb) (k:Nat) (c:Ce):Tb:=fun j=>if j=k then c else T j
theorem upd_same (T:Tb) (k:Nat) (c:Ce):upd T k c k=c:=by simp[upd]
theorem yY (T:Tb) {k j:Nat} (c:Ce) (h:j≠k):upd T k c j=T j:=by simp[upd,h]
theorem xM (T:Tb) (k:Nat) (c d:Ce):upd (upd T k c) k d=upd T k d:=by
 funext j;unfold upd;split <;> rfl
def vG:Ce:=⟨0,0,0,0,0,0,0,0,0⟩
def iQ (pr ia ip fa fp:Int) (c:Ce):Bool:=(c.pr != 0) && ((c.pr==pr) && ((c.ia==ia && c.ip==ip) && (c.fa==fa && c.fp==fp)))
def eH (pr po fa fp:Int) (c:Ce):Bool:=(c.pr != 0) && ((c.pr==pr) && ((c.po==po) && (c.fa==fa && c.fp==fp)))
def mY (c:Ce):Bool:=c.pr==0
def fst (T:Tb) (q:Ce->Bool):Option Nat:=(List.range 32).find? fun i=>q (T i)
theorem lG {T:Tb} {q:Ce->Bool} :fst T q=some k↔k < 32/\q (T k)=true/\∀j,j < k->q (T j)=false:=by
 unfold fst;rw[aeI];simp;constructor
 ·rintro⟨h1,h2,h3⟩;exact⟨h2,h1,h3⟩
 ·rintro⟨h1,h2,h3⟩;exact⟨h2,h1,h3⟩
theorem qJ {T:Tb} {q:Ce->Bool} :fst T q=none↔∀j,j < 32->q (T j)=false:=by
 unfold fst;rw[List.find?_range_eq_none];simp
def zW (T:Tb) (low a e f:Int):Option Nat:=(List.range 24).find? fun i=>(fst T (eH a (low+i) e f)).isNone
theorem rD {T:Tb} {low a e f:Int} :zW T low a e f=some k↔k < 24/\fst T (eH a (low+k) e f)=none/\∀j,j < k->(fst T (eH a (low+j) e f)).isSome=true:=by
 unfold zW;rw[aeI];simp;constructor
 ·rintro⟨h1,h2,h3⟩;exact⟨h2,h1,h3⟩
 ·rintro⟨h1,h2,h3⟩;exact⟨h2,h1,h3⟩
theorem wI {T:Tb} {low a e f:Int} :zW T low a e f=none↔∀j,j < 24->(fst T (eH a (low+(j:Nat)) e f)).isSome=true:=by
 unfold zW;rw[List.find?_range_eq_none];simp
def wJ (T:Tb) (k:Nat) (a e f h i j st un:Int):Tb:=upd T k ⟨(T k).ve+1,a,e,f,h,i,j,st,un⟩
def iC (T:Tb) (low a h i e f st un:Int):Nat×Nat×Tb :=
 match fst T (iQ a h i e f) with
 | some _=>(0,5,T)
 | none=>match fst T mY with
  | none=>(0,6,T)
  | some k=>match zW T low a e f with
   | none=>(0,6,T)
   | some p=>(k,0,wJ T k a h i e f (low+p) st un)
def ku (T:Tb) (a h i e f j st un:Int):Nat×Nat×Tb :=
 match fst T (iQ a h i e f) with
 | some _=>(0,5,T)
 | none=>match fst T (eH a j e f) with
  | some _=>(0,5,T)
  | none=>match fst T mY with
   | none=>(0,6,T)
   | some k=>(k,0,wJ T k a h i e f j st un)
def gK (T:Tb) (k:Int):Nat:=if k < 0\/32<=k then 2 else if (T k.toNat).pr=0 then 4 else 0
def nO (T:Tb) (k st un:Int):Tb:=if gK T k=0 then upd T k.toNat {T k.toNat with ve:=(T k.toNat).ve+1,st:=st,un:=un} else T
def iZ (T:Tb) (k:Int):Tb:=if gK T k=0 then wJ T k.toNat 0 0 0 0 0 0 0 0 else T
def newT:Tb:=fun _=>vG
def gI (T:Tb) (n:Nat):Prop:=∀j,j < 32->0<=(T j).ve/\(T j).ve<=n
theorem gI.more {T:Tb} {m:Nat} (h:gI T n) (e:n<=m):gI T m:=fun j a=>by have:=h j a;omega
theorem gI.lay {T:Tb} (h:gI T n) (a e f i l m st un:Int) (o:k < 32):gI (wJ T k a e f i l m st un) (n+1):=fun j p=>by
 unfold wJ upd;have:=h j p;have:=h k o;split
 ·simp only;omega
 ·omega
theorem gI.new:gI newT 0:=fun j _=>by simp[newT,vG]
theorem qm {T:Tb} {q:Ce->Bool} (h:fst T q=some k):k < 32:=(lG.1 h).1
theorem gI.add {T:Tb} (h:gI T n) (low a e f i j st un:Int):gI (iC T low a e f i j st un).2.2 (n+1):=by
 unfold iC;split
 ·exact h.more om
 split
 ·exact h.more om
 rename_i l;split
 ·exact h.more om
 ·exact h.lay _ _ _ _ _ _ _ _ (qm l)
theorem gI.put {T:Tb} (h:gI T n) (a e f i j l st un:Int):gI (ku T a e f i j l st un).2.2 (n+1):=by
 unfold ku;split
 ·exact h.more om
 split
 ·exact h.more om
 split
 ·exact h.more om
 ·rename_i m;exact h.lay _ _ _ _ _ _ _ _ (qm m)
theorem o9 {T:Tb} {k:Int} (h:gK T k=0):0<=k/\k < 32/\(T k.toNat).pr≠0:=by
 unfold gK at h;split at h
 ·cases h
 split at h
 ·cases h
 ·rename_i a b;exact⟨by omega,by omega,b⟩
theorem gI.drop {T:Tb} (h:gI T n) (k:Int):gI (iZ T k) (n+1):=by
 unfold iZ;split
 ·rename_i e;have:=o9 e;exact h.lay _ _ _ _ _ _ _ _ om
 ·exact h.more om
end
section
variable {B L:List Nat} {c j c1:Nat} {T:Tb}
abbrev To:=Nat->Int
def dH (T:Tb) (D:To):List Nat:=(List.range 32).filter fun i=>(T i).ve != D i
def wk (B:List Nat) (c:Nat):Nat->List Nat
 | 0=>B
 | j+1=>if (c+j) % 32 ∈ wk B c j then wk B c j else wk B c j++[(c+j) % 32]
theorem IB (B:List Nat) (c:Nat):wk B c 0=B:=rfl
theorem XG (h:(c+j) % 32 ∈ wk B c j):wk B c (j+1)=wk B c j:=by rw[wk,aj h]
theorem OH (h:¬(c+j) % 32 ∈ wk B c j):wk B c (j+1)=wk B c j++[(c+j) % 32]:=by rw[wk,ak h]
theorem aeS (B:List Nat) (c j:Nat):(wk B c j).length<=(wk B c (j+1)).length/\(wk B c (j+1)).length<=(wk B c j).length+1:=by
 rw[wk];split <;> simp
theorem OI (B:List Nat) (c j:Nat) (x:Nat):x ∈ wk B c j↔x ∈ B\/∃i,i < j/\x=(c+i) % 32:=by
 induction j with
 | zero=>rw[IB];exact⟨.inl,fun h=>by rcases h with h | ⟨i,a,_⟩ <;> first | exact h | omega⟩
 | succ j ih =>
  by_cases h:(c+j) % 32 ∈ wk B c j
  ·rw[XG h,ih];constructor
   ·rintro(h1 | ⟨i,a,e⟩)
    ·exact .inl h1
    ·exact .inr ⟨i,by omega,e⟩
   ·rintro(h1 | ⟨i,a,e⟩)
    ·exact .inl h1
    ·by_cases f:i=j
     ·subst f;rw[<- ih,e];exact h
     ·exact .inr ⟨i,by omega,e⟩
  ·rw[OH h,lU,ih,jA];constructor
   ·rintro((h1 | ⟨i,a,e⟩) | e)
    ·exact .inl h1
    ·exact .inr ⟨i,by omega,e⟩
    ·exact .inr ⟨j,by omega,e⟩
   ·rintro(h1 | ⟨i,a,e⟩)
    ·exact .inl (.inl h1)
    ·by_cases f:i=j
     ·subst f;exact .inr e
     ·exact .inl (.inr ⟨i,by omega,e⟩)
theorem aga (c j:Nat) (h:∀x ∈ B,x < 32):∀x ∈ wk B c j,x < 32:=fun x a=>by
 rcases(OI B c j x).1 a with e | ⟨i,_,rfl⟩
 ·exact h x e
 ·omega
theorem Ry:∀(n:Nat) (l:List Nat),(∀i,i < n->i ∈ l)->n<=l.length
 | 0,_,_=>Nat.zero_le _
 | n+1,l,h=>by
  have a:=Ry n (l.erase n) (fun i e=>(List.mem_erase_of_ne om).2 (h i om));rw[List.length_erase_of_mem (h n om)]at a;have:0 < l.length:=List.length_pos_of_mem (h n om);omega
theorem AZ (B:List Nat) (c:Nat):32<=(wk B c 32).length:=Ry 32 _ fun i a=>by
 rw[OI];refine .inr ⟨(i+32 - c % 32) % 32,by omega,?_⟩;omega
def Full (B:List Nat) (c j:Nat):Prop:=(∀i,i < j->(wk B c i).length < 8)/\8<=(wk B c j).length
theorem Full.one {i:Nat} (h:Full B c i) (k:Full B c j):i=j:=by
 rcases Nat.lt_trichotomy i j with a | e | a
 ·have:=k.1 i a;have:=h.2;omega
 ·exact e
 ·have:=h.1 j a;have:=k.2;omega
theorem Full.le (h:Full B c j):j<=32:=by
 rcases dX 32 j with a | e
 ·have:=h.1 32 a;have:=AZ B c;omega
 ·exact e
theorem aeT (a:B.length<=8) (h:∀i,i < j->(wk B c i).length < 8):(wk B c j).length<=8:=by
 cases j with
 | zero=>exact a
 | succ j=>have:=h j om;have:=(aeS B c j).2;omega
theorem Full.len (h:Full B c j) (a:B.length<=8):(wk B c j).length=8:=by
 have:=aeT a h.1;have:=h.2;omega
theorem acy (B:List Nat) (c:Nat):∃j,Full B c j:=by
 have a:∀n,8<=(wk B c n).length->∃j,Full B c j:=by
  intro n;induction n using Nat.strongRecOn with
  | ind n ih =>
   intro e;by_cases h:∀i,i < n->(wk B c i).length < 8
   ·exact⟨n,h,e⟩
   ·simp only[Classical.not_forall]at h;obtain⟨i,f,k⟩:=h;exact ih i f om
 exact a 32 (by have:=AZ B c;omega)
structure Nx (T:Tb) (D:To) (c:Nat) (L:List Nat) (c':Nat):Prop where
 ex:∃j,Full ((dH T D).take 8) c j/\L=wk ((dH T D).take 8) c j/\c'=(c+j) % 32
def jD (T:Tb) (D:To) (L:List Nat):To:=fun i=>if i ∈ L then (T i).ve else D i
theorem Ug {D:To} {x:Nat} :x ∈ dH T D↔x < 32/\(T x).ve≠D x:=by
 unfold dH;simp
theorem Ko (T:Tb) (D:To):(dH T D).Nodup:=List.Nodup.sublist List.filter_sublist List.nodup_range
theorem Uh (T:Tb) (D:To):(dH T D).length<=32:=by
 have:=List.length_filter_le (fun i=>(T i).ve != D i) (List.range 32);simpa [dH] using this
theorem Nx.one {D:To} {L':List Nat} {c2:Nat} (h:Nx T D c L c1) (k:Nx T D c L' c2):L=L'/\c1=c2:=by
 obtain⟨i,a,rfl,rfl⟩:=h.ex;obtain⟨j,e,rfl,rfl⟩:=k.ex;obtain rfl:=a.one e;exact⟨rfl,rfl⟩
theorem take8 (l:List Nat):(l.take 8).length<=8:=by rw[qE];omega
theorem Nx.len {D:To} (h:Nx T D c L c1):L.length=8:=by
 obtain⟨i,a,rfl,rfl⟩:=h.ex;exact a.len (take8 _)
theorem Nx.lt {D:To} (h:Nx T D c L c1):∀x ∈ L,x < 32:=by
 obtain⟨i,e,rfl,rfl⟩:=h.ex;exact aga _ _ fun x a=>(Ug.1 (BU a)).1
theorem Nx.cur {D:To} (h:Nx T D c L c1):c1 < 32:=by
 obtain⟨i,a,rfl,rfl⟩:=h.ex;omega
theorem Nx.news {D:To} (h:Nx T D c L c1):dH T (jD T D L)=(dH T D).drop 8:=by
 have o:dH T (jD T D L)=(dH T D).filter fun i=>decide (i ∉ L):=by
  unfold dH;rw[List.filter_filter];apply List.filter_congr;intro x _;unfold jD;by_cases f:x ∈ L <;> simp[f]
 rw[o];obtain⟨j,p,rfl,_⟩:=h.ex;have k:=Ko T D;have a:dH T D=(dH T D).take 8++(dH T D).drop 8:=(abX 8 _).symm;by_cases y:8<=(dH T D).length
 ·have l:j=0:=by
   rcases Nat.eq_zero_or_pos j with e | q
   ·exact e
   ·have:=p.1 0 q;rw[IB,qE]at this;omega
  subst l;rw[IB];generalize dH T D=N at *;rw[a]at k;rw[List.nodup_append]at k;have s:(N.take 8).filter (fun i=>decide (i ∉ N.take 8))=[]:=by
   rw[List.filter_eq_nil_iff];intro x f;simp[f]
  have u:(N.drop 8).filter (fun i=>decide (i ∉ N.take 8))=N.drop 8:=by
   rw[List.filter_eq_self];intro x f;simp only[WZ];exact fun m=>k.2.2 x m x f rfl
  conv=>lhs;rw[a]
  rw[WY];rw[abX,s,u,Fg]
 ·have w:(dH T D).drop 8=[]:=List.drop_eq_nil_of_le om;rw[w,List.filter_eq_nil_iff];intro x f;have:x ∈ wk ((dH T D).take 8) c j:=(OI _ _ _ _).2 (.inl (by rw[vk om];exact f));simp[this]
end
structure Tc where
 sl:Int
 c:Ce
deriving DecidableEq
instance:Inhabited Tc:=⟨⟨0,vG⟩⟩
def okS (x:Tc):Bool:=decide (0<=x.sl) && decide (x.sl < 32)
theorem xO {x:Tc}:okS x=true↔0<=x.sl/\x.sl < 32:=by unfold okS;simp
def tq (T:Tb) (x:Tc):Tb:=if (T x.sl.toNat).ve < x.c.ve then upd T x.sl.toNat x.c else T
def mZ (T:Tb) (l:List Tc):Tb:=l.foldl tq T
def fP (a life:Int) (l:List Tc):Nat:=if life < 1\/8 < l.length\/(l.any fun x=>!okS x)=true then 2 else if life < a then 10 else 0
def bG (a life:Int) (l:List Tc):Int:=if fP a life l=0 then life else a
def fH (a life:Int) (T:Tb) (l:List Tc):Tb:=if fP a life l=0 then mZ (if a < life then newT else T) l else T
def Has (m:List Tc) (T:Tb):Prop:=∀j:Nat,(T j=vG/\∀x ∈ m,okS x=true->x.sl=j->x.c.ve<=0)\/∃x ∈ m,okS x=true/\x.sl=j/\T j=x.c/\0 < x.c.ve/\∀y ∈ m,okS y=true->y.sl=j->y.c.ve<=x.c.ve
theorem Has.nil:Has [] newT:=fun j=>.inl ⟨rfl,fun x a=>by simp at a⟩
def one (T:Tb) (x:Tc):Tb:=if okS x=true then tq T x else T
theorem Has.one {m:List Tc} {T:Tb} (h:Has m T) (x:Tc):Has (m++[x]) (one T x):=fun j=>by
 have k:∀y,y ∈ m++[x]↔y ∈ m\/y=x:=fun y=>by simp
 unfold Go.Proofs.YtnogmjekhjldcaaGreatDoor.one tq;by_cases l:okS x=true
 ·rw[aj l];obtain⟨u,w⟩:=xO.1 l;by_cases p:x.sl=j
  ·have q:x.sl.toNat=j:=by omega
   rw[q];rcases h j with⟨e,hle⟩ | ⟨y,hy,hyo,hys,e,hp,hle⟩
   ·have A:(T j).ve=0:=by rw[e];rfl
    by_cases o:(T j).ve < x.c.ve
    ·rw[aj o,upd_same];refine .inr ⟨x,(k x).2 (.inr rfl),l,p,rfl,by omega,fun z i a f=>?_⟩;rcases(k z).1 i with i | rfl
     ·have:=hle z i a f;omega
     ·omega
    ·rw[ak o];refine .inl ⟨e,fun z i a f=>?_⟩;rcases(k z).1 i with i | rfl
     ·exact hle z i a f
     ·omega
   ·by_cases o:(T j).ve < x.c.ve
    ·rw[aj o,upd_same];rw[e]at o;refine .inr ⟨x,(k x).2 (.inr rfl),l,p,rfl,by omega,fun z i a f=>?_⟩;rcases(k z).1 i with i | rfl
     ·have:=hle z i a f;omega
     ·omega
    ·rw[ak o];rw[e]at o;refine .inr ⟨y,(k y).2 (.inl hy),hyo,hys,e,hp,fun z i a f=>?_⟩;rcases(k z).1 i with i | rfl
     ·exact hle z i a f
     ·omega
  ·have q:j≠x.sl.toNat:=by omega
   have s:(if (T x.sl.toNat).ve < x.c.ve then upd T x.sl.toNat x.c else T) j=T j:=by
    split
    ·exact yY _ _ q
    ·rfl
   rw[s];rcases h j with⟨e,hle⟩ | ⟨y,hy,hyo,hys,e,hp,hle⟩
   ·refine .inl ⟨e,fun z i a f=>?_⟩;rcases(k z).1 i with i | rfl
    ·exact hle z i a f
    ·exact(p f).elim
   ·refine .inr ⟨y,(k y).2 (.inl hy),hyo,hys,e,hp,fun z i a f=>?_⟩;rcases(k z).1 i with i | rfl
    ·exact hle z i a f
    ·exact(p f).elim
 ·rw[ak l];rcases h j with⟨e,hle⟩ | ⟨y,hy,hyo,hys,e,hp,hle⟩
  ·refine .inl ⟨e,fun z i a f=>?_⟩;rcases(k z).1 i with i | rfl
   ·exact hle z i a f
   ·exact(l a).elim
  ·refine .inr ⟨y,(k y).2 (.inl hy),hyo,hys,e,hp,fun z i a f=>?_⟩;rcases(k z).1 i with i | rfl
   ·exact hle z i a f
   ·exact(l a).elim
theorem Has.same {m n:List Tc} {T U:Tb} (h:Has m T) (k:Has n U) (a:∀x,x ∈ m↔x ∈ n) (f:∀x ∈ m,∀y ∈ m,x.sl=y.sl->x.c.ve=y.c.ve->x=y):T=U:=by
 funext j
 rcases h j with⟨e,hle⟩ | ⟨x,hx,hxo,hxs,e,hp,hle⟩
 ·rcases k j with⟨e',_⟩ | ⟨y,hy,hyo,hys,e',hp',_⟩
  ·rw[e,e']
  ·have:=hle y ((a y).2 hy) hyo hys;omega
 ·rcases k j with⟨e',hle'⟩ | ⟨y,hy,hyo,hys,e',hp',hle'⟩
  ·have:=hle' x ((a x).1 hx) hxo hxs;omega
  ·have i:=hle y ((a y).2 hy) hyo hys;have l:=hle' x ((a x).1 hx) hxo hxs;obtain rfl:=f x hx y ((a y).2 hy) (by rw[hxs,hys]) om;rw[e,e']
def XH (l:List Tc):Prop:=∀(i k:Nat) x y,k < i->l[i]? = some x->l[k]? = some y->¬(x.sl=y.sl/\x.c.ve=y.c.ve)
theorem XH.mem {l:List Tc} (h:XH l):∀x ∈ l,∀y ∈ l,x.sl=y.sl->x.c.ve=y.c.ve->x=y:=fun x o y p j m=>by
 obtain⟨i,f⟩:=Aq o;obtain⟨k,e⟩:=Aq p;rcases Nat.lt_trichotomy i k with a | rfl | a
 ·exact(h k i y x a e f ⟨j.symm,m.symm⟩).elim
 ·rw[f]at e;exact sS e
 ·exact(h i k x y a f e ⟨j,m⟩).elim
section
variable {w:World} {Z:Nat} {T:Tb}
def dY (low:Int) (T:Tb):Array Value:=((List.range 321).map fun j=>if j=0 then .int .i64 low else .int .i64 ((T ((j - 1) / 10)).get ((j - 1) / 10) ((j - 1) % 10))).toArray
def aK (T:Tb):Array Value:=((List.range 320).map fun j=>.int .i64 ((T (j / 10)).get (j / 10) (j % 10))).toArray
theorem dZ (low:Int) (T:Tb):(dY low T).size=321:=by simp[dY]
theorem bY (T:Tb):(aK T).size=320:=by simp[aK]
theorem jE (low:Int) (T:Tb):(dY low T)[0]? = some (.int .i64 low):=by simp[dY]
theorem mD (low:Int) (T:Tb) (i k:Nat) (j:i < 32) (l:k < 10):(dY low T)[1+i * 10+k]? = some (.int .i64 ((T i).get i k)):=by
 have a:1+i * 10+k < 321:=by omega
 have e:(1+i * 10+k - 1) / 10=i:=by omega
 have f:(1+i * 10+k - 1) % 10=k:=by omega
 have h:1+i * 10+k≠0:=by omega
 simp only[dY,vW,kK,yN a,nX,ak h,e,f]
theorem ng (T:Tb) (i k:Nat) (h:i < 32) (j:k < 10):(aK T)[i * 10+k]? = some (.int .i64 ((T i).get i k)):=by
 have a:i * 10+k < 320:=by omega
 have e:(i * 10+k) / 10=i:=by omega
 have f:(i * 10+k) % 10=k:=by omega
 simp only[aK,vW,kK,yN a,nX,e,f]
theorem rE (low:Int) (T:Tb) (j:Nat) (f:j < 320):(dY low T)[1+j]? = (aK T)[j]? := by
 have a:=mD low T (j / 10) (j % 10) om om;have e:=ng T (j / 10) (j % 10) om om;rw[show 1+j / 10 * 10+j % 10=1+j from by omega]at a;rw[show j / 10 * 10+j % 10=j from by omega]at e;rw[a,e]
theorem Dc (low:Int) (T:Tb) (i k:Nat) (x:Int) (p:i < 32) (l:1<=k) (m:k < 10):(dY low T).setIfInBounds (1+i * 10+k) x=dY low (upd T i ((T i).put x k)):=by
 apply vY;intro j;rw[BN,dZ];by_cases q:j < 321
 ·by_cases o:j=0
  ·subst o;rw[ak om,jE,jE]
  ·have e:=mD low T ((j - 1) / 10) ((j - 1) % 10) om om;have f:=mD low (upd T i ((T i).put x k)) ((j - 1) / 10) ((j - 1) % 10) om om;rw[show 1+(j - 1) / 10 * 10+(j - 1) % 10=j from by omega]at e f;rw[e,f];by_cases h:(j - 1) / 10=i
   ·rw[h,upd_same,Ce.get_put _ _ _ _ _ l m om];by_cases a:(j - 1) % 10=k
    ·rw[aj om,aj a,aj om]
    ·rw[ak om,ak a]
   ·rw[ak om,yY _ _ h]
 ·rw[ak om,eP (by rw[dZ];omega),eP (by rw[dZ];omega)]
def ahy (a p:Int):Value:=.agg #[a,p]
def bI (c:Ce):Value:=.agg #[c.pr,c.ia,c.ip,c.fa,c.fp,c.po,c.st,c.un]
def cellV (i:Nat) (c:Ce):Value:=.agg #[i,c.ve,c.pr,c.ia,c.ip,c.fa,c.fp,c.po,c.st,c.un]
theorem qK (T:Tb) (i:Nat) (f:i < 32) (w:World):(Instr.index 265 (.agg (aK T)) (.int .i64 i)).run prog w=.ok (cellV i (T i)) w:=by
 have h:(sizeOf 117).run prog w=.ok 10 w:=by kernel_rfl
 have a:(isAgg 117).run prog w=.ok true w:=by
  unfold isAgg;rw[nM,Oi Tryz.underlying117 w];rfl
 have j:(aK T).extract (i * 10) (i * 10+10)=#[.int .i64 i,.int .i64 (T i).ve,.int .i64 (T i).pr,.int .i64 (T i).ia,.int .i64 (T i).ip,.int .i64 (T i).fa,.int .i64 (T i).fp,.int .i64 (T i).po,.int .i64 (T i).st,.int .i64 (T i).un]:=by
  apply vY;intro k;rw[Array.getElem?_extract,bY];by_cases e:k < 10
  ·rw[aj om,ng T i k f e];have l:k=0\/k=1\/k=2\/k=3\/k=4\/k=5\/k=6\/k=7\/k=8\/k=9:=by omega
   rcases l with rfl | rfl | rfl | rfl | rfl | rfl | rfl | rfl | rfl | rfl <;> rfl
  ·rw[ak om];symm;apply eP;simpa using e
 have m:(0:Int)<=(i:Int)/\(i:Int) < (32:Nat):=by omega
 simp only[Instr.index,asIntOf,nM,qX,pR,Oi Tryz.underlying265 w];rw[aj m];simp only[nM,h,pR,part,a,mV,fJ,qX,j,cellV]
theorem uH (a b c d:Int) (w:World):(binOp .eql 33 (.agg #[a,b]) (.agg #[c,d])).run prog w=.ok (.bool (a==c && b==d)) w:=by
 have f:∀(h:Array Value) (o:Nat) (x:Value),h[o]? = some x->(part 3 h o).run prog w=.ok x w:=fun h o x i=>by
  have e:(isAgg 3).run prog w=.ok false w:=by
   unfold isAgg;rw[nM,Oi Tryz.underlying3 w];rfl
  simp only[part,nM,e,pR,ab6,Ik,i,qX]
 have j:∀(n:Nat) (x y:Int),(Op.equalIn (n+1) 3 x y).run prog w=.ok (x==y) w:=fun n x y=>run_equalIn_int w n _ _ _ _ _ Tryz.underlying3;rw[run_eql_struct,show(10000:Nat)=9998+1+1 from rfl,run_equalIn_agg w (9998+1) 33 _ _ kr kr];have k:("Addr":String) ≠ "_":=by decide
 have l:("Port":String) ≠ "_":=by decide
 simp only[Program.fieldsOf,Tryz.underlying33,Op.eqFields,nM,Sem.run_ite,ne_eq,k,l,ab8,mV,f #[a,b] 0 a rfl,f #[a,b] 1 b rfl,f #[c,d] 0 c rfl,f #[c,d] 1 d rfl,pR,j]
 cases m:(a==c) <;> cases p:(b==d) <;> simp
theorem uI (T:Tb):(aK T).all (·.oneCell')=true:=by
 rw[Array.all_eq_true_iff_forall_mem];intro v a;simp only[aK,List.mem_toArray,List.mem_map]at a;obtain⟨j,_,rfl⟩:=a;rfl
theorem pq (T:Tb):(prog.info? 265).map (·.size)=some (aK T).size:=by
 rw[bY];kernel_rfl
theorem wK:∀w,(zeroValue 265).run prog w=.ok (.agg (Array.replicate 320 (.int .i64 0))) w:=(zero_of_info (n:=320) kr).1
def iD (w:World) (Z:Nat) (T:Tb):Prop:=w.heap[Z]? = some (.cells (aK T) 265 (0,0))
theorem iD.at' (h:iD w Z T) {i k:Nat} (a:i < 32) (e:k < 10):w.cell? (Z,i * 10+k)=some (.int .i64 ((T i).get i k)):=by
 rw[aP w Z _ _ _ _ h,ng T i k a e]
theorem iD.lt (h:iD w Z T):Z < w.heap.size:=by
 rcases dX Z w with a | a
 ·exact a
 ·rw[iD,eP a]at h;cases h
theorem iD.below {w':World} (h:iD w Z T) (a:Below w w w'):iD w' Z T:=by
 unfold iD;rw[a.block Z h.lt];exact h
structure FlB (w:World) (Z:Nat) (c:Ce):Prop where
 c0:w.cell? (Z,0)=c.pr
 c1:w.cell? (Z,1)=c.ia
 c2:w.cell? (Z,2)=c.ip
 c3:w.cell? (Z,3)=c.fa
 c4:w.cell? (Z,4)=c.fp
 c5:w.cell? (Z,5)=c.po
 c6:w.cell? (Z,6)=c.st
 c7:w.cell? (Z,7)=c.un
theorem FlB.below {w':World} {c:Ce} (h:FlB w Z c) (a:Below w w w'):FlB w' Z c:=⟨tk a h.c0,tk a h.c1,tk a h.c2,tk a h.c3,tk a h.c4,tk a h.c5,tk a h.c6,tk a h.c7⟩
theorem xP (w:World) (c:Ce):FlB (w.alloc (.cells #[c.pr,c.ia,c.ip,c.fa,c.fp,c.po,c.st,c.un] 115)) w c:=⟨(nw _ _ _ _).trans rfl,(nw _ _ _ _).trans rfl,(nw _ _ _ _).trans rfl,(nw _ _ _ _).trans rfl,(nw _ _ _ _).trans rfl,(nw _ _ _ _).trans rfl,(nw _ _ _ _).trans rfl,(nw _ _ _ _).trans rfl⟩
end
section
variable {w:World} {g:Nat} {T:Tb}
def SlA (cs:Array Value) (T:Tb):Prop:=∀i k,i < 32->k < 10->cs[i * 10+k]? = some (.int .i64 ((T i).get i k))
def jl (w:World) (g:Nat) (T:Tb):Prop:=∃cs a,w.heap[g]? = some (.cells cs a (0,0))/\SlA cs T
theorem jl.at' (h:jl w g T) {i k:Nat} (a:i < 32) (e:k < 10):w.cell? (g,i * 10+k)=some (.int .i64 ((T i).get i k)):=by
 obtain⟨cs,l,f,j⟩:=h;rw[aP w g _ _ _ _ f,j i k a e]
theorem jl.fr (h:jl w g T) (j:Nat):w.frozen? (g,j)=false:=by
 obtain⟨cs,e,a,_⟩:=h;exact jk w g j _ _ a
theorem jl.lt (h:jl w g T):g < w.heap.size:=eF (h.at' (i:=0) (k:=0) om om)
theorem jl.below {w':World} (h:jl w g T) (a:Below w w w'):jl w' g T:=by
 have e:=h.lt;obtain⟨cs,f,i,j⟩:=h;exact⟨cs,f,by rw[a.block g e];exact i,j⟩
theorem jl.dO {w':World} {b:Nat} (h:jl w g T) (a:aC b w w') (e:g≠b):jl w' g T:=by
 have f:=h.lt;obtain⟨cs,i,j,k⟩:=h;exact⟨cs,i,by rw[a.block g f e];exact j,k⟩
theorem jl.put (h:jl w g T) {i k:Nat} (x:Int) (s:i < 32) (u:1<=k) (o:k < 10):jl (w.setCell (g,i * 10+k) x) g (upd T i ((T i).put x k)):=by
 obtain⟨cs,y,z,f⟩:=h;refine⟨_,y,bV w g _ _ _ _ z,fun a l p j=>?_⟩;rw[BN];have m:i * 10+k < cs.size:=(Array.getElem?_eq_some_iff.1 (f i k s o)).1;by_cases e:a=i
 ·subst e;rw[upd_same,Ce.get_put _ _ _ _ _ u o j];by_cases q:l=k
  ·subst q;rw[aj rfl,aj m,aj rfl]
  ·rw[ak om,ak q,f a l p j]
 ·rw[ak om,yY _ _ e,f a l p j]
theorem jl.slot (h:jl w g T) {i:Nat} (k:i < 32):jl (w.setCell (g,i * 10) i) g T:=by
 obtain⟨cs,m,o,j⟩:=h;refine⟨_,m,bV w g _ _ _ _ o,fun a l p q=>?_⟩;rw[BN];have f:i * 10 < cs.size:=by have:=(Array.getElem?_eq_some_iff.1 (j i 0 k om)).1;omega
 by_cases e:i * 10=a * 10+l
 ·obtain rfl:a=i:=by omega
  obtain rfl:l=0:=by omega
  rw[aj e,aj f];rfl
 ·rw[ak e,j a l p q]
theorem iD.sl {Z:Nat} (h:iD w Z T):jl w Z T:=⟨_,_,h,fun i k a e=>ng T i k a e⟩
def emC:Nat->List Value
 | 0=>[]
 | n+1=>emC n++[.int .i64 n,.int .i64 0,.int .i64 0,.int .i64 0,.int .i64 0,.int .i64 0,.int .i64 0,.int .i64 0,.int .i64 0,.int .i64 0]
theorem A8:∀n,(emC n).length=n * 10
 | 0=>rfl
 | n+1=>by simp only[emC,List.length_append,A8 n,List.length_cons,List.length_nil];omega
theorem XJ:∀(n i k:Nat),i < n->k < 10->(emC n)[i * 10+k]? = some (.int .i64 (vG.get i k))
 | 0,i,k,h,_=>by omega
 | n+1,i,k,h,hk=>by
  by_cases e:i=n
  ·subst e;simp only[emC];rw[List.getElem?_append_right (by rw[A8];omega),A8,show i * 10+k - i * 10=k from by omega];have a:k=0\/k=1\/k=2\/k=3\/k=4\/k=5\/k=6\/k=7\/k=8\/k=9:=by omega
   rcases a with rfl | rfl | rfl | rfl | rfl | rfl | rfl | rfl | rfl | rfl <;> rfl
  ·simp only[emC];rw[qW (by rw[A8];omega)];exact XJ n i k om hk
theorem Tryz.tu:(prog.info? 117).map (fun i=>(i.zero,i.size,i.bytes))=some (some (.agg #[.int .i64 0,.int .i64 0,.int .i64 0,.int .i64 0,.int .i64 0,.int .i64 0,.int .i64 0,.int .i64 0,.int .i64 0,.int .i64 0]),10,80):=by kernel_rfl
theorem qo (b o j:Nat):Addr.add (b,o) j=(b,o+j):=by
 unfold Addr.add;by_cases h:j=0
 ·subst h;rfl
 ·rw[ak h]
end
section
variable {w w':World} {b:Nat} {T:Tb}
def lH (w:World) (b:Nat) (life:Int) (T:Tb):Prop:=w.heap[b]? = some (.cells (dY life T) 269 (0,0))
theorem lH.life {life:Int} (h:lH w b life T):w.cell? (b,0)=life:=by
 rw[aP w b 0 _ _ _ h,jE]
theorem lH.at' {life:Int} (h:lH w b life T) {i k:Nat} (a:i < 32) (e:k < 10):w.cell? (b,1+i * 10+k)=some (.int .i64 ((T i).get i k)):=by
 rw[aP w b _ _ _ _ h,mD life T i k a e]
theorem lH.fr {life:Int} (h:lH w b life T) (j:Nat):w.frozen? (b,j)=false:=jk w b j _ _ h
theorem lH.lt {life:Int} (h:lH w b life T):b < w.heap.size:=by
 rcases dX b w with a | a
 ·exact a
 ·rw[lH,eP a]at h;cases h
theorem lH.below {life:Int} (h:lH w b life T) (a:Below w w w'):lH w' b life T:=by
 unfold lH;rw[a.block b h.lt];exact h
theorem lH.dO {c:Nat} {life:Int} (h:lH w c life T) (k:aC b w w') (a:c≠b):lH w' c life T:=by
 unfold lH;rw[k.block c h.lt a];exact h
theorem lH.put {life:Int} (h:lH w b life T) {i k:Nat} (x:Int) (a:i < 32) (e:1<=k) (f:k < 10):lH (w.setCell (b,1+i * 10+k) x) b life (upd T i ((T i).put x k)):=by
 unfold lH;rw[bV w b _ _ _ _ h,Dc life T i k x a e f]
theorem Kq (life x:Int) (T:Tb):(dY life T).setIfInBounds 0 x=dY x T:=by
 apply vY;intro j;rw[BN,dZ];by_cases e:j < 321
 ·by_cases a:j=0
  ·subst a;rw[aj rfl,aj om,jE]
  ·rw[ak om];simp only[dY,vW,kK,yN e,nX,ak a]
 ·rw[ak om,eP (by rw[dZ];omega),eP (by rw[dZ];omega)]
theorem Kr (life:Int) (T:Tb) (i:Nat) (a:i < 32):(dY life T).setIfInBounds (1+i * 10) i=dY life T:=by
 apply vY;intro j;rw[BN,dZ];by_cases e:1+i * 10=j
 ·subst e;have:=mD life T i 0 a om;rw[aj rfl,aj om];exact this.symm
 ·rw[ak e]
theorem lH.Rz {life:Int} (h:lH w b life T) (x:Int):lH (w.setCell (b,0) x) b x T:=by
 unfold lH;rw[bV w b _ _ _ _ h,Kq]
theorem lH.acz {life:Int} (h:lH w b life T) {i:Nat} (a:i < 32):lH (w.setCell (b,1+i * 10) i) b life T:=by
 unfold lH;rw[bV w b _ _ _ _ h,Kr _ _ _ a]
theorem Kt {life:Int} (h:lH w b life T):(Instr.loadAt 265 (.pointer (some (b,1)))).run prog w=.ok (.agg (aK T)) w:=by
 have e:(loadCells (b,1) (aK T).toList.length).run prog w=.ok (aK T).toList.toArray w :=
  run_loadCells_list (P := prog) w (b,1) (aK T).toList (fun j v f=>by
   have i:j < 320:=by
    have:=(List.getElem?_eq_some_iff.1 f).1;rwa [xC,bY]at this
   rw[qo,aP w b _ _ _ _ h,rE life T j i];simpa using f)
 simp only[xC,Array.toArray_toList,bY]at e;have a:(isAgg 265).run prog w=.ok true w:=by
  unfold isAgg;rw[nM,Oi Tryz.underlying265 w];rfl
 have k:(sizeOf 265).run prog w=.ok 320 w:=by kernel_rfl
 simp only[Instr.loadAt,Instr.sureAddr,nM,qX,pR,loadVar,a,k,e,mV]
theorem acA (cur:Array Value) (life:Int) (U:Tb) (f:cur[0]? = some (.int .i64 life)) (i:cur.size=321):(cur.toList.take (1+0)++(aK U).toList++cur.toList.drop (1+0+(aK U).toList.length)).toArray=dY life U:=by
 apply vY;intro j;have e:(aK U).toList.length=320:=by rw[xC,bY]
 have a:(cur.toList.take (1+0)).length=1:=by rw[qE,xC];omega
 rw[vW];by_cases k:j < 321
 ·rw[qW (by rw[jw,a,e];omega)];by_cases h:j=0
  ·subst h;rw[qW (by rw[a];omega),kG,aj om,sQ,f,jE]
  ·rw[xA (by rw[a];omega),a,sQ,<- rE life U _ om,show 1+(j - 1)=j from by omega]
 ·rw[eP (by rw[dZ];omega)];apply WU;rw[jw,jw,a,e,JF,xC];omega
theorem Ui {life:Int} {cur:Array Value} (U:Tb) (h:w.heap[b]? = some (.cells cur 269 (0,0))) (f:cur[0]? = some (.int .i64 life)) (a:cur.size=321) :
  (Instr.storeAt 265 (.pointer (some (b,1))) (.agg (aK U))).run prog w=.ok () (w.setRow b (dY life U)):=by
 have i:(sizeOf 265).run prog w=.ok 320 w:=by kernel_rfl
 have e:=Ii prog b 1 269 (aK U).toList 0 cur w h (by rw[xC,bY];omega) (fun v j=>(Array.all_eq_true_iff_forall_mem.1 (uI U)) v (by simpa using j));rw[acA cur life U f a]at e;simp only[Instr.storeAt,Instr.sureAddr,nM,qX,pR,storeVar,i,Value.cells,bY];simp;exact e
theorem OJ {life:Int} {cur:Array Value} {t:TypeId} (U:Tb) (h:w.heap[b]? = some (.cells cur t (0,0))):(w.setRow b (dY life U)).heap[b]? = some (.cells (dY life U) t (0,0)):=Cc w b cur _ t _ h
theorem OL (w:World) (b:Nat) (cs:Array Value):aC b w (w.setRow b cs) :=
 ⟨rfl,rfl,rfl,by simp[World.setRow],fun k _ a=>by simp only[World.setRow];rw[ab2,ak (fun e=>a e.symm)]⟩
theorem AL {P:Program} {e:Array Oper} {rest:List Oper} {o:Oper} {a:Act} {Q:Exit->Act->World->Prop} (f:o.guard=none) (i:TypeId) (x y:Operand) (j:o.op=.store i x y)
  (u v:Value) (w':World) (k:a.eval x=u) (l:a.eval y=v) (m:(Instr.storeAt i u v).run P w=.ok () w') (h:wpList P e Q rest (a.put o.dst undef) w'):wpList P e Q (o::rest) a w :=
 Xd f fun K p=>by
  unfold Oper.wp execOp;simp only[j,k,l,nM,m,pR,qX];exact p _ _ h
structure yZ (w:World) (b o:Nat) (x:Tc):Prop where
 c0:w.cell? (b,o)=x.sl
 c1:w.cell? (b,o+1)=x.c.ve
 c2:w.cell? (b,o+2)=x.c.pr
 c3:w.cell? (b,o+3)=x.c.ia
 c4:w.cell? (b,o+4)=x.c.ip
 c5:w.cell? (b,o+5)=x.c.fa
 c6:w.cell? (b,o+6)=x.c.fp
 c7:w.cell? (b,o+7)=x.c.po
 c8:w.cell? (b,o+8)=x.c.st
 c9:w.cell? (b,o+9)=x.c.un
theorem yZ.below {o:Nat} {x:Tc} (h:yZ w b o x) (a:Below w w w'):yZ w' b o x :=
 ⟨tk a h.c0,tk a h.c1,tk a h.c2,tk a h.c3,tk a h.c4,tk a h.c5,tk a h.c6,tk a h.c7,tk a h.c8,tk a h.c9⟩
theorem yZ.dO {o g:Nat} {x:Tc} (h:yZ w b o x) (a:aC g w w') (e:b≠g):yZ w' b o x :=
 ⟨a.keeps e h.c0,a.keeps e h.c1,a.keeps e h.c2,a.keeps e h.c3,a.keeps e h.c4,a.keeps e h.c5,a.keeps e h.c6,a.keeps e h.c7,a.keeps e h.c8,a.keeps e h.c9⟩
def tcC (x:Tc):List Value:=[x.sl,x.c.ve,x.c.pr,x.c.ia,x.c.ip,x.c.fa,x.c.fp,x.c.po,x.c.st,x.c.un]
def tcV (x:Tc):Value:=.agg #[x.sl,x.c.ve,x.c.pr,x.c.ia,x.c.ip,x.c.fa,x.c.fp,x.c.po,x.c.st,x.c.un]
theorem XK (w:World) (x:Tc) (t:TypeId):yZ (w.alloc (.cells #[x.sl,x.c.ve,x.c.pr,x.c.ia,x.c.ip,x.c.fa,x.c.fp,x.c.po,x.c.st,x.c.un] t)) w 0 x :=
 ⟨(nw _ _ _ _).trans rfl,(nw _ _ _ _).trans rfl,(nw _ _ _ _).trans rfl,(nw _ _ _ _).trans rfl,(nw _ _ _ _).trans rfl,(nw _ _ _ _).trans rfl,(nw _ _ _ _).trans rfl,(nw _ _ _ _).trans rfl,(nw _ _ _ _).trans rfl,(nw _ _ _ _).trans rfl⟩
def vJ (w:World) (p:Option Addr) (l:List Tc):Prop:=∀(i:Nat) x,l[i]? = some x->∃b o,p=some ⟨b,o,none⟩/\yZ w b (o+i * 10) x
theorem vJ.below {p:Option Addr} {l:List Tc} (h:vJ w p l) (a:Below w w w'):vJ w' p l:=fun i x f=>by
 obtain⟨b,o,e,j⟩:=h i x f;exact⟨b,o,e,j.below a⟩
theorem vJ.dO {g:Nat} {p:Option Addr} {l:List Tc} (h:vJ w p l) (a:aC g w w') (f:∀b o,p=some ⟨b,o,none⟩->b≠g):vJ w' p l:=fun i x j=>by
 obtain⟨b,o,e,k⟩:=h i x j;exact⟨b,o,e,k.dO a (f b o e)⟩
end
def nP (n:Nat):Array Value:=((List.range 320).map fun j=>.int .i64 (if j % 10=0/\j / 10 < n then ((j / 10:Nat):Int) else 0)).toArray
theorem kQ (n:Nat):(nP n).size=320:=by simp[nP]
theorem qL (n j:Nat) (h:j < 320):(nP n)[j]? = some (.int .i64 (if j % 10=0/\j / 10 < n then ((j / 10:Nat):Int) else 0)):=by
 simp only[nP,vW,kK,yN h,nX]
theorem zX:Array.replicate 320 (.int .i64 0)=nP 0:=by
 apply vY;intro j;by_cases a:j < 320
 ·rw[qL 0 j a,ak om,aeJ,aj a]
 ·rw[eP (by rw[Array.size_replicate];omega),eP (by rw[kQ];omega)]
theorem Ku (n:Nat) (h:n < 32):(nP n).setIfInBounds (n * 10) n=nP (n+1):=by
 apply vY;intro j;rw[BN,kQ];by_cases a:j < 320
 ·rw[qL n j a,qL (n+1) j a];by_cases e:n * 10=j
  ·subst e;rw[aj rfl,aj om,aj om];congr 3
   omega
  ·rw[ak e];by_cases f:j % 10=0/\j / 10 < n
   ·rw[aj f,aj om]
   ·rw[ak f,ak om]
 ·rw[ak om,eP (by rw[kQ];omega),eP (by rw[kQ];omega)]
theorem OM:nP 32=aK newT:=by
 apply vY;intro j;by_cases f:j < 320
 ·rw[qL 32 j f];have a:=ng newT (j / 10) (j % 10) om om;rw[show j / 10 * 10+j % 10=j from by omega]at a;rw[a];refine dP (fun x=>some (Value.int .i64 x)) ?_;have h:j % 10=0\/j % 10=1\/j % 10=2\/j % 10=3\/j % 10=4\/j % 10=5\/j % 10=6\/j % 10=7\/j % 10=8\/j % 10=9:=by omega
  rcases h with e | e | e | e | e | e | e | e | e | e <;> rw[e]
  ·rw[aj ⟨rfl,by omega⟩];rfl
  all_goals (rw[ak om];rfl)
 ·rw[eP (by rw[kQ];omega),eP (by rw[bY];omega)]
def IC (w:World) (b:Nat) (n:Nat):Prop:=w.heap[b]? = some (.cells (nP n) 265 (0,0))
theorem IC.load {w:World} {b:Nat} (h:IC w b 32):(Instr.loadAt 265 (.pointer (some (b,0)))).run prog w=.ok (.agg (aK newT)) w:=by
 unfold IC at h;rw[OM]at h;simp only[Instr.loadAt,Instr.sureAddr,nM,qX,pR,run_loadVar_row w b _ 265 _ _ _ h Tryz.underlying265 rfl (pq newT)]
theorem Gp (w:World):Calls prog 257 #[] w fun e w'=>e=.returned (.agg (aK newT))/\Below w w w':=by
 have q:=wK;go_enter func257,ntmps257;go_wp2_with fail;have s:Hid (IC ((w.alloc (.cells (Array.replicate 320 (.int .i64 0)) 265)).alloc (.cells (Array.replicate 320 (.int .i64 0)) 265)) (w.heap.size+1) 0):=by
  show IC _ _ _;unfold IC;rw[Xc,zX]
 have u:Hid (((w.alloc (.cells (Array.replicate 320 (.int .i64 0)) 265)).alloc (.cells (Array.replicate 320 (.int .i64 0)) 265)).heap[w.heap.size]? = some (.cells (nP 0) 265 (0,0))):=by
  show _=_;rw[heap_alloc_old _ _ sM,dh,zX]
 have A:Hid (Below w w ((w.alloc (.cells (Array.replicate 320 (.int .i64 0)) 265)).alloc (.cells (Array.replicate 320 (.int .i64 0)) 265))):=t2 (aB _ _) (aB _ _);generalize (w.alloc (.cells (Array.replicate 320 (.int .i64 0)) 265)).alloc (.cells (Array.replicate 320 (.int .i64 0)) 265)=w0 at *;obtain⟨Z,l⟩:∃Z,Z=w.heap.size:=⟨_,rfl⟩;have x:Hid (Z=w.heap.size):=l;rw[<- l]at s u ⊢;clear l q;go_loopw [3] (fun t wr=>∃j:Nat,j<=32/\t=.int .i64 j/\IC wr (Z+1) j/\wr.heap[Z]? = some (.cells (nP 0) 265 (0,0))/\Below Z w wr) (fun t _=>32 - (intOf t).toNat)
 case atStart=>exact⟨0,by omega,rfl,s,u,by rw[x.out];exact A⟩
 case round =>
  obtain⟨j,B,rfl,a,f,h⟩:=hrel;have i:Hid (IC wr (Z+1) j):=a;have m:Hid (wr.heap[Z]? = some (.cells (nP 0) 265 (0,0))):=f;have y:Hid (Below Z w wr):=h;clear a f h;by_cases o:j < 32
  ·have z:∃v,wr.cell? (Z+1,j * 10)=some v:=⟨_,(aP wr (Z+1) _ _ _ _ i).trans (qL _ _ om)⟩;obtain⟨v,z⟩:=z;have q:=jk wr (Z+1) (j * 10) _ _ i;have C:(0:Int)<=(j:Int):=by omega
   have D:(j:Int) < 32:=by omega
   go_wp2_with fail;go_roundw
   case rel =>
    refine⟨j+1,by omega,by go_num,?_,?_,y.setCell sM _⟩
    ·unfold IC;rw[bV wr (Z+1) _ _ _ _ i.out,Ku _ o]
    ·rw[Below.heap_setCell _ _ _ _ sM];exact m
   case measure=>simp[intOf];omega
  ·obtain rfl:j=32:=by omega
   have p:=i.load;go_wp2_with (first | refine bP rfl 265 _ rfl _ _ rfl p ?_ | refine Xa rfl 265 _ _ rfl Z (aK newT) rfl rfl 265 _ m (pq newT) (by rw[bY,kQ]) (uI newT) ?_)
   refine bf (results_cell_row rfl _ _ Z _ (aK newT) _ _ rfl (Cc _ _ _ _ _ _ m) Tryz.underlying265 rfl (pq newT)) rfl ?_;refine⟨rfl,?_⟩;rw[<- x.out];exact y.trans ⟨rfl,rfl,rfl,by simp[World.setRow],fun k E=>by simp only[World.setRow];rw[ab2,ak om]⟩
theorem AO {P:Program} {f:Array Oper} {rest:List Oper} {o:Oper} {a:Act} {w:World} {Q:Exit->Act->World->Prop} (k:o.guard=none) (t:TypeId) (e:Array (Nat×Operand)) (l:o.op=.build t e)
  (cs:Array Value) (j:P.built t (e.map fun (i,x)=>(i,a.eval x)).toList=some cs) (h:wpList P f Q rest (a.put o.dst (.agg cs)) w):wpList P f Q (o::rest) a w :=
 wpList_build k t e l (by rw[j];rfl) (by rw[j];exact h)
theorem Uj : prog.built 269 [(1,.agg (aK newT))]=some (dY 0 newT):=by kernel_rfl
theorem XM (w:World):Calls prog 220 #[] w fun e w'=>(∃b,e=.returned (.pointer (some ⟨b,0,none⟩))/\lH w' b 0 newT/\w.heap.size<=b)/\Below w w w':=by
 go_enter func220,ntmps220;go_wp2_with fail;refine(Gp _).mono ?_;rintro e p ⟨rfl,h⟩;have l:Hid (Below w w p):=h;clear h;obtain⟨cs,a⟩:∃cs,cs=aK newT:=⟨_,rfl⟩;have s:Hid (cs=aK newT):=a;have i : prog.built 269 [(1,.agg cs)]=some (dY 0 newT):=by rw[a];exact Uj
 rw[<- a];clear a;rename_i K m;refine m _ _ ?_;refine AO rfl 269 _ rfl (dY 0 newT) (by simpa [Act.eval] using i) ?_;clear m i;have j:=dZ 0 newT;have o:Hid (∃k,k=dY 0 newT):=⟨_,rfl⟩;obtain⟨k,f⟩:=o.out;have q:Hid (k=dY 0 newT):=f;rw[<- f]at j ⊢;clear f o;go_wp2_with fail;go_ret;refine⟨⟨_,rfl,?_,l.size⟩,t2 l (aB _ _)⟩;rw[q.out];exact dh _ _
def jy (T:Tb):Nat->List Ce
 | 0=>[]
 | n+1=>if (T n).pr=0 then jy T n else jy T n++[T n]
theorem mO (T:Tb):∀n,(jy T n).length<=n
 | 0=>Nat.le_refl _
 | n+1=>by
  have:=mO T n;unfold jy;split
  ·omega
  ·simp;omega
theorem OO {T:Tb} {n:Nat} (h:(T n).pr=0):jy T (n+1)=jy T n:=by rw[jy,aj h]
theorem IE {T:Tb} {n:Nat} (h:(T n).pr≠0):jy T (n+1)=jy T n++[T n]:=by rw[jy,ak h]
def JA (c:Ce):List Value:=[c.pr,c.ia,c.ip,c.fa,c.fp,c.po,c.st,c.un]
def qp:List Ce->List Value
 | []=>[]
 | c::r=>JA c++qp r
theorem Df:∀(e:List Ce) (c:Ce),qp (e++[c])=qp e++JA c
 | [],c=>by simp[qp]
 | a::r,c=>by simp[qp,Df r c]
theorem RD:∀(e:List Ce) (i k:Nat) (c:Ce) (u:Value),e[i]? = some c->(JA c)[k]? = some u->(qp e)[i * 8+k]? = some u
 | [],i,k,c,u,h,_=>by simp at h
 | a::r,0,k,c,u,h,hk=>by
  simp at h;subst h;have:k < (JA a).length:=(List.getElem?_eq_some_iff.1 hk).1;simp only[qp];rw[qW om,Nat.zero_mul,fE];exact hk
 | a::r,i+1,k,c,u,h,hk=>by
  have f:(JA a).length=8:=rfl;simp only[qp];rw[xA om,f,show(i+1) * 8+k - 8=i * 8+k from by omega];exact RD r i k c u (by simpa using h) hk
theorem Tryz.Kv:(prog.info? 115).map (fun i=>(i.zero,i.size,i.bytes))=some (some (.agg #[.int .i64 0,.int .i64 0,.int .i64 0,.int .i64 0,.int .i64 0,.int .i64 0,.int .i64 0,.int .i64 0]),8,64):=by kernel_rfl
theorem OQ (b:Nat) (life:Int) (T:Tb) (w:World) (M:lH w b life T) :
  Calls prog 291 #[.pointer (some (b,0))] w fun e w'=>(∃v,e=.returned v/\w'.ownsRow w 115 8 v (jy T 32).length (qp (jy T 32)))/\Below w w w':=by
 obtain⟨L,y,z,A,B⟩:=lu Tryz.Kv;have k:=Kt M;have a:=fun (i:Nat) (y:i < 32) (w:World)=>qK T i y w;obtain⟨C,l⟩:∃C,C=aK T:=⟨_,rfl⟩;rw[<- l]at k;have D:Hid (∀(i:Nat),i < 32->∀(w:World),(Instr.index 265 (.agg C) i).run prog w=.ok (cellV i (T i)) w):=by
  show ∀(i:Nat),_;rw[l];exact a
 clear M l a;go_enter func291,ntmps291;go_wp2_with (refine bP rfl 265 _ rfl _ _ rfl k ?_)
 clear k;go_loopw [3,5,10] (fun v _ t wr=>∃j:Nat,j<=32/\t=.int .i64 j/\wr.ownsRow w 115 8 v (jy T j).length (qp (jy T j))/\Below w w wr) (fun _ _ t _=>32 - (intOf t).toNat)
 case atStart=>exact⟨0,by omega,rfl,ql _ _ _ _,aH _ _⟩
 case round =>
  obtain⟨j,R,rfl,f,m⟩:=hrel;have s:Hid (wr.ownsRow w 115 8 u3 (jy T j).length (qp (jy T j))):=f;have h:Hid (Below w w wr):=m;clear f m;by_cases E:j < 32
  ·have a:=D.out j E;obtain⟨c,F⟩:∃c,c=T j:=⟨_,rfl⟩;have G:Hid (c=T j):=F;rw[<- F]at a;simp only[cellV]at a;clear F;have N:=mO T j;by_cases J:c.pr=0
   ·have H:Hid (jy T (j+1)=jy T j):=OO (by rw[<- G.out];exact J);go_wp2_with fail;go_roundw
    case rel=>exact⟨j+1,by omega,by go_num,by rw[H.out];exact s.alloc _,h.alloc h.size _⟩
    case measure=>simp[intOf];omega
   ·have H:Hid (jy T (j+1)=jy T j++[c]):=by show _=_;rw[IE (by rw[<- G.out];exact J),G.out]
    have K:Hid (∀u ∈ JA c,u.oneCell'=true):=fun u x=>by
     simp only[JA,dI,eY,fA]at x;rcases x with rfl | rfl | rfl | rfl | rfl | rfl | rfl | rfl <;> rfl
    go_wp2_with (at_builtin;refine vw _ rfl _ _ 82 rfl w 115 L _ 8 64 Tryz.underlying82 y z A B rfl dC u3 (jy T j).length (qp (jy T j)) rfl ((s.alloc _).alloc _) ⟨wr.heap.size+1,0,none⟩ 1 1 (JA c) rfl rfl ?c1 K ?c3 ?c4 ?c5 ?_)
    case c1 =>
     intro q u x;rw[qo,fE,aP _ _ _ _ _ _ (Xc wr _ _)];simpa [JA] using x
    case c3=>unfold maxLen;omega
    case c4=>omega
    case c5=>have:=h.size;simp;omega
    intro v5 I o p _;have O:Hid (I.ownsRow w 115 8 v5 (jy T (j+1)).length (qp (jy T (j+1)))):=by
     show I.ownsRow _ _ _ _ _ _;rw[H.out,jw,Df];exact o
    have P:Hid (Below w w I):=((h.alloc h.size _).alloc (by have:=h.size;simp;omega) _).grown p (by have:=h.size;simp;omega) (fun q Q=>(s.lt _ Q).1);clear o p K;go_wp2_with fail;go_roundw
    case rel=>exact⟨j+1,by omega,by go_num,O,P⟩
    case measure=>simp[intOf];omega
  ·obtain rfl:j=32:=by omega
   go_wp2_with fail;go_ret;exact⟨⟨_,rfl,s⟩,h⟩
section
variable {w:World} {b:Nat} {T:Tb}
def Tab (w:World) (b:Nat) (low:Int) (T:Tb):Prop:=w.heap[b]? = some (.cells (dY low T) 267 (0,0))
theorem Tab.low {low:Int} (h:Tab w b low T):w.cell? (b,0)=low:=by
 rw[aP w b 0 _ _ _ h,jE]
theorem Tab.at' {low:Int} (h:Tab w b low T) {i k:Nat} (a:i < 32) (e:k < 10):w.cell? (b,1+i * 10+k)=some (.int .i64 ((T i).get i k)):=by
 rw[aP w b _ _ _ _ h,mD low T i k a e]
theorem Tab.fr {low:Int} (h:Tab w b low T) (j:Nat):w.frozen? (b,j)=false:=jk w b j _ _ h
theorem Tab.lt {low:Int} (h:Tab w b low T):b < w.heap.size:=by
 rcases dX b w with a | a
 ·exact a
 ·rw[Tab,eP a]at h;cases h
theorem Tab.below {w':World} {low:Int} (h:Tab w b low T) (a:Below w w w'):Tab w' b low T:=by
 unfold Tab;rw[a.block b h.lt];exact h
theorem Tab.put {low:Int} (h:Tab w b low T) {i k:Nat} (x:Int) (a:i < 32) (e:1<=k) (f:k < 10):Tab (w.setCell (b,1+i * 10+k) x) b low (upd T i ((T i).put x k)):=by
 unfold Tab;rw[bV w b _ _ _ _ h,Dc low T i k x a e f]
theorem Tab.alloc {low:Int} (h:Tab w b low T) (o:Obj):Tab (w.alloc o) b low T:=h.below ((aH _ _).alloc nL _)
theorem Tab.drew {low:Int} (h:Tab w b low T):Tab w.drew b low T:=h.below bD
theorem tC {low:Int} (h:Tab w b low T):(Instr.loadAt 265 (.pointer (some (b,1)))).run prog w=.ok (.agg (aK T)) w:=by
 have f:(loadCells (b,1) (aK T).toList.length).run prog w=.ok (aK T).toList.toArray w :=
  run_loadCells_list (P := prog) w (b,1) (aK T).toList (fun j v i=>by
   have a:((b,1):Addr).add j=(b,1+j):=by unfold Addr.add;split <;> simp_all
   have k:j < 320:=by
    have:=(List.getElem?_eq_some_iff.1 i).1;rwa [xC,bY]at this
   rw[a,aP w b _ _ _ _ h,rE low T j k];simpa using i)
 simp only[xC,Array.toArray_toList,bY]at f;have e:(isAgg 265).run prog w=.ok true w:=by
  unfold isAgg;rw[nM,Oi Tryz.underlying265 w];rfl
 have l:(sizeOf 265).run prog w=.ok 320 w:=by kernel_rfl
 simp only[Instr.loadAt,Instr.sureAddr,nM,qX,pR,loadVar,e,l,f,mV]
end
theorem pz (c:Ce) (w:World):Calls prog 234 #[bI c] w fun e w'=>e=.returned (.bool (c.pr != 0))/\Below w w w':=by
 unfold bI;go_enter func234,ntmps234;go_wp2_with fail;go_ret;exact⟨rfl,(aH _ _).alloc nL _⟩
theorem wL (k:Int) (w:World):Calls prog 299 #[k] w fun e w'=>e=.returned (.bool (decide (0<=k) && decide (k < 32)))/\w'=w:=by
 go_enter func299,ntmps299;go_wp2_with fail;all_goals go_ret
 all_goals refine⟨?_,rfl⟩
 all_goals first | (simp_all;done) | (simp_all;omega)
structure Gq (w:World) (X:Nat) (pr ia ip fa fp:Int):Prop where
 c0:w.cell? (X,0)=pr
 c1:w.cell? (X+1,0)=ia
 c2:w.cell? (X+1,1)=ip
 c3:w.cell? (X+2,0)=fa
 c4:w.cell? (X+2,1)=fp
structure Gs (w:World) (X:Nat) (pr po fa fp:Int):Prop where
 c0:w.cell? (X,0)=pr
 c1:w.cell? (X+1,0)=po
 c3:w.cell? (X+2,0)=fa
 c4:w.cell? (X+2,1)=fp
theorem Gq.below {w w':World} {X:Nat} {e f i j fp:Int} (h:Gq w X e f i j fp) (a:Below w w w'):Gq w' X e f i j fp:=⟨tk a h.c0,tk a h.c1,tk a h.c2,tk a h.c3,tk a h.c4⟩
theorem Gs.below {w w':World} {X:Nat} {e f i fp:Int} (h:Gs w X e f i fp) (a:Below w w w'):Gs w' X e f i fp:=⟨tk a h.c0,tk a h.c1,tk a h.c3,tk a h.c4⟩
abbrev aeU (X:Nat):Value:=.func (.func 269) #[] #[.pointer (some (X,0)),.pointer (some (X+1,0)),.pointer (some (X+2,0))]
abbrev backFn (X:Nat):Value:=.func (.func 233) #[] #[.pointer (some (X,0)),.pointer (some (X+1,0)),.pointer (some (X+2,0))]
abbrev aeV:Value:=.func (.func 309) #[] #[]
theorem Uk (X:Nat) (pr ia ip fa fp:Int) (c:Ce) (w:World) (C:Gq w X pr ia ip fa fp) :
  Calls prog 269 #[bI c,.pointer (some (X,0)),.pointer (some (X+1,0)),.pointer (some (X+2,0))] w fun e w'=>e=.returned (.bool (iQ pr ia ip fa fp c))/\Below w w w':=by
 have m:=jH C;clear C;have k:bI c=.agg #[c.pr,c.ia,c.ip,c.fa,c.fp,c.po,c.st,c.un]:=rfl;rw[k];clear k;go_enter func269,ntmps269;go_wp2_with fail;refine jM (pz c _) fun i a=>?_;have l:Hid (Below w w (w.alloc (.cells #[c.pr,c.ia,c.ip,c.fa,c.fp,c.po,c.st,c.un] 115))):=(aH _ _).alloc nL _;have j:=jH (t2 l a);have q:i.cell? (w.heap.size,0)=c.pr:=tk a ((nw _ _ _ _).trans rfl);have s:i.cell? (w.heap.size,1)=c.ia:=tk a ((nw _ _ _ _).trans rfl);have u:i.cell? (w.heap.size,2)=c.ip:=tk a ((nw _ _ _ _).trans rfl);have x:i.cell? (w.heap.size,3)=c.fa:=tk a ((nw _ _ _ _).trans rfl);have y:i.cell? (w.heap.size,4)=c.fp:=tk a ((nw _ _ _ _).trans rfl);clear a l;have h:=m.below j;have c0:=h.c0;have c1:=h.c1;have c2:=h.c2;have c3:=h.c3;have c4:=h.c4;clear h;have o:∀w:World,(binOp .eql 33 (.agg #[c.ia,c.ip]) (.agg #[ia,ip])).run prog w=.ok (.bool (c.ia==ia && c.ip==ip)) w:=uH _ _ _ _;have p:∀w:World,(binOp .eql 33 (.agg #[c.fa,c.fp]) (.agg #[fa,fp])).run prog w=.ok (.bool (c.fa==fa && c.fp==fp)) w:=uH _ _ _ _;have f:Hid (iQ pr ia ip fa fp c=((c.pr != 0) && ((c.pr==pr) && ((c.ia==ia && c.ip==ip) && (c.fa==fa && c.fp==fp))))):=rfl;generalize (c.ia==ia && c.ip==ip)=b3 at o f;generalize (c.fa==fa && c.fp==fp)=b4 at p f;rcases h1:(c.pr != 0) with _ | _
 ·rw[h1]at f;go_wp2_with fail;go_ret;exact⟨by rw[f.out];rfl,j⟩
 rcases h2:(c.pr==pr) with _ | _
 ·rw[h1,h2]at f;go_wp2_with fail;go_ret;exact⟨by rw[f.out];rfl,j⟩
 rw[h1,h2]at f
 cases b3
 ·go_wp2_with fail;go_ret;exact⟨by rw[f.out];rfl,j⟩
 ·go_wp2_with fail;go_ret;exact⟨by rw[f.out];rfl,j⟩
theorem Ul (X:Nat) (pr po fa fp:Int) (c:Ce) (w:World) (C:Gs w X pr po fa fp) :
  Calls prog 233 #[bI c,.pointer (some (X,0)),.pointer (some (X+1,0)),.pointer (some (X+2,0))] w fun e w'=>e=.returned (.bool (eH pr po fa fp c))/\Below w w w':=by
 have m:=jH C;clear C;have k:bI c=.agg #[c.pr,c.ia,c.ip,c.fa,c.fp,c.po,c.st,c.un]:=rfl;rw[k];clear k;go_enter func233,ntmps233;go_wp2_with fail;refine jM (pz c _) fun j a=>?_;have l:Hid (Below w w (w.alloc (.cells #[c.pr,c.ia,c.ip,c.fa,c.fp,c.po,c.st,c.un] 115))):=(aH _ _).alloc nL _;have h:=jH (t2 l a);have p:j.cell? (w.heap.size,0)=c.pr:=tk a ((nw _ _ _ _).trans rfl);have q:j.cell? (w.heap.size,5)=c.po:=tk a ((nw _ _ _ _).trans rfl);have s:j.cell? (w.heap.size,3)=c.fa:=tk a ((nw _ _ _ _).trans rfl);have u:j.cell? (w.heap.size,4)=c.fp:=tk a ((nw _ _ _ _).trans rfl);clear a l;have i:=m.below h;have c0:=i.c0;have c1:=i.c1;have c3:=i.c3;have c4:=i.c4;clear i;have o:∀w:World,(binOp .eql 33 (.agg #[c.fa,c.fp]) (.agg #[fa,fp])).run prog w=.ok (.bool (c.fa==fa && c.fp==fp)) w:=uH _ _ _ _;have f:Hid (eH pr po fa fp c=((c.pr != 0) && ((c.pr==pr) && ((c.po==po) && (c.fa==fa && c.fp==fp))))):=rfl;generalize (c.fa==fa && c.fp==fp)=b4 at o f;rcases h1:(c.pr != 0) with _ | _
 ·rw[h1]at f;go_wp2_with fail;go_ret;exact⟨by rw[f.out];rfl,h⟩
 rcases h2:(c.pr==pr) with _ | _
 ·rw[h1,h2]at f;go_wp2_with fail;go_ret;exact⟨by rw[f.out];rfl,h⟩
 rcases h3:(c.po==po) with _ | _
 ·rw[h1,h2,h3]at f;go_wp2_with fail;go_ret;exact⟨by rw[f.out];rfl,h⟩
 ·rw[h1,h2,h3]at f;go_wp2_with fail;go_ret;exact⟨by rw[f.out];rfl,h⟩
theorem Um (c:Ce) (w:World) :
  Calls prog 309 #[bI c] w fun e w'=>e=.returned (.bool (mY c))/\Below w w w':=by
 have f:bI c=.agg #[c.pr,c.ia,c.ip,c.fa,c.fp,c.po,c.st,c.un]:=rfl;rw[f];clear f;go_enter func309,ntmps309;go_wp2_with fail;refine jM (pz c _) fun i a=>?_;have h:=jH (t2 ((aH _ _).alloc nL _) a);clear a;go_wp2_with fail;go_ret;refine⟨?_,h⟩;unfold mY;show Ending.returned (.bool (!(!(c.pr==0))))=_;rw[Bool.not_not]
def acB:Option Nat->Value
 | some k=>.tuple #[k,.bool true]
 | none=>.tuple #[.int .i64 0,.bool false]
theorem OT (b:Nat) (low:Int) (T:Tb) (X:Nat) (pr ia ip fa fp:Int) (w:World) (t:Tab w b low T) (C:Gq w X pr ia ip fa fp) :
  Calls prog 232 #[.pointer (some (b,0)),aeU X] w fun e w'=>e=.returned (acB (fst T (iQ pr ia ip fa fp)))/\Below w w w':=by
 have y:=jH C;clear C;have B:=jH t;have a:=tC t;clear t;go_enter func232,ntmps232;go_wp2_with (refine bP rfl 265 _ rfl _ _ rfl a ?_)
 clear a;go_loopw [12] (fun t wr=>∃j:Nat,j<=32/\t=.int .i64 j/\(∀i,i < j->(iQ pr ia ip fa fp) (T i)=false)/\Below w w wr) (fun t _=>32 - (intOf t).toNat)
 case atStart=>exact⟨0,by omega,rfl,fun i z=>by omega,aH _ _⟩
 case round =>
  obtain⟨j,D,rfl,f,h⟩:=hrel;have q:=jH f;have k:=jH h;clear f h;by_cases l:j < 32
  ·obtain⟨c,s⟩:∃c,c=T j:=⟨_,rfl⟩;have m:=jH s;have u:(Instr.index 265 (.agg (aK T)) j).run prog wr=.ok (.agg #[j,c.ve,c.pr,c.ia,c.ip,c.fa,c.fp,c.po,c.st,c.un]) wr:=by
    rw[s];exact qK T j l wr
   clear s;go_wp2_with fail;refine jM (Uk X pr ia ip fa fp c _ (y.below (k.alloc k.size _))) fun w2 o=>?_;have p:=jH (t2 (k.alloc k.size _) o);clear o u;rcases hq:(iQ pr ia ip fa fp) c with _ | _
   ·have x:Hid (∀i,i < j+1->(iQ pr ia ip fa fp) (T i)=false):=fun i z=>by
     by_cases e:i=j
     ·rw[e,<- m.out];exact hq
     ·exact q i om
    clear hq;go_wp2_with fail;go_roundw
    case rel=>exact⟨j+1,by omega,by go_num,x,p⟩
    case measure=>simp[intOf];omega
   ·have A:=jH (lG.2 ⟨l,by rw[<- m.out];exact hq,q⟩);clear hq;go_wp2_with fail;go_ret2;refine⟨?_,p⟩;rw[A.out];rfl
  ·obtain rfl:j=32:=by omega
   go_wp2_with fail;go_ret2;refine⟨?_,k⟩;rw[qJ.2 q.out];rfl
theorem OU (b:Nat) (low:Int) (T:Tb) (X:Nat) (pr po fa fp:Int) (w:World) (t:Tab w b low T) (C:Gs w X pr po fa fp) :
  Calls prog 232 #[.pointer (some (b,0)),backFn X] w fun e w'=>e=.returned (acB (fst T (eH pr po fa fp)))/\Below w w w':=by
 have y:=jH C;clear C;have B:=jH t;have a:=tC t;clear t;go_enter func232,ntmps232;go_wp2_with (refine bP rfl 265 _ rfl _ _ rfl a ?_)
 clear a;go_loopw [12] (fun t wr=>∃j:Nat,j<=32/\t=.int .i64 j/\(∀i,i < j->(eH pr po fa fp) (T i)=false)/\Below w w wr) (fun t _=>32 - (intOf t).toNat)
 case atStart=>exact⟨0,by omega,rfl,fun i z=>by omega,aH _ _⟩
 case round =>
  obtain⟨j,D,rfl,f,h⟩:=hrel;have q:=jH f;have k:=jH h;clear f h;by_cases l:j < 32
  ·obtain⟨c,s⟩:∃c,c=T j:=⟨_,rfl⟩;have m:=jH s;have u:(Instr.index 265 (.agg (aK T)) j).run prog wr=.ok (.agg #[j,c.ve,c.pr,c.ia,c.ip,c.fa,c.fp,c.po,c.st,c.un]) wr:=by
    rw[s];exact qK T j l wr
   clear s;go_wp2_with fail;refine jM (Ul X pr po fa fp c _ (y.below (k.alloc k.size _))) fun w2 o=>?_;have p:=jH (t2 (k.alloc k.size _) o);clear o u;rcases hq:(eH pr po fa fp) c with _ | _
   ·have x:Hid (∀i,i < j+1->(eH pr po fa fp) (T i)=false):=fun i z=>by
     by_cases e:i=j
     ·rw[e,<- m.out];exact hq
     ·exact q i om
    clear hq;go_wp2_with fail;go_roundw
    case rel=>exact⟨j+1,by omega,by go_num,x,p⟩
    case measure=>simp[intOf];omega
   ·have A:=jH (lG.2 ⟨l,by rw[<- m.out];exact hq,q⟩);clear hq;go_wp2_with fail;go_ret2;refine⟨?_,p⟩;rw[A.out];rfl
  ·obtain rfl:j=32:=by omega
   go_wp2_with fail;go_ret2;refine⟨?_,k⟩;rw[qJ.2 q.out];rfl
theorem OV (b:Nat) (low:Int) (T:Tb) (w:World) (t:Tab w b low T) :
  Calls prog 232 #[.pointer (some (b,0)),aeV] w fun e w'=>e=.returned (acB (fst T mY))/\Below w w w':=by
 have A:=jH t;have a:=tC t;clear t;go_enter func232,ntmps232;go_wp2_with (refine bP rfl 265 _ rfl _ _ rfl a ?_)
 clear a;go_loopw [12] (fun t wr=>∃j:Nat,j<=32/\t=.int .i64 j/\(∀i,i < j->mY (T i)=false)/\Below w w wr) (fun t _=>32 - (intOf t).toNat)
 case atStart=>exact⟨0,by omega,rfl,fun i y=>by omega,aH _ _⟩
 case round =>
  obtain⟨j,B,rfl,f,h⟩:=hrel;have p:=jH f;have q:=jH h;clear f h;by_cases k:j < 32
  ·obtain⟨c,s⟩:∃c,c=T j:=⟨_,rfl⟩;have l:=jH s;have u:(Instr.index 265 (.agg (aK T)) j).run prog wr=.ok (.agg #[j,c.ve,c.pr,c.ia,c.ip,c.fa,c.fp,c.po,c.st,c.un]) wr:=by
    rw[s];exact qK T j k wr
   clear s;go_wp2_with fail;refine jM (Um c _) fun w2 m=>?_;have o:=jH (t2 (q.alloc q.size _) m);clear m u;rcases hq:mY c with _ | _
   ·have x:Hid (∀i,i < j+1->mY (T i)=false):=fun i y=>by
     by_cases e:i=j
     ·rw[e,<- l.out];exact hq
     ·exact p i om
    clear hq;go_wp2_with fail;go_roundw
    case rel=>exact⟨j+1,by omega,by go_num,x,o⟩
    case measure=>simp[intOf];omega
   ·have z:=jH (lG.2 ⟨k,by rw[<- l.out];exact hq,p⟩);clear hq;go_wp2_with fail;go_ret2;refine⟨?_,o⟩;rw[z.out];rfl
  ·obtain rfl:j=32:=by omega
   go_wp2_with fail;go_ret2;refine⟨?_,q⟩;rw[qJ.2 p.out];rfl
theorem Un (w:World) (a e f h fp:Int):Gq (((w.alloc (.cells #[a] 3)).alloc (.cells #[e,f] 33)).alloc (.cells #[h,fp] 33)) w a e f h fp:=by
 have s1:((w.alloc (.cells #[a] 3))).heap.size=w.heap.size+1:=by simp
 have s2:(((w.alloc (.cells #[a] 3)).alloc (.cells #[e,f] 33))).heap.size=w.heap.size+2:=by simp
 have A:∀(v:World) (o:Obj),Below v v (v.alloc o):=fun v o=>(aH _ _).alloc nL _;have i:=nw (w.alloc (.cells #[a] 3)) #[e,f] 33;have j:=nw ((w.alloc (.cells #[a] 3)).alloc (.cells #[e,f] 33)) #[h,fp] 33;rw[s1]at i;rw[s2]at j;exact⟨tk (A _ _) (tk (A _ _) ((nw w _ _ 0).trans rfl)),tk (A _ _) ((i 0).trans rfl),tk (A _ _) ((i 1).trans rfl),(j 0).trans rfl,(j 1).trans rfl⟩
theorem Uo (w:World) (a e f fp:Int):Gs (((w.alloc (.cells #[a] 3)).alloc (.cells #[e] 3)).alloc (.cells #[f,fp] 33)) w a e f fp:=by
 have s1:((w.alloc (.cells #[a] 3))).heap.size=w.heap.size+1:=by simp
 have s2:(((w.alloc (.cells #[a] 3)).alloc (.cells #[e] 3))).heap.size=w.heap.size+2:=by simp
 have A:∀(v:World) (o:Obj),Below v v (v.alloc o):=fun v o=>(aH _ _).alloc nL _;have i:=nw (w.alloc (.cells #[a] 3)) #[e] 3;have h:=nw ((w.alloc (.cells #[a] 3)).alloc (.cells #[e] 3)) #[f,fp] 33;rw[s1]at i;rw[s2]at h;exact⟨tk (A _ _) (tk (A _ _) ((nw w _ _ 0).trans rfl)),tk (A _ _) ((i 0).trans rfl),(h 0).trans rfl,(h 1).trans rfl⟩
theorem IG (o:Option Nat):acB o=.tuple #[.int .i64 ((o.getD 0:Nat):Int),.bool o.isSome]:=by cases o <;> rfl
theorem Dh (b:Nat) (low:Int) (T:Tb) (a f h i j:Int) (w:World) (t:Tab w b low T) :
  Calls prog 230 #[.pointer (some (b,0)),a,.agg #[f,h],.agg #[i,j]] w fun e w'=>e=.returned (.tuple #[.int .i64 (((fst T (iQ a f h i j)).getD 0:Nat):Int),.bool (fst T (iQ a f h i j)).isSome])/\Below w w w':=by
 have l:=jH t;clear t;go_enter func230,ntmps230;go_wp2_with fail;refine jM (OT b low T w a f h i j _ (((l.alloc _).alloc _).alloc _) (Un w a f h i j)) fun o k=>?_;have m:=jH (t2 (t2 (t2 ((aH _ _).alloc nL _) ((aH _ _).alloc nL _)) ((aH _ _).alloc nL _)) k);clear k;rw[IG];go_wp2_with fail;go_ret2;exact⟨rfl,m⟩
theorem Di (b:Nat) (low:Int) (T:Tb) (a f h i:Int) (w:World) (t:Tab w b low T) :
  Calls prog 195 #[.pointer (some (b,0)),a,f,.agg #[h,i]] w fun e w'=>e=.returned (.tuple #[.int .i64 (((fst T (eH a f h i)).getD 0:Nat):Int),.bool (fst T (eH a f h i)).isSome])/\Below w w w':=by
 have k:=jH t;clear t;go_enter func195,ntmps195;go_wp2_with fail;refine jM (OU b low T w a f h i _ (((k.alloc _).alloc _).alloc _) (Uo w a f h i)) fun m j=>?_;have l:=jH (t2 (t2 (t2 ((aH _ _).alloc nL _) ((aH _ _).alloc nL _)) ((aH _ _).alloc nL _)) j);clear j;rw[IG];go_wp2_with fail;go_ret2;exact⟨rfl,l⟩
theorem Kw (b:Nat) (low:Int) (T:Tb) (w:World) (t:Tab w b low T) :
  Calls prog 297 #[.pointer (some (b,0))] w fun e w'=>e=.returned (.tuple #[.int .i64 (((fst T mY).getD 0:Nat):Int),.bool (fst T mY).isSome])/\Below w w w':=by
 have a:=jH t;clear t;go_enter func297,ntmps297;go_wp2_with fail;refine jM (OV b low T w a) fun h f=>?_;rw[IG];go_wp2_with fail;go_ret2;exact⟨rfl,f⟩
theorem XO (b:Nat) (low:Int) (T:Tb) (m a f:Int) (w:World) (t:Tab w b low T) (L:0<=low) (M:low<=100000) :
  Calls prog 298 #[.pointer (some (b,0)),m,.agg #[a,f]] w fun e w'=>(∃x:Int,e=.returned (.tuple #[x,.bool (zW T low m a f).isSome])/\∀p,zW T low m a f=some p->x=low+p)/\Below w w w':=by
 have H:=jH t;have A:=t.low;have B:=t.lt;clear t;go_enter func298,ntmps298;go_wp2_with fail;have h:Hid (Below w w (w.alloc (.cells #[a,f] 33))):=(aH _ _).alloc nL _;have F:Hid ((w.alloc (.cells #[a,f] 33)).cell? (w.heap.size,0)=a/\(w.alloc (.cells #[a,f] 33)).cell? (w.heap.size,1)=f):=⟨(nw _ _ _ _).trans rfl,(nw _ _ _ _).trans rfl⟩;have N:Hid (w.heap.size < (w.alloc (.cells #[a,f] 33)).heap.size):=by show _ < _;simp
 generalize w.alloc (.cells #[a,f] 33)=w0 at *;have o:=jH (H.below h);clear A B;go_loopw [8] (fun t wr=>∃j:Nat,j<=24/\t=.int .i64 (low+j)/\(∀i,i < j->(fst T (eH m (low+(i:Nat)) a f)).isSome=true)/\Below w0 w0 wr) (fun t _=>24 - (intOf t - low).toNat)
 case atStart=>exact⟨0,by omega,by simp,fun i I=>by omega,aH _ _⟩
 case round =>
  obtain⟨j,O,rfl,q,l⟩:=hrel;have z:=jH q;have C:=jH l;have A:=(o.below l).low;have c0:=tk l F.1;have c1:=tk l F.2;clear q l;have J:IntKind.i64.wrap (low+24)=low+24:=by rw[iI];omega
  by_cases D:j < 24
  ·have K:low+(j:Int) < low+24:=by omega
   go_wp2_with fail;refine jM (Di b low T m (low+j) a f wr (o.below C)) fun w2 s=>?_;have u:=jH (t2 C s);clear s A c0 c1;rcases hq:fst T (eH m (low+(j:Nat)) a f) with _ | k
   ·have G:=jH (rD.2 ⟨D,hq,z⟩);clear hq;simp only[Az,Cb];go_wp2_with fail;go_ret2;refine⟨⟨_,by rw[G.out];rfl,fun p y=>?_⟩,h.trans (u.mono h.size)⟩;rw[G.out]at y;obtain rfl:=sS y;rfl
   ·have E:Hid (∀i,i < j+1->(fst T (eH m (low+(i:Nat)) a f)).isSome=true):=fun i I=>by
     by_cases e:i=j
     ·rw[e,hq];rfl
     ·exact z i om
    clear hq;simp only[Aw,BZ];go_wp2_with fail;go_roundw
    case rel=>exact⟨j+1,by omega,by go_num,E,u⟩
    case measure=>simp[intOf];omega
  ·obtain rfl:j=24:=by omega
   have K:¬low+((24:Nat):Int) < low+24:=by omega
   go_wp2_with fail;go_ret2;refine⟨⟨_,by rw[wI.2 z.out];rfl,fun p y=>?_⟩,h.trans (C.mono h.size)⟩;rw[wI.2 z.out]at y
   cases y
theorem Ur (k:Int) (w:World):Calls prog 266 #[k] w fun e w'=>e=.returned (.bool (decide (0<=k) && decide (k < 32)))/\w'=w:=by
 go_enter func266,ntmps266;go_wp2_with fail;all_goals go_ret
 all_goals refine⟨?_,rfl⟩
 all_goals first | (simp_all;done) | (simp_all;omega)
abbrev aek:Value:=.func (.func 265) #[] #[]
theorem acC (x:Tc) (w:World):Calls prog 265 #[tcV x] w fun e w'=>e=.returned (.bool (!okS x))/\Below w w w':=by
 unfold tcV;have a:Hid (okS x=(decide (0<=x.sl) && decide (x.sl < 32))):=rfl;go_enter func265,ntmps265;go_wp2_with fail;refine(Ur x.sl _).mono ?_;rintro e f ⟨rfl,rfl⟩;rw[<- a.out];go_wp2_with fail;go_ret;exact⟨rfl,aB _ _⟩
theorem OW (p:Option Addr) (cap:Nat) (l:List Tc) (w:World) (R:vJ w p l) (D:l.length<=100000) :
  Calls prog 295 #[.slice p l.length cap,aek] w fun e w'=>(∃k:Int,e=.returned k/\decide (k ≥ 0)=l.any fun x=>!okS x)/\Below w w w':=by
 have C:Hid (vJ w p l):=R;clear R;go_enter func295,ntmps295;go_wp2_with fail;go_loopw [8] (fun t wr=>∃j:Nat,j<=l.length/\t=.int .i64 j/\((l.take j).any fun x=>!okS x)=false/\Below w w wr) (fun t _=>l.length - (intOf t).toNat)
 case atStart=>exact⟨0,jY _,rfl,rfl,aH _ _⟩
 case round =>
  obtain⟨j,E,rfl,f,h⟩:=hrel;have q:Hid (((l.take j).any fun x=>!okS x)=false):=f;have s:Hid (Below w w wr):=h;clear f h;by_cases u:j < l.length
  ·have hr:l[j]? = some l[j]:=fD u;obtain⟨y,A⟩:∃y,y=l[j]:=⟨_,rfl⟩;rw[<- A]at hr;have B:Hid (l[j]? = some y):=hr;clear A;obtain⟨g,o,rfl,a⟩:=C.out j y hr;have a:=a.below s;have c0:=a.c0;have c1:=a.c1;have c2:=a.c2;have c3:=a.c3;have c4:=a.c4;have c5:=a.c5;have c6:=a.c6;have c7:=a.c7;have c8:=a.c8;have c9:=a.c9;clear hr a;go_wp2_with fail;refine(acC y _).mono ?_;rintro e w2 ⟨rfl,i⟩;have m:Hid (Below w w w2):=t2 s i;clear i c0 c1 c2 c3 c4 c5 c6 c7 c8 c9;rcases hd:okS y with _ | _
   ·have z:Hid ((l.any fun x=>!okS x)=true):=by
     show _=_;rw[List.any_eq_true];exact⟨y,kW B,by rw[hd];rfl⟩
    clear hd;go_wp2_with fail;go_ret;exact⟨⟨_,rfl,by rw[z.out,decide_eq_true_iff];omega⟩,m⟩
   ·have z:Hid (((l.take (j+1)).any fun x=>!okS x)=false):=by
     show _=_;rw[xE,B.out,List.any_append,q.out];simp only[Option.toList_some,List.any_cons,List.any_nil,hd,Bool.or_false,Bool.not_true]
    clear hd;go_wp2_with fail;go_roundw
    case rel=>exact⟨j+1,by omega,by go_num,z,m⟩
    case measure=>simp[intOf];omega
  ·obtain rfl:j=l.length:=by omega
   rw[xH]at q;go_wp2_with fail;go_ret;exact⟨⟨_,rfl,by rw[q.out];rfl⟩,s⟩
theorem qw (p:Option Addr) (cap:Nat) (l:List Tc) (w:World) (R:vJ w p l) (i:l.length<=100000) :
  Calls prog 264 #[.slice p l.length cap,aek] w fun e w'=>e=.returned (.bool (l.any fun x=>!okS x))/\Below w w w':=by
 have j:Hid (vJ w p l):=R;clear R;go_enter func264,ntmps264;go_wp2_with fail;refine(OW p cap l _ j i).mono ?_;rintro e w2 ⟨⟨k,rfl,h⟩,a⟩;have f:Hid (Below w w w2):=a;have m:Hid (decide (k ≥ 0)=l.any fun x=>!okS x):=h;clear a h;go_wp2_with fail;all_goals go_ret
 all_goals refine⟨?_,f⟩
 all_goals rw[<- m.out]
 all_goals rfl
end Go.Proofs.YtnogmjekhjldcaaGreatDoor
