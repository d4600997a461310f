/-
  What the claimed theorem reaches, part Q39.
-/
import Derived.Test.YtnogmjekhjldcaaGreatDoorQ38
import Derived.Test.YtnogmjekhjldcaaGreatDoorQ37
namespace Go.Proofs.YtnogmjekhjldcaaGreatDoor
open Go.RowKit Go.Proofs.Tryz
set_option maxRecDepth 100000
set_option maxHeartbeats 8000000
theorem afS (W:World) (r:Rl):oQ (W.alloc (.cells #[.bool r.al,.bool r.ou,.int .i64 r.pr,.int .i64 r.lo,.int .i64 r.tp] 50)) (some ⟨W.heap.size,0,none⟩) [r]:=fun i y a=>by
  match i,a with
  | 0,a =>
    obtain rfl:=sS a;exact⟨_,_,rfl,by simp,by simp,by simp,by simp,by simp⟩
def LnV (s:Nat->Addr) (W:World) (L:List ByteArray) (v e:Value):Prop :=
  (∃i g:Nat,ig L 0=some i/\v=.slice none 0 0/\e=.iface 122 (.pointer (some ⟨g,0,none⟩))/\W.cell? ⟨g,0,none⟩=some (.int .i64 i)/\W.cell? ⟨g,1,none⟩=some (.iface 359 (.pointer (some (s 0))))) \/
  (ig L 0=none/\((aF (iq L)/\e=.nilIface/\Sl W v (iq L))\/(¬aF (iq L)/\Dx s W (iq L) e/\v=.slice none 0 0)))
def RdV (s:Nat->Addr) (W:World) (x:ByteArray) (v e:Value):Prop :=
  (3000 < x.size/\v=.slice none 0 0/\e=nH s 2)\/(x.size=0/\v=.slice none 0 0/\e=.nilIface)\/(1<=x.size/\x.size<=3000/\LnV s W (cutFrom 10 [] (jo x.data.toList)) v e)
theorem FV {L:List ByteArray} {j k:Nat} {z:ByteArray} (h:L[j]? = some z):ig (L.drop j) k=if (Qu z).isSome=true then ig (L.drop (j+1)) (k+1) else some k:=by
  obtain⟨a,e⟩:=List.getElem?_eq_some_iff.1 h;rw[abS a,e];rfl
theorem Jv {L:List ByteArray} {j:Nat} {z:ByteArray} {r:Rl} (h:L[j]? = some z) (hr:Qu z=some r):iq (L.take (j+1))=iq (L.take j)++[r]:=by
  unfold iq;rw[xE,h,List.filterMap_append];simp[hr]
theorem abh (l:List UInt8):(jo l).length<=l.length:=by
  unfold jo;split
  · simp
  · exact bJ _
theorem V8 (c:UInt8) (l:List UInt8):(cutFrom c [] l).length<=l.length+1:=by
  have:=yD ⟨l.toArray⟩ c;rw[iM]at this;simpa [ByteArray.size] using this
theorem abj {b0:Nat} {w0 wr w1:World} {v v':Value} {l:List Rl} {r:Rl} {e f:Obj} (a:wr.ownsRow b0 50 5 v l.length (fQ l)) (h:Below b0 w0 wr) (i:b0<=wr.heap.size)
    (k:w1.ownsRow b0 50 5 v' (l.length+1) (fQ l++fQ [r])) (m:((wr.alloc e).alloc f).grownBy w1 v.ownBlock) :
    w1.ownsRow b0 50 5 v' (l++[r]).length (fQ (l++[r]))/\Below b0 w0 w1:=by
  refine⟨?_,((h.alloc i _).alloc (by simp;omega) _).grown m (by simp;omega) (fun j o=>(a.lt _ o).1)⟩;rw[FD,jw];exact k
theorem own_below {w w':World} {b n:Nat} {v:Value} {cs:List Value} (h:w.ownsRow b 50 5 v n cs) (a:Below w.heap.size w w'):w'.ownsRow b 50 5 v n cs :=
  h.kept (row:=none) ⟨a.os,a.tape,a.output,a.size,fun k e _=>a.block k e⟩ (Classical.em _)
theorem QO (x:ByteArray) (n:Nat) (hx:x.size=n+1) (Zp:n < 3000) (s:Nat->Addr) (w:World) (S:Af w s) (L:jU w) (T:Pow w) (N:Ji w) :
    Calls prog 32 #[.string x] w fun e w'=>(∃v y,e=.returned (.tuple #[v,y])/\LnV s w' (cutFrom 10 [] (jo x.data.toList)) v y)/\Below w.heap.size w w':=by
  have HS:Hid (Af w s):=S;have HL:Hid (jU w):=L;have HT:Hid (Pow w):=T;have HN:Hid (Ji w):=N;have Zq:(x.toList==[])=false:=by
    rw[dG];intro e;have e2:x.data.toList=[]:=by simpa [ByteArray.toList_eq] using e
    have:=mF x;rw[e2,hx]at this;simp at this
  have Zr:¬(3000:Int) < (x.size:Int):=by omega
  obtain⟨i0,hi,Zg,Zh,Zi⟩:=lu Tryz.Yh;have HX:Hid (x.size=n+1):=hx;clear S L T N hx;go_enter func32,ntmps32;go_wp2_with fail;refine(aaI x n HX.out om _).mono ?_;rintro e w1 ⟨rfl,rfl⟩;have Zj:=mF x;have Zk:=abh x.data.toList;generalize F:jo x.data.toList=tx at *;have E1:Hid (jo x.data.toList=tx):=F;clear F;have G:(⟨tx.toArray⟩:ByteArray).size<=4000:=by have:=HX.out;simp[ByteArray.size];omega
  have Zl:Hid ((⟨tx.toArray⟩:ByteArray).size<=4000):=G;have Zt:tx.length<=3000:=by have:=HX.out;omega
  clear G Zj Zk;go_wp2_with fail;refine(qQ ⟨tx.toArray⟩ Zl.out 10 _ HL.out).mono ?_;rintro e w2 ⟨rfl,hc,H⟩;rw[iM]at hc ⊢;simp only at hc ⊢;have I:=V8 10 tx;have HZ:Hid (∀z ∈ cutFrom 10 [] tx,z.size<=4000):=fun z B=>by
    have:=uo 10 tx [] z B;simp at this;omega
  generalize J:cutFrom 10 [] tx=Q at *;have E2:=jH J;clear J;have HC:=jH hc;have B2:=jH H;have hq:Q.length<=3001:=by omega
  clear hc H I;go_wp2_with fail;go_loopw [4,20] (fun v t wr=>∃j:Nat,j<=Q.length/\t=.int .i64 j/\ig (Q.drop j) j=ig Q 0/\(iq (Q.take j)).length<=j/\wr.ownsRow w2.heap.size 50 5 v (iq (Q.take j)).length (fQ (iq (Q.take j)))/\Below w2.heap.size w2 wr) (fun _ t _=>Q.length - (intOf t).toNat)
  case atStart=>exact⟨0,jY _,rfl,rfl,by simp[iq],ql _ _ _ _,aH _ _⟩
  case round =>
    obtain⟨j,hj,rfl,K,M,p,O⟩:=hrel;have P:=jH K;have E:=jH p;have C:=jH O;clear K p O;by_cases A:j < Q.length
    · have B:=fD A
      have R:=HZ.out _ (List.getElem_mem A);generalize Q[j]=z at B R;have Zm:=jH B;have cz:=Below.keeps C.out (HC.out j z B);have HD:Hid (ig Q 0=if (Qu z).isSome=true then ig (Q.drop (j+1)) (j+1) else some j):=by show _=_;rw[<- P.out];exact FV B
      have m:=jH (B2.out.trans (C.out.mono B2.out.size));clear B;obtain⟨q,U⟩:∃q,Qu z=q:=⟨_,rfl⟩;have V:=jH U;clear U;go_wp2_with fail;refine(Jl z R q V.out _ (HL.out.below m.out) (HT.out.below m.out) (HN.out.below m.out)).mono ?_;rintro e o ⟨he,k⟩;have X3:=jH k;clear k cz;rcases he with⟨r,hr,rfl⟩ | ⟨hr,rfl⟩
      · subst hr
        have f:=jH (Jv Zm.out V.out);have D:Hid (ig (Q.drop (j+1)) (j+1)=ig Q 0):=by
          have:=HD.out;rw[V.out]at this;exact this.symm
        obtain⟨l0,hl0⟩:∃l0,iq (Q.take j)=l0:=⟨_,rfl⟩;rw[hl0]at E M f;have O3:=jH (own_below E.out X3.out);have l:=jH (C.out.trans (X3.out.mono C.out.size));clear hl0 E C X3 P V HD m;have N4:Hid (∀j u,(fQ [r])[j]? = some u->((o.alloc (.cells #[.bool r.al,.bool r.ou,.int .i64 r.pr,.int .i64 r.lo,.int .i64 r.tp] 50)).alloc (.cells #[.bool r.al,.bool r.ou,.int .i64 r.pr,.int .i64 r.lo,.int .i64 r.tp] 50)).cell? (Addr.add ⟨o.heap.size+1,0,none⟩ j)=some u):=by
          have e:(o.alloc (.cells #[.bool r.al,.bool r.ou,.int .i64 r.pr,.int .i64 r.lo,.int .i64 r.tp] 50)).heap.size=o.heap.size+1:=by simp
          have:=(afS (o.alloc (.cells #[.bool r.al,.bool r.ou,.int .i64 r.pr,.int .i64 r.lo,.int .i64 r.tp] 50)) r).at;rw[e]at this;exact this
        go_wp2_with (at_builtin;refine vw _ rfl _ _ 22 rfl w2.heap.size 50 i0 _ 5 32 Tryz.underlying22 hi Zg Zh Zi rfl dC u4 l0.length (fQ l0) rfl ((O3.out.alloc _).alloc _) ⟨o.heap.size+1,0,none⟩ 1 1 (fQ [r]) rfl rfl N4.out (DK _) (by unfold maxLen;omega) om (by have:=l.out.size;simp;omega) ?_)
        intro v5 w5 W X _;have HR:=jH (abj O3.out l.out l.out.size W X);clear W X N4;go_wp2_with fail;go_roundw
        case rel=>exact⟨j+1,by omega,by go_num,D.out,by rw[f.out];simp;omega,by rw[f.out];exact HR.out.1,HR.out.2⟩
        case measure=>simp[intOf];omega
      · subst hr
        have D:Hid (ig Q 0=some j):=by
          have:=HD.out;rw[V.out]at this;exact this
        have l:=jH (below2 m.out X3.out);have gT:=(HS.out.below l.out).c0;have hl2 : 1 < o.heap.size:=cell_lt gT;go_wp2_with fail;go_region;all_goals go_wp2_with fail
        all_goals go_ret2
        all_goals refine⟨⟨_,_,rfl,?_⟩,?_⟩
        all_goals first
          | (rw[E1.out,E2.out]
             exact .inl ⟨j,o.heap.size+1,D.out,rfl,rfl,by simp[go_sem],by simp[go_sem]⟩)
          | (repeat (first | exact l.out | refine qZ ?_ | refine Below.alloc ?_ (by have:=l.out.size;simp;omega) _))
    · obtain rfl:j=Q.length:=by omega
      rw[Xb]at P;rw[xH]at E M;have Y:=jH P.out.symm;have m:=jH (B2.out.trans (C.out.mono B2.out.size));have S4:=jH ((Sl.pF E.out).1);have Zn:(iq Q).length<=4000:=by
        have:=List.length_filterMap_le Qu Q;unfold iq;omega
      clear P E C;generalize hl0:iq Q=l0 at *;have E3:=jH hl0;clear hl0;obtain⟨p4,k4,rfl,Z⟩:=S4.out.open;have R4:=jH Z;clear Z;go_wp2_with fail;refine(Dy p4 l0 k4 s _ ⟨(HS.out.below m.out).c1,(HS.out.below m.out).c2⟩ R4.out Zn).mono ?_;rintro e o ⟨⟨v,rfl,hv⟩,k⟩;have l:=jH (below2 m.out k);have S5:=jH (S4.out.below k);clear k R4 S4;have HV:=jH hv;by_cases h:aF l0
      · obtain rfl:v=.nilIface:=by
          rcases hv with⟨h1,_⟩ | ⟨_,_,h1⟩ | ⟨_,i,g,h1,_⟩
          · have:=h.1;omega
          · exact h1
          · rw[h.2]at h1;cases h1
        have f:=jH h;clear hv h;go_wp2_with fail;go_ret2;refine⟨⟨_,_,rfl,?_⟩,l.out⟩;rw[E1.out,E2.out];exact .inr ⟨Y.out,.inl (by rw[E3.out];exact⟨f.out,rfl,S5.out⟩)⟩
      · obtain⟨t,a,rfl⟩:∃t a,v=.iface t (.pointer (some a)):=by
          rcases hv with⟨h1,rfl⟩ | ⟨h1,h2,_⟩ | ⟨_,i,g,h1,rfl,_⟩
          · exact⟨_,_,rfl⟩
          · exact absurd ⟨h1,h2⟩ h
          · exact⟨_,_,rfl⟩
        have f:=jH h;clear hv h;go_wp2_with fail;go_ret2;refine⟨⟨_,_,rfl,?_⟩,l.out⟩;rw[E1.out,E2.out];exact .inr ⟨Y.out,.inr (by rw[E3.out];exact⟨f.out,HV.out,rfl⟩)⟩
theorem V9 (x:ByteArray) (a:3000 < x.size) (s:Nat->Addr) (w:World) (S:Af w s) :
    Calls prog 32 #[.string x] w fun e w'=>e=.returned (.tuple #[.slice none 0 0,nH s 2])/\Below w.heap.size w w':=by
  have c1:=S.c1;have f:(3000:Int) < (x.size:Int):=by omega
  clear S a;go_enter func32,ntmps32;go_wp2_with fail;go_region;all_goals go_wp2_with fail
  all_goals go_ret2
  all_goals exact⟨rfl,bD⟩
theorem QS (w:World) :
    Calls prog 32 #[.string ⟨#[]⟩] w fun e w'=>e=.returned (.tuple #[.slice none 0 0,.nilIface])/\w'=w:=by
  go_enter func32,ntmps32;go_wp2_with fail;go_ret2;exact⟨rfl,rfl⟩
theorem Wh {x:ByteArray} (h:x.size=0):x=⟨#[]⟩:=by
  apply jB;apply Array.eq_empty_of_size_eq_zero;exact h
theorem Wi (x:ByteArray) (s:Nat->Addr) (w:World) (S:Af w s) (L:jU w) (T:Pow w) (N:Ji w) :
    Calls prog 32 #[.string x] w fun e w'=>(∃v y,e=.returned (.tuple #[v,y])/\RdV s w' x v y)/\Below w.heap.size w w':=by
  by_cases i:3000 < x.size
  · exact(V9 x i s w S).mono fun e w' ⟨a,f⟩=>⟨⟨_,_,a,.inl ⟨i,rfl,rfl⟩⟩,f⟩
  by_cases j:x.size=0
  · have k:=Wh j
    rw[k];exact(QS w).mono fun e w' ⟨a,l⟩=>⟨⟨_,_,a,.inr (.inl ⟨rfl,rfl,rfl⟩)⟩,by rw[l];exact aH _ _⟩
  · obtain⟨n,m⟩:∃n,x.size=n+1:=⟨x.size - 1,by omega⟩
    refine(QO x n m om s w S L T N).mono ?_;rintro e w' ⟨⟨v,y,rfl,h⟩,f⟩;exact⟨⟨v,y,rfl,.inr (.inr ⟨by omega,by omega,h⟩)⟩,f⟩
theorem Ia (c:UInt8) (e:c.toNat < 97):∀i j,c ∉ qC i j:=by
 intro i j h;have a:∀x ∈ qC i j,97<=x.toNat:=by
  match i,j with
  | 0,0=>decide
  | 0,_+1=>simp only[qC];decide
  | 1,0=>decide
  | 1,_+1=>simp only[qC];decide
  | _+2,0=>simp only[qC];decide
  | _+2,1=>simp only[qC];decide
  | _+2,_+2=>simp only[qC];decide
 have:=a c h;omega
theorem EX {n:Int} (a:0<=n) {c:UInt8} (e:c.toNat < 48):c ∉ Lib.itoa n:=su a c (.inl e)
theorem zO {i k:Nat} (a:i < 3) (e:k < MF i):nameOf i ⟨(qC i k).toArray⟩=some k:=by
 match i,a,k,e with
 | 0,_,0,_=>decide
 | 0,_,1,_=>decide
 | 1,_,0,_=>decide
 | 1,_,1,_=>decide
 | 2,_,0,_=>decide
 | 2,_,1,_=>decide
 | 2,_,2,_=>decide
theorem Ib {n:Int} (a:0<=n) (e:n<=65535):(Lib.itoa n).length<=5:=by
 rw[oD a];exact oC 5 _ om om
theorem abk {lo tp:Int} (a:0<=lo) (f:lo<=65535) (e:0<=tp) (h:tp<=65535):two (Lib.itoa lo++45::Lib.itoa tp)=some (lo,tp):=by
 unfold two;rw[VJ _ _ (EX a dC)];simp only[nK a (Ib a f),nK e (Ib e h)];rw[aj ⟨a,e⟩]
theorem abl (a e f:Nat) {lo tp:Int} (i:0<=lo) (j:0<=tp):cutFrom 32 [] (G7 a e f lo tp)=[⟨(qC 0 a).toArray⟩,⟨(qC 1 e).toArray⟩,⟨(qC 2 f).toArray⟩,⟨(Lib.itoa lo++45::Lib.itoa tp).toArray⟩]:=by
 unfold G7;have k:(32:UInt8) ∉ Lib.itoa lo++45::Lib.itoa tp:=by
  intro h;rcases lU.1 h with h | h
  ·exact EX i dC h
  ·rcases dI.1 h with h | h
   ·exact absurd h dC
   ·exact EX j dC h
 rw[uX 32 _ _ [] (Ia 32 dC 0 a),uX 32 _ _ [] (Ia 32 dC 1 e),uX 32 _ _ [] (Ia 32 dC 2 f),yE 32 _ [] k];simp
theorem agR {L A B C D:List UInt8} {i j k:Nat} {q:Int×Int} (h:cutFrom 32 [] L=[⟨A.toArray⟩,⟨B.toArray⟩,⟨C.toArray⟩,⟨D.toArray⟩]) (e:nameOf 0 ⟨A.toArray⟩=some i) (k1:nameOf 1 ⟨B.toArray⟩=some j) (k2:nameOf 2 ⟨C.toArray⟩=some k) (k3:two D=some q) :
  Qu ⟨L.toArray⟩=some ⟨i==1,j==1,(k:Int),q.1,q.2⟩:=by
 have f:[(⟨A.toArray⟩:ByteArray),⟨B.toArray⟩,⟨C.toArray⟩,⟨D.toArray⟩]=cutFrom 32 [] (⟨L.toArray⟩:ByteArray).data.toList:=by
  simpa using h.symm
 have a:two (⟨D.toArray⟩:ByteArray).data.toList=some q:=by simpa using k3
 rw[MS f,aaM e k1 k2 a]
theorem NC (b:Bool):((if b=true then 1 else 0:Nat)==1)=b:=by cases b <;> rfl
theorem Td {r:Rl} (h:r.ok):Qu ⟨(jL r).toArray⟩=some r:=by
 obtain⟨i,j,k,l⟩:=h;have f:nameOf 0 ⟨(qC 0 (if r.al=true then 1 else 0)).toArray⟩=some (if r.al=true then 1 else 0):=zO om (by cases r.al <;> decide);have k1:nameOf 1 ⟨(qC 1 (if r.ou=true then 1 else 0)).toArray⟩=some (if r.ou=true then 1 else 0):=zO om (by cases r.ou <;> decide);have k2:nameOf 2 ⟨(qC 2 r.pr.toNat).toArray⟩=some r.pr.toNat:=zO om (by show r.pr.toNat < 3;omega);have a:=agR (abl (if r.al=true then 1 else 0) (if r.ou=true then 1 else 0) r.pr.toNat (lo:=r.lo) (tp:=r.tp) om om) f k1 k2 (abk (lo:=r.lo) (tp:=r.tp) om om om om);have e:((r.pr.toNat:Nat):Int)=r.pr:=by omega
 rw[NC,NC,e]at a;exact a
theorem Ti {r:Rl} (h:r.ok):(10:UInt8) ∉ jL r:=by
 obtain⟨f,i,j,k⟩:=h;unfold jL G7;intro a;simp only[lU,dI]at a;have d:¬((10:UInt8)=32):=by decide
 have e:¬((10:UInt8)=45):=by decide
 rcases a with a | a | a | a | a | a | a | a | a
 ·exact Ia 10 dC _ _ a
 ·exact d a
 ·exact Ia 10 dC _ _ a
 ·exact d a
 ·exact Ia 10 dC _ _ a
 ·exact d a
 ·exact EX om dC a
 ·exact e a
 ·exact EX om dC a
def joinL:List Rl->List UInt8
 | []=>[]
 | [r]=>jL r
 | r::q::l=>jL r++10::joinL (q::l)
theorem zQ:∀(l:List Rl),l≠[]->iH l=joinL l++[10]
 | [r],_=>by simp[iH,joinL]
 | r::q::l,_=>by
  have a:=zQ (q::l) sM;have e:iH (r::q::l)=(jL r++[10])++iH (q::l):=by simp[iH]
  rw[e,a];simp[joinL]
theorem Wj {l:List Rl} (h:l≠[]):jo (iH l)=joinL l:=by
 rw[zQ l h];unfold jo;rw[aj sM];simp
theorem NG:∀(l:List Rl),l≠[]->(∀r ∈ l,r.ok)->cutFrom 10 [] (joinL l)=l.map fun r=>(⟨(jL r).toArray⟩:ByteArray)
 | [r],_,h=>by
  rw[joinL,yE 10 _ [] (Ti (h r sM))];simp
 | r::q::l,_,h=>by
  rw[joinL,uX 10 _ _ [] (Ti (h r sM)),NG (q::l) sM (fun y a=>h y (by simp[a]))];simp
theorem EY:∀(l:List Rl) (k:Nat),(∀r ∈ l,r.ok)->ig (l.map fun r=>(⟨(jL r).toArray⟩:ByteArray)) k=none
 | [],_,_=>rfl
 | r::l,k,h=>by
  rw[List.map_cons,ig,Td (h r sM),if_pos (show(some r).isSome=true from rfl)];exact EY l (k+1) (fun y a=>h y (by simp[a]))
theorem uy:∀(l:List Rl),(∀r ∈ l,r.ok)->iq (l.map fun r=>(⟨(jL r).toArray⟩:ByteArray))=l
 | [],_=>rfl
 | r::l,h=>by
  have a:=uy l (fun y e=>h y (by simp[e]));unfold iq at a ⊢;rw[WW,List.filterMap_cons,Td (h r sM)];simp only[a]
theorem Wl {s:Nat->Addr} {W:World} {l:List Rl} {v e:Value} (h:aF l) (k:RdV s W ⟨(iH l).toArray⟩ v e):e=.nilIface/\Sl W v l:=by
 have a:=rM.1 h.2;have f:(⟨(iH l).toArray⟩:ByteArray).size=(iH l).length:=by simp[ByteArray.size]
 have m:=zB a;have o:=h.1;rcases k with⟨h1,_⟩ | ⟨h1,rfl,rfl⟩ | ⟨_,_,h3⟩
 ·omega
 ·cases l with
  | nil=>exact⟨rfl,.inl ⟨rfl,rfl⟩⟩
  | cons r l =>
   rw[f,zQ _ sM]at h1;simp at h1
 ·by_cases j:l=[]
  ·subst j;have:(⟨(iH []).toArray⟩:ByteArray).size=0:=rfl;omega
  ·have p:cutFrom 10 [] (jo (⟨(iH l).toArray⟩:ByteArray).data.toList)=l.map fun r=>(⟨(jL r).toArray⟩:ByteArray):=by
    show cutFrom 10 [] (jo (iH l))=_;rw[Wj j,NG l j a]
   rw[p]at h3;rcases h3 with⟨i,g,k1,_⟩ | ⟨_,⟨_,k3,k4⟩ | ⟨k2,_⟩⟩
   ·rw[EY l 0 a]at k1;cases k1
   ·rw[uy l a]at k4;exact⟨k3,k4⟩
   ·rw[uy l a]at k2;exact absurd h k2
section
variable {w:World} {Z n:Nat} {L:List ByteArray}
def xu (L:List ByteArray) (n:Nat):Array Value:=(L.map Value.string++List.replicate (n - L.length) (Value.string ByteArray.empty)).toArray
def yJ (w:World) (Z:Nat) (L:List ByteArray) (n:Nat):Prop:=w.heap[Z]? = some (.cells (xu L n) 9 (0,0))
theorem abm (L:List ByteArray) (n:Nat) (v:ByteArray) (h:L.length < n):(xu L n).setIfInBounds L.length (.string v)=xu (L++[v]) n:=by
 unfold xu;rw[List.setIfInBounds_toArray,List.set_append,ak sM];simp only[vC,TN,TL,jw,WQ];have:List.replicate (n - L.length) (Value.string ByteArray.empty)=Value.string ByteArray.empty::List.replicate (n - (L.length+1)) (Value.string ByteArray.empty):=by
  rw[show n - L.length=(n - (L.length+1))+1 by omega];rfl
 rw[this];rfl
theorem yJ.put (h:yJ w Z L n) (v:ByteArray) (a:L.length < n):yJ (w.setCell ⟨Z,L.length,none⟩ (.string v)) Z (L++[v]) n:=by
 unfold yJ;rw[bV w Z L.length _ _ (.string v) h,abm L n v a]
theorem yJ.cell (h:yJ w Z L n) (a:L.length < n):w.cell? ⟨Z,L.length,none⟩=some (.string ByteArray.empty):=by
 rw[aP w Z _ _ _ _ h];unfold xu;rw[vW,xA sM,vC,TN,List.getElem?_replicate,aj om]
theorem yJ.at (h:yJ w Z L n) {j:Nat} {y:ByteArray} (e:L[j]? = some y):w.cell? ⟨Z,j,none⟩=some (.string y):=by
 rw[aP w Z _ _ _ _ h];unfold xu;have f:j < L.length:=by
  rcases dX j L.length with a | a
  ·exact a
  ·rw[WU a]at e;cases e
 rw[vW,qW (by simpa using f),kK,e];rfl
theorem afT (w:World) (n:Nat) (p:n<=3000):(Instr.makeSlice 28 (.int .i64 n) (.int .i64 n)).run prog w=.ok (.slice (some ⟨w.heap.size,0,none⟩) n n) (w.alloc (.cells (xu [] n) 9)):=by
 obtain⟨k,m,f,a,i⟩:=lu Tryz.SQ;have h:=run_makeSlice (P := prog) w 28 9 k (.string ByteArray.empty) Tryz.underlying28 m f .i64 .i64 n n om om (by rw[a];omega) (by rw[i];omega) om;have e:madeCells (Value.cells (.string ByteArray.empty)) (Int.toNat (n:Int) * k.size)=xu [] n:=by
  rw[a];apply vY;intro j;unfold xu madeCells;by_cases l:j < n
  ·simp only[fJ,Ot,TP,Fg,xG,Nat.sub_zero];have o:(Value.string ByteArray.empty).cells[j % (Value.string ByteArray.empty).cells.size]! = Value.string ByteArray.empty:=by
    show(#[Value.string ByteArray.empty])[j % 1]! = Value.string ByteArray.empty;rw[Nat.mod_one];rfl
   simp[l,o]
  ·simp[l]
 rw[e,fJ]at h;exact h
def Yz (Z:Nat) (o:Obj):Nat->Option Obj:=fun q=>if q=Z then some o else none
theorem Pw.yz {w0:World} {wb B N b M pb t:Nat} {o:Obj} {W:Wo} (h:Pw w0 w wb (Yz Z o) B N b M pb W t):w.heap[Z]? = some o:=by
 obtain⟨K,_,_,a,_⟩:=h;exact(a.2 Z o (aj rfl)).1
theorem Pw.put {w0 w':World} {wb B N b M pb t:Nat} {o i:Obj} {W:Wo} (h:Pw w0 w wb (Yz Z o) B N b M pb W t) (u:N<=Z) (c:aC Z w w') (e:w'.heap[Z]? = some i):Pw w0 w' wb (Yz Z i) B N b M pb W t:=by
 obtain⟨K,l,a,j,rfl⟩:=h;obtain⟨x,k⟩:=j.2 Z o (aj rfl);have m:w0.heap.size<=Z:=by have:=a.lo;omega
 refine⟨K,l.fresh k m c,a.ch rfl c.size (fun q _ y=>c.block q (by have:=a.lo;omega) om) a.tg,⟨j.1,fun q p f=>?_⟩,rfl⟩;unfold Yz at f;split at f
 ·rename_i s;subst s
  cases f
  exact⟨e,k⟩
 ·cases f
theorem qU:∀(l:List ByteArray) (x:ByteArray),yH (l++[x])=yH l+oL x
 | [],x=>by simp[yH]
 | y::l,x=>by
  show oL y+yH (l++[x])=oL y+yH l+oL x;rw[qU l x];omega
theorem NH:∀(l:List ByteArray) (k:Nat),yH (l.take k)<=yH l
 | [],k=>by cases k <;> exact Nat.le_refl _
 | y::l,0=>Nat.zero_le _
 | y::l,k+1=>Nat.add_le_add_left (NH l k) _
def RdL (s:Nat->Addr) (x:ByteArray) (l:List Rl):Prop:=aF l/\∀(u:World) (v e:Value),RdV s u x v e->e=.nilIface/\Sl u v l/\∀a n c,v=.slice (some a) n c->a.block < u.heap.size
theorem abn {s:Nat->Addr} (E:oI w s) (Nm:Ji w) (x:ByteArray) (l:List Rl) (R:RdL s x l) (f:List ByteArray) (v:Value) (hv:FN w v f) (hn:f.length<=100) (hz:∀z ∈ f,z.size<=3000) (hc:yH f<=180000) :
  Calls prog 9 #[.string x,v] w fun e w'=>∃Z,e=.returned (.tuple #[.slice (some ⟨Z,0,none⟩) f.length f.length,.nilIface])/\yJ w' Z (E8 f (Wo.born l)) f.length/\Below w.heap.size w w':=by
 obtain⟨p,c,rfl,Zk,hw⟩:=hv;have HW:Hid (∀(j:Nat) y,f[j]? = some y->∃Z o,p=some ⟨Z,o,none⟩/\w.cell? ⟨Z,o+j,none⟩=some (.string y)):=hw;have C:Hid (oI w s/\Ji w/\RdL s x l/\(∀z ∈ f,z.size<=3000)/\yH f<=180000):=⟨E,Nm,R,hz,hc⟩;have n1:(f.length:Int)<=100:=by omega
 have n2:(f.length:Int)<=(c:Int):=by omega
 have n3:(0:Int)<=(f.length:Int):=by omega
 clear E Nm R hz hc hw;go_enter func9,ntmps9;go_wp2_with fail;refine(Wi x s w C.out.1.e.s C.out.1.l C.out.1.e.p C.out.2.1).mono ?_;rintro e w2 ⟨⟨v2,y2,rfl,hrd⟩,b2⟩;obtain⟨rfl,Q,S⟩:=C.out.2.2.1.2 w2 v2 y2 hrd;have P:Hid (Below w.heap.size w w2/\Sl w2 v2 l/\∀a n c,v2=.slice (some a) n c->a.block < w2.heap.size):=⟨b2,Q,S⟩;clear b2 Q S hrd;go_wp2_with fail;refine(FK (C.out.1.e.s.m.below P.out.1) v2 l P.out.2.1 P.out.2.2 (by have:=C.out.2.2.1.1.1;omega) C.out.2.2.1.1).mono ?_;rintro e G ⟨K,B,N,b,M,pb,rfl,T,yk,U⟩;have P3:Hid (Wd w2 G K (Wo.born l) 0/\(∀i,i < 2->∃q,K.yk i=some q)/\zA w2 G K B N b M pb):=⟨T,yk,U⟩;clear T yk U;have Zg:=afT G f.length om;go_wp2_with fail;have Y:Hid (N<=G.heap.size/\Pw w2 (G.alloc (.cells (xu [] f.length) 9)) K.wb (Yz G.heap.size (.cells (xu [] f.length) 9 (0,0))) B N b M pb (Wo.born l) 0):=by
  obtain⟨T,yk,U⟩:=P3.out;refine⟨U.lo.2.2.2.2,K,T.below (aB _ _),U.below (aB _ _),⟨yk,fun q o hq=>?_⟩,rfl⟩;unfold Yz at hq;split at hq
  ·rename_i h;subst h
   cases hq
   exact⟨dh _ _,T.al _ nL⟩
  ·cases hq
 clear Zg P3;generalize G.alloc (.cells (xu [] f.length) 9)=w4 at *;obtain⟨Z,I⟩:∃Z,G.heap.size=Z:=⟨_,rfl⟩;obtain⟨wb,V⟩:∃wb,K.wb=wb:=⟨_,rfl⟩;rw[I,V]at Y;rw[I];clear I V;obtain⟨W0,D⟩:∃W0,Wo.born l=W0:=⟨_,rfl⟩;have Zh:Hid (BH 1 W0):=by rw[<- D];exact BH.born C.out.2.2.1.1
 have Zi:Hid (Wo.born l=W0):=D;rw[D]at Y;clear D;go_loopw [10,11,37] (fun _ _ tv u=>∃k:Nat,k<=f.length/\tv=.int .i64 k/\Pw w2 u wb (Yz Z (.cells (xu (E8 (f.take k) W0) f.length) 9 (0,0))) B N b M pb (WH (f.take k) W0) (yH (f.take k))/\BH (1+yH (f.take k)) (WH (f.take k) W0)) (fun _ _ tv _=>f.length - (intOf tv).toNat)
 case atStart=>exact⟨0,by omega,rfl,Y.out.2,Zh.out⟩
 case round =>
  obtain⟨k,hk,rfl,pw,ok⟩:=hrel;have H:Hid (Pw w2 wr wb (Yz Z (.cells (xu (E8 (f.take k) W0) f.length) 9 (0,0))) B N b M pb (WH (f.take k) W0) (yH (f.take k))/\BH (1+yH (f.take k)) (WH (f.take k) W0)):=⟨pw,ok⟩;clear pw ok;by_cases W:k < f.length
  ·have k0:(0:Int)<=(k:Int):=by omega
   have k1:(k:Int) < (f.length:Int):=by omega
   obtain⟨z,X⟩:∃z,f[k]? = some z:=⟨f[k],fD W⟩;obtain⟨g,o,rfl,cx⟩:=HW.out k z X;have Zl:=tk (t2 P.out.1 H.out.1.bl) cx;have HZ:Hid (z.size<=3000/\yH (f.take k)+oL z<=180000):=by
    refine⟨C.out.2.2.2.1 z (kW X),?_⟩;have h1:=NH f (k+1);have h2:=C.out.2.2.2.2;rw[xE,X]at h1;have h3:=qU (f.take k) z;simp only[Option.toList]at h1;omega
   have Zj:Hid (f.take (k+1)=f.take k++[z]):=by
    show f.take (k+1)=_;rw[xE,X];rfl
   have A:Hid ((E8 (f.take k) W0).length=k/\k < f.length):=⟨by rw[BG,qE];omega,W⟩;clear X cx;go_wp2_with fail;refine(QN (C.out.1.below P.out.1) H.out.1 H.out.2 z HZ.out.1 (by have:=HZ.out.2;omega) (by have:=HZ.out.2;omega)).mono ?_;rintro e w5 ⟨rfl,J⟩;have F:yJ w5 Z (E8 (f.take k) W0) f.length:=J.yz;have cz:=F.cell (by rw[A.out.1];exact A.out.2);have fz:w5.frozen? ⟨Z,k,none⟩=false:=jk _ _ _ _ _ F;rw[A.out.1]at cz;obtain⟨sx,O⟩:∃sx,dQ (oK z (WH (f.take k) W0)).1=sx:=⟨_,rfl⟩;rw[O];have P6:Hid (Pw w2 (w5.setCell ⟨Z,k,none⟩ (.string sx)) wb (Yz Z (.cells (xu (E8 (f.take (k+1)) W0) f.length) 9 (0,0))) B N b M pb (WH (f.take (k+1)) W0) (yH (f.take (k+1)))/\BH (1+yH (f.take (k+1))) (WH (f.take (k+1)) W0)):=by
    have h6:=F.put sx (by rw[A.out.1];exact A.out.2);rw[A.out.1]at h6;rw[Zj.out,(uw _ _ _).1,(uw _ _ _).2,qU,O];refine⟨J.put Y.out.1 (aC.set _ _ _ _) h6,?_⟩;have:=H.out.2.oK z (by have:=HZ.out.2;omega);rw[<- JI];exact this
   clear F J O H;go_wp2_with fail;exact⟨⟨k+1,by omega,by go_num,P6.out.1,P6.out.2⟩,by simp[intOf];omega⟩
  ·obtain rfl:k=f.length:=by omega
   have HT:Hid (f.take f.length=f):=xH;rw[HT.out]at H;go_wp2_with fail;exact bf (v:=.tuple #[.slice (some ⟨Z,0,none⟩) f.length f.length,.nilIface]) (by simp[results,results9,go_sem]) rfl ⟨Z,rfl,by rw[Zi.out];exact H.out.1.yz,t2 P.out.1 H.out.1.bl⟩
end
theorem Aj (p r:Option Addr) (q s:Nat) (a:List ByteArray) (w:World) (A:FN w (.slice p a.length q) a) (B:FN w (.slice r a.length s) a) (H:a.length<=3000) :
  Calls prog 11 #[.slice p a.length q,.slice r a.length s] w fun e w'=>e=.returned (.bool true)/\Below w.heap.size w w':=by
 have u:Hid (∀(j:Nat) y,a[j]? = some y->∃Z o,p=some ⟨Z,o,none⟩/\w.cell? ⟨Z,o+j,none⟩=some (.string y)):=A.at'.2;have z:Hid (∀(j:Nat) y,a[j]? = some y->∃Z o,r=some ⟨Z,o,none⟩/\w.cell? ⟨Z,o+j,none⟩=some (.string y)):=B.at'.2;have I:(a.length:Int)<=3000:=by omega
 clear A B;go_enter func11,ntmps11;go_wp2_with fail;go_loopw [5] (fun t wr=>∃j:Nat,j<=a.length/\t=.int .i64 j/\Below w.heap.size w wr) (fun t _=>a.length - (intOf t).toNat)
 case atStart=>exact⟨0,by omega,rfl,aH _ _⟩
 case round =>
  obtain⟨j,J,rfl,f⟩:=hrel;have k:Hid (Below w.heap.size w wr):=f;clear f;by_cases l:j < a.length
  ·obtain⟨x,m⟩:∃x,a[j]? = some x:=⟨_,fD l⟩;obtain⟨K,L,rfl,h⟩:=u.out j x m;obtain⟨M,N,rfl,i⟩:=z.out j x m;have E:=tk k.out h;have F:=tk k.out i;have O:(0:Int)<=(j:Int):=by omega
   have P:(j:Int) < (a.length:Int):=by omega
   have C:(x.toList==x.toList)=true:=by simp
   have G:Hid (Below w.heap.size w wr.drew):=k.out.drew;clear m u z h i;go_wp2_with fail;go_region;all_goals
    go_wp2_with fail;go_roundw
    case rel=>exact⟨j+1,by omega,by go_num,G.out⟩
    case measure=>simp[intOf];omega
  ·have D:¬(j:Int) < (a.length:Int):=by omega
   go_wp2_with fail;go_ret;exact⟨rfl,k.out⟩
def hl0:ByteArray:=⟨#[116,105,99,107,32,49,32,49,48]⟩
def hl1:ByteArray:=⟨#[97,108,108]⟩
def hl2:ByteArray:=⟨#[115,119,105,116,99,104]⟩
def hl3:ByteArray:=⟨#[105,110,115,105,100,101,32,117,100,112,32,53,58,49,32,54,58,57]⟩
def hl4:ByteArray:=⟨#[102,108,111,119,115,32,49]⟩
def ha0:ByteArray:=⟨#[111,107]⟩
def ha1:ByteArray:=⟨#[49]⟩
def ha2:ByteArray:=⟨#[49,32,49]⟩
def ha3:ByteArray:=⟨#[117,100,112,32,49,58,50,48,50,52,32,54,58,57]⟩
def ha4:ByteArray:=⟨#[49]⟩
def hRl:Rl:=⟨true,true,0,1,9⟩
def hTx:ByteArray:=⟨#[97,108,108,111,119,32,111,117,116,32,97,110,121,32,49,45,57,10]⟩
theorem abo:kZ hl0=some (0,1,10,aU):=by
 unfold kZ;rw[iM];kernel_rfl
theorem abp:kZ hl1=some (9,0,0,aU):=by
 unfold kZ;rw[iM];kernel_rfl
theorem abq:kZ hl2=some (11,0,0,aU):=by
 unfold kZ;rw[iM];kernel_rfl
theorem abr:kZ hl3=some (7,0,0,⟨1,5,1,6,9,0⟩):=by
 unfold kZ;rw[iM];kernel_rfl
theorem abt:kZ hl4=some (14,1,0,aU):=by
 unfold kZ;rw[iM];kernel_rfl
theorem Wn:[dQ (jh 0 1 10 aU (Wo.born [hRl])).1,dQ (jh 9 0 0 aU (jh 0 1 10 aU (Wo.born [hRl])).2).1,dQ (jh 11 0 0 aU (jh 9 0 0 aU (jh 0 1 10 aU (Wo.born [hRl])).2).2).1,dQ (jh 7 0 0 ⟨1,5,1,6,9,0⟩ (jh 11 0 0 aU (jh 9 0 0 aU (jh 0 1 10 aU (Wo.born [hRl])).2).2).2).1,dQ (jh 14 1 0 aU (jh 7 0 0 ⟨1,5,1,6,9,0⟩ (jh 11 0 0 aU (jh 9 0 0 aU (jh 0 1 10 aU (Wo.born [hRl])).2).2).2).2).1]=[ha0,ha1,ha2,ha3,ha4]:=by kernel_rfl
theorem NI:E8 [hl0,hl1,hl2,hl3,hl4] (Wo.born [hRl])=[ha0,ha1,ha2,ha3,ha4]:=by
 have a:∀W,oK hl0 W=jh 0 1 10 aU W:=fun W=>by unfold oK;rw[abo]
 have e:∀W,oK hl1 W=jh 9 0 0 aU W:=fun W=>by unfold oK;rw[abp]
 have f:∀W,oK hl2 W=jh 11 0 0 aU W:=fun W=>by unfold oK;rw[abq]
 have h:∀W,oK hl3 W=jh 7 0 0 ⟨1,5,1,6,9,0⟩ W:=fun W=>by unfold oK;rw[abr]
 have i:∀W,oK hl4 W=jh 14 1 0 aU W:=fun W=>by unfold oK;rw[abt]
 rw[E8,E8,E8,E8,E8,E8,a,e,f,h,i];exact Wn
theorem QT:yH [hl0,hl1,hl2,hl3,hl4]<=180000:=by
 have a:oL hl0=10:=by unfold oL;rw[abo];rfl
 have e:oL hl1=1:=by unfold oL;rw[abp];rfl
 have f:oL hl2=1:=by unfold oL;rw[abq];rfl
 have h:oL hl3=1:=by unfold oL;rw[abr];rfl
 have i:oL hl4=1:=by unfold oL;rw[abt];rfl
 simp only[yH,a,e,f,h,i];omega
theorem NK {s:Nat->Addr} {l:List Rl} (h:aF l):RdL s ⟨(iH l).toArray⟩ l:=by
 refine⟨h,fun u v e i=>?_⟩;obtain⟨k,j⟩:=Wl h i;refine⟨k,j,fun a n c f=>?_⟩;rcases j with⟨hv2,_⟩ | ⟨a',cap,hv2,_,_,hr⟩
 ·rw[f]at hv2;cases hv2
 ·rw[f]at hv2
  cases hv2
  cases l with
  | nil =>
   rcases i with⟨_,hv3,_⟩ | ⟨_,hv3,_⟩ | ⟨hz,_⟩
   ·rw[f]at hv3;cases hv3
   ·rw[f]at hv3;cases hv3
   ·exact absurd hz dC
  | cons r l =>
   obtain⟨b,o,m,c0,_⟩:=hr 0 r rfl
   cases m
   exact eF c0
theorem afU:hTx=⟨(iH [hRl]).toArray⟩:=by kernel_rfl
theorem afV:aF [hRl]:=by
 refine⟨by decide,?_⟩;kernel_rfl
section
variable {x:ByteArray} {k:Nat}
theorem aeB:∀k,k < 18->(32:UInt8) ∉ (ky k).data.toList:=by decide
theorem aeC (x:ByteArray):(⟨x.data.toList.toArray⟩:ByteArray)=x:=by
 apply jB;simp
theorem mJ (a:lW x=some k) (r:List UInt8):kZ ⟨(x.data.toList++32::r).toArray⟩=(gy (kC k) (words ⟨r.toArray⟩ 32)).map fun g=>(k,g):=by
 obtain⟨e,f⟩:=mG a;have h:(32:UInt8) ∉ x.data.toList:=by rw[<- f];exact aeB k e
 unfold kZ;rw[jV 32 _ _ h,aeC];simp only[a]
theorem Ic (a:lW x=some k):kZ x=(gy (kC k) []).map fun g=>(k,g):=by
 obtain⟨e,f⟩:=mG a;have h:(32:UInt8) ∉ x.data.toList:=by rw[<- f];exact aeB k e
 have i:words x 32=[x]:=by
  have:=iW 32 _ h;rw[aeC]at this;exact this
 unfold kZ;rw[i];simp only[a]
theorem Jw {y:ByteArray} {o:Option (Int×Int×Pk)} (h:kZ y=o.map fun g=>(k,g)) (a:k≠0):oL y<=1:=by
 unfold oL;rw[h]
 cases o with
 | none=>exact jY _
 | some g =>
  show cst k g.2.1<=1;unfold cst;rw[ak a];exact bJ _
theorem EZ {n:Int} (a:0<=n) (e:n<=99999):(Lib.itoa n).length<=5:=by
 rw[oD a];exact oC 5 _ om om
theorem abu {l:List Int} {p:Pk} {y:ByteArray} (h:LnX x l p y):(x=ky 0/\∃a b,l=[a,b]/\0<=b/\b<=99999/\oL y<=b.toNat)\/(x≠ky 0/\oL y<=1):=by
 obtain⟨k,i,m⟩:=h;obtain⟨k1,k2⟩:=mG i;by_cases j:k=0
 ·subst j;left
  refine⟨k2.symm,?_⟩;rcases m with⟨h4,_⟩ | ⟨hok,rfl⟩
  ·exact absurd h4 dC
  ·match l,hok with
   | [a,b],⟨⟨a0,a1⟩,b0,b1⟩ =>
    refine⟨a,b,rfl,b0,b1,?_⟩;have e:Ny x [a,b]=x.data.toList++32::(Lib.itoa a++32::Lib.itoa b):=by simp[Ny]
    have q:(32:UInt8) ∉ Lib.itoa a:=su a0 32 (.inl dC);have s:(32:UInt8) ∉ Lib.itoa b:=su b0 32 (.inl dC);have o:=mJ i (Lib.itoa a++32::Lib.itoa b);rw[jV 32 _ _ q,iW 32 _ s]at o;rw[e];unfold oL;rw[o];have u:gy (kC 0) [⟨(Lib.itoa a).toArray⟩,⟨(Lib.itoa b).toArray⟩]=if isS ⟨(Lib.itoa a).toArray⟩ && JB ⟨(Lib.itoa b).toArray⟩ then some (dv ⟨(Lib.itoa a).toArray⟩,dv ⟨(Lib.itoa b).toArray⟩,aU) else none:=rfl;rw[u];have w:dv ⟨(Lib.itoa b).toArray⟩=b:=by
     have z:dg ⟨(Lib.itoa b).toArray⟩=b:=by
      unfold dg;show numOf (Lib.itoa b).toArray.toList 5=b;rw[List.toList_toArray];exact nK b0 (EZ b0 b1)
     unfold dv;rw[z,aj b0]
    split
    ·rename_i f;split at f
     ·simp only[nX,abV,Prod.mk.injEq]at f;obtain⟨rfl,_,rfl,_⟩:=f;rw[w];exact bJ _
     ·cases f
    ·exact jY _
 ·right
  refine⟨fun e=>j ?_,?_⟩
  ·rw[e,Jp om]at i
   cases i
   rfl
  ·rcases m with⟨_,_,rfl⟩ | ⟨_,rfl⟩
   ·exact Jw (mJ i _) j
   ·match l with
    | [] =>
     have e:(⟨(Ny x []).toArray⟩:ByteArray)=x:=by
      apply jB;simp[Ny]
     rw[e];exact Jw (Ic i) j
    | a::r =>
     have e:Ny x (a::r)=x.data.toList++32::(Lib.itoa a++r.flatMap fun n=>32::Lib.itoa n):=by simp[Ny]
     rw[e];exact Jw (mJ i _) j
end
theorem BK {a p:Int} (h:jc a p):pe (uq a p)=some (a,p):=by
 obtain⟨e,j,k,l⟩:=h;have f:=index_hit 58 (Lib.itoa p) (Lib.itoa a) (su e 58 (by right;decide));have i:Lib.cut (uq a p) [58]=(Lib.itoa a,Lib.itoa p,true):=by
  unfold Lib.cut uq;rw[f,aj om];simp
 unfold pe;rw[i];simp only[mV];rw[zF e om,zF om om]
theorem BL {a p:Int} (h:jc a p):(32:UInt8) ∉ uq a p:=by
 obtain⟨e,f,i,j⟩:=h;unfold uq;rw[lU,dI];rintro(h | h | h)
 ·exact su e 32 (by left;decide) h
 ·exact absurd h dC
 ·exact su (show 0<=p by omega) 32 (by left;decide) h
theorem abv (fl:Int) (e:0<=fl) (f:fl<=15):(32:UInt8) ∉ fText fl:=by
 have h:∀a:_root_.Fin 16,(32:UInt8) ∉ fText (a.val:Int):=by decide +kernel
 obtain⟨n,rfl⟩:=JD e;exact h ⟨n,by omega⟩
theorem abw (fl:Int) (e:0<=fl) (f:fl<=15):pf ⟨(fText fl).toArray⟩=some fl:=by
 have h:∀a:_root_.Fin 16,pf ⟨(fText (a.val:Int)).toArray⟩=some (a.val:Int):=by decide +kernel
 obtain⟨n,rfl⟩:=JD e;exact h ⟨n,by omega⟩
theorem QU {m a e f i j:Int} (h:sK m a e f i j):lQ ⟨(iT m a e f i j).toArray⟩=some (m,a,e,f,i,j):=by
 obtain⟨s,k,l,p,q⟩:=h;rcases s with⟨rfl,rfl⟩ | rfl
 ·have o:words ⟨(iT 1 a e f i 0).toArray⟩ 32=[⟨#[117,100,112]⟩,⟨(uq a e).toArray⟩,⟨(uq f i).toArray⟩]:=by
   unfold iT;rw[aj rfl,ak dC,JH,jV _ _ _ dC,jV _ _ _ (BL k),iW _ _ (BL l)]
  unfold lQ;rw[o];simp only[mV];rw[BK k,BK l];rfl
 ·have o:words ⟨(iT 2 a e f i j).toArray⟩ 32=[⟨#[116,99,112]⟩,⟨(uq a e).toArray⟩,⟨(uq f i).toArray⟩,⟨(fText j).toArray⟩]:=by
   unfold iT;rw[ak dC,aj rfl,jV _ _ _ dC,jV _ _ _ (BL k),jV _ _ _ (BL l),iW _ _ (abv j p q)]
  unfold lQ;rw[o];simp only[mV];rw[BK k,BK l,abw j p q];rfl
theorem BM {n:Nat} (h:n<=99999):JB ⟨(Lib.itoa (n:Int)).toArray⟩=true/\dv ⟨(Lib.itoa (n:Int)).toArray⟩=n:=by
 have a:dg ⟨(Lib.itoa (n:Int)).toArray⟩=n:=by
  unfold dg;show numOf (Lib.itoa (n:Int)).toArray.toList 5=n;rw[List.toList_toArray];exact nK om (EZ om om)
 unfold JB dv;rw[a,aj om];exact⟨gG om,rfl⟩
theorem abx {p:Pk} (h:sK p.pr p.a1 p.p1 p.a2 p.p2 p.fl):ER ⟨(iT p.pr p.a1 p.p1 p.a2 p.p2 p.fl).toArray⟩=some p:=by
 unfold ER;rw[QU h];exact aj ⟨jI.2 h,rfl⟩
def LnQ (k:Nat) (e:List Int) (p:Pk) (y:ByteArray):Prop :=
 (kC k=4/\kZ y=some (k,0,0,p))\/(kC k=0/\kZ y=some (k,0,0,aU))\/(kC k=1/\∃a:Nat,e=[(a:Int)]/\a < 2/\kZ y=some (k,(a:Int),0,aU))\/(kC k=2/\∃a:Nat,e=[(a:Int)]/\kZ y=some (k,0,(a:Int),aU)) \/
 (kC k=3/\∃a b:Nat,e=[(a:Int),(b:Int)]/\b<=99999/\kZ y=some (k,(a:Int),(b:Int),aU))
theorem afW {x:ByteArray} {i:List Int} {p:Pk} {y:ByteArray} (h:LnX x i p y):∃k,k < 18/\x=ky k/\LnQ k i p y:=by
 obtain⟨k,j,w⟩:=h;obtain⟨k1,k2⟩:=mG j;refine⟨k,k1,k2.symm,?_⟩;have o:∀n:Nat,(32:UInt8) ∉ Lib.itoa (n:Int):=fun n=>su om 32 (.inl dC);have u:∀a:Int,Ny x [a]=x.data.toList++32::Lib.itoa a:=fun a=>by simp[Ny]
 rcases w with⟨h4,ok,rfl⟩ | ⟨hok,rfl⟩
 ·refine .inl ⟨h4,?_⟩;rw[mJ j,h4]
  cases q:words ⟨(iT p.pr p.a1 p.p1 p.a2 p.p2 p.fl).toArray⟩ 32 with
  | nil=>rw[iM]at q;exact absurd q (Qs _ _ _)
  | cons z r =>
   have e:(⟨(jv (z::r)).toArray⟩:ByteArray)=⟨(iT p.pr p.a1 p.p1 p.a2 p.p2 p.fl).toArray⟩:=by
    rw[zL,<- q,iM,yF];simp
   show((ER ⟨(jv (z::r)).toArray⟩).map fun p=>((0:Int),(0:Int),p)).map (fun g=>(k,g))=_;rw[e,abx ok];rfl
 ·have E:=QE k;have s:kC k=0\/kC k=1\/kC k=2\/kC k=3\/kC k=4:=by omega
  rcases s with e | e | e | e | e
  ·rw[e]at hok;match i,hok with
   | [],_ =>
    have A:(⟨(Ny x []).toArray⟩:ByteArray)=x:=by apply jB;simp[Ny]
    exact .inr (.inl ⟨e,by rw[A,Ic j,e];rfl⟩)
  ·rw[e]at hok;match i,hok with
   | [a],⟨a0,a1⟩ =>
    obtain⟨n,rfl⟩:∃n:Nat,a=n:=⟨a.toNat,by omega⟩;obtain⟨l,f⟩:=BM (n:=n) om;refine .inr (.inr (.inl ⟨e,n,rfl,by omega,?_⟩));rw[u,mJ j,iW 32 _ (o n),e];show(if isS _ then some (dv _,(0:Int),aU) else none).map (fun g=>(k,g))=_;rw[aj (by unfold isS;rw[l,f];simp;omega),f];rfl
  ·rw[e]at hok;match i,hok with
   | [a],⟨a0,a1⟩ =>
    obtain⟨n,rfl⟩:∃n:Nat,a=n:=⟨a.toNat,by omega⟩;obtain⟨l,f⟩:=BM (n:=n) om;refine .inr (.inr (.inr (.inl ⟨e,n,rfl,?_⟩)));rw[u,mJ j,iW 32 _ (o n),e];show(if JB _ then some ((0:Int),dv _,aU) else none).map (fun g=>(k,g))=_;rw[aj l,f];rfl
  ·rw[e]at hok;match i,hok with
   | [a,b],⟨⟨a0,a1⟩,b0,b1⟩ =>
    obtain⟨n,rfl⟩:∃n:Nat,a=n:=⟨a.toNat,by omega⟩;obtain⟨m,rfl⟩:∃n:Nat,b=n:=⟨b.toNat,by omega⟩;obtain⟨l,f⟩:=BM (n:=n) om;obtain⟨B,C⟩:=BM (n:=m) om;refine .inr (.inr (.inr (.inr ⟨e,n,m,rfl,by omega,?_⟩)));have D:Ny x [(n:Int),(m:Int)]=x.data.toList++32::(Lib.itoa (n:Int)++32::Lib.itoa (m:Int)):=by simp[Ny]
    rw[D,mJ j,jV 32 _ _ (o n),iW 32 _ (o m),e];show(if isS _ && JB _ then some (dv _,dv _,aU) else none).map (fun g=>(k,g))=_;rw[aj (by unfold isS;rw[l,f,B];simp;omega),f,C];rfl
  ·rw[e]at hok;exact hok.elim
section
variable {w0 w:World} {db q:Nat} {V:Wo} {v v':Value} {G A:List ByteArray}
theorem Dv.mono {q':Nat} (h:Dv w0 w db V q v v' G A) (a:q<=q'):Dv w0 w db V q' v v' G A:=by
 obtain⟨D,u,d,f,e,ok,le⟩:=h;exact⟨D,u,d,by omega,e,ok.mono a,le⟩
theorem fm4:∀k,k < 18->kC k=4->k=7\/k=8:=by decide
theorem fm0:∀k,k < 18->kC k=0->k=9\/k=10\/k=11\/k=12:=by decide
theorem fm1:∀k,k < 18->kC k=1->k=5\/k=6\/k=13\/k=14\/k=15\/k=16\/k=17:=by decide
theorem fm2:∀k,k < 18->kC k=2->k=2\/k=3\/k=4:=by decide
theorem fm3:∀k,k < 18->kC k=3->k=0\/k=1:=by decide
theorem ad2 (h:Dv w0 w db V q v v' G A) {k:Nat} (u:k < 18) {C:List Int} {p:Pk} {y:ByteArray} (Q:LnQ k C p y) (z:Option Addr) (c:Nat) (N:NsI w z C) (J:q<=5000) (K:oL y<=5000) :
  Calls prog 8 #[.pointer (some (db,0)),sG (ky k) (.slice z C.length c) p] w fun e w'=>e=.returned (.string (dQ (oK y V).1))/\Dv w0 w' db (oK y V).2 (q+oL y) v v' G A:=by
 have f:∀n m D,kZ y=some (k,n,m,D)->oK y V=jh k n m D V/\oL y=cst k m:=fun n m D e=>by
  unfold oK oL;rw[e];exact⟨rfl,rfl⟩
 rcases Q with⟨e,l⟩ | ⟨e,l⟩ | ⟨e,a,rfl,ha,l⟩ | ⟨e,a,rfl,l⟩ | ⟨e,a,b,rfl,hb,l⟩
 ·obtain⟨j,s⟩:=f _ _ _ l;rw[j,s];rcases fm4 k u e with rfl | rfl
  ·exact abe h 7 (.inl rfl) om _ p
  ·exact abe h 8 (.inr rfl) om _ p
 ·obtain⟨j,s⟩:=f _ _ _ l;rw[j,s];rcases fm0 k u e with rfl | rfl | rfl | rfl
  ·exact adZ h om _ p
  ·exact(adX h _ p).mono fun _ _ g=>⟨g.1,g.2.mono (Fb _ _)⟩
  ·exact(afN h om _ p).mono fun _ _ g=>⟨g.1,g.2.mono (Fb _ _)⟩
  ·exact(afM h om _ p).mono fun _ _ g=>⟨g.1,g.2.mono (Fb _ _)⟩
 ·obtain⟨j,s⟩:=f _ _ _ l;rw[j,s];obtain⟨_,Z,o,rfl,i⟩:=N 0 _ rfl;have B:∀k,(k=13\/k=14\/k=15\/k=16\/k=17)->(jh k a 0 aU V).2=V->Calls prog 8 #[.pointer (some (db,0)),sG (ky k) (.slice (some (Z,o)) 1 c) p] w fun e w'=>e=.returned (.string (dQ (jh k a 0 aU V).1))/\Dv w0 w' db (jh k a 0 aU V).2 (q+cst k 0) v v' G A:=fun k u H=>by
   rw[H]
   cases E:V.nd a with
   | none=>exact(abf h k u a ha E Z o c p i).mono fun _ _ g=>⟨g.1,g.2.mono (Fb _ _)⟩
   | some x=>exact(afO h om k u a ha x E Z o c p i).mono fun _ _ g=>⟨g.1,g.2.mono (Fb _ _)⟩
  rcases fm1 k u e with rfl | rfl | rfl | rfl | rfl | rfl | rfl
  ·exact yI h om 5 om a Z o c p i
  ·exact yI h om 6 om a Z o c p i
  ·exact B 13 om rfl
  ·exact B 14 om rfl
  ·exact B 15 om rfl
  ·exact B 16 om rfl
  ·exact B 17 om rfl
 ·obtain⟨j,s⟩:=f _ _ _ l;rw[j,s];obtain⟨_,Z,o,rfl,i⟩:=N 0 _ rfl;rcases fm2 k u e with rfl | rfl | rfl
  ·exact yI h om 2 om a Z o c p i
  ·exact yI h om 3 om a Z o c p i
  ·exact yI h om 4 om a Z o c p i
 ·obtain⟨j,s⟩:=f _ _ _ l;rw[j,s];obtain⟨_,Z,o,rfl,i⟩:=N 0 _ rfl;obtain⟨_,L,M,I,F⟩:=N 1 _ rfl
  cases I
  rcases fm3 k u e with rfl | rfl
  ·exact SY h 0 (.inl rfl) a b om om Z o c p i F
  ·exact SY h 1 (.inr rfl) a b om om Z o c p i F
end
theorem NM (w:World) (e f i k l:ByteArray):FN (w.alloc (.cells #[.string e,.string f,.string i,.string k,.string l] 9)) (.slice (some ⟨w.heap.size,0,none⟩) 5 5) [e,f,i,k,l]:=by
 refine⟨_,5,rfl,by simp,fun j y a=>⟨_,0,rfl,?_⟩⟩;have h:(w.alloc (.cells #[.string e,.string f,.string i,.string k,.string l] 9)).heap[w.heap.size]? = some (.cells #[.string e,.string f,.string i,.string k,.string l] 9 (0,0)):=dh _ _;rw[fE,aP _ _ _ _ _ _ h];match j,a with
 | 0,a=>cases a;rfl
 | 1,a=>cases a;rfl
 | 2,a=>cases a;rfl
 | 3,a=>cases a;rfl
 | 4,a=>cases a;rfl
 | _+5,a=>simp at a
theorem ad3 {w:World} {Z:Nat} {L:List ByteArray} (h:yJ w Z L L.length):FN w (.slice (some ⟨Z,0,none⟩) L.length L.length) L :=
 ⟨_,_,rfl,bJ _,fun j y a=>⟨Z,0,rfl,by rw[fE];exact h.at a⟩⟩
theorem Wp {w:World} {s:Nat->Addr} (E:oI w s) (Nm:Ji w):Calls prog 4 #[] w fun e w'=>e=.returned (.bool true)/\Below w.heap.size w w':=by
 have h:Hid (Below w.heap.size w (w.alloc (.cells #[.string ⟨#[116,105,99,107,32,49,32,49,48]⟩,.string ⟨#[97,108,108]⟩,.string ⟨#[115,119,105,116,99,104]⟩,.string ⟨#[105,110,115,105,100,101,32,117,100,112,32,53,58,49,32,54,58,57]⟩,.string ⟨#[102,108,111,119,115,32,49]⟩] 9))):=aB _ _;have j:Hid (Calls prog 9 #[.string ⟨#[97,108,108,111,119,32,111,117,116,32,97,110,121,32,49,45,57,10]⟩,.slice (some ⟨w.heap.size,0,none⟩) 5 5] (w.alloc (.cells #[.string ⟨#[116,105,99,107,32,49,32,49,48]⟩,.string ⟨#[97,108,108]⟩,.string ⟨#[115,119,105,116,99,104]⟩,.string ⟨#[105,110,115,105,100,101,32,117,100,112,32,53,58,49,32,54,58,57]⟩,.string ⟨#[102,108,111,119,115,32,49]⟩] 9)) fun e w'=>∃Z,e=.returned (.tuple #[.slice (some ⟨Z,0,none⟩) 5 5,.nilIface])/\yJ w' Z [ha0,ha1,ha2,ha3,ha4] 5/\Below w.heap.size w w'):=by
  have o:RdL s hTx [hRl]:=by rw[afU];exact NK afV
  have k:=abn (E.below h.out) (Nm.below h.out) hTx [hRl] o [hl0,hl1,hl2,hl3,hl4] _ (NM w hl0 hl1 hl2 hl3 hl4) sM dC QT;rw[NI]at k;refine k.mono ?_;rintro e w' ⟨Z,rfl,a,f⟩;exact⟨Z,rfl,a,t2 h.out f⟩
 clear E Nm h;go_enter func4,ntmps4;go_wp2_with fail;refine j.out.mono ?_;rintro e w2 ⟨Z,rfl,a,f⟩;have u:Hid (yJ w2 Z [ha0,ha1,ha2,ha3,ha4] 5/\Below w.heap.size w w2):=⟨a,f⟩;have l:Hid (Calls prog 11 #[.slice (some ⟨Z,0,none⟩) 5 5,.slice (some ⟨w2.heap.size,0,none⟩) 5 5] (w2.alloc (.cells #[.string ⟨#[111,107]⟩,.string ⟨#[49]⟩,.string ⟨#[49,32,49]⟩,.string ⟨#[117,100,112,32,49,58,50,48,50,52,32,54,58,57]⟩,.string ⟨#[49]⟩] 9)) fun e w'=>e=.returned (.bool true)/\Below (w2.alloc (.cells #[.string ⟨#[111,107]⟩,.string ⟨#[49]⟩,.string ⟨#[49,32,49]⟩,.string ⟨#[117,100,112,32,49,58,50,48,50,52,32,54,58,57]⟩,.string ⟨#[49]⟩] 9)).heap.size (w2.alloc (.cells #[.string ⟨#[111,107]⟩,.string ⟨#[49]⟩,.string ⟨#[49,32,49]⟩,.string ⟨#[117,100,112,32,49,58,50,48,50,52,32,54,58,57]⟩,.string ⟨#[49]⟩] 9)) w') :=
  Aj _ _ 5 5 [ha0,ha1,ha2,ha3,ha4] _ ((ad3 (L:=[ha0,ha1,ha2,ha3,ha4]) a).below (aB _ _)) (NM w2 ha0 ha1 ha2 ha3 ha4) sM
 have i:Hid (Below w.heap.size w (w2.alloc (.cells #[.string ⟨#[111,107]⟩,.string ⟨#[49]⟩,.string ⟨#[49,32,49]⟩,.string ⟨#[117,100,112,32,49,58,50,48,50,52,32,54,58,57]⟩,.string ⟨#[49]⟩] 9))):=t2 f (aB _ _);clear a f j;go_wp2_with fail;refine l.out.mono ?_;rintro e p ⟨rfl,m⟩;have q:Hid (Below w.heap.size w p):=t2 i.out m;clear m l;go_wp2_with fail;go_ret;exact⟨rfl,q.out⟩
theorem zU (b o j:Nat):Addr.add ⟨b,o,none⟩ j=⟨b,o+j,none⟩:=by
 simp[Addr.add]
theorem aby {w:World} {base n:Nat} {v:Value} {a:List ByteArray} (h:w.ownsRow base 9 1 v n (a.map Value.string)):∃p cap,v=.slice p a.length cap/\a.length<=cap/\(p=none->cap=0)/\∀(j:Nat) x,a[j]? = some x->∃b o,p=some ⟨b,o,none⟩/\w.cell? ⟨b,o+j,none⟩=some (.string x):=by
 have f:a.length=n:=by have:=h.1;simpa using this
 subst f;rcases h.2 with⟨h1,h2⟩ | ⟨g,cap,cur,h1,h2,h3,h4,h5,h6,h7⟩
 ·refine⟨none,0,by rw[h1,h2],by omega,fun _=>rfl,fun j x i=>?_⟩;rw[List.length_eq_zero_iff.1 h2]at i;simp at i
 ·refine⟨some ⟨g,0,none⟩,cap,h1,h4,fun e=>(by cases e),fun j x i=>⟨g,0,rfl,?_⟩⟩;have k:(a.map Value.string)[j]? = some (.string x):=by rw[kK,i];rfl
  rw[<- h7,kG]at k;split at k
  ·have l:cur[j]? = some (.string x):=by simpa using k
   rw[fE];simp[World.cell?,h3,l]
  ·cases k
structure Lm where
 x:ByteArray
 ns:List Int
 p:Pk
 z:Option Addr
 c:Nat
def lmC (m:Lm):List Value:=[.string m.x,.slice m.z m.ns.length m.c,.int .i64 m.p.pr,.int .i64 m.p.a1,.int .i64 m.p.p1,.int .i64 m.p.a2,.int .i64 m.p.p2,.int .i64 m.p.fl]
structure NP (w:World) (m:Lm):Prop where
 n:NsI w m.z m.ns
 p:P6 m.p
def agS (w:World) (v:Value) (l:List Lm):Prop:=∃(p:Option Addr) (cap:Nat),v=.slice p l.length cap/\l.length<=maxLen/\∀(i:Nat) m,l[i]? = some m->NP w m/\∃b o,p=some ⟨b,o,none⟩/\∀(j:Nat) u,(lmC m)[j]? = some u->w.cell? ⟨b,o+i * 8+j,none⟩=some u
theorem NsI.below {w w':World} {z:Option Addr} {ns:List Int} (h:NsI w z ns) (a:Below w.heap.size w w'):NsI w' z ns:=fun j n f=>by
 obtain⟨i,Z,o,e,c⟩:=h j n f;exact⟨i,Z,o,e,tk a c⟩
theorem NP.below {w w':World} {m:Lm} (h:NP w m) (a:Below w.heap.size w w'):NP w' m:=⟨h.n.below a,h.p⟩
theorem agT {l:List Rl} (h:¬aF l):(jT l).1=2:=by
 unfold jT;split
 ·rfl
 ·rename_i a
  cases e:gY l 0 with
  | none=>exact absurd ⟨by omega,e⟩ h
  | some i=>rfl
theorem Ie (a b:Int) (w:World):(Instr.field 26 (.agg #[.int .i64 a,.int .i64 b]) 0).run prog w=.ok (.int .i64 a) w:=by kernel_rfl
structure GI (w3 wr:World) (v:Value) (G:List ByteArray) (i ah tks:Nat):Prop where
 own:wr.ownsRow w3.heap.size 9 1 v G.length (G.map Value.string)
 bl:Below w3.heap.size w3 wr
 gl:G.length<=i
 ah:ah<=G.length
 sz:∀z ∈ G,z.size<=300
 tk:tks<=1500
 co:yH G<=tks+i
theorem GI.skip {a wr e:World} {v:Value} {G:List ByteArray} {i ah tks:Nat} (h:GI a wr v G i ah tks) (b:Below wr.heap.size wr e):GI a e v G (i+1) ah tks :=
 ⟨Hy h.own b,t2 h.bl b,by have:=h.gl;omega,h.ah,h.sz,h.tk,by have:=h.co;omega⟩
end Go.Proofs.YtnogmjekhjldcaaGreatDoor
