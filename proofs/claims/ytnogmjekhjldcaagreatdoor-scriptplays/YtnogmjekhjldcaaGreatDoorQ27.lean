/-
  What the claimed theorem reaches, part Q27.
-/
import Derived.Test.YtnogmjekhjldcaaGreatDoorQ26
namespace Go.Proofs.YtnogmjekhjldcaaGreatDoor
open Go.RowKit Go.Proofs.Tryz
set_option maxRecDepth 100000
set_option maxHeartbeats 8000000
section
variable {w:World} {fr:Bool} {n base:Nat}
theorem kR.un7 {Q:Nat} {c:Ce} (h:kR w Q c) (u:Int):kR (w.setCell (Q,7) u) Q {c with un:=u}:=by
  unfold kR;rw[bV w Q _ _ _ _ h];rfl
theorem aer {x:No} (a:x.lg=0) (h:fr=(x.ro.rings && decide (x.au.ro.oM=0))):fr=(x.tk1.ro.ac && !x.ro.ac):=by
  cases hr:x.ro.rings
  · have e:x.tk1=x.au:=by unfold No.tk1;rw[hr];rfl
    have j:x.au.ro.ac=x.ro.ac:=by show x.ro.tick.ac=_;unfold Ro.tick;cases k:x.ro.ac <;> simp[k]
    rw[h,hr,e,j]
    cases x.ro.ac <;> rfl
  · have i:x.au.ro.ac=false/\x.ro.ac=false:=DU hr
    by_cases f:x.au.ro.oM=0
    · have l:x.au.cp.1=0:=by
        unfold No.lg at a;rw[hr]at a;simp only[mV]at a;unfold No.mM at a;rw[aj f]at a;exact a
      have e:x.tk1.ro=x.au.ro.claim x.au.ro.jQ:=by
        unfold No.tk1 No.rP;rw[hr];simp only[mV];rw[aj f,aj l]
      have m:(x.au.ro.claim x.au.ro.jQ).ac=true:=by
        unfold Ro.claim;rw[aj (Ro.IW (r:=x.au.ro) i.1 f)]
      rw[h,hr,e,m,i.2,gG f];rfl
    · have e:x.tk1=x.au:=by
        unfold No.tk1 No.rP;rw[hr];simp only[mV];rw[ak f]
      rw[h,hr,e,i.1,gQ f];rfl
theorem adw (x:No):x.tk1.now=x.now+1:=by
  unfold No.tk1;split
  · unfold No.rP
    repeat' split
    all_goals rfl
  · rfl
theorem aaw {x:No} (a:x.lg=0) (h:fr=(x.ro.rings && decide (x.au.ro.oM=0))) (e:x.tk1.ro.ac=false):fr=false:=by
  rw[aer a h,e];rfl
def No.pO (x:No):List Nf:=x.dN.map fun t=>⟨x.tk1.id,x.tk1.life,x.tk1.ro.ep,t.cl,t.L.map fun (j:Nat)=>(⟨(j:Int),x.tk1.T j⟩:Tc)⟩
def ahf (w:World) (x:No) (v:Value):Prop:=∃p cap us,v=.slice p x.pO.length cap/\RdT w p x.pO us/\RdC w x.pO us
def um (w:World) (n:Nat) (x:No) (v:Value):Prop:=∃p cap us,v=.slice p x.pO.length cap/\RdT w p x.pO us/\RdC w x.pO us/\us.length=x.pO.length/\FrP n p/\∀u ∈ us,∀q a c,u=Value.slice q a c->FrP n q
theorem um.r {x:No} {v:Value} (h:um w n x v):ahf w x v:=by
  obtain⟨p,cap,us,a,e,f,_⟩:=h;exact⟨p,cap,us,a,e,f⟩
theorem um.nil {x:No} (h:x.pO=[]):um w n x (.slice none 0 0):=by
  refine⟨none,0,([]:List Value),by rw[h];rfl,by rw[h];exact fun j t h=>by simp at h,by rw[h];exact fun j t h=>by simp at h,by rw[h];rfl,?_,?_⟩
  · intro b a
    cases a
  · intro u e
    cases e
theorem SH {m s cap:Nat} {e:TypeId} {p:Option Addr} {cs:List Value} (a:w.ownsRow base e s (.slice p m cap) m cs) (f:n<=base):FrP n p:=fun b h=>dL f (a.lt b.block (by rw[h];rfl)).1
theorem Eu {u u':World} {v:Value} {cs:List Value} (t:Nf) (q:Option Addr) (a c:Nat) (j:Below base u u') (A:u'.ownsRow base 106 5 v n cs) (H:n<=100) (B:base<=u'.heap.size) :
    ∃v5 f,(Builtin.append_ #[54,54] 54 #[v,.slice (some (u'.heap.size,0)) 1 1]).run prog (u'.alloc (.cells #[t.fr,t.li,t.ep,.bool t.cl,.slice q a c] 106))=.ok v5 f/\f.ownsRow base 106 5 v5 (n+1) (cs++oU t (.slice q a c))/\Below base u f/\(∀b,b < u'.heap.size->v.ownBlock≠some b->f.heap[b]? = u'.heap[b]?):=by
  obtain⟨D,E,m,o,p⟩:=lu Tryz.I8;have k:=aB u' (.cells #[t.fr,t.li,t.ep,.bool t.cl,.slice q a c] 106);have s:(u'.alloc (.cells #[t.fr,t.li,t.ep,.bool t.cl,.slice q a c] 106)).ownsRow base 106 5 v n cs:=jf A (ay.of (l:=[]) k) sM;have h:=dL B k.size;have F:∀x ∈ oU t (.slice q a c),x.oneCell'=true:=fun x C=>by
    simp only[oU,dI,eY,fA]at C;rcases C with rfl | rfl | rfl | rfl | rfl <;> rfl
  obtain⟨v5,f,hr,y,i,_,_⟩:=BX (P := prog) (u'.alloc (.cells #[t.fr,t.li,t.ep,.bool t.cl,.slice q a c] 106)) base 54 54 106 D _ 5 56 Tryz.underlying54 E m o p rfl dC v n cs s ⟨u'.heap.size,0,none⟩ 1 1 (oU t (.slice q a c)) rfl (D7 u' t _) F (by unfold maxLen;omega) om h;refine⟨v5,f,hr,y,(j.trans (k.mono B)).grown i h (fun q G=>(A.lt _ G).1),fun b j z=>?_⟩;exact(i.block b (ji j k.size) (fun e=>z e.symm)).trans (k.block b j)
theorem Jg.tcR {p:Option Addr} {T:Tb} {L:List Nat} (h:Jg w p T L):vJ w p (L.map fun (j:Nat)=>(⟨(j:Int),T j⟩:Tc)):=fun i x f=>by
  rw[kK]at f;obtain⟨s,l,rfl⟩:=Option.map_eq_some_iff.1 f;obtain⟨g,e,m⟩:=h i s l;have a:∀k,k < 10->w.cell? ⟨g,0+i * 10+k,none⟩=some (.int .i64 ((T s).get s k)):=fun k o=>by rw[fE];exact m k o
  exact⟨g,0,e,⟨a 0 om,a 1 om,a 2 om,a 3 om,a 4 om,a 5 om,a 6 om,a 7 om,a 8 om,a 9 om⟩⟩
theorem afp {x:No} {a:Bool} (f:x.lg=0) (h:x.tk1.ro.ac=true) (i:fr=(x.ro.rings && decide (x.au.ro.oM=0))) (k:x.tk1.due=a) :
    x.pO=(if fr || a then [(⟨x.tk1.id,x.tk1.life,x.tk1.ro.ep,true,[]⟩:Nf)] else [])++(if a then [(⟨x.tk1.id,x.tk1.life,x.tk1.ro.ep,false,(Fz x.tk1.T x.tk1.D x.tk1.cu).map fun (j:Nat)=>(⟨(j:Int),x.tk1.T j⟩:Tc)⟩:Nf)] else []):=by
  have e:fr=!x.ro.ac:=by rw[aer f i,h];rfl
  unfold No.pO No.dN No.notes;rw[aj f,h,k,<- e];simp only[mV]
  cases fr <;> cases a <;> rfl
theorem um.one {x:No} (A:n<=base) {v:Value} {t:Nf} (h:x.pO=[t]) (k:t.cs=[]) (s:w.ownsRow base 106 5 v 1 (oU t (.slice none 0 0))):um w n x v:=by
  have z:=Si (w:=w) (B:=base) (e := 106) (v:=v) (l:=x.pO) (us:=[.slice none 0 0]) (by rw[h];simpa [gW] using s) (fun r hr=>by
    rw[h]at hr;simp only[gW,aeL,List.zipWith_nil_right,jA]at hr;subst hr;exact⟨rfl,fun u o=>by simp only[oU,dI,eY,fA]at o;rcases o with rfl | rfl | rfl | rfl | rfl <;> rfl⟩) (fun j t' f=>by
    rw[h]at f;match j,f with
    | 0,f =>
      obtain rfl:t=t':=by simpa using f
      exact⟨none,0,by rw[k];rfl⟩)
  obtain⟨p,cap,rfl,hr⟩:=z;refine⟨p,cap,[.slice none 0 0],rfl,hr,fun j t' f=>?_,by rw[h];rfl,SH (m:=1) (by rw[h]at s;exact s) A,fun u o q a c e b C=>?_⟩;rotate_left
  · rw[jA.1 o]at e
    cases e
    cases C
  rw[h]at f;match j,f with
  | 0,f =>
    obtain rfl:t=t':=by simpa using f
    exact⟨none,0,by rw[k];rfl,by rw[k];exact fun i y D=>by simp at D,by rw[k];exact jY _⟩
theorem um.two {x:No} (D:n<=base) {v:Value} {t t2:Nf} {p:Option Addr} {cp:Nat} (E:FrP n p) (h:x.pO=[t,t2]) (o:t.cs=[]) (A:t2.cs.length=8) (F:vJ w p t2.cs) (s:w.ownsRow base 106 5 v 2 (oU t (.slice none 0 0)++oU t2 (.slice p 8 cp))):um w n x v:=by
  have z:=Si (w:=w) (B:=base) (e := 106) (v:=v) (l:=x.pO) (us:=[.slice none 0 0,.slice p 8 cp]) (by rw[h];simpa [gW] using s) (fun r hr=>by
    rw[h]at hr;simp only[gW,aeL,List.zipWith_nil_right,dI,eY,fA]at hr;rcases hr with rfl | rfl
    · exact⟨rfl,fun u k=>by simp only[oU,dI,eY,fA]at k;rcases k with rfl | rfl | rfl | rfl | rfl <;> rfl⟩
    · exact⟨rfl,fun u k=>by simp only[oU,dI,eY,fA]at k;rcases k with rfl | rfl | rfl | rfl | rfl <;> rfl⟩) (fun j t' f=>by
    rw[h]at f;match j,f with
    | 0,f =>
      obtain rfl:t=t':=by simpa using f
      exact⟨none,0,by rw[o];rfl⟩
    | 1,f =>
      obtain rfl:t2=t':=by simpa using f
      exact⟨p,cp,by rw[A];rfl⟩)
  obtain⟨G,cap,rfl,hr⟩:=z;refine⟨G,cap,[.slice none 0 0,.slice p 8 cp],rfl,hr,fun j t' f=>?_,by rw[h];rfl,SH (m:=2) (by rw[h]at s;exact s) D,fun u k q a c e b C=>?_⟩;rotate_left
  · simp only[dI,eY,fA]at k
    rcases k with rfl | rfl
    · cases e;cases C
    · cases e;exact E b C
  rw[h]at f;match j,f with
  | 0,f =>
    obtain rfl:t=t':=by simpa using f
    exact⟨none,0,by rw[o];rfl,by rw[o];exact fun i y H=>by simp at H,by rw[o];exact jY _⟩
  | 1,f =>
    obtain rfl:t2=t':=by simpa using f
    exact⟨p,cp,by rw[A];rfl,F,by omega⟩
section
variable {w0 w w':World} {r:fC} {x:No} {q:Ro} {lo i:Int} {m:Nat}
theorem bH.RH (h:bH w0 w r x q lo i m) (v:Int):bH w0 (w.setCell (r.nd,1) v) r {x with now:=v} q lo i m/\ay r.all w (w.setCell (r.nd,1) v):=by
  have c:aC r.nd w (w.setCell (r.nd,1) v):=aC.set _ _ _ _;have s:ay [r.nd] w (w.setCell (r.nd,1) v):=ay.one c sM;have u:∀b ∈ [r.nd],w0.heap.size<=b:=fun b f=>by rw[jA.1 f];exact h.g0 _ r.tK
  have e:∀(j:Nat) (b:Nat),r.all[j]? = some b->j≠0->(w.setCell (r.nd,1) v).heap[b]? = w.heap[b]? := fun j b f k=>c.block b (h.blk b (kW f)) (fC.df h.ds j 0 f rfl k);obtain⟨lv,y,l,o,p⟩:=h.yb;have a:∀j,j≠1->(w.setCell (r.nd,1) v).cell? ⟨r.nd,j,none⟩=w.cell? ⟨r.nd,j,none⟩:=fun j k=>lT _ _ _ _ (by simp <;> omega);refine⟨⟨⟨(a 0 om).trans h.nd.b0,WO w _ _ (by rw[h.nd.b1];rfl),(a 2 om).trans h.nd.b2,(a 3 om).trans h.nd.b3,(a 4 om).trans h.nd.b4,(a 5 om).trans h.nd.b5,(a 6 om).trans h.nd.b6,(a 7 om).trans h.nd.b7,fun j k=>(xB _ _ _ _).trans (h.nd.fr j k)⟩,?_,h.sm,⟨lv,?_,l,o,p⟩,?_,h.lf,h.len,h.tb.gZ (e 4 _ rfl om) (e 5 _ rfl om),h.vs,h.te.gZ (e 6 _ rfl om) (e 7 _ rfl om),h.cu,h.mi.gZ (e 8 _ rfl om) (e 9 _ rfl om),h.ru' s u,h.rl,h.rb,h.ds,h.g0,h.id,h.bl' s u⟩,ay.one c r.tK⟩
  · unfold dJ;rw[e 3 _ rfl om];exact h.ro
  · unfold fG;rw[e 2 _ rfl om];exact y
  · unfold og;rw[e 1 _ rfl om];exact h.ce
theorem bH.more (h:bH w0 w r x q lo i m) {n:Nat} (a:m<=n):bH w0 w r x q lo i n:={h with vs:=h.vs.more a}
theorem bH.MJ (h:bH w0 w r x q lo i m):w.cell? (r.ce,3)=x.life:=by
  rw[h.lf];exact(aP w r.ce 3 _ _ _ h.ce).trans rfl
end
theorem aax {w0:World} {r:fC} {x:No} {q:Ro} {lo i:Int} {m:Nat} (h:bH w0 w r x q lo i m) (h0:0<=x.now) (h1:x.now<=999999999) (W:m<=90000000) (hi:i<=1000000) (ZC : -900000000<=lo) :
    Calls prog 63 #[.pointer (some (r.nd,0))] w fun e w'=>(∃v,e=.returned (.tuple #[v,.int .i64 (x.lg:Nat)])/\um w' w x v)/\(∃q' a,lo - 20<=a/\bH w0 w' r x.tick q' a (i+1) (m+33))/\ay r.all w w':=by
  have HN:Hid (bH w0 w r x q lo i m):=h;have HW:Hid (0<=x.now/\x.now<=999999999/\m<=90000000/\i<=1000000 /\ -900000000<=lo):=⟨h0,h1,W,hi,ZC⟩;have b1:=h.nd.b1;have f1:=h.nd.fr 1 om;have k0:=h.blk _ r.tK;have Zp:¬(1099511627776:Int)<=x.now:=by omega
  have hw:IntKind.i64.wrap (x.now+1)=x.now+1:=by rw[iI];omega
  clear h h0 h1 W hi ZC;go_enter func63,ntmps63;go_wp2_with fail;have N1:Hid (bH w0 (w.setCell (r.nd,1) (.int .i64 (x.now+1))) r {x with now:=x.now+1} q lo i m):=(HN.RH _).1;have K1:Hid (ay r.all w (w.setCell (r.nd,1) (.int .i64 (x.now+1)))):=(HN.RH _).2;clear b1 f1 Zp hw k0;generalize w.setCell (r.nd,1) (.int .i64 (x.now+1))=w1 at *;have H:w1.drew.cell? (r.nd,4)=some (.pointer (some (r.tb,0)))/\w1.drew.cell? (r.nd,1)=some (.int .i64 (x.now+1)):=⟨N1.nd.b4,N1.nd.b1⟩;have D1:Hid (bH w0 w1.drew r {x with now:=x.now+1} q lo i m):=N1.below bD;go_region_held3 (fun w'=>w'.cell? (r.nd,4)=some (.pointer (some (r.tb,0)))/\w'.cell? (r.nd,1)=some (.int .i64 (x.now+1)))
    (first | assumption | exact⟨N2.nd.b4,N2.nd.b1⟩)
    (first | (go_at_call 118;refine(Ql D1 (by have:=HW.out;omega) (x.now+1)).mono ?_;rintro e w2 ⟨⟨v2,rfl⟩,n2,k2⟩;have N2:Hid (bH w0 w2 r {x with now:=x.now+1,T:=jF x.T (x.now+1) 32} q lo i (m+1)):=n2;have K2:Hid (ay r.all w w2):=(K1.trans (ay.of bD)).trans k2;clear n2 k2))
  clear H D1;have b3:=N2.nd.b3;go_wp2_with fail;refine(Vo N2 HW.2.2.2.1).mono ?_;rintro e w3 ⟨rfl,n3,k3⟩;have N3:Hid (bH w0 w3 r x.au q.lC lo (i+1) (m+1)):=n3;have K3:Hid (ay r.all w w3):=K2.trans k3;clear n3 k3 N1 K1 N2 K2 b3;obtain⟨rg,hr⟩:∃rg,x.ro.rings=rg:=⟨_,rfl⟩;have K:Hid (x.ro.rings=rg):=hr;simp only[hr];clear hr;go_upto_if 40 with fail
  go_cut [4] (fun t wx=>x.lg=0/\∃(fr:Bool) (q':Ro) (a:Int) (m':Nat),t=.bool fr/\fr=(x.ro.rings && decide (x.au.ro.oM=0))/\lo - 20<=a/\m'<=m+33/\bH w0 wx r x.tk1 q' a (i+1) m'/\ay r.all w wx)
  case first =>
    cases rg
    · have l:Hid (x.lg=0):=by show _=_;unfold No.lg;rw[K.out];rfl
      have HT:Hid (x.tk1=x.au):=by show _=_;unfold No.tk1;rw[K.out];rfl
      go_wp2_with fail;go_meet
      case rel=>exact⟨l,false,q.lC,lo,m+1,rfl,by rw[K.out];rfl,by omega,by omega,by rw[HT.out];exact N3,K3⟩
    · have HC:Hid (x.tk1=x.au.rP/\x.lg=x.au.mM):=by
        constructor
        · unfold No.tk1;rw[K.out];rfl
        · unfold No.lg;rw[K.out];rfl
      have b3:=N3.nd.b3;go_wp2_with fail;refine(Vp N3).mono ?_;rintro e w4 ⟨rfl,ZE⟩;obtain rfl:=ZE.symm;clear ZE;by_cases M:x.au.ro.oM=0
      rotate_left
      · have l:Hid (x.lg=0):=by show _=_;rw[HC.2];unfold No.mM;rw[ak M]
        have HT:Hid (x.tk1=x.au):=by show _=_;rw[HC.1];unfold No.rP;rw[ak M]
        have N:Hid (¬x.au.ro.oM=0):=M;have hnq:(((x.au.ro.oM:Nat):Int)==0)=false:=dG.2 om;clear M;go_wp2_with fail;go_meet
        case rel=>exact⟨l,false,q.lC,lo,m+1,rfl,by rw[K.out,gQ N.out];rfl,by omega,by omega,by rw[HT.out];exact N3,K3⟩
      · rw[M]
        have N:Hid (x.au.ro.oM=0):=M;clear M b3;obtain⟨nv,Zq⟩:∃nv,x.au.ro.jQ=nv:=⟨_,rfl⟩;have ZF:Hid (x.au.ro.jQ=nv):=Zq;rw[Zq];clear Zq;go_wp2_with fail;have H:w3.drew.cell? (r.nd,2)=some (.pointer (some (r.ce,0)))/\w3.drew.cell? (r.ce,3)=x.au.life:=⟨N3.nd.b2,N3.MJ⟩;have D3:Hid (bH w0 w3.drew r x.au q.lC lo (i+1) (m+1)):=N3.below bD;have ZG:Hid (x.au.cp=bn x.au.off x.au.y nv x.au.life):=by show _=_;unfold No.cp;rw[ZF.out]
        go_region_held3 (fun w'=>w'.cell? (r.nd,2)=some (.pointer (some (r.ce,0)))/\w'.cell? (r.ce,3)=x.au.life)
          (first | assumption | exact⟨N4.nd.b2,N4.MJ⟩)
          (first | (go_at_call 36;refine(aau D3 HW.2.2.2.2 nv).mono ?_;rintro e w4 ⟨rfl,n4,k4⟩;rw[<- ZG.out]at n4;have N4:Hid (bH w0 w4 r {x.au with y:=x.au.cp.2.1,off:=x.au.cp.2.2} q.lC (lo - 20) (i+1) (m+1)):=n4;have K4:Hid (ay r.all w w4):=(K3.trans (ay.of bD)).trans k4;clear n4 k4))
        rw[<- ZG.out];clear H D3 N3 K3;by_cases O:x.au.cp.1=0
        rotate_left
        · have l:Hid (x.lg=x.au.cp.1/\x.lg≠0):=by
            have e:x.lg=x.au.cp.1:=by rw[HC.2];unfold No.mM;rw[aj N.out]
            exact⟨e,by rw[e];exact O⟩
          have HT:Hid (x.tick={x.au with y:=x.au.cp.2.1,off:=x.au.cp.2.2}):=by
            show _=_;unfold No.tick;rw[ak l.2,HC.1];unfold No.rP;rw[aj N.out,ak O]
          have hgt:(0:Int) < ((x.au.cp.1:Nat):Int):=by omega
          clear O;generalize x.au.cp.1=ce at *;go_wp2_with fail;go_ret2;have HL:x.pO=[]:=by unfold No.pO No.dN;rw[ak l.2];rfl
          exact⟨⟨.slice none 0 0,by rw[l.1];rfl,um.nil HL⟩,⟨q.lC,lo - 20,by omega,by rw[HT.out];exact N4.more om⟩,K4⟩
        · have l:Hid (x.lg=0):=by show _=_;rw[HC.2];unfold No.mM;rw[aj N.out];exact O
          have HT:Hid (x.tk1={x.au with y:=x.au.cp.2.1,off:=x.au.cp.2.2,T:=Aa x.au.now x.au.T (jy x.au.mt 32),ro:=x.au.ro.claim x.au.ro.jQ}):=by
            show _=_;rw[HC.1];unfold No.rP;rw[aj N.out,aj O]
          rw[O];clear O;have b3:=N4.nd.b3;go_wp2_with fail;refine(Qm N4 nv).mono ?_;rintro e o ⟨⟨v5,rfl⟩,n5,k5⟩;have X:Hid (bH w0 o r {x.au with y:=x.au.cp.2.1,off:=x.au.cp.2.2,ro:=x.au.ro.claim nv} (q.lC.claim nv) (lo - 20) (i+1) (m+1)):=n5;have K5:Hid (ay r.all w o):=K4.trans k5;clear n5 k5 N4 K4 b3;have b6:=X.nd.b6;have m1:=X.mi.c1;go_wp2_with fail;refine(Vq X).mono ?_;rintro e w6 ⟨⟨v,rfl,ho⟩,Zr⟩;have F6:Hid (Wx w6 v (jy x.au.mt 32) r.all):=Wx.pF ho (fun b C=>X.blk b C);have N6:Hid (bH w0 w6 r {x.au with y:=x.au.cp.2.1,off:=x.au.cp.2.2,ro:=x.au.ro.claim nv} (q.lC.claim nv) (lo - 20) (i+1) (m+1)):=X.below Zr;have K6:Hid (ay r.all w w6):=K5.trans (ay.of Zr);have Zt:Hid ((jy x.au.mt 32).length<=32):=mO _ _;clear ho Zr X K5 b6 m1;generalize ZH:jy x.au.mt 32=L at *;have HLE:Hid (jy x.au.mt 32=L):=ZH;clear ZH;obtain⟨p,cap,rfl,_⟩:=F6.out;go_wp2_with fail;go_loopw [10,11] (fun t _ wr=>∃j:Nat,j<=L.length/\t=.int .i64 j/\bH w0 wr r {x.au with y:=x.au.cp.2.1,off:=x.au.cp.2.2,ro:=x.au.ro.claim nv,T:=Aa x.au.now x.au.T (L.take j)} (q.lC.claim nv) (lo - 20) (i+1) (m+1+j)/\ay r.all w wr/\Wx wr (.slice p L.length cap) L r.all) (fun t _ _=>L.length - (intOf t).toNat)
          case atStart=>exact⟨0,by omega,rfl,N6,K6,F6⟩
          case round =>
            obtain⟨j,hj,rfl,S,Y,hf⟩:=hrel;have f:Hid (bH w0 wr r {x.au with y:=x.au.cp.2.1,off:=x.au.cp.2.2,ro:=x.au.ro.claim nv,T:=Aa x.au.now x.au.T (L.take j)} (q.lC.claim nv) (lo - 20) (i+1) (m+1+j)):=S;have P:Hid (ay r.all w wr):=Y;have FR:Hid (Wx wr (.slice p L.length cap) L r.all):=hf;clear S Y hf N6 K6 F6;by_cases Zp:j < L.length
            · obtain⟨p',ZY,hv,ZI⟩:=FR.out
              injection hv with hp1 hp2 hp3;subst hp1;obtain⟨c,hc⟩:∃c,c=L[j]:=⟨_,rfl⟩;have ZJ:Hid (L[j]? = some c):=by show _=_;rw[hc];exact fD Zp
              obtain⟨g,ZT,hgn,I⟩:=ZI j c ZJ;clear hc ZI hp2 hp3;subst ZT;have d0:wr.cell? (g,j * 8)=c.pr:=I 0 _ rfl;have d1:=I 1 _ rfl;have d2:=I 2 _ rfl;have d3:=I 3 _ rfl;have d4:=I 4 _ rfl;have d5:=I 5 _ rfl;have d6:=I 6 _ rfl;have d7:=I 7 _ rfl;clear I;have i0:(0:Int)<=(j:Int):=by omega
              have i1:(j:Int) < (L.length:Int):=by omega
              go_wp2_with fail;clear d0 d1 d2 d3 d4 d5 d6 d7;have B2:Hid (Below wr wr (wr.alloc (.cells #[c.pr,c.ia,c.ip,c.fa,c.fp,c.po,c.st,c.un] 115))):=aB _ _;have Q2:Hid (kR (wr.alloc (.cells #[c.pr,c.ia,c.ip,c.fa,c.fp,c.po,c.st,c.un] 115)) wr c):=kR.new wr c;generalize wr.alloc (.cells #[c.pr,c.ia,c.ip,c.fa,c.fp,c.po,c.st,c.un] 115)=w7 at *;have HG:Hid (wr.heap.size<=wr.heap.size):=bJ _;generalize hq:wr.heap.size=F at Q2 HG ⊢;have J:Hid (¬F ∈ r.all):=fun W=>by have:=f.blk _ W;omega
              have HU:Hid (Aa x.au.now x.au.T (L.take (j+1))=(ku (Aa x.au.now x.au.T (L.take j)) c.pr c.ia c.ip c.fa c.fp c.po c.st (x.au.now+stay c.pr c.st)).2.2):=by
                show _=_;rw[xE,ZJ.out];exact Dz _ _ _ _
              have G:Hid (bH w0 w7 r {x.au with y:=x.au.cp.2.1,off:=x.au.cp.2.2,ro:=x.au.ro.claim nv,T:=Aa x.au.now x.au.T (L.take j)} (q.lC.claim nv) (lo - 20) (i+1) (m+1+j)):=f.below B2;have ZU:=Bg c.pr c.st;have ZV:IntKind.i64.wrap (x.au.now+stay c.pr c.st)=x.au.now+stay c.pr c.st:=by
                have:=HW.out;have e:x.au.now=x.now+1:=rfl;rw[iI];omega
              have ZW:Hid (∀u,Calls prog 71 #[c.pr,c.st] u fun e w'=>e=.returned (.int .i64 (stay c.pr c.st))/\w'=u):=fun u=>wY c.pr c.st u;go_cut [100] (fun _ wx=>Below wr wr wx/\kR wx F {c with un:=x.au.now+stay c.pr c.st})
              case first =>
                have n1:w7.drew.cell? (r.nd,1)=x.au.now:=G.nd.b1;have y0:w7.drew.cell? (F,0)=c.pr:=Q2.b.c0;have y6:w7.drew.cell? (F,6)=c.st:=Q2.b.c6;have y7:w7.drew.cell? (F,7)=c.un:=Q2.b.c7;have f7:w7.drew.frozen? (F,7)=false:=Q2.fr 7;go_region_with (go_at_call 71;refine(ZW _).mono ?_;rintro e w8 ⟨rfl,rfl⟩)
                all_goals (go_wp2_with fail)
                all_goals go_meet
                all_goals exact⟨aC.below (t2 B2 bD) (aC.set F 7 _ _) om,(Q2.below bD).un7 _⟩
              case rest =>
                obtain⟨ZK,ZL⟩:=hcut;have B8:Hid (Below wr wr wc):=ZK;have Q8:Hid (kR wc F {c with un:=x.au.now+stay c.pr c.st}):=ZL;clear ZK ZL Q2 B2 G ZV ZU;have N8:Hid (bH w0 wc r {x.au with y:=x.au.cp.2.1,off:=x.au.cp.2.2,ro:=x.au.ro.claim nv,T:=Aa x.au.now x.au.T (L.take j)} (q.lC.claim nv) (lo - 20) (i+1) (m+1+j)):=f.below B8;obtain⟨un,ZM⟩:∃un,x.au.now+stay c.pr c.st=un:=⟨_,rfl⟩;rw[ZM]at Q8 HU;clear ZM;go_wp2_with fail;have H:wc.drew.cell? (r.nd,4)=some (.pointer (some (r.tb,0)))/\wc.drew.cell? (F,0)=c.pr/\wc.drew.cell? (F,1)=c.ia/\wc.drew.cell? (F,2)=c.ip/\wc.drew.cell? (F,3)=c.fa/\wc.drew.cell? (F,4)=c.fp/\wc.drew.cell? (F,5)=c.po/\wc.drew.cell? (F,6)=c.st/\wc.drew.cell? (F,7)=un:=⟨N8.nd.b4,Q8.b.c0,Q8.b.c1,Q8.b.c2,Q8.b.c3,Q8.b.c4,Q8.b.c5,Q8.b.c6,Q8.b.c7⟩;have D8:Hid (bH w0 wc.drew r {x.au with y:=x.au.cp.2.1,off:=x.au.cp.2.2,ro:=x.au.ro.claim nv,T:=Aa x.au.now x.au.T (L.take j)} (q.lC.claim nv) (lo - 20) (i+1) (m+1+j)):=N8.below bD;go_region_held3 (fun w'=>w'.cell? (r.nd,4)=some (.pointer (some (r.tb,0)))/\w'.cell? (F,0)=c.pr/\w'.cell? (F,1)=c.ia/\w'.cell? (F,2)=c.ip/\w'.cell? (F,3)=c.fa/\w'.cell? (F,4)=c.fp/\w'.cell? (F,5)=c.po/\w'.cell? (F,6)=c.st/\w'.cell? (F,7)=un)
                  (first | assumption | exact⟨N9.nd.b4,K9.keeps J H.2.1,K9.keeps J H.2.2.1,K9.keeps J H.2.2.2.1,K9.keeps J H.2.2.2.2.1,K9.keeps J H.2.2.2.2.2.1,K9.keeps J H.2.2.2.2.2.2.1,K9.keeps J H.2.2.2.2.2.2.2.1,K9.keeps J H.2.2.2.2.2.2.2.2⟩)
                  (first | (go_at_call 122;refine(aav D8 (by have:=HW.out;have:=Zt.out;omega) {c with un:=un}).mono ?_;rintro e w9 ⟨⟨v9,rfl⟩,n9,k9⟩;have Zu:bH w0 w9 r {x.au with y:=x.au.cp.2.1,off:=x.au.cp.2.2,ro:=x.au.ro.claim nv,T:=(ku (Aa x.au.now x.au.T (L.take j)) c.pr c.ia c.ip c.fa c.fp c.po c.st un).2.2} (q.lC.claim nv) (lo - 20) (i+1) (m+1+j+1):=n9;rw[<- HU.out]at Zu;have N9:Hid (bH w0 w9 r {x.au with y:=x.au.cp.2.1,off:=x.au.cp.2.2,ro:=x.au.ro.claim nv,T:=Aa x.au.now x.au.T (L.take (j+1))} (q.lC.claim nv) (lo - 20) (i+1) (m+1+(j+1))):=Zu;have K9:Hid (ay r.all wc.drew w9):=k9;clear n9 Zu k9))
                have F9:Hid (Wx w9 (.slice (some (g,0)) L.length cap) L r.all):=((FR.dO (ay.of B8.out)).dO (ay.of bD)).dO K9;have X9:Hid (ay r.all w w9):=((P.then B8).then bD).trans K9;clear H D8;have hll:=Zt.out;go_wp2_with fail;go_roundw
                case rel=>exact⟨j+1,by omega,by go_num,N9,X9,F9⟩
                case measure=>simp[intOf];omega
            · obtain rfl:j=L.length:=by omega
              rw[xH]at f;go_wp2_with fail;go_meet
              case rel=>exact⟨l,true,q.lC.claim nv,lo - 20,m+1+L.length,rfl,by rw[K.out,gG N.out];rfl,by omega,by have:=Zt.out;omega,by rw[HT.out,ZF.out];exact f,P⟩
  case rest =>
    obtain⟨hE,fr,q',a,m',rfl,U,Zn,ZN,S,Y⟩:=hcut;have l:Hid (x.lg=0/\fr=(x.ro.rings && decide (x.au.ro.oM=0))/\lo - 20<=a/\m'<=m+33):=⟨hE,U,Zn,ZN⟩;have f:Hid (bH w0 wc r x.tk1 q' a (i+1) m'):=S;have P:Hid (ay r.all w wc):=Y;clear hE U Zn ZN S Y N3 K3;have b3:=f.nd.b3;have a3:=f.ro.c3;rw[f.sm.ac]at a3;have b1:=f.nd.b1;obtain⟨ac,Zv⟩:∃ac,x.tk1.ro.ac=ac:=⟨_,rfl⟩;have Z:Hid (x.tk1.ro.ac=ac):=Zv;rw[Zv]at a3;obtain⟨du,Zw⟩:∃du,x.tk1.due=du:=⟨_,rfl⟩;have ZO:Hid (x.tk1.due=du):=Zw;have hdq:(x.tk1.now.tmod 3==0)=du:=by rw[<- Zw,aeF (by rw[adw];have:=HW.out;omega)];unfold No.due;by_cases h:x.tk1.now % 3=0 <;> simp[h]
    clear Zv Zw
    cases ac
    · have ZX:Hid (fr=false):=aaw l.1 l.2.1 Z
      have U:=ZX.out;subst U;have HX:Hid (x.tick=x.tk1/\x.dN=[]):=by
        constructor
        · unfold No.tick No.noted;rw[aj l.1,Z.out];rfl
        · unfold No.dN No.notes;rw[aj l.1,Z.out];rfl
      go_wp2_with fail;go_ret2;have HL:x.pO=[]:=by unfold No.pO;rw[HX.2];rfl
      exact⟨⟨.slice none 0 0,by rw[l.1];rfl,um.nil HL⟩,⟨q',a,l.2.2.1,by rw[HX.1];exact f.more l.2.2.2⟩,P⟩
    · have b0:=f.nd.b0
      have b2:=f.nd.b2;have b5:=f.nd.b5;have lf:=f.MJ;have e1:=f.ro.c1;rw[f.sm.ep]at e1;have ZP:=afp l.1 Z l.2.1 ZO;have Zl:Hid (x.pO=(if fr || du then [(⟨x.tk1.id,x.tk1.life,x.tk1.ro.ep,true,[]⟩:Nf)] else [])++(if du then [(⟨x.tk1.id,x.tk1.life,x.tk1.ro.ep,false,(Fz x.tk1.T x.tk1.D x.tk1.cu).map fun (j:Nat)=>(⟨(j:Int),x.tk1.T j⟩:Tc)⟩:Nf)] else [])):=ZP;clear ZP;have Zm:Hid (x.tick=if du then {x.tk1 with D:=jD x.tk1.T x.tk1.D (Fz x.tk1.T x.tk1.D x.tk1.cu),cu:=nxC x.tk1.T x.tk1.D x.tk1.cu} else x.tk1):=by
        show _=_;unfold No.tick No.noted;rw[aj l.1,Z.out,ZO.out];rfl
      cases fr <;> cases du
      · go_wp2_with fail
        go_ret2;exact⟨⟨.slice none 0 0,by rw[l.1];rfl,um.nil Zl⟩,⟨q',a,l.2.2.1,by rw[Zm.out];exact f.more l.2.2.2⟩,P⟩
      all_goals
        go_wp2_with fail;obtain⟨v5,o,hr,ZQ,ZR,_⟩:=Eu (u:=wc) (u':=wc.drew) (base:=wc.heap.size) (v:=.slice none 0 0) (n:=0) (cs:=[]) ⟨x.tk1.id,x.tk1.life,x.tk1.ro.ep,true,[]⟩ none 0 0 bD (ql _ _ _ _) om nL;have O5:Hid (o.ownsRow wc 106 5 v5 1 (oU ⟨x.tk1.id,x.tk1.life,x.tk1.ro.ep,true,[]⟩ (.slice none 0 0))):=ZQ;have Q:Hid (Below wc wc o):=ZR;clear ZQ ZR;have s0:wc.drew.cell? (r.nd,0)=x.tk1.id/\wc.drew.cell? (r.nd,2)=some (.pointer (some (r.ce,0)))/\wc.drew.cell? (r.ce,3)=x.tk1.life/\wc.drew.cell? (r.nd,3)=some (.pointer (some (r.ro,0)))/\wc.drew.cell? (r.ro,1)=x.tk1.ro.ep:=⟨b0,b2,lf,b3,e1⟩;have k1:=aB wc.drew (.cells #[x.tk1.id,x.tk1.life,x.tk1.ro.ep,.bool true,.slice none 0 0] 106);have s1:(wc.drew.alloc (.cells #[x.tk1.id,x.tk1.life,x.tk1.ro.ep,.bool true,.slice none 0 0] 106)).cell? (r.nd,0)=x.tk1.id/\(wc.drew.alloc (.cells #[x.tk1.id,x.tk1.life,x.tk1.ro.ep,.bool true,.slice none 0 0] 106)).cell? (r.nd,2)=some (.pointer (some (r.ce,0)))/\(wc.drew.alloc (.cells #[x.tk1.id,x.tk1.life,x.tk1.ro.ep,.bool true,.slice none 0 0] 106)).cell? (r.ce,3)=x.tk1.life/\(wc.drew.alloc (.cells #[x.tk1.id,x.tk1.life,x.tk1.ro.ep,.bool true,.slice none 0 0] 106)).cell? (r.nd,3)=some (.pointer (some (r.ro,0)))/\(wc.drew.alloc (.cells #[x.tk1.id,x.tk1.life,x.tk1.ro.ep,.bool true,.slice none 0 0] 106)).cell? (r.ro,1)=x.tk1.ro.ep:=⟨tk k1 b0,tk k1 b2,tk k1 lf,tk k1 b3,tk k1 e1⟩;have s2:o.cell? (r.nd,0)=x.tk1.id/\o.cell? (r.nd,2)=some (.pointer (some (r.ce,0)))/\o.cell? (r.ce,3)=x.tk1.life/\o.cell? (r.nd,3)=some (.pointer (some (r.ro,0)))/\o.cell? (r.ro,1)=x.tk1.ro.ep:=⟨tk Q b0,tk Q b2,tk Q lf,tk Q b3,tk Q e1⟩;go_region_held3 (fun w'=>w'.cell? (r.nd,0)=x.tk1.id/\w'.cell? (r.nd,2)=some (.pointer (some (r.ce,0)))/\w'.cell? (r.ce,3)=x.tk1.life/\w'.cell? (r.nd,3)=some (.pointer (some (r.ro,0)))/\w'.cell? (r.ro,1)=x.tk1.ro.ep) (first | exact s0 | exact s1 | exact s2) (first | (refine Eq.mpr (aj kr) ?_;refine dM (Operand.tmp 127) (Operand.tmp 147) 54 rfl _ _ _ o rfl rfl hr ?_))
        go_wp2_with fail
      · skip
        obtain⟨V,c5,rfl⟩:∃V c5,v5=.slice V 1 c5:=by
          rcases aJ O5 with⟨_,e0⟩ | ⟨g',c',e,_⟩
          · cases e0
          · exact⟨_,_,e⟩
        have X:Hid (bH w0 o.drew r x.tk1 q' a (i+1) m'):=(f.below Q).below bD;have H:o.drew.cell? (r.nd,0)=x.tk1.id/\o.drew.cell? (r.nd,2)=some (.pointer (some (r.ce,0)))/\o.drew.cell? (r.ce,3)=x.tk1.life/\o.drew.cell? (r.nd,3)=some (.pointer (some (r.ro,0)))/\o.drew.cell? (r.ro,1)=x.tk1.ro.ep/\o.drew.cell? (r.nd,5)=some (.pointer (some (r.te,0))):=⟨s2.1,s2.2.1,s2.2.2.1,s2.2.2.2.1,s2.2.2.2.2,X.nd.b5⟩;clear s0 s1 s2 k1 hr b0 b1 b2 b3 b5 lf e1 a3;go_region_held3 (fun w'=>w'.cell? (r.nd,0)=x.tk1.id/\w'.cell? (r.nd,2)=some (.pointer (some (r.ce,0)))/\w'.cell? (r.ce,3)=x.tk1.life/\w'.cell? (r.nd,3)=some (.pointer (some (r.ro,0)))/\w'.cell? (r.ro,1)=x.tk1.ro.ep/\w'.cell? (r.nd,5)=some (.pointer (some (r.te,0))))
          (first | exact H | exact A | exact t8 | exact t9)
          (first
            | (go_at_call 123;refine(G8 X).mono ?_;rintro e w7 ⟨⟨B,c7,rfl,Zg,Zh⟩,n7,k7⟩;have R7:Hid (Jg w7 B x.tk1.T (Fz x.tk1.T x.tk1.D x.tk1.cu)/\FrP o B):=⟨Zg,Zh⟩;have G:Hid (bH w0 w7 r {x.tk1 with D:=jD x.tk1.T x.tk1.D (Fz x.tk1.T x.tk1.D x.tk1.cu),cu:=nxC x.tk1.T x.tk1.D x.tk1.cu} q' a (i+1) m'):=n7;have K7:Hid (ay r.all o w7):=(ay.of bD).trans k7;clear Zg Zh n7 k7;have R:=G.ro.c1;rw[G.sm.ep]at R;have A:w7.cell? (r.nd,0)=x.tk1.id/\w7.cell? (r.nd,2)=some (.pointer (some (r.ce,0)))/\w7.cell? (r.ce,3)=x.tk1.life/\w7.cell? (r.nd,3)=some (.pointer (some (r.ro,0)))/\w7.cell? (r.ro,1)=x.tk1.ro.ep/\w7.cell? (r.nd,5)=some (.pointer (some (r.te,0))):=⟨G.nd.b0,G.nd.b2,G.MJ,G.nd.b3,R,G.nd.b5⟩;clear R;obtain⟨v9,w9,hr,Zi,Zj,Zk⟩:=Eu (u:=w7) (u':=w7) (base:=wc.heap.size) (v:=.slice V 1 c5) (n:=1) ⟨x.tk1.id,x.tk1.life,x.tk1.ro.ep,false,[]⟩ B 8 c7 bR (jf O5 K7 (fun b C=>f.blk b C)) om (dL Q.size K7.size);have O9:Hid (w9.ownsRow wc 106 5 v9 2 (oU ⟨x.tk1.id,x.tk1.life,x.tk1.ro.ep,true,[]⟩ (.slice none 0 0)++oU ⟨x.tk1.id,x.tk1.life,x.tk1.ro.ep,false,[]⟩ (.slice B 8 c7))):=Zi;have z:Hid (Below wc w7 w9):=Zj;have X9:Hid (∀b,b < w7.heap.size->(Value.slice V 1 c5).ownBlock≠some b->w9.heap[b]? = w7.heap[b]?):=Zk;clear Zi Zj Zk;have k1:=aB w7 (.cells #[x.tk1.id,x.tk1.life,x.tk1.ro.ep,.bool false,.slice B 8 c7] 106);have t8:(w7.alloc (.cells #[x.tk1.id,x.tk1.life,x.tk1.ro.ep,.bool false,.slice B 8 c7] 106)).cell? (r.nd,0)=x.tk1.id/\(w7.alloc (.cells #[x.tk1.id,x.tk1.life,x.tk1.ro.ep,.bool false,.slice B 8 c7] 106)).cell? (r.nd,2)=some (.pointer (some (r.ce,0)))/\(w7.alloc (.cells #[x.tk1.id,x.tk1.life,x.tk1.ro.ep,.bool false,.slice B 8 c7] 106)).cell? (r.ce,3)=x.tk1.life/\(w7.alloc (.cells #[x.tk1.id,x.tk1.life,x.tk1.ro.ep,.bool false,.slice B 8 c7] 106)).cell? (r.nd,3)=some (.pointer (some (r.ro,0)))/\(w7.alloc (.cells #[x.tk1.id,x.tk1.life,x.tk1.ro.ep,.bool false,.slice B 8 c7] 106)).cell? (r.ro,1)=x.tk1.ro.ep/\(w7.alloc (.cells #[x.tk1.id,x.tk1.life,x.tk1.ro.ep,.bool false,.slice B 8 c7] 106)).cell? (r.nd,5)=some (.pointer (some (r.te,0))):=⟨tk k1 A.1,tk k1 A.2.1,tk k1 A.2.2.1,tk k1 A.2.2.2.1,tk k1 A.2.2.2.2.1,tk k1 A.2.2.2.2.2⟩;have l0:=f.blk _ r.tK;have l1:=f.blk _ r.DC;have l2:=f.blk _ r.vI;have t9:w9.cell? (r.nd,0)=x.tk1.id/\w9.cell? (r.nd,2)=some (.pointer (some (r.ce,0)))/\w9.cell? (r.ce,3)=x.tk1.life/\w9.cell? (r.nd,3)=some (.pointer (some (r.ro,0)))/\w9.cell? (r.ro,1)=x.tk1.ro.ep/\w9.cell? (r.nd,5)=some (.pointer (some (r.te,0))):=⟨(dV (z.block _ l0)).trans A.1,(dV (z.block _ l0)).trans A.2.1,(dV (z.block _ l1)).trans A.2.2.1,(dV (z.block _ l0)).trans A.2.2.2.1,(dV (z.block _ l2)).trans A.2.2.2.2.1,(dV (z.block _ l0)).trans A.2.2.2.2.2⟩;clear l0 l1 l2 k1)
            | (refine Eq.mpr (aj kr) ?_;refine dM (Operand.tmp 150) (Operand.tmp 175) 54 rfl _ _ _ w9 rfl rfl hr ?_))
        clear H A t8 t9 hr;go_wp2_with fail;go_ret2;have hg:∀g,(Value.slice V 1 c5).ownBlock=some g->wc.heap.size<=g:=fun g hg=>(O5.lt g hg).1;have E:ay r.all w w7:=(P.then Q).trans K7;have hf:ay r.all w w9:=⟨z.os.trans E.os,z.tape.trans E.tape,z.out.output.trans E.output,dL E.size z.size,fun b C S=>(z.block b (ji C P.size)).trans (E.block b C S)⟩;have Zx:ay (Value.slice V 1 c5).ownBlock.toList w7 w9:=⟨z.os,z.tape,z.out.output,z.size,fun b C S=>X9.out b C (fun e=>S (by rw[e];simp))⟩;have Zy:bH w0 w9 r {x.tk1 with D:=jD x.tk1.T x.tk1.D (Fz x.tk1.T x.tk1.D x.tk1.cu),cu:=nxC x.tk1.T x.tk1.D x.tk1.cu} q' a (i+1) m':=G.kept Zx (fun b C W=>by
          have h1:=hg b (by simpa using W);have h2:=f.blk b C;omega) (fun b W=>by
          have h1:=hg b (by simpa using W);have h2:=f.bl.size;omega)
        have Zz:vJ w9 B ((Fz x.tk1.T x.tk1.D x.tk1.cu).map fun (j:Nat)=>(⟨(j:Int),x.tk1.T j⟩:Tc)):=Jg.tcR (fun j s hj=>by
          obtain⟨g,e,hc⟩:=R7.1 j s hj;have U:o.heap.size<=g:=R7.2 _ e;refine⟨g,e,fun k Y=>?_⟩;have ZB:g < w7.heap.size:=eF (hc k Y);exact(dV (X9 g ZB (fun e2=>by have:=(O5.lt g e2).2;omega))).trans (hc k Y))
        exact⟨⟨v9,by rw[l.1];rfl,um.two P.size (fun b C=>dL (dL P.size Q.size) (R7.2 b C)) Zl rfl (by rw[vC];exact(uM _ _ _).len) Zz O9⟩,⟨q',a,l.2.2.1,by rw[Zm.out];exact Zy.more l.2.2.2⟩,hf⟩
      · go_ret2
        exact⟨⟨v5,by rw[l.1];rfl,um.one P.size Zl rfl O5⟩,⟨q',a,l.2.2.1,by rw[Zm.out];exact(f.below Q).more l.2.2.2⟩,P.then Q⟩
      · skip
        obtain⟨V,c5,rfl⟩:∃V c5,v5=.slice V 1 c5:=by
          rcases aJ O5 with⟨_,e0⟩ | ⟨g',c',e,_⟩
          · cases e0
          · exact⟨_,_,e⟩
        have X:Hid (bH w0 o.drew r x.tk1 q' a (i+1) m'):=(f.below Q).below bD;have H:o.drew.cell? (r.nd,0)=x.tk1.id/\o.drew.cell? (r.nd,2)=some (.pointer (some (r.ce,0)))/\o.drew.cell? (r.ce,3)=x.tk1.life/\o.drew.cell? (r.nd,3)=some (.pointer (some (r.ro,0)))/\o.drew.cell? (r.ro,1)=x.tk1.ro.ep/\o.drew.cell? (r.nd,5)=some (.pointer (some (r.te,0))):=⟨s2.1,s2.2.1,s2.2.2.1,s2.2.2.2.1,s2.2.2.2.2,X.nd.b5⟩;clear s0 s1 s2 k1 hr b0 b1 b2 b3 b5 lf e1 a3;go_region_held3 (fun w'=>w'.cell? (r.nd,0)=x.tk1.id/\w'.cell? (r.nd,2)=some (.pointer (some (r.ce,0)))/\w'.cell? (r.ce,3)=x.tk1.life/\w'.cell? (r.nd,3)=some (.pointer (some (r.ro,0)))/\w'.cell? (r.ro,1)=x.tk1.ro.ep/\w'.cell? (r.nd,5)=some (.pointer (some (r.te,0))))
          (first | exact H | exact A | exact t8 | exact t9)
          (first
            | (go_at_call 123;refine(G8 X).mono ?_;rintro e w7 ⟨⟨B,c7,rfl,Zg,Zh⟩,n7,k7⟩;have R7:Hid (Jg w7 B x.tk1.T (Fz x.tk1.T x.tk1.D x.tk1.cu)/\FrP o B):=⟨Zg,Zh⟩;have G:Hid (bH w0 w7 r {x.tk1 with D:=jD x.tk1.T x.tk1.D (Fz x.tk1.T x.tk1.D x.tk1.cu),cu:=nxC x.tk1.T x.tk1.D x.tk1.cu} q' a (i+1) m'):=n7;have K7:Hid (ay r.all o w7):=(ay.of bD).trans k7;clear Zg Zh n7 k7;have R:=G.ro.c1;rw[G.sm.ep]at R;have A:w7.cell? (r.nd,0)=x.tk1.id/\w7.cell? (r.nd,2)=some (.pointer (some (r.ce,0)))/\w7.cell? (r.ce,3)=x.tk1.life/\w7.cell? (r.nd,3)=some (.pointer (some (r.ro,0)))/\w7.cell? (r.ro,1)=x.tk1.ro.ep/\w7.cell? (r.nd,5)=some (.pointer (some (r.te,0))):=⟨G.nd.b0,G.nd.b2,G.MJ,G.nd.b3,R,G.nd.b5⟩;clear R;obtain⟨v9,w9,hr,Zi,Zj,Zk⟩:=Eu (u:=w7) (u':=w7) (base:=wc.heap.size) (v:=.slice V 1 c5) (n:=1) ⟨x.tk1.id,x.tk1.life,x.tk1.ro.ep,false,[]⟩ B 8 c7 bR (jf O5 K7 (fun b C=>f.blk b C)) om (dL Q.size K7.size);have O9:Hid (w9.ownsRow wc 106 5 v9 2 (oU ⟨x.tk1.id,x.tk1.life,x.tk1.ro.ep,true,[]⟩ (.slice none 0 0)++oU ⟨x.tk1.id,x.tk1.life,x.tk1.ro.ep,false,[]⟩ (.slice B 8 c7))):=Zi;have z:Hid (Below wc w7 w9):=Zj;have X9:Hid (∀b,b < w7.heap.size->(Value.slice V 1 c5).ownBlock≠some b->w9.heap[b]? = w7.heap[b]?):=Zk;clear Zi Zj Zk;have k1:=aB w7 (.cells #[x.tk1.id,x.tk1.life,x.tk1.ro.ep,.bool false,.slice B 8 c7] 106);have t8:(w7.alloc (.cells #[x.tk1.id,x.tk1.life,x.tk1.ro.ep,.bool false,.slice B 8 c7] 106)).cell? (r.nd,0)=x.tk1.id/\(w7.alloc (.cells #[x.tk1.id,x.tk1.life,x.tk1.ro.ep,.bool false,.slice B 8 c7] 106)).cell? (r.nd,2)=some (.pointer (some (r.ce,0)))/\(w7.alloc (.cells #[x.tk1.id,x.tk1.life,x.tk1.ro.ep,.bool false,.slice B 8 c7] 106)).cell? (r.ce,3)=x.tk1.life/\(w7.alloc (.cells #[x.tk1.id,x.tk1.life,x.tk1.ro.ep,.bool false,.slice B 8 c7] 106)).cell? (r.nd,3)=some (.pointer (some (r.ro,0)))/\(w7.alloc (.cells #[x.tk1.id,x.tk1.life,x.tk1.ro.ep,.bool false,.slice B 8 c7] 106)).cell? (r.ro,1)=x.tk1.ro.ep/\(w7.alloc (.cells #[x.tk1.id,x.tk1.life,x.tk1.ro.ep,.bool false,.slice B 8 c7] 106)).cell? (r.nd,5)=some (.pointer (some (r.te,0))):=⟨tk k1 A.1,tk k1 A.2.1,tk k1 A.2.2.1,tk k1 A.2.2.2.1,tk k1 A.2.2.2.2.1,tk k1 A.2.2.2.2.2⟩;have l0:=f.blk _ r.tK;have l1:=f.blk _ r.DC;have l2:=f.blk _ r.vI;have t9:w9.cell? (r.nd,0)=x.tk1.id/\w9.cell? (r.nd,2)=some (.pointer (some (r.ce,0)))/\w9.cell? (r.ce,3)=x.tk1.life/\w9.cell? (r.nd,3)=some (.pointer (some (r.ro,0)))/\w9.cell? (r.ro,1)=x.tk1.ro.ep/\w9.cell? (r.nd,5)=some (.pointer (some (r.te,0))):=⟨(dV (z.block _ l0)).trans A.1,(dV (z.block _ l0)).trans A.2.1,(dV (z.block _ l1)).trans A.2.2.1,(dV (z.block _ l0)).trans A.2.2.2.1,(dV (z.block _ l2)).trans A.2.2.2.2.1,(dV (z.block _ l0)).trans A.2.2.2.2.2⟩;clear l0 l1 l2 k1)
            | (refine Eq.mpr (aj kr) ?_;refine dM (Operand.tmp 150) (Operand.tmp 175) 54 rfl _ _ _ w9 rfl rfl hr ?_))
        clear H A t8 t9 hr;go_wp2_with fail;go_ret2;have hg:∀g,(Value.slice V 1 c5).ownBlock=some g->wc.heap.size<=g:=fun g hg=>(O5.lt g hg).1;have E:ay r.all w w7:=(P.then Q).trans K7;have hf:ay r.all w w9:=⟨z.os.trans E.os,z.tape.trans E.tape,z.out.output.trans E.output,dL E.size z.size,fun b C S=>(z.block b (ji C P.size)).trans (E.block b C S)⟩;have Zx:ay (Value.slice V 1 c5).ownBlock.toList w7 w9:=⟨z.os,z.tape,z.out.output,z.size,fun b C S=>X9.out b C (fun e=>S (by rw[e];simp))⟩;have Zy:bH w0 w9 r {x.tk1 with D:=jD x.tk1.T x.tk1.D (Fz x.tk1.T x.tk1.D x.tk1.cu),cu:=nxC x.tk1.T x.tk1.D x.tk1.cu} q' a (i+1) m':=G.kept Zx (fun b C W=>by
          have h1:=hg b (by simpa using W);have h2:=f.blk b C;omega) (fun b W=>by
          have h1:=hg b (by simpa using W);have h2:=f.bl.size;omega)
        have Zz:vJ w9 B ((Fz x.tk1.T x.tk1.D x.tk1.cu).map fun (j:Nat)=>(⟨(j:Int),x.tk1.T j⟩:Tc)):=Jg.tcR (fun j s hj=>by
          obtain⟨g,e,hc⟩:=R7.1 j s hj;have U:o.heap.size<=g:=R7.2 _ e;refine⟨g,e,fun k Y=>?_⟩;have ZB:g < w7.heap.size:=eF (hc k Y);exact(dV (X9 g ZB (fun e2=>by have:=(O5.lt g e2).2;omega))).trans (hc k Y))
        exact⟨⟨v9,by rw[l.1];rfl,um.two P.size (fun b C=>dL (dL P.size Q.size) (R7.2 b C)) Zl rfl (by rw[vC];exact(uM _ _ _).len) Zz O9⟩,⟨q',a,l.2.2.1,by rw[Zm.out];exact Zy.more l.2.2.2⟩,hf⟩
end
end Go.Proofs.YtnogmjekhjldcaaGreatDoor
