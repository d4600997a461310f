/-
  What the claimed theorem reaches, part Q24.
-/
import Derived.Test.YtnogmjekhjldcaaGreatDoorQ20
import Derived.Test.YtnogmjekhjldcaaGreatDoorShelf
import Derived.Test.YtnogmjekhjldcaaGreatDoorQ23
import Derived.Test.YtnogmjekhjldcaaGreatDoorQ22
namespace Go.Proofs.YtnogmjekhjldcaaGreatDoor
open Go.RowKit Go.Proofs.Tryz
set_option maxRecDepth 100000
set_option maxHeartbeats 8000000
section
variable {w w':World} {m g:Nat}
structure fC where
 nd:Nat
 ce:Nat
 yb:Nat
 ro:Nat
 tb:Nat
 tg:Nat
 te:Nat
 th:Nat
 mi:Nat
 mg:Nat
 tc:Nat
 mc:Nat
 rp:Option Addr
 rc:Nat
def fC.all (r:fC):List Nat:=[r.nd,r.ce,r.yb,r.ro,r.tb,r.tg,r.te,r.th,r.mi,r.mg]
structure adr (w:World) (r:fC) (id now:Int) (n:Nat):Prop where
 b0:w.cell? (r.nd,0)=id
 b1:w.cell? (r.nd,1)=now
 b2:w.cell? (r.nd,2)=some (.pointer (some (r.ce,0)))
 b3:w.cell? (r.nd,3)=some (.pointer (some (r.ro,0)))
 b4:w.cell? (r.nd,4)=some (.pointer (some (r.tb,0)))
 b5:w.cell? (r.nd,5)=some (.pointer (some (r.te,0)))
 b6:w.cell? (r.nd,6)=some (.pointer (some (r.mi,0)))
 b7:w.cell? (r.nd,7)=some (.slice r.rp n r.rc)
 fr:∀j,j < 8->w.frozen? ⟨r.nd,j,none⟩=false
structure bH (w0 w:World) (r:fC) (x:No) (q:Ro) (lo i:Int) (m:Nat):Prop where
 nd:adr w r x.id x.now x.ru.length
 ro:dJ w r.ro q
 sm:Fj x.ro q i
 yb:∃lv,fG w r.yb x.y lv/\(x.y.cut=true->lv=x.y.left)/\lo<=lv/\lv<=9223372036854775807
 ce:og w r.ce r.yb (newest x.y.B) x.off
 lf:x.life=((newest x.y.B).l:Int)
 len:x.y.B.length=64
 tb:RTab w r.tb r.tg r.tc x.low x.T
 vs:gI x.T m
 te:oq w r.te r.tb r.th x.D x.cu
 cu:x.cu < 32
 mi:kN w r.mi r.mg r.mc x.ml x.mt
 ru:oQ w r.rp x.ru
 rl:x.ru.length<=1000
 rb:x.ru≠[]->∀a,r.rp=some a->a.block < w0.heap.size
 ds:r.all.Nodup
 g0:∀b ∈ r.all,w0.heap.size<=b
 id:x.id=0\/x.id=1
 bl:Below w0 w0 w
theorem adr.kept {r:fC} {f a:Int} {n:Nat} (h:adr w r f a n) (e:w'.heap[r.nd]? = w.heap[r.nd]?):adr w' r f a n:=by
 have c:∀j,w'.cell? ⟨r.nd,j,none⟩=w.cell? ⟨r.nd,j,none⟩:=fun j=>dV (w:=w) e;exact⟨(c 0).trans h.b0,(c 1).trans h.b1,(c 2).trans h.b2,(c 3).trans h.b3,(c 4).trans h.b4,(c 5).trans h.b5,(c 6).trans h.b6,(c 7).trans h.b7,fun j i=>by rw[sO (w:=w) e];exact h.fr j i⟩
theorem RTab.gZ {cap:Nat} {low:Int} {T:Tb} (h:RTab w m g cap low T) (e:w'.heap[m]? = w.heap[m]?) (f:w'.heap[g]? = w.heap[g]?):RTab w' m g cap low T :=
 ⟨by rw[dV (w:=w) e];exact h.c0,by rw[dV (w:=w) e];exact h.c1,by obtain⟨cs,i,a,b⟩:=h.sl;exact⟨cs,i,by rw[f];exact a,b⟩,h.ne⟩
theorem oq.gZ {y:Nat} {D:To} {c:Nat} (h:oq w y m g D c) (e:w'.heap[y]? = w.heap[y]?) (f:w'.heap[g]? = w.heap[g]?):oq w' y m g D c :=
 ⟨by rw[dV (w:=w) e];exact h.c0,by rw[dV (w:=w) e];exact h.c1,by rw[dV (w:=w) e];exact h.c2,by rw[sO (w:=w) e];exact h.f2,by obtain⟨i,a⟩:=h.a;exact⟨i,by rw[f];exact a⟩,h.ne,h.lt⟩
theorem kN.gZ {cap:Nat} {life:Int} {T:Tb} (h:kN w m g cap life T) (e:w'.heap[m]? = w.heap[m]?) (f:w'.heap[g]? = w.heap[g]?):kN w' m g cap life T :=
 ⟨by rw[dV (w:=w) e];exact h.c0,by rw[dV (w:=w) e];exact h.c1,by rw[sO (w:=w) e];exact h.f0,by rw[sO (w:=w) e];exact h.f1,by obtain⟨cs,i,a,b⟩:=h.sl;exact⟨cs,i,by rw[f];exact a,b⟩,h.ne⟩
theorem fC.mem {r:fC} {b:Nat} (h:b=r.nd\/b=r.ce\/b=r.yb\/b=r.ro\/b=r.tb\/b=r.tg\/b=r.te\/b=r.th\/b=r.mi\/b=r.mg):b ∈ r.all:=by
 unfold fC.all;rcases h with rfl | rfl | rfl | rfl | rfl | rfl | rfl | rfl | rfl | rfl <;> simp
theorem fC.tK (r:fC):r.nd ∈ r.all:=by simp[fC.all]
theorem fC.DC (r:fC):r.ce ∈ r.all:=by simp[fC.all]
theorem fC.rQ (r:fC):r.yb ∈ r.all:=by simp[fC.all]
theorem fC.vI (r:fC):r.ro ∈ r.all:=by simp[fC.all]
theorem fC.DI (r:fC):r.tb ∈ r.all:=by simp[fC.all]
theorem fC.MC (r:fC):r.tg ∈ r.all:=by simp[fC.all]
theorem fC.KU (r:fC):r.te ∈ r.all:=by simp[fC.all]
theorem fC.afn (r:fC):r.th ∈ r.all:=by simp[fC.all]
theorem fC.FC (r:fC):r.mi ∈ r.all:=by simp[fC.all]
theorem fC.Qd (r:fC):r.mg ∈ r.all:=by simp[fC.all]
section
variable {w0 w w':World} {r:fC} {x:No} {q:Ro} {lo i:Int} {m:Nat}
theorem bH.blk (h:bH w0 w r x q lo i m):∀b ∈ r.all,b < w.heap.size:=fun b e=>by
 unfold fC.all at e;simp only[dI,eY,fA]at e;obtain⟨lv,f,_⟩:=h.yb;rcases e with rfl | rfl | rfl | rfl | rfl | rfl | rfl | rfl | rfl | rfl
 ·exact eF h.nd.b0
 ·exact h.ce.lt
 ·exact f.lt
 ·exact h.ro.lt
 ·exact eF h.tb.c0
 ·exact eF (h.tb.sl.at' (i:=0) (k:=0) om om)
 ·exact eF h.te.c0
 ·exact eF (h.te.a.at' (k:=0) om)
 ·exact eF h.mi.c0
 ·exact eF (h.mi.sl.at' (i:=0) (k:=0) om om)
theorem bH.kept (h:bH w0 w r x q lo i m) {l:List Nat} (c:ay l w w') (B:∀b ∈ r.all,¬b ∈ l) (z:∀b ∈ l,w0.heap.size<=b):bH w0 w' r x q lo i m:=by
 have e:∀b ∈ r.all,w'.heap[b]? = w.heap[b]? := fun b A=>c.block b (h.blk b A) (B b A);obtain⟨lv,C,f,j,o⟩:=h.yb;have p:=h.bl.size;have s:Below w0 w0 w':=⟨c.os.trans h.bl.os,c.tape.trans h.bl.tape,c.output.trans h.bl.output,dL p c.size,fun k D=>(c.block k om (fun u=>by have:=z k u;omega)).trans (h.bl.block k D)⟩;refine {h with nd:=h.nd.kept (e _ r.tK),ro:=?_,yb:=⟨lv,?_,f,j,o⟩,ce:=?_,tb:=h.tb.gZ (e _ r.DI) (e _ r.MC),te:=h.te.gZ (e _ r.KU) (e _ r.afn),mi:=h.mi.gZ (e _ r.FC) (e _ r.Qd),ru:=?_,bl:=s}
 ·unfold dJ;rw[e _ r.vI];exact h.ro
 ·unfold fG;rw[e _ r.rQ];exact C
 ·unfold og;rw[e _ r.DC];exact h.ce
 ·refine h.ru.kept (fun y a E=>?_);have F:=h.rb y a E;exact c.block _ om (fun u=>by have:=z _ u;omega)
theorem bH.below (h:bH w0 w r x q lo i m) (e:Below w w w'):bH w0 w' r x q lo i m :=
 h.kept (l:=[]) (ay.of e) (fun _ _ a=>by cases a) (fun _ a=>by cases a)
end
end
def Pow (w:World):Prop:=Lib.TabIs prog w "internal/strconv.uint64pow10" .u64 Lib.pow10Tab
theorem Pow.below {w w':World} (T:Pow w) (h:Below w.heap.size w w'):Pow w':=by
 unfold Pow Lib.TabIs at *;unfold World.var? at *
 cases e : prog.globalNamed "internal/strconv.uint64pow10" with
 | none=>rw[e]at T;cases T
 | some g =>
  rw[e]at T;simp only[Option.bind_some]at T ⊢;rw[h.block g (by
   rcases dX g w.heap.size with a | a
   ·exact a
   ·simp[Array.getElem?_eq_none a]at T)]
  exact T
theorem Qe (w:World) (k:Nat) (a:Array Obj):Below w.heap.size w (Sort.grow (w.drewN k) a) :=
 ⟨rfl,rfl,rfl,by show _<=(w.heap++a).size;simp,fun k e=>by show(w.heap++a)[k]? = _;rw[Array.getElem?_append_left e]⟩
theorem lK (n:Int) (a : -9223372036854775808<=n) (f:n<=9223372036854775807) (w:World) (T:Pow w) :
  Calls prog 96 #[.int .i64 n] w fun e w'=>e=.returned (.string ⟨(Lib.itoa n).toArray⟩)/\Below w.heap.size w w':=by
 refine(Tryz.strconv_Itoa n a f w T).mono fun e w' ⟨h,k,j,i⟩=>⟨h,?_⟩;rw[i];exact Qe _ _ _
def MF (i:Nat):Nat:=if i=2 then 3 else 2
def qC:Nat->Nat->List UInt8
 | 0,0=>[100,101,110,121]
 | 0,_=>[97,108,108,111,119]
 | 1,0=>[105,110]
 | 1,_=>[111,117,116]
 | _,0=>[97,110,121]
 | _,1=>[117,100,112]
 | _,_=>[116,99,112]
theorem uO:∀i j,(qC i j).length<=5
 | 0,0=>by simp[qC]
 | 0,_+1=>by simp[qC]
 | 1,0=>by simp[qC]
 | 1,_+1=>by simp[qC]
 | _+2,0=>by simp[qC]
 | _+2,1=>by simp[qC]
 | _+2,_+2=>by simp[qC]
def Ji (w:World):Prop:=∀i,i < 3->∃b o k:Nat,w.cell? ⟨2,i,none⟩=some (.slice (some ⟨b,o,none⟩) (MF i) k)/\∀j,j < MF i->w.cell? ⟨b,o+j,none⟩=some (.string ⟨(qC i j).toArray⟩)
theorem Ji.below {w w':World} (N:Ji w) (h:Below w.heap.size w w'):Ji w':=fun i a=>by
 obtain⟨b,o,k,e,f⟩:=N i a;exact⟨b,o,k,Below.keeps h e,fun j l=>Below.keeps h (f j l)⟩
theorem aap {B:Nat} {a w:World} (h:Below B a w) (q:Nat):Below B a (w.drewN q):=⟨h.os,h.tape,h.output,h.size,h.block⟩
def G7 (a e f:Nat) (lo tp:Int):List UInt8:=qC 0 a++32::(qC 1 e++32::(qC 2 f++32::(Lib.itoa lo++45::Lib.itoa tp)))
def jL (r:Rl):List UInt8:=G7 (if r.al=true then 1 else 0) (if r.ou=true then 1 else 0) r.pr.toNat r.lo r.tp
def iH (l:List Rl):List UInt8:=l.flatMap fun r=>jL r++[10]
theorem Qg {r:Rl} (h:r.ok):(jL r).length<=40:=by
 obtain⟨_,a,e,f⟩:=h;have i:=eu (show 0<=r.lo by omega) om;have j:=eu (show 0<=r.tp by omega) om;have k:=uO 0 (if r.al=true then 1 else 0);have l:=uO 1 (if r.ou=true then 1 else 0);have m:=uO 2 r.pr.toNat;unfold jL G7;simp only[jw,vX];omega
theorem zB:∀{l:List Rl},(∀r ∈ l,r.ok)->(iH l).length<=41 * l.length
 | [],_=>by simp[iH]
 | r::l,h=>by
  have f:=Qg (h r sM);have i:=zB (l:=l) (fun x a=>h x (by simp[a]));have e:iH (r::l)=(jL r++[10])++iH l:=by simp[iH]
  rw[e];simp only[jw,vX,xG];omega
theorem Qh {l:List Rl} {j:Nat} {r:Rl} (h:l[j]? = some r):iH (l.take (j+1))=iH (l.take j)++(jL r++[10]):=by
 unfold iH;rw[xE,h,List.flatMap_append];simp
section
variable {w0 w:World} {K:WK} {B N b M pb:Nat}
theorem zA.b0 (h:zA w0 w K B N b M pb):w.cell? ⟨b,0,none⟩=some (.pointer (some ⟨K.wb,0,none⟩)):=(aP _ _ _ _ _ _ h.bc).trans rfl
theorem zA.b1 (h:zA w0 w K B N b M pb):w.cell? ⟨b,1,none⟩=some (.map (some M)):=(aP _ _ _ _ _ _ h.bc).trans rfl
theorem ads {W:Wo} {t:Nat} (h:Wd w0 w K W t) (P:zA w0 w K B N b M pb) (T:Pow w) :
  Calls prog 98 #[.pointer (some ⟨pb,0,none⟩)] w fun e w'=>e=.returned (.string ⟨(Lib.itoa (W.fl.length:Int)).toArray⟩)/\Below w.heap.size w w':=by
 have a:Hid (Wd w0 w K W t/\Pow w):=⟨h,T⟩;have c0:=P.pc;have c1:=P.b0;have j:=h.fl.le;clear h P T;go_enter func98,ntmps98;go_wp2_with fail;refine(Sr a.out.1.wb a.out.1.fl).mono ?_;rintro e w2 ⟨rfl,f⟩;obtain rfl:=f.symm;clear f;go_wp2_with fail;refine(lK _ om om w a.out.2).mono ?_;rintro e w4 ⟨rfl,i⟩;have k:Hid (Below w.heap.size w w4):=i;clear i;go_wp2_with fail;go_ret;exact⟨rfl,k.out⟩
def Jj (n e:Int):ByteArray:=⟨(Lib.itoa n++32::Lib.itoa e).toArray⟩
theorem vO (n e:Int) (j:0<=n) (o:n<=1000000) (k:0<=e) (p:e<=1000000) (w:World) (T:Pow w) :
  Calls prog 159 #[.int .i64 n,.int .i64 e] w fun r w'=>r=.returned (.string (Jj n e))/\Below w.heap.size w w':=by
 have f:Hid (Pow w):=T;have q:=eu j om;have s:=eu k om;clear T;go_enter func159,ntmps159;go_wp2_with fail;refine(lK n om om w f.out).mono ?_;rintro r w2 ⟨rfl,h⟩;have a:Hid (Below w.heap.size w w2):=h;clear h;go_wp2_with fail;refine(lK e om om w2 (f.out.below a.out)).mono ?_;rintro r l ⟨rfl,i⟩;have m:Hid (Below w.heap.size w l):=a.out.trans (i.mono a.out.size);clear i;go_wp2_with fail;go_ret;exact⟨dP (fun x:ByteArray=>Ending.returned (.string x)) (by apply jB;simp[Jj,ByteArray.data_append]),m.out⟩
end
def noT:ByteArray:=⟨#[110,111,116,104,105,110,103]⟩
def swT (W:Wo):ByteArray:=if W.he=0 then noT else Jj W.hn W.he
theorem Es {w0 w:World} {K:WK} {W:Wo} {t B N b M pb:Nat} (h:Wd w0 w K W t) (P:zA w0 w K B N b M pb) (T:Pow w) (hn:W.he≠0->(W.hn=0\/W.hn=1)/\0 < W.he/\W.he<=1000000) :
  Calls prog 100 #[.pointer (some ⟨b,0,none⟩)] w fun e w'=>e=.returned (.string (swT W))/\Below w.heap.size w w':=by
 have j:Hid (Wd w0 w K W t/\Pow w):=⟨h,T⟩;have c1:=P.b0;clear h P T;go_enter func100,ntmps100;go_wp2_with fail;refine(DZ j.out.1.wb).mono ?_;rintro e w2 ⟨rfl,k⟩;have f:Hid (Below w.heap.size w w2):=k;clear k;by_cases a:W.he=0
 ·rw[aj a];have i:Hid ((swT W)=noT):=aj a;clear hn a;go_wp2_with fail;go_ret;exact⟨by rw[i.out];rfl,f.out⟩
 ·obtain⟨q,s,u⟩:=hn a;have m:(W.he==0)=false:=dG.2 a;rw[ak a];have i:Hid ((swT W)=Jj W.hn W.he):=ak a;clear hn;go_wp2_with fail;refine(vO W.hn W.he om om om om w2 (j.out.2.below f.out)).mono ?_;rintro e o ⟨rfl,l⟩;have p:Hid (Below w.heap.size w o):=f.out.trans (l.mono f.out.size);clear l;go_wp2_with fail;go_ret;exact⟨by rw[i.out];rfl,p.out⟩
section
variable {w0 w:World} {K:WK} {W:Wo} {t:Nat} {s:Nat->Addr}
def flM (wb:Nat) (w:World):Nat:=match w.cell? ⟨wb,7,none⟩ with | some (.slice _ n _)=>n | _=>0
theorem Wd.flM (h:Wd w0 w K W t):flM K.wb w=W.fl.length:=by
 have c7:w.cell? ⟨K.wb,7,none⟩=some (GK K.fg W.fl.length):=h.wb.c 7;obtain⟨p,c,e⟩:=h.fl.sl;rw[e]at c7;unfold Go.Proofs.YtnogmjekhjldcaaGreatDoor.flM;rw[c7]
def Yk (w:World) (K:WK) (Y:Nat->Option Obj):Prop:=(∀i,i < 2->∃q,K.yk i=some q)/\∀q o,Y q=some o->w.heap[q]? = some o/\K.tag q=9
theorem Yk.below {w':World} {Y:Nat->Option Obj} (h:Yk w K Y) (f:Below w.heap.size w w'):Yk w' K Y:=⟨h.1,fun q o e=>by
 obtain⟨a,i⟩:=h.2 q o e;exact⟨(f.block q (gq a)).trans a,i⟩⟩
theorem Yk.mv {w':World} {K':WK} {Y:Nat->Option Obj} (h:Yk w K Y) (m:Mv K K' w w'):Yk w' K' Y:=⟨by rw[m.yk];exact h.1,fun q o e=>by
 obtain⟨a,f⟩:=h.2 q o e;exact⟨(m.block q (gq a) (.inl f)).trans a,by rw[m.tag q (gq a)];exact f⟩⟩
def Pw (w0 w:World) (wb:Nat) (Y:Nat->Option Obj) (B N b M pb:Nat) (W:Wo) (t:Nat):Prop:=∃K,Wd w0 w K W t/\zA w0 w K B N b M pb/\Yk w K Y/\K.wb=wb
section
variable {w0 w w':World} {Y:Nat->Option Obj} {wb B N b M pb t:Nat} {W:Wo}
theorem Pw.below (h:Pw w0 w wb Y B N b M pb W t) (a:Below w.heap.size w w'):Pw w0 w' wb Y B N b M pb W t:=by
 obtain⟨K,f,i,j,e⟩:=h;exact⟨K,f.below a,i.below a,j.below a,e⟩
theorem Pw.mk {K':WK} {a:Wo} {t':Nat} (e:zA w0 w K B N b M pb) (f:Yk w K Y) (h:Wd w0 w' K' a t') (m:Mv K K' w w'):Pw w0 w' K.wb Y B N b M pb a t' :=
 ⟨K',h,e.mv m,f.mv m,m.wb⟩
theorem Pw.bl (h:Pw w0 w wb Y B N b M pb W t):Below w0.heap.size w0 w:=by obtain⟨K,a,_⟩:=h;exact a.bl
theorem Pw.mono {t':Nat} (h:Pw w0 w wb Y B N b M pb W t) (a:t<=t'):Pw w0 w wb Y B N b M pb W t':=by
 obtain⟨K,e,r⟩:=h;exact⟨K,e.mono a,r⟩
theorem Pw.b0 (h:Pw w0 w wb Y B N b M pb W t):w.cell? ⟨b,0,none⟩=some (.pointer (some ⟨wb,0,none⟩)):=by
 obtain⟨K,e,a,f,rfl⟩:=h;exact a.b0
theorem Pw.b1 (h:Pw w0 w wb Y B N b M pb W t):w.cell? ⟨b,1,none⟩=some (.map (some M)):=by
 obtain⟨K,e,a,f,rfl⟩:=h;exact a.b1
theorem Pw.pc (h:Pw w0 w wb Y B N b M pb W t):w.cell? ⟨pb,0,none⟩=some (.pointer (some ⟨b,0,none⟩)):=by
 obtain⟨K,e,a,f,rfl⟩:=h;exact a.pc
theorem Pw.flM (h:Pw w0 w wb Y B N b M pb W t):flM wb w=W.fl.length:=by
 obtain⟨K,a,e,f,rfl⟩:=h;exact a.flM
theorem Pw.fle (h:Pw w0 w wb Y B N b M pb W t):W.fl.length<=200:=by
 obtain⟨K,a,e,f,rfl⟩:=h;exact a.fl.le
theorem Pw.many (h:Pw w0 w wb Y B N b M pb W t):Calls prog 99 #[.pointer (some ⟨wb,0,none⟩)] w fun e w'=>e=.returned (.int .i64 W.fl.length)/\w'=w:=by
 obtain⟨K,a,f,i,rfl⟩:=h;exact Sr a.wb a.fl
theorem Pw.nI (S:jm w0 s) (h:Pw w0 w wb Y B N b M pb W t) (n:Int):Calls prog 86 #[.pointer (some ⟨wb,0,none⟩),.int .i64 n] w fun e w'=>e=.returned (aO s (W.pK n))/\Pw w0 w' wb Y B N b M pb (W.nI n) t:=by
 obtain⟨K,f,i,j,rfl⟩:=h;refine(PI S f n).mono ?_;rintro e w' ⟨k,K',a,m⟩;exact⟨k,Pw.mk i j a m⟩
end
theorem Et {Y:Nat->Option Obj} {wb B N b M pb:Nat} (S:jm w0 s) (h:Pw w0 w wb Y B N b M pb W t) :
  Calls prog 97 #[.pointer (some ⟨b,0,none⟩)] w fun e w'=>e=.returned (.int .i64 W.fl.length)/\Pw w0 w' wb Y B N b M pb (qV W.fl.length W) t:=by
 have o:Hid (jm w0 s):=S;have i:Hid (Pw w0 w wb Y B N b M pb (qV 0 W) t):=h;have p:=h.fle;clear S h;go_enter func97,ntmps97;go_wp2_with fail;go_loopw [3] (fun q u=>∃d:Nat,d<=W.fl.length/\q=.int .i64 d/\Pw w0 u wb Y B N b M pb (qV d W) t) (fun _ u=>flM wb u)
 case atStart=>exact⟨0,by omega,rfl,i.out⟩
 case round =>
  obtain⟨d,C,rfl,a⟩:=hrel;have f:Hid (Pw w0 wr wb Y B N b M pb (qV d W) t):=a;have x:Hid (flM wb wr=(qV d W).fl.length):=a.flM;have j:Hid ((qV d W).fl.length=W.fl.length - d):=Ep W d;have c0:=a.b0;clear a i;go_wp2_with fail;refine f.out.many.mono ?_;rintro e w2 ⟨rfl,k⟩;obtain rfl:=k.symm;clear k;rw[j.out];by_cases y:d < W.fl.length
  ·have z:(0:Int) < ((W.fl.length - d:Nat):Int):=by omega
   go_wp2_with fail;refine(f.out.nI o.out 0).mono ?_;rintro e A ⟨rfl,l⟩;have m:Hid (Pw w0 A wb Y B N b M pb (qV (d+1) W) t):=l;clear l f;go_wp2_with fail;refine⟨⟨d+1,by omega,by go_num,m.out⟩,?_⟩;rw[m.out.flM,x.out,j.out,Ep];omega
  ·obtain rfl:d=W.fl.length:=by omega
   have z:¬(0:Int) < ((W.fl.length - W.fl.length:Nat):Int):=by omega
   go_wp2_with fail;go_ret;exact⟨rfl,f.out⟩
theorem adt {Y:Nat->Option Obj} {wb B N b M pb:Nat} (S:jm w0 s) (h:Pw w0 w wb Y B N b M pb W t) (T:Pow w0) :
  Calls prog 95 #[.pointer (some ⟨pb,0,none⟩)] w fun e w'=>e=.returned (.string ⟨(Lib.itoa (W.fl.length:Int)).toArray⟩)/\Pw w0 w' wb Y B N b M pb (qV W.fl.length W) t:=by
 have a:Hid (jm w0 s/\Pow w0):=⟨S,T⟩;have k:Hid (Pw w0 w wb Y B N b M pb W t):=h;have c0:=h.pc;have l:=h.fle;clear S h T;go_enter func95,ntmps95;go_wp2_with fail;refine(Et a.out.1 k.out).mono ?_;rintro e w2 ⟨rfl,f⟩;have i:Hid (Pw w0 w2 wb Y B N b M pb (qV W.fl.length W) t):=f;clear f;go_wp2_with fail;refine(lK _ om om w2 (a.out.2.below i.out.bl)).mono ?_;rintro e w4 ⟨rfl,j⟩;have m:Hid (Pw w0 w4 wb Y B N b M pb (qV W.fl.length W) t):=i.out.below j;clear j;go_wp2_with fail;go_ret;exact⟨rfl,m.out⟩
end
end Go.Proofs.YtnogmjekhjldcaaGreatDoor
