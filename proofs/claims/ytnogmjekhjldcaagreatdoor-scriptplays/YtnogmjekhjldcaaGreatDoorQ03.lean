/-
  What the claimed theorem reaches, part Q03.
-/
import Derived.Test.YtnogmjekhjldcaaGreatDoorQ02
import Derived.Laws.BitsAllLaws
import Derived.Laws.Cover3
import Derived.DeepKeys
import Derived.Deep.DeepCutAuto
import Derived.Deep.CutRange
namespace Go.Proofs.YtnogmjekhjldcaaGreatDoor
open Go.RowKit Go.Proofs.Tryz
set_option maxRecDepth 100000
set_option maxHeartbeats 8000000
section
variable {r:Nat}
def wC (r:Nat):Nat:=if r % 2=1 then (r / 2) ^^^ 3988292384 else r / 2
def jR:Nat->Nat->Nat
 | 0,r=>r
 | k+1,r=>wC (jR k r)
def nY (r:Nat) (v:UInt8):Nat:=jR 8 (r ^^^ v.toNat)
def sU (l:List UInt8):Nat:=l.foldl nY 4294967295
def crc (l:List UInt8):Nat:=4294967295 ^^^ sU l
theorem TV (h:r < 4294967296):wC r < 4294967296:=by
 unfold wC;split
 ·exact WX (n:=32) om om
 ·omega
theorem wE (h:r < 4294967296):∀k,jR k r < 4294967296
 | 0=>h
 | k+1=>TV (wE h k)
theorem Ri (h:r < 4294967296) (v:UInt8):r ^^^ v.toNat < 4294967296 :=
 WX (n:=32) om (by have:=v.toNat_lt;omega)
theorem Ov (h:r < 4294967296) (v:UInt8):nY r v < 4294967296:=wE (Ri h v) 8
theorem Rj:∀(l:List UInt8) (r:Nat),r < 4294967296->l.foldl nY r < 4294967296
 | [],_,h=>h
 | v::l,_,h=>Rj l _ (Ov h v)
theorem xJ (l:List UInt8):sU l < 4294967296:=Rj l _ om
theorem Xk (l:List UInt8):crc l < 4294967296:=WX (n:=32) om (xJ l)
theorem FY (l:List UInt8) (v:UInt8):sU (l++[v])=nY (sU l) v:=by unfold sU;rw[List.foldl_append];rfl
def w4 (n:Nat):List UInt8:=[UInt8.ofNat (n / 16777216),UInt8.ofNat (n / 65536),UInt8.ofNat (n / 256),UInt8.ofNat n]
def qB (l:List UInt8) (k:Nat):Nat->Nat
 | 0=>0
 | m+1=>256 * qB l k m+(l.getD (k+m) 0).toNat
theorem Io (l:List UInt8) (k:Nat):∀m,qB l k m < 256 ^ m
 | 0=>by simp[qB]
 | m+1=>by
  have:=Io l k m;have a:=(l.getD (k+m) 0).toNat_lt;unfold qB;rw[Nat.pow_succ];omega
theorem uD (l:List UInt8) (k:Nat):qB l k 4 < 4294967296:=Io l k 4
structure Nm where
 n:Nat
 e:Nat
 l:Nat
def body (x:Nm):List UInt8:=w4 x.n++w4 x.e++w4 x.l
theorem CG (x:Nm):(body x).length=12:=rfl
def img (x:Nm):List UInt8:=body x++w4 (crc (body x))
theorem eG (x:Nm):(img x).length=16:=rfl
def Ip (L:List UInt8):Nm:=⟨qB L 0 4,qB L 4 4,qB L 8 4⟩
theorem byte_of (n:Nat):(UInt8.ofNat n).toNat=n % 256:=UInt8.toNat_ofNat
theorem Xl {x:Nm} (f:x.n < 4294967296) (i:x.e < 4294967296) (j:x.l < 4294967296) (r:List UInt8):Ip (img x++r)=x:=by
 obtain⟨n,e,l⟩:=x;simp only at f i j;have a:∀m:Nat,m < 4294967296->256 * (256 * (256 * (256 * 0+m / 16777216 % 256)+m / 65536 % 256)+m / 256 % 256)+m % 256=m:=fun m h=>by omega
 simp only[Ip,qB,img,body,w4,Ar,Fg,List.getD_cons_zero,List.getD_cons_succ,fE,Nat.reduceAdd,byte_of];rw[a n f,a e i,a l j]
def JM (k:Nat) (L:List UInt8) (m:UInt8):Bool:=m==165 && L==img (Ip L) && decide (1<=(Ip L).n) && (Ip L).n % 2==k
def slotL (B:List UInt8) (k:Nat):List UInt8:=(B.drop (20 * k)).take 16
def oW (B:List UInt8) (k:Nat):UInt8:=B.getD (20 * k+16) 0
def bC (B:List UInt8) (k:Nat):Bool:=JM k (slotL B k) (oW B k)
def aX (B:List UInt8) (k:Nat):Nm:=Ip (slotL B k)
def aW (B:List UInt8):Nat->Nm
 | 0=>⟨0,0,0⟩
 | k+1=>if bC B k=true/\(aW B k).n < (aX B k).n then aX B k else aW B k
def newest (B:List UInt8):Nm:=aW B 2
theorem JO (B:List UInt8) (k:Nat):(aX B k).n < 4294967296/\(aX B k).e < 4294967296/\(aX B k).l < 4294967296:=⟨uD _ _,uD _ _,uD _ _⟩
theorem CO (B:List UInt8):∀k,(aW B k).n < 4294967296/\(aW B k).e < 4294967296/\(aW B k).l < 4294967296
 | 0=>⟨by simp[aW],by simp[aW],by simp[aW]⟩
 | k+1=>by
  unfold aW;split
  ·exact JO B k
  ·exact CO B k
theorem oN (B:List UInt8):(newest B).n < 4294967296/\(newest B).e < 4294967296/\(newest B).l < 4294967296:=CO B 2
structure By where
 B:List UInt8
 on:Bool
 cut:Bool
 left:Nat
def By.ok (s:By):Bool:=s.on && !(s.cut && s.left==0)
def By.wr (s:By) (a:Nat) (v:UInt8):By:=⟨s.B.set a v,true,s.cut,if s.cut then s.left - 1 else s.left⟩
def By.off (s:By):By:=⟨s.B,false,s.cut,s.left⟩
def nZ (s:By):List (Nat×UInt8)->By×Bool
 | []=>(s,true)
 | (a,v)::r=>if s.ok then nZ (s.wr a v) r else (s.off,false)
def fO (a:Nat):List UInt8->List (Nat×UInt8)
 | []=>[]
 | v::r=>(a,v)::fO (a+1) r
def JQ (B:List UInt8) (at':Nat):List (Nat×UInt8):=if B.getD (at'+16) 0=0 then [] else [(at'+16,0)]
def lV (B:List UInt8) (x:Nm):List (Nat×UInt8):=JQ B (20 * (x.n % 2))++(fO (20 * (x.n % 2)) (img x)++[(20 * (x.n % 2)+16,165)])
def dw (s:By) (x:Nm):By×Bool:=nZ s (lV s.B x)
def app (B:List UInt8) (l:List (Nat×UInt8)):List UInt8:=l.foldl (fun B p=>B.set p.1 p.2) B
theorem Rk:∀(l:List (Nat×UInt8)) (B:List UInt8),(app B l).length=B.length
 | [],_=>rfl
 | p::l,B=>by
  show(app (B.set p.1 p.2) l).length=_;rw[Rk l,List.length_set]
theorem CP (B:List UInt8) (l r:List (Nat×UInt8)):app B (l++r)=app (app B l) r:=List.foldl_append
theorem yR (q:Nat):∀(l:List (Nat×UInt8)) (B:List UInt8),(∀p,p ∈ l->p.1≠q)->(app B l)[q]? = B[q]?
 | [],_,_=>rfl
 | p::l,B,h=>by
  show(app (B.set p.1 p.2) l)[q]? = _;rw[yR q l _ (fun x a=>h x (List.mem_cons_of_mem _ a)),List.getElem?_set_ne (h p List.mem_cons_self)]
theorem Iq:∀(l:List (Nat×UInt8)) (s:By),(nZ s l).1.B.length=s.B.length
 | [],_=>rfl
 | (a,v)::r,s=>by
  unfold nZ;split
  ·rw[Iq r];simp[By.wr]
  ·rfl
theorem wF:∀(l:List (Nat×UInt8)) (s:By),nZ s l =
  if s.on=true/\(s.cut=false\/l.length<=s.left) then (⟨app s.B l,true,s.cut,if s.cut then s.left - l.length else s.left⟩,true)
  else if s.on=true\/l=[] then (if l=[] then (s,true) else (⟨app s.B (l.take s.left),false,s.cut,0⟩,false)) else (s,false)
 | [],s=>by
  obtain⟨B,on,cut,left⟩:=s
  cases on <;> cases cut <;> simp[nZ,app]
 | (a,v)::r,s=>by
  have f:=wF r (s.wr a v);obtain⟨B,on,cut,left⟩:=s;unfold nZ
  cases on
  ·simp[By.ok,By.off]
  ·cases cut
   ·simp[By.ok,By.wr]at f ⊢;rw[f];rfl
   ·cases left with
    | zero=>simp[By.ok,By.off,app]
    | succ n =>
     simp[By.ok,By.wr]at f ⊢;rw[f];by_cases h:r.length<=n
     ·simp[h,app]
     ·have hr:r≠[]:=fun e=>by subst e;simp at h
      simp[h,app,hr]
end
def sJ (v:UInt8):Value:=.int .u8 v.toNat
def dA (L:List UInt8):Array Value:=(L.map sJ).toArray
theorem qH (L:List UInt8):(dA L).size=L.length:=by simp[dA]
theorem Rq (L:List UInt8) (i:Nat) (h:i < L.length):(dA L)[i]? = some (sJ L[i]):=by simp[dA,h]
theorem oZ {w:World} {b:Nat} {t:TypeId} {fr:Nat×Nat} {L:List UInt8} (h:w.heap[b]? = some (.cells (dA L) t fr)):w.rangeAt b 0 (L.map sJ):=fun j v a=>by
 rw[fE,aP w b j _ _ _ h];simpa [dA] using a
theorem uF {w:World} {b o:Nat} {L:List UInt8} {a:TypeId} {d:TypeDesc} (h:w.rangeAt b o (L.map sJ)) (e : prog.underlying a=some d) (f:d.isRow=true) (i:(prog.info? a).map (·.size)=some L.length) :
  (Instr.loadAt a (.pointer (some (b,o)))).run prog w=.ok (.agg (dA L)) w :=
 run_loadAt_mid w b o a (L.map sJ) d h e f (by rw[vC];exact i)
theorem CQ {n:Nat} {e:TypeId} (f : prog.underlying e=some (.array n 5)) (L:List UInt8) (i:Nat) (l:L.length=n) (h:i < L.length) (w:World) :
  (Instr.index e (.agg (dA L)) i).run prog w=.ok (sJ L[i]) w:=by
 have j:(sizeOf 5).run prog w=.ok 1 w:=by kernel_rfl
 have a:(isAgg 5).run prog w=.ok false w:=by
  unfold isAgg;rw[nM,Oi Tryz.underlying5 w];rfl
 have k:(0:Int)<=(i:Int)/\(i:Int) < (n:Nat):=by omega
 simp only[Instr.index,asIntOf,nM,qX,pR,Oi f w];rw[aj k];simp only[nM,j,pR,part,a,ab6,Ik,fJ,Ot,Rq L i h,qX]
theorem sum_any (L:List UInt8) (h:L.length=12) (w:World) :
  Calls prog 305 #[.agg (dA L)] w fun e w'=>e=.returned (.int .u32 (crc L))/\Below w w w':=by
 have a:(Instr.loadAt 382 (.pointer (some (w.heap.size,0)))).run prog (w.alloc (.cells (dA L) 382))=.ok (.agg (dA L)) (w.alloc (.cells (dA L) 382)) :=
  uF (oZ (dh w _)) Tryz.underlying382 rfl (by rw[h];kernel_rfl)
 have y:Hid (∀k:Nat,(o:k < L.length)->(Instr.index 382 (.agg (dA L)) k).run prog (w.alloc (.cells (dA L) 382))=.ok (sJ L[k]) (w.alloc (.cells (dA L) 382))):=fun k o=>CQ Tryz.underlying382 L k h o _;have A:Hid (Below w w (w.alloc (.cells (dA L) 382))):=aB _ _;generalize dA L=arr at *;go_enter func305,ntmps305;go_wp2_with (first | refine bP rfl 382 _ rfl _ _ rfl a ?_)
 generalize w.alloc (.cells arr 382)=w1 at *;clear a;go_loop [3,8] (fun r i=>∃k:Nat,k<=12/\i=.int .i64 k/\r=.int .u32 (sU (L.take k))) (fun _ i=>12 - (intOf i).toNat)
 case atStart=>exact⟨0,by omega,rfl,rfl⟩
 case round =>
  obtain⟨k,o,rfl,rfl⟩:=hrel;by_cases B:k < 12
  ·have p:=y.out k om;have O:=(L[k]' om).toNat_lt;have hr:=xJ (L.take k);have C:Hid (sU (L.take (k+1))=nY (sU (L.take k)) (L[k]' om)):=by
    show _=_;rw[Tz om,FY]
   generalize L[k]' om=v at *;generalize sU (L.take k)=r at *;unfold sJ at p;go_wp2_with fail;rw[u32_xor_nat r v.toNat hr om];have D:=Ri hr v;have E:Hid (nY r v=jR 8 (r ^^^ v.toNat)):=rfl;generalize r ^^^ v.toNat=q at *;go_loop [3,15] (fun r i=>∃j:Nat,j<=8/\i=.int .i64 j/\r=.int .u32 (jR j q)) (fun _ i=>8 - (intOf i).toNat)
   case atStart=>exact⟨0,by omega,rfl,rfl⟩
   case round =>
    obtain⟨j,P,rfl,rfl⟩:=hrel;have F:=wE D j;have s:Hid (jR (j+1) q=wC (jR j q)):=rfl;generalize u:jR j q=z at *;have G:Hid (z=jR j q):=u.symm;clear u;by_cases H:j < 8
    ·have x:bits .and .u32 z 1=((z % 2:Nat):Int):=by
      have:=u32_and_nat z 1 F om;rw[Nat.and_one_is_mod]at this;exact this
     rcases Ig z with m | m
     ·rw[m]at x;go_wp2_with fail;refine⟨⟨j+1,by omega,by go_num,?_⟩,by simp[intOf];omega⟩;rw[s.out,wC,ak om,vZ];rfl
     ·rw[m]at x;go_wp2_with fail;refine⟨⟨j+1,by omega,by go_num,?_⟩,by simp[intOf];omega⟩;have f:=u32_xor_nat (z / 2) 3988292384 om om;rw[vZ]at f;rw[s.out,wC,aj m];exact dP (Value.int .u32) f
    ·have l:j=8:=by omega
     have I:Hid (j=8):=l;clear l;have J:Hid (z=jR 8 q):=by rw[<- I.out];exact G
     go_wp2_with fail;refine⟨⟨k+1,by omega,by go_num,?_⟩,by simp[intOf];omega⟩;rw[C.out,E.out,J.out]
  ·have Q:Hid (k=12):=(show k=12 by omega);have hr:=xJ L;have K:Hid (L.take k=L):=vk om;rw[K.out];have M:Hid (crc L=4294967295 ^^^ sU L):=rfl;generalize sU L=r at *;have N:bits .xor .u32 IntKind.u32.max r=((4294967295 ^^^ r:Nat):Int):=u32_xor_nat 4294967295 r om hr;go_wp2_with fail;go_ret;exact⟨by rw[M.out];rfl,A⟩
section
variable {w:World} {b:Nat}
theorem or8 (a b:Nat) (e:a < 4294967296) (f:b < 256):bits BinOp.or IntKind.i64 ((a:Int) * 256) (b:Int)=((256 * a+b:Nat):Int):=by
 have h:=bits_join .i64 63 dC (fun n i j=>by rw[iI];omega) 8 ((a:Int) * 256) (b:Int) om om om om om om;rw[h];omega
theorem Ir (n m:Nat) (h:n % 256=m % 256):sJ (UInt8.ofNat n)=.int .u8 ((m % 256:Nat):Int):=by
 unfold sJ;rw[byte_of,h]
theorem Gf {t:TypeId} {fr:Nat×Nat} {L:List UInt8} (h:w.heap[b]? = some (.cells (dA L) t fr)) (i:Nat) (a:i < L.length):w.cell? (b,i)=some (sJ L[i]):=by
 rw[aP w b i _ _ _ h,Rq L i a]
theorem TW (L:List UInt8) (h:L.length=16) (p:Nat) (y:p+4<=16) (w:World) :
  Calls prog 310 #[.agg (dA L),p] w fun e w'=>e=.returned (.int .i64 (qB L p 4))/\Below w w w':=by
 have l:Hid (∀i:Nat,(j:i < L.length)->(w.alloc (.cells (dA L) 363)).cell? (w.heap.size,i)=some (sJ L[i])):=fun i j=>Gf (dh w _) i j;have m:Hid (Below w w (w.alloc (.cells (dA L) 363))):=aB _ _;generalize dA L=arr at *;go_enter func310,ntmps310;go_wp2_with fail;generalize w.alloc (.cells arr 363)=w1 at *;go_loop [5,7] (fun r i=>∃k:Nat,k<=4/\i=.int .i64 k/\r=.int .i64 (qB L p k)) (fun _ i=>4 - (intOf i).toNat)
 case atStart=>exact⟨0,by omega,rfl,rfl⟩
 case round =>
  obtain⟨k,z,rfl,rfl⟩:=hrel;by_cases o:k < 4
  ·have a:=l.out (p+k) om;have q:=(L[p+k]' om).toNat_lt;have hr:=Io L p k;have f:qB L p k < 4294967296:=by
    have:256 ^ k<=256 ^ 3:=Nat.pow_le_pow_right dC om;have e:(256:Nat) ^ 3=16777216:=by decide
    omega
   have s:Hid (qB L p (k+1)=256 * qB L p k+(L[p+k]' om).toNat):=by
    show _=_;rw[qB,qj,fD om];rfl
   generalize L[p+k]' om=v at *;generalize qB L p k=r at *;unfold sJ at a;clear hr;go_wp2_with fail;refine⟨⟨k+1,by omega,by go_num,?_⟩,by simp[intOf];omega⟩;rw[s.out,or8 _ _ f q]
  ·have u:=jH ((show k=4 by omega));generalize hr:qB L p k=r at *;have x:Hid (r=qB L p 4):=by rw[<- u.out];exact hr.symm
   clear hr;go_wp2_with fail;go_ret;exact⟨by rw[<- x.out];rfl,m⟩
def vF (L:List UInt8) (p v:Nat):Nat->List UInt8
 | 0=>L
 | j+1=>(vF L p v j).set (p+j) (UInt8.ofNat (v / 256 ^ (3 - j)))
def Jz (w:World) (b:Nat) (L:List UInt8):Prop:=w.heap[b]? = some (.cells (dA L) 363 (0,0))/\L.length=16
theorem Jz.lt {L:List UInt8} (h:Jz w b L):b < w.heap.size:=by
 rcases dX b w with a | a
 ·exact a
 ·have:=h.1;rw[eP a]at this;cases this
theorem Jz.below {w':World} {L:List UInt8} (h:Jz w b L) (a:Below w w w'):Jz w' b L:=⟨by rw[a.block b h.lt];exact h.1,h.2⟩
theorem Xm (L:List UInt8) (i:Nat) (v:UInt8):(dA L).setIfInBounds i (sJ v)=dA (L.set i v):=by
 apply vY;intro j;simp only[dA,BN,vW,kK,List.getElem?_set,Fa,vC];by_cases h:i=j
 ·subst h;by_cases a:i < L.length <;> simp[a]
 ·simp[h]
theorem Jz.set {L:List UInt8} (h:Jz w b L) (i:Nat) (v:UInt8):Jz (w.setCell (b,i) (sJ v)) b (L.set i v) :=
 ⟨by rw[bV w b _ _ _ _ h.1,Xm],by rw[List.length_set];exact h.2⟩
theorem Jz.drew {L:List UInt8} (h:Jz w b L):Jz w.drew b L:=h
theorem xK (L:List UInt8) (b p v:Nat) (G:p+4<=16) (H:v < 4294967296) (w:World) (A:Jz w b L) :
  Calls prog 304 #[.pointer (some (b,0)),p,v] w fun e w'=>e=.returned (.tuple #[])/\Jz w' b (vF L p v 4)/\aC b w w':=by
 have B:=jH A;clear A;go_enter func304,ntmps304;go_wp2_with fail;go_loopw [7] (fun i wr=>∃k:Nat,k<=4/\i=.int .i64 k/\Jz wr b (vF L p v k)/\aC b w wr) (fun i _=>4 - (intOf i).toNat)
 case atStart=>exact⟨0,by omega,rfl,B,aC.refl _ _⟩
 case round =>
  obtain⟨k,o,rfl,u,z⟩:=hrel;have l:=jH u;have m:=jH z;clear u z;by_cases h:k < 4
  ·have f:=Gf l.1 (p+k) (by have:=l.2;omega);have s:=jk wr b (p+k) _ _ l.1;obtain⟨x,C⟩:∃x,wr.cell? (b,p+k)=some x:=⟨_,f⟩;clear f;have q:Hid (∀y,vF L p v (k+1)=(vF L p v k).set (p+k) y->Jz (wr.setCell (b,p+k) (sJ y)) b (vF L p v (k+1))):=fun y D=>by rw[D];exact l.set _ _
   have E:k=0\/k=1\/k=2\/k=3:=by omega
   rcases E with rfl | rfl | rfl | rfl
   ·rw[oV]at C s;have a:=q.out (UInt8.ofNat (v / 16777216)) rfl;rw[Ir (v / 16777216) (v / 16777216) rfl,oV,show v / 16777216 % 256=v / 16777216 from by omega,vZ]at a;have j:=jH a;clear h o a;go_wp2_with fail;go_region;go_wp2_with fail;exact⟨⟨1,by omega,rfl,j.drew,(m.trans (aC.set b _ _ _)).then bD⟩,by simp[intOf]⟩
   ·have a:=q.out (UInt8.ofNat (v / 65536)) rfl;rw[Ir (v / 65536) (v / 65536) rfl,acd,vZ]at a;have j:=jH a;clear h o a;go_wp2_with fail;go_region;go_wp2_with fail;exact⟨⟨2,by omega,rfl,j.drew,(m.trans (aC.set b _ _ _)).then bD⟩,by simp[intOf]⟩
   ·have a:=q.out (UInt8.ofNat (v / 256)) rfl;rw[Ir (v / 256) (v / 256) rfl,acd,vZ]at a;have j:=jH a;clear h o a;go_wp2_with fail;go_region;go_wp2_with fail;exact⟨⟨3,by omega,rfl,j.drew,(m.trans (aC.set b _ _ _)).then bD⟩,by simp[intOf]⟩
   ·have a:=q.out (UInt8.ofNat v) (by rw[vF];simp);rw[Ir v v rfl,acd]at a;have j:=jH a;clear h o a;go_wp2_with fail;go_region;go_wp2_with fail;exact⟨⟨4,by omega,rfl,j.drew,(m.trans (aC.set b _ _ _)).then bD⟩,by simp[intOf]⟩
  ·have F:=jH ((show k=4 by omega));go_wp2_with fail;go_end0
   exact⟨rfl,by rw[<- F.out];exact l,m⟩
end
def CS (x:Nm):Value:=.agg #[x.n,x.e,x.l]
def lF:List UInt8:=[0,0,0,0,0,0,0,0,0,0,0,0,0,0,0,0]
theorem aeN (x:Nm):vF (vF (vF (vF lF 0 x.n 4) 4 x.e 4) 8 x.l 4) 12 (crc (body x)) 4=img x:=by
 simp[vF,lF,img,body,w4]
theorem aci (x:Nm):(vF (vF (vF lF 0 x.n 4) 4 x.e 4) 8 x.l 4).take 12=body x:=by
 simp[vF,lF,body,w4]
theorem Ox:dA lF=#[.int .u8 0,.int .u8 0,.int .u8 0,.int .u8 0,.int .u8 0,.int .u8 0,.int .u8 0,.int .u8 0,.int .u8 0,.int .u8 0,.int .u8 0,.int .u8 0,.int .u8 0,.int .u8 0,.int .u8 0,.int .u8 0]:=rfl
theorem CU (a b c:Int) (w:World):(Instr.index 153 (.agg #[a,b,c]) (.int .i64 0)).run prog w=.ok a w/\(Instr.index 153 (.agg #[a,b,c]) (.int .i64 1)).run prog w=.ok b w/\(Instr.index 153 (.agg #[a,b,c]) (.int .i64 2)).run prog w=.ok c w:=⟨by kernel_rfl,by kernel_rfl,by kernel_rfl⟩
theorem Iu {w:World} {b o n:Nat} {cs:List Value} (h:w.rangeAt b o cs):w.rangeAt b o (cs.take n):=fun j v a=>h j v (by
 rw[kG]at a;split at a
 ·exact a
 ·cases a)
theorem Gg (x:Nm) (O:x.n < 4294967296) (Q:x.e < 4294967296) (R:x.l < 4294967296) (w:World) :
  Calls prog 290 #[CS x] w fun e w'=>e=.returned (.agg (dA (img x)))/\Below w w w':=by
 unfold CS;go_enter func290,ntmps290;go_wp2_with fail;obtain⟨w0,a⟩:∃w0,w0=((w.alloc (.cells #[x.n,x.e,x.l] 325)).alloc (.cells (dA lF) 363)).alloc (.cells (dA lF) 363):=⟨_,rfl⟩;have o:Hid (Jz w0 (w.heap.size+1+1) lF):=by
  refine⟨?_,rfl⟩;rw[a];have:=dh ((w.alloc (.cells #[x.n,x.e,x.l] 325)).alloc (.cells (dA lF) 363)) (.cells (dA lF) 363);simpa using this
 have B:Hid (w0.heap[w.heap.size+1]? = some (.cells (dA lF) 363 (0,0))):=by
  show _=_;rw[a,heap_alloc_old _ _ sM];have:=dh (w.alloc (.cells #[x.n,x.e,x.l] 325)) (.cells (dA lF) 363);simpa using this
 have S:Hid (Below w w w0):=by
  show Below _ _ _;rw[a];exact t2 (t2 (aB _ _) (aB _ _)) (aB _ _)
 rw[Ox]at a;rw[<- a];clear a;obtain⟨Z,p⟩:∃Z,Z=w.heap.size:=⟨_,rfl⟩;have C:=jH p;rw[<- p]at o B ⊢;clear p;refine lq 4 ?_;rw[bM];have t0:=(CU x.n x.e x.l w0).1;go_wp2_with fail;refine jM (xK lF (Z+1+1) 0 x.n om O w0 o) fun D ⟨f,c1⟩=>?_;have E:=jH f;have F:=jH c1;clear f c1 t0;have T:=(CU x.n x.e x.l D).2.1;go_wp2_with fail;rw[bM];go_wp2_with fail;refine jM (xK _ (Z+1+1) 4 x.e om Q D E) fun w2 ⟨f,c1⟩=>?_;have G:=jH f;have H:=jH (F.trans c1);clear f c1 T E F;have q:=(CU x.n x.e x.l w2).2.2;go_wp2_with fail;rw[bM];go_wp2_with fail;refine jM (xK _ (Z+1+1) 8 x.l om R w2 G) fun w3 ⟨f,c1⟩=>?_;have s:=jH f;have I:=jH (H.trans c1);clear f c1 q G H;have h:(Instr.loadAt 382 (.pointer (some (Z+1+1,0)))).run prog w3=.ok (.agg (dA (body x))) w3 :=
  uF (by rw[<- aci,List.map_take];exact Iu (oZ s.1)) Tryz.underlying382 rfl (by rw[CG];kernel_rfl)
 have u:=run_arrayAt (P := prog) (w:=w3) 382 5 12 (some (Z+1+1,0)) 16 16 Tryz.underlying382 om;go_wp2_with fail;rw[bM];go_wp2_with (first | refine bP rfl 382 _ rfl _ _ rfl h ?_)
 clear h u;refine jM (sum_any (body x) (CG x) w3) fun z i=>?_;have J:=jH (s.below i);have K:=jH (I.then i);clear i s I;have j:=Xk (body x);obtain⟨c,A⟩:∃c,c=crc (body x):=⟨_,rfl⟩;have U:=jH A;rw[<- A]at j ⊢;clear A;go_wp2_with fail;refine jM (xK _ (Z+1+1) 12 c om j z J) fun w5 ⟨f,c1⟩=>?_;have V:Hid (Jz w5 (Z+1+1) (img x)):=by
  rw[U.out,aeN]at f;exact f
 have L:=jH (K.trans c1);clear f c1 J K;have M:Hid (w5.heap[Z+1]? = some (.cells (dA lF) 363 (0,0))):=by
  show _=_;rw[L.block (Z+1) (by have:=o.lt;omega) om];exact B
 have h:(Instr.loadAt 363 (.pointer (some (Z+1+1,0)))).run prog w5=.ok (.agg (dA (img x))) w5 :=
  uF (oZ V.1) Tryz.underlying363 rfl (by rw[eG];kernel_rfl)
 have m:(prog.info? 363).map (·.size)=some (dA (img x)).size:=by rw[qH,eG];kernel_rfl
 have N:=jH m;have W:Hid ((dA (img x)).all (·.oneCell')=true):=all_oneCell_toArray (fun v X=>by
  obtain⟨y,_,rfl⟩:=List.mem_map.1 X;rfl)
 clear m;go_wp2_with (first | refine bP rfl 363 _ rfl _ _ rfl h ?_ | refine Xa rfl 363 _ _ rfl (Z+1) (dA (img x)) rfl rfl 363 _ M N rfl W ?_)
 refine bf (results_cell_row rfl _ _ (Z+1) _ (dA (img x)) _ _ rfl (Cc _ _ _ _ _ _ M) Tryz.underlying363 rfl N) rfl ?_;refine⟨rfl,?_⟩;have Y:=aC.below S L (by have:=C.out;omega);refine Y.trans ⟨rfl,rfl,rfl,by simp[World.setRow],fun k hk=>by simp only[World.setRow];rw[ab2,ak (by have:=C.out;omega)]⟩
section
variable {w:World} {b:Nat} {s:By}
def sV (s:By):Array Value:=(s.B.map sJ++([.bool s.on,.bool s.cut,s.left]:List Value)).toArray
def fK (w:World) (b:Nat) (s:By):Prop:=w.heap[b]? = some (.cells (sV s) 212 (0,0))/\s.B.length=64
theorem fK.lt (h:fK w b s):b < w.heap.size:=by
 rcases dX b w with a | a
 ·exact a
 ·have:=h.1;rw[eP a]at this;cases this
theorem fK.below {w':World} (h:fK w b s) (a:Below w w w'):fK w' b s:=⟨by rw[a.block b h.lt];exact h.1,h.2⟩
theorem fK.dO {w':World} {c:Nat} (h:fK w b s) (a:aC c w w') (e:b≠c):fK w' b s:=⟨by rw[a.block b h.lt e];exact h.1,h.2⟩
theorem fK.drew (h:fK w b s):fK w.drew b s:=h
theorem fK.at' (h:fK w b s) (i:Nat) (a:i < 64):w.cell? (b,i)=some (sJ (s.B.getD i 0)):=by
 have e:=h.2;rw[aP w b i _ _ _ h.1];simp only[sV,vW];rw[qW (by simp;omega),kK,qj,fD om];rfl
theorem fK.tail (h:fK w b s) (i:Nat):w.cell? (b,64+i)=([.bool s.on,.bool s.cut,s.left]:List Value)[i]? := by
 have a:=h.2;rw[aP w b _ _ _ _ h.1];simp only[sV,vW];rw[xA (by simp;omega),vC,a,abT]
theorem fK.on (h:fK w b s):w.cell? (b,64)=some (.bool s.on):=h.tail 0
theorem fK.cut (h:fK w b s):w.cell? (b,65)=some (.bool s.cut):=h.tail 1
theorem fK.left (h:fK w b s):w.cell? (b,66)=s.left:=h.tail 2
theorem fK.fr (h:fK w b s) (i:Nat):w.frozen? (b,i)=false:=jk w b i _ _ h.1
theorem acj (s:By) (a:s.B.length=64) (i:Nat) (e:i < 64) (v:UInt8):(sV s).setIfInBounds i (sJ v)=sV ⟨s.B.set i v,s.on,s.cut,s.left⟩:=by
 apply Ci;simp only[sV,aeG];rw[List.set_append_left _ _ (by simp;omega),List.map_set]
theorem wG (s:By) (a:s.B.length=64) (i:Nat) (v:Value):(sV s).setIfInBounds (64+i) v=(s.B.map sJ++([.bool s.on,.bool s.cut,s.left]:List Value).set i v).toArray:=by
 apply Ci;simp only[sV,aeG];rw[List.set_append_right _ _ (by simp;omega),vC,a,abT]
theorem fK.setB (h:fK w b s) (i:Nat) (a:i < 64) (v:UInt8):fK (w.setCell (b,i) (sJ v)) b ⟨s.B.set i v,s.on,s.cut,s.left⟩ :=
 ⟨by rw[bV w b _ _ _ _ h.1,acj s h.2 i a],by simp[h.2]⟩
theorem fK.aei (h:fK w b s) (o:Bool):fK (w.setCell (b,64) (.bool o)) b ⟨s.B,o,s.cut,s.left⟩ :=
 ⟨by rw[bV w b _ _ _ _ h.1,wG s h.2 0];rfl,h.2⟩
theorem fK.bF (h:fK w b s) (o:Bool):fK (w.setCell (b,65) (.bool o)) b ⟨s.B,s.on,o,s.left⟩ :=
 ⟨by rw[bV w b _ _ _ _ h.1,wG s h.2 1];rfl,h.2⟩
theorem fK.Rt (h:fK w b s) (n:Nat):fK (w.setCell (b,66) n) b ⟨s.B,s.on,s.cut,n⟩ :=
 ⟨by rw[bV w b _ _ _ _ h.1,wG s h.2 2];rfl,h.2⟩
theorem fK.range (h:fK w b s) (k:Nat) (f:k < 2):w.rangeAt b (20 * k) ((slotL s.B k).map sJ):=fun j v e=>by
 have i:=h.2;rw[kK]at e;obtain⟨u,a,rfl⟩:=Option.map_eq_some_iff.1 e;unfold slotL at a;rw[kG]at a;split at a
 ·rename_i l;rw[JE]at a;rw[h.at' _ om,qj,a];rfl
 ·cases a
theorem yS {B:List UInt8} (h:B.length=64) (k:Nat) (a:k < 2):(slotL B k).length=16:=by
 simp[slotL,h];omega
theorem CV (n:Nat) (w:World):Calls prog 288 #[n] w fun e w'=>e=.returned (.int .i64 ((n % 2:Nat):Int))/\w'=w:=by
 go_enter func288,ntmps288;go_wp2_with fail;go_ret;exact⟨by rw[acd];rfl,rfl⟩
theorem JR (b:Nat) (s:By) (w:World) (S:fK w b s):Calls prog 179 #[.pointer (some (b,0))] w fun e w'=>e=.returned (.tuple #[])/\fK w' b s.off/\aC b w w':=by
 have a:Hid (fK w b s):=S;have f:=S.on;have h:=S.fr 64;clear S;go_enter func179,ntmps179;go_wp2_with fail;go_end0
 exact⟨rfl,a.aei false,aC.set _ _ _ _⟩
theorem Xn (b p:Nat) (v:UInt8) (s:By) (w:World) (S:fK w b s) (h:s.ok=false) :
  Calls prog 289 #[.pointer (some (b,0)),p,sJ v] w fun e w'=>e=.returned (.bool false)/\fK w' b s.off/\aC b w w':=by
 obtain⟨B,on,cut,left⟩:=s;have i:Hid (fK w b ⟨B,on,cut,left⟩):=S;have j:=S.on;have k:=S.cut;have l:=S.left;clear S;simp only[By.ok]at h j k l;by_cases a:cut=true/\left=0
 ·obtain⟨rfl,rfl⟩:=a;clear h;go_enter func289,ntmps289;go_wp2_with fail;refine(JR b _ _ i).mono ?_;rintro e f ⟨rfl,s1,c1⟩;have o:Hid (fK f b ⟨B,false,true,0⟩):=s1;have q:Hid (aC b w f):=c1;have u:f.cell? (b,64)=some (.bool false):=s1.on;clear s1 c1 j k l;go_wp2_with fail;go_ret;exact⟨rfl,o,q⟩
 ·obtain rfl:on=false:=by
   cases on
   ·rfl
   ·exfalso;apply a;simpa using h
  clear h;have m:Hid (fK w b (By.off ⟨B,false,cut,left⟩)):=i.out
  cases cut
  ·clear a;go_enter func289,ntmps289;go_wp2_with fail;go_ret;exact⟨rfl,m,aC.refl _ _⟩
  ·have x:left≠0:=fun e=>a ⟨rfl,e⟩;have y:((left:Int)==0)=false:=dG.2 om;clear a;go_enter func289,ntmps289;go_wp2_with fail;go_ret;exact⟨rfl,m,aC.refl _ _⟩
theorem Xo (b p:Nat) (a:p < 64) (v:UInt8) (s:By) (w:World) (S:fK w b s) (h:s.ok=true) (k:s.left<=9223372036854775807) :
  Calls prog 289 #[.pointer (some (b,0)),p,sJ v] w fun e w'=>e=.returned (.bool true)/\fK w' b (s.wr p v)/\aC b w w':=by
 obtain⟨B,on,cut,left⟩:=s;have i:Hid (fK w b ⟨B,on,cut,left⟩):=S;have l:=S.on;have m:=S.cut;have o:=S.left;have u:=S.at' p a;have x:=S.fr 66;have y:=S.fr p;have z:=S.lt;clear S;simp only[By.ok,JG]at h l m o k;obtain⟨rfl,f⟩:=h;have j:Hid (Value.int .u8 v.toNat=sJ v):=rfl;generalize sJ (List.getD _ p 0)=old at *;unfold sJ
 cases cut
 ·clear f;go_enter func289,ntmps289;go_wp2_with fail;go_ret;refine⟨rfl,?_,aC.set _ _ _ _⟩;rw[j.out];exact i.setB p a v
 ·have A:left≠0:=fun e=>by subst e;simp at f
  have f:((left:Int)==0)=false:=dG.2 om;have q:p≠66:=by omega
  go_enter func289,ntmps289;go_wp2_with fail;go_ret;refine⟨rfl,?_,(aC.set _ _ _ _).trans (aC.set _ _ _ _)⟩;rw[j.out,show(left:Int) - 1=((left - 1:Nat):Int) from by omega];exact(i.Rt (left - 1)).setB p a v
end
def JU (v:UInt8):Lit:=.int .u8 v.toNat
theorem JV:∀{L M:List UInt8},L.map JU=M.map JU->L=M
 | [],[],_=>rfl
 | [],_::_,h=>by simp at h
 | _::_,[],h=>by simp at h
 | a::L,b::M,h=>by
  simp only[List.map_cons,List.cons.injEq,JU,Lit.int.injEq,true_and]at h;have e:a.toNat=b.toNat:=by exact_mod_cast h.1
  rw[UInt8.toNat_inj.1 e,JV h.2]
theorem Xp (n:Nat) (v:UInt8) : prog.keyLits (n+1) 5 [.int .u8 v.toNat]=some [JU v]:=by
 unfold Program.keyLits;rw[Tryz.underlying5];have h:=v.toNat_lt;have a:(Lit.int .u8 (v.toNat:Int)).wf=true:=by
  simp only[Lit.wf];rw[JG,WZ,WZ];have e:IntKind.u8.min=0:=by decide
  have f:IntKind.u8.max=255:=by decide
  omega
 simp[a,JU]
theorem aej (L:List UInt8) (h:L.length=16) : prog.keyLits 2 363 (L.map sJ)=some (L.map JU):=by
 have a : prog.cellsOf 363=16:=by kernel_rfl
 have c1 : prog.cellsOf 5=1:=by kernel_rfl
 have hr:List.range 16=[0,1,2,3,4,5,6,7,8,9,10,11,12,13,14,15]:=by decide
 unfold Program.keyLits;rw[Tryz.underlying363];match L,h with
 | [a0,a1,a2,a3,a4,a5,a6,a7,a8,a9,a10,a11,a12,a13,a14,a15],_ =>
  simp only[a,c1,hr,WW,TP,vX,xG,Nat.reduceAdd,mV,List.mapM_cons,List.mapM_nil,Ot,List.drop_zero,List.drop_succ_cons,ab5,List.take_zero,sJ,Xp,Option.bind_eq_bind,Option.bind_some,Option.pure_def,nX,WV,List.flatten_nil,JH,Ar,Fg]
theorem af6 (L M:List UInt8) (f:L.length=16) (i:M.length=16) (w:World):(binOp .neq 363 (.agg (dA L)) (.agg (dA M))).run prog w=.ok (.bool (!(L==M))) w:=by
 have j : prog.keyTypeAt 2 363=true:=by kernel_rfl
 obtain⟨r,hr,a⟩:=run_equalIn_deep (P := prog) 9998 2 363 j w 2 2 (.agg (dA L)) (.agg (dA M)) (L.map JU) (M.map JU) (by
  simp only[Value.formed,Tryz.underlying363];rw[qH,f];kernel_rfl) (by simp only[Value.formed,Tryz.underlying363];rw[qH,i];kernel_rfl) (aej L f) (aej M i)
 rw[run_neq_struct,hr];simp only[pR];have e:r=(L==M):=by
  rw[acf,a,xI];exact⟨JV,fun h=>by rw[h]⟩
 rw[e]
section
variable {w:World} {q:Nat} {a b c:Int}
theorem Oy (L:List UInt8) (h:L.length=16):(prog.info? 363).map (·.size)=some (dA L).size:=by rw[qH,h];kernel_rfl
theorem acn (L:List UInt8):(dA L).all (·.oneCell')=true:=all_oneCell_toArray (fun v e=>by
  obtain⟨y,_,rfl⟩:=List.mem_map.1 e;rfl)
def iy (w:World) (q:Nat) (a b c:Int):Prop:=w.heap[q]? = some (.cells #[a,b,c] 325 (0,0))
theorem iy.lt (h:iy w q a b c):q < w.heap.size:=by
 rcases dX q w with e | e
 ·exact e
 ·rw[iy,eP e]at h;cases h
theorem iy.below {w':World} (h:iy w q a b c) (e:Below w w w'):iy w' q a b c:=by
 unfold iy;rw[e.block q h.lt];exact h
theorem iy.c0 (h:iy w q a b c):w.cell? (q,0)=a:=(aP w q _ _ _ _ h).trans rfl
theorem iy.c1 (h:iy w q a b c):w.cell? (q,1)=b:=(aP w q _ _ _ _ h).trans rfl
theorem iy.c2 (h:iy w q a b c):w.cell? (q,2)=c:=(aP w q _ _ _ _ h).trans rfl
theorem iy.fr (h:iy w q a b c) (i:Nat):w.frozen? (q,i)=false:=jk w q i _ _ h
theorem iy.put (h:iy w q a b c) (x y z:Int):iy (((w.setCell (q,0) x).setCell (q,1) y).setCell (q,2) z) q x y z:=by
 unfold iy;rw[bV _ q _ _ _ _ (bV _ q _ _ _ _ (bV w q _ _ _ _ h))];rfl
theorem Fp (w:World) (o:Obj) (c c':Array Value) (t:TypeId):((w.alloc o).alloc (.cells c t)).setRow (w.heap.size+1) c'=(w.alloc o).alloc (.cells c' t):=by
 have:=aeK (w.alloc o) c c' t;simpa using this
end
theorem iy.dO {w w':World} {q b:Nat} {a c d:Int} (h:iy w q a c d) (e:aC b w w') (f:q≠b):iy w' q a c d:=by
 unfold iy;rw[e.block q h.lt f];exact h
def By.Xq (s:By) (a:Nat) (v:UInt8):By:=if s.ok then s.wr a v else s.off
theorem write_any (b p:Nat) (a:p < 64) (v:UInt8) (s:By) (w:World) (S:fK w b s) (f:s.left<=9223372036854775807) :
  Calls prog 289 #[.pointer (some (b,0)),p,sJ v] w fun e w'=>e=.returned (.bool s.ok)/\fK w' b (s.Xq p v)/\aC b w w':=by
 unfold By.Xq
 cases h:s.ok
 ·exact Xn b p v s w S h
 ·exact Xo b p a v s w S h f
theorem Ru (s:By) (a:Nat) (v:UInt8) (n:Nat) (h:s.left<=n):(s.wr a v).left<=n:=by
 unfold By.wr;simp only;split <;> omega
theorem JW (s:By) (a:Nat) (v:UInt8) (r:List (Nat×UInt8)):nZ s ((a,v)::r)=if s.ok then nZ (s.wr a v) r else (s.off,false):=rfl
theorem TY (L:List UInt8) (a j:Nat) (h:j < L.length):fO (a+j) (L.drop j)=(a+j,L[j])::fO (a+(j+1)) (L.drop (j+1)):=by
 rw[abS h,fO,JI]
def jC (s:By) (x:Nm) (p j:Nat):By×Bool:=nZ s (fO (p+j) ((img x).drop j)++[(p+16,165)])
theorem Oz (s:By) (x:Nm) (p j:Nat) (h:j < (img x).length):jC s x p j=if s.ok then jC (s.wr (p+j) (img x)[j]) x p (j+1) else (s.off,false):=by
 unfold jC;rw[TY _ _ _ h];rfl
theorem Ua (s:By) (x:Nm) (p:Nat):jC s x p 16=if s.ok then (s.wr (p+16) 165,true) else (s.off,false):=by
 unfold jC;rw[List.drop_of_length_le (by rw[eG];omega)];rfl
theorem Gh (s:By) (x:Nm) (h:s.B.getD (20 * (x.n % 2)+16) 0=0):dw s x=jC s x (20 * (x.n % 2)) 0:=by
 unfold dw lV JQ jC;rw[aj h];rfl
theorem Ub (s:By) (x:Nm) (h:s.B.getD (20 * (x.n % 2)+16) 0≠0):dw s x=if s.ok then jC (s.wr (20 * (x.n % 2)+16) 0) x (20 * (x.n % 2)) 0 else (s.off,false):=by
 unfold dw lV JQ jC;rw[ak h];rfl
theorem Xr (b:Nat) (x:Nm) (h1:x.n < 4294967296) (h2:x.e < 4294967296) (h3:x.l < 4294967296) (s:By) (w:World) (S:fK w b s) (hL:s.left<=9223372036854775807) :
  Calls prog 256 #[.pointer (some (b,0)),CS x] w fun e w'=>e=.returned (.bool (dw s x).2)/\fK w' b (dw s x).1/\aC b w w':=by
 obtain⟨R,q⟩:∃R,R=dw s x:=⟨_,rfl⟩;have P0:Hid (s.B.getD (20 * (x.n % 2)+16) 0=0->R=jC s x (20 * (x.n % 2)) 0):=fun h=>by rw[q,Gh s x h]
 have P1:Hid (s.B.getD (20 * (x.n % 2)+16) 0≠0->R=if s.ok then jC (s.wr (20 * (x.n % 2)+16) 0) x (20 * (x.n % 2)) 0 else (s.off,false)):=fun h=>by rw[q,Ub s x h]
 have SL:Hid (∀w,Calls prog 288 #[x.n] w fun e w'=>e=.returned (.int .i64 ((x.n % 2:Nat):Int))/\w'=w):=fun w=>CV x.n w;rw[<- q];clear q;have Zl:x.n % 2 < 2:=by omega
 generalize x.n % 2=r at *;obtain⟨p,hp⟩:∃p,p=20 * r:=⟨_,rfl⟩;rw[<- hp]at P0 P1;have Zk:p+17<=64:=by omega
 have Zm:(r:Int) * 20=(p:Int):=by omega
 have HS:=jH S;have W:=jH hL;have IM:Hid (∀w,Calls prog 290 #[CS x] w fun e w'=>e=.returned (.agg (dA (img x)))/\Below w w w'):=fun w=>Gg x h1 h2 h3 w;clear S hL hp;unfold CS at *;go_enter func256,ntmps256;go_wp2_with fail;refine jM (SL _) fun X z=>?_;have Y:Hid (iy X w x.n x.e x.l):=by rw[z];exact dh w _
 have B1:Hid (Below w w X):=by rw[z];exact aB _ _
 have Q:=jH (HS.below B1);have G:b≠w.heap.size:=by have:=HS.lt;omega
 clear z;obtain⟨Z,hZ⟩:∃Z,Z=w.heap.size:=⟨_,rfl⟩;have HZ:=jH hZ;rw[<- hZ]at Y G ⊢;clear hZ;have i:=Q.at' (p+16) om;unfold sJ at i;have Zn:(p:Int)+16 < 64:=by omega
 clear i;go_upto_region 2 with fail
 go_cut [26] (fun t wx=>∃st:By,((t=.bool true/\R=(st,false))\/(t=.bool false/\R=jC st x p 0/\st.left<=9223372036854775807))/\fK wx b st/\iy wx Z x.n x.e x.l/\aC b w wx)
 case first =>
  have i:=Q.at' (p+16) om;unfold sJ at i;by_cases T:s.B.getD (p+16) 0=0
  ·have u:=jH (P0.out T);rw[T]at i;have Zp:=i;clear i;go_wp2_with fail;go_meet
   case rel=>exact⟨s,.inr ⟨rfl,u,W⟩,Q,Y,aC.of B1.out⟩
  ·have u:=jH (P1.out T);have Zq:(((s.B.getD (p+16) 0).toNat:Int) != 0)=true:=by
    rw[qY];intro e;exact T (UInt8.toNat_inj.1 (by show _=0;omega))
   generalize s.B.getD (p+16) 0=m at *;go_wp2_with fail;refine jM (write_any b (p+16) om 0 s X Q W) fun w2 ⟨s2,c2⟩=>?_;have H:=jH s2;have I:=jH ((aC.of B1.out).trans c2);have E:=jH (Y.dO c2 (fun e=>G e.symm));clear s2 c2 i
   cases f:s.ok
   ·have o:Hid (R=(s.off,false)):=by rw[u.out,f];rfl
    have A:Hid (s.Xq (p+16) 0=s.off):=by unfold By.Xq;rw[f];rfl
    go_wp2_with fail;go_meet
    case rel=>exact⟨s.off,.inl ⟨rfl,o⟩,by rw[<- A.out];exact H,E,I⟩
   ·have o:Hid (R=jC (s.wr (p+16) 0) x p 0):=by rw[u.out,f];rfl
    have A:Hid (s.Xq (p+16) 0=s.wr (p+16) 0):=by unfold By.Xq;rw[f];rfl
    go_wp2_with fail;go_meet
    case rel=>exact⟨s.wr (p+16) 0,.inr ⟨rfl,o,Ru _ _ _ _ W⟩,by rw[<- A.out];exact H,E,I⟩
 case rest =>
  obtain⟨st,Zg,J,K,L⟩:=hcut;have H:=jH J;have E:=jH K;have I:=jH L;clear J K L;rcases Zg with⟨rfl,q⟩ | ⟨rfl,q,hle⟩
  ·have u:=jH q;clear q;go_wp2_with fail;go_ret;exact⟨by rw[u.out];rfl,by rw[u.out];exact H,I⟩
  ·have u:=jH q;have Zh:=jH hle;clear q hle;have n0:=E.c0;have n1:=E.c1;have n2:=E.c2;go_wp2_with fail;refine jM (IM _) fun w3 C=>?_;have S3:=jH (H.below C);have C3:=jH (I.then C);have Zi:Hid (∀k:Nat,(hk:k < (img x).length)->∀w,(Instr.index 363 (.agg (dA (img x))) k).run prog w=.ok (sJ (img x)[k]) w):=fun k hk w=>CQ Tryz.underlying363 (img x) k (eG x) hk w;clear C n0 n1 n2;generalize dA (img x)=arr at *;go_wp2_with fail;go_loopw [29] (fun t wr=>∃j:Nat,j<=16/\t=.int .i64 j/\∃a:By,fK wr b a/\R=jC a x p j/\a.left<=9223372036854775807/\aC b w wr) (fun t _=>16 - (intOf t).toNat)
   case atStart=>exact⟨0,by omega,rfl,st,S3,u,Zh,C3⟩
   case round =>
    obtain⟨j,hj,rfl,a,M,N,O,P⟩:=hrel;have SJ:=jH M;have RJ:=jH N;have LJ:=jH O;have CJ:=jH P;clear M N O P;by_cases D:j < 16
    ·have Zj:=Zi.out j (by rw[eG];exact D) wr;have RN:Hid (R=if a.ok then jC (a.wr (p+j) ((img x)[j]'(by rw[eG];exact D))) x p (j+1) else (a.off,false)):=by
      rw[RJ.out];exact Oz a x p j _
     generalize (img x)[j]'(by rw[eG];exact D)=v at *;have F:=jH (write_any b (p+j) om v a wr SJ LJ);rw[Int.natCast_add]at F;unfold sJ at Zj F;go_wp2_with fail;refine F.mono ?_;rintro e w4 ⟨rfl,s4,c4⟩;have U:=jH (CJ.trans c4);have V:=jH s4;clear s4 c4
     cases f:a.ok
     ·have o:Hid (R=(a.off,false)):=by rw[RN.out,f];rfl
      have A:Hid (a.Xq (p+j) v=a.off):=by unfold By.Xq;rw[f];rfl
      go_wp2_with fail;go_ret;exact⟨by rw[o.out];rfl,by rw[o.out,<- A.out];exact V,U⟩
     ·have o:Hid (R=jC (a.wr (p+j) v) x p (j+1)):=by rw[RN.out,f];rfl
      have A:Hid (a.Xq (p+j) v=a.wr (p+j) v):=by unfold By.Xq;rw[f];rfl
      go_wp2_with fail;refine⟨⟨j+1,by omega,by go_num,a.wr (p+j) v,by rw[<- A.out];exact V,o,Ru _ _ _ _ LJ,U⟩,by simp[intOf];omega⟩
    ·have y:j=16:=by omega
     have RE:Hid (R=if a.ok then (a.wr (p+16) 165,true) else (a.off,false)):=by rw[RJ.out,y];exact Ua a x p
     have F:=jH (write_any b (p+16) om 165 a wr SJ LJ);rw[Int.natCast_add]at F;clear y;go_wp2_with fail;refine F.mono ?_;rintro e w4 ⟨rfl,s4,c4⟩;have U:=jH (CJ.trans c4);have V:=jH s4;clear s4 c4;go_wp2_with fail;go_ret;refine⟨?_,?_,U⟩
     ·rw[RE.out];cases a.ok <;> rfl
     ·have h4:=V.out;unfold By.Xq at h4;rw[RE.out]
      cases f:a.ok <;> rw[f]at h4 <;> exact h4
section
variable {k:Nat}
theorem oO {B:List UInt8} (h:bC B k=true):(aX B k).n % 2=k/\1<=(aX B k).n:=by
 unfold bC JM at h;simp only[JG,WZ,xI]at h;exact⟨h.2,h.1.2⟩
theorem CW (B:List UInt8) (k i:Nat) (a:i < 16):(slotL B k)[i]? = B[20 * k+i]? := by
 unfold slotL;rw[kG,aj a,JE]
theorem JX {B e:List UInt8} (h:∀i,i < 17->e[20 * k+i]? = B[20 * k+i]?):slotL e k=slotL B k/\oW e k=oW B k:=by
 constructor
 ·apply List.ext_getElem?;intro i;by_cases a:i < 16
  ·rw[CW _ _ _ a,CW _ _ _ a,h i om]
  ·unfold slotL;rw[kG,ak a,kG,ak a]
 ·unfold oW;rw[qj,qj,h 16 om]
theorem OA {B a:List UInt8} (h:∀i,i < 17->a[20 * k+i]? = B[20 * k+i]?):bC a k=bC B k/\aX a k=aX B k:=by
 obtain⟨e,f⟩:=JX h;unfold bC aX;rw[e,f];exact⟨rfl,rfl⟩
theorem CX:∀(L:List UInt8) (a:Nat) (q:Nat×UInt8),q ∈ fO a L->a<=q.1/\q.1 < a+L.length
 | [],_,q,h=>by simp[fO]at h
 | v::L,a,q,h=>by
  unfold fO at h;rcases List.mem_cons.1 h with rfl | h
  ·simp
  ·have:=CX L (a+1) q h;simp;omega
theorem qI:∀(L:List UInt8) (a:Nat),(fO a L).length=L.length
 | [],_=>rfl
 | v::L,a=>by simp[fO,qI L]
theorem Xt (B:List UInt8) (x:Nm) (q:Nat×UInt8) (h:q ∈ lV B x):20 * (x.n % 2)<=q.1/\q.1<=20 * (x.n % 2)+16:=by
 unfold lV JQ at h;rcases lU.1 h with h | h
 ·split at h
  ·simp at h
  ·rw[jA]at h;subst h;simp
 ·rcases lU.1 h with h | h
  ·have:=CX _ _ _ h;rw[eG]at this;omega
  ·rw[jA]at h;subst h;simp
theorem AY:∀(L:List UInt8) (a:Nat) (B:List UInt8),a+L.length<=B.length->app B (fO a L)=B.take a++(L++B.drop (a+L.length))
 | [],a,B,_=>by simp[fO,app]
 | v::L,a,B,h=>by
  have e:=AY L (a+1) (B.set a v) (by simp at h ⊢;omega);show app (B.set a v) (fO (a+1) L)=_;rw[e];simp only[vX]at h ⊢;have f:(B.set a v).take (a+1)=B.take a++[v]:=by
   rw[Tz (by rw[List.length_set];omega),List.getElem_set_self,List.take_set_of_le om]
  have i:(B.set a v).drop (a+1+L.length)=B.drop (a+(L.length+1)):=by
   rw[List.drop_set_of_lt om,show a+1+L.length=a+(L.length+1) from by omega]
  rw[f,i];simp
theorem Gi {B:List UInt8} {x:Nm} {l:List (Nat×UInt8)} (a:∀q,q ∈ l->q ∈ lV B x) (k:Nat) (f:k≠x.n % 2):bC (app B l) k=bC B k/\aX (app B l) k=aX B k:=by
 apply OA;intro i h;apply yR;intro q e;have:=Xt B x q (a q e);omega
theorem CY (B:List UInt8) (x:Nm):(lV B x).length=(JQ B (20 * (x.n % 2))).length+17:=by
 unfold lV;rw[jw,jw,qI,eG];rfl
theorem Xu {B:List UInt8} (m:B.length=64) (x:Nm) (j:Nat) (e:j < (lV B x).length):app B ((lV B x).take j)=B\/oW (app B ((lV B x).take j)) (x.n % 2)=0:=by
 have a:∀(C:List UInt8) (i:Nat),C.getD (20 * (x.n % 2)+16) 0=0->oW (app C ((fO (20 * (x.n % 2)) (img x)).take i)) (x.n % 2)=0:=fun C i h=>by
  unfold oW;rw[qj,yR _ _ _ (fun q l=>?_),<- qj,h];have:=CX _ _ _ (BU l);rw[eG]at this;omega
 rw[CY]at e;unfold lV;unfold JQ at e ⊢;split
 ·rename_i f;right
  rw[aj f]at e;rw[Fg,List.take_append_of_le_length (by rw[qI,eG];simp at e;omega)];exact a B j f
 ·rename_i f;rw[ak f]at e
  cases j with
  | zero=>left;rfl
  | succ j =>
   right
   rw[Ar,ab5,Fg,List.take_append_of_le_length (by rw[qI,eG];simp at e;omega)];show oW (app (B.set (20 * (x.n % 2)+16) 0) _) _=0;apply a;rw[qj,List.getElem?_set_self om];rfl
theorem unmarked {B:List UInt8} (h:oW B k=0):bC B k=false:=by
 unfold bC JM;rw[h];rfl
theorem Uc {B:List UInt8} (m:B.length=64) {x:Nm} (o:1<=x.n) (p:x.n < 4294967296) (q:x.e < 4294967296) (s:x.l < 4294967296):bC (app B (lV B x)) (x.n % 2)=true/\aX (app B (lV B x)) (x.n % 2)=x:=by
 have z:x.n % 2 < 2:=by omega
 obtain⟨C,u,w⟩:∃C,app B (JQ B (20 * (x.n % 2)))=C/\C.length=64:=⟨_,rfl,by rw[Rk,m]⟩;have e:app B (lV B x)=(C.take (20 * (x.n % 2))++(img x++C.drop (20 * (x.n % 2)+16))).set (20 * (x.n % 2)+16) 165:=by
  unfold lV;rw[CP,CP,u,AY _ _ _ (by rw[eG];omega),eG];rfl
 have h:slotL (app B (lV B x)) (x.n % 2)=img x:=by
  apply List.ext_getElem?;intro i;by_cases a:i < 16
  ·rw[CW _ _ _ a,e,List.getElem?_set_ne om,xA (by rw[qE];omega),qE,Nat.min_eq_left om,abT,qW (by rw[eG];exact a)]
  ·unfold slotL;rw[kG,ak a,WU (by rw[eG];omega)]
 have y:oW (app B (lV B x)) (x.n % 2)=165:=by
  unfold oW;rw[e,qj,List.getElem?_set_self (by simp[eG];omega)];rfl
 have j:aX (app B (lV B x)) (x.n % 2)=x:=by
  unfold aX;rw[h];have:=Xl p q s [];rw[JH]at this;exact this
 refine⟨?_,j⟩;unfold bC JM;have f:Ip (slotL (app B (lV B x)) (x.n % 2))=x:=j;rw[f,h,y];simp[o]
theorem lZ (B:List UInt8):newest B=if bC B 1=true/\(if bC B 0=true/\0 < (aX B 0).n then aX B 0 else ⟨0,0,0⟩:Nm).n < (aX B 1).n then aX B 1 else (if bC B 0=true/\0 < (aX B 0).n then aX B 0 else ⟨0,0,0⟩):=rfl
theorem aeO (B e:List UInt8) (x:Nm) (f:x.n=(newest B).n+1) (i:∀k,k < 2->k≠x.n % 2->bC e k=bC B k/\aX e k=aX B k) (j:bC e (x.n % 2)=true) (l:aX e (x.n % 2)=x):newest e=x:=by
 have s0:=oO (B:=B) (k:=0);have s1:=oO (B:=B) (k:=1);rw[lZ]at f;rw[lZ];have h:x.n % 2=0\/x.n % 2=1:=by omega
 rcases h with h | h <;> rw[h]at i j l
 ·obtain⟨a,b⟩:=i 1 om om;have m:(if bC e 0=true/\0 < (aX e 0).n then aX e 0 else ⟨0,0,0⟩:Nm)=x:=by rw[j,l,aj ⟨rfl,by omega⟩]
  rw[m,a,b,ak];rintro⟨c,d⟩;rw[c]at f;split at f <;> split at f <;> simp_all <;> omega
 ·obtain⟨a,b⟩:=i 0 om om;rw[j,l,a,b,aj];refine⟨rfl,?_⟩;split at f <;> split at f <;> simp_all <;> omega
theorem aeP (B j:List UInt8) (x:Nm) (e:x.n=(newest B).n+1) (m:∀k,k < 2->k≠x.n % 2->bC j k=bC B k/\aX j k=aX B k) (o:bC j (x.n % 2)=false):newest j=newest B:=by
 have s0:=oO (B:=B) (k:=0);have s1:=oO (B:=B) (k:=1);have l:x.n % 2=0\/x.n % 2=1:=by omega
 rw[lZ]at e;rw[lZ,lZ];rcases l with l | l <;> rw[l]at m o
 ·obtain⟨a,b⟩:=m 1 om om;rw[o,a,b]
  cases f:bC B 1 <;> cases i:bC B 0 <;> rw[f,i]at e <;> simp only[i,f,true_implies]at s0 s1 <;> simp at e s0 s1 ⊢
  ·rw[aj om]at e;exfalso;omega
  ·rw[aj (show 0 < (aX B 0).n by omega)]at e ⊢;split at e
   ·rename_i h;rw[aj om,aj h]
   ·exfalso;omega
 ·obtain⟨a,b⟩:=m 0 om om;rw[o,a,b]
  cases f:bC B 1 <;> cases i:bC B 0 <;> rw[f,i]at e <;> simp only[i,f,true_implies]at s0 s1 <;> simp at e s0 s1 ⊢
  ·intro h;rw[aj h]at e;exfalso;omega
  ·rw[aj (show 0 < (aX B 0).n by omega)]at e ⊢;intro h;rw[aj h]at e;exfalso;omega
theorem sW {s:By} (p:s.B.length=64) {x:Nm} (q:x.n=(newest s.B).n+1) (u:x.n < 4294967296) (w:x.e < 4294967296) (y:x.l < 4294967296) :
  ((dw s x).2=true->newest (dw s x).1.B=x/\(dw s x).1.on=true)/\((dw s x).2=false->newest (dw s x).1.B=newest s.B/\(dw s x).1.on=false):=by
 have f:lV s.B x≠[]:=fun e=>by have:=CY s.B x;rw[e]at this;simp at this
 unfold dw;rw[wF];by_cases j:s.on=true/\(s.cut=false\/(lV s.B x).length<=s.left)
 ·rw[aj j];refine⟨fun _=>⟨?_,rfl⟩,fun h=>by cases h⟩;obtain⟨a,b⟩:=Uc p om u w y;exact aeO s.B _ x q (fun k _ m=>Gi (fun _ h=>h) k m) a b
 ·rw[ak j];by_cases i:s.on=true
  ·rw[aj (.inl i),ak f];refine⟨fun h=>(by cases h),fun _=>⟨?_,rfl⟩⟩;have o:s.left < (lV s.B x).length:=by
    rcases dX s.left (lV s.B x).length with h | h
    ·exact h
    ·exact absurd ⟨i,.inr h⟩ j
   show newest (app s.B ((lV s.B x).take s.left))=_;rcases Xu p x s.left o with h | h
   ·rw[h]
   ·exact aeP s.B _ x q (fun k _ m=>Gi (fun _ h=>BU h) k m) (unmarked h)
  ·rw[ak (by simp[i,f])];exact⟨fun h=>(by cases h),fun _=>⟨rfl,by simpa using i⟩⟩
end
def stB (L:List UInt8):ByteArray:=⟨L.toArray⟩
theorem o7 (L M:List UInt8):stB L++stB M=stB (L++M):=by apply jB;simp[stB,ByteArray.data_append]
theorem Xv (n:Nat):UInt8.ofNat (n % 256)=UInt8.ofNat n:=by
 apply UInt8.toNat_inj.1;rw[byte_of,byte_of];omega
theorem aco (n:Nat):nS n 4=w4 n:=by
 rw[lY,lY,lY,lY];have e:∀m:Nat,UInt8.ofNat ((m:Int) % 256).toNat=UInt8.ofNat m:=fun m=>by
  rw[show((m:Int) % 256).toNat=m % 256 from by omega,Xv]
 have a:((n:Int) / 256 ^ 3)=((n / 16777216:Nat):Int):=by omega
 have f:((n:Int) / 256 ^ 2)=((n / 65536:Nat):Int):=by omega
 have h:((n:Int) / 256 ^ 1)=((n / 256:Nat):Int):=by omega
 have i:((n:Int) / 256 ^ 0)=((n:Nat):Int):=by omega
 rw[a,f,h,i,e,e,e,e];rfl
theorem uG (n:Nat) (h:n < 4294967296) (w:World):Calls prog 116 #[n,.int .i64 4] w fun e w'=>e=.returned (.string (stB (w4 n)))/\Below w w w':=by
 have:=Xj n om om 4 om w;rw[aco]at this;exact this
theorem yT (L:List UInt8) (h:L.length=4) (w:World):Calls prog 59 #[.string (stB L)] w fun e w'=>e=.returned (.int .i64 (qB L 0 4))/\w'=w:=by
 have z:(stB L).size=4:=h;have p:Hid (∀k:Nat,(a:k < L.length)->qB L 0 (k+1)=256 * qB L 0 k+(L[k]'a).toNat):=fun k a=>by
  rw[qB,fE,qj,fD a];rfl
 have q:Hid (∀k:Nat,(a:k < L.length)->(m:k < (stB L).size)->(stB L)[k]'m=L[k]'a):=fun k a m=>rfl;generalize stB L=S at *;go_enter func59,ntmps59;go_wp2_with fail;go_loop [3,4] (fun r i=>∃k:Nat,k<=4/\i=.int .i64 k/\r=.int .i64 (qB L 0 k)) (fun _ i=>4 - (intOf i).toNat)
 case atStart=>exact⟨0,by omega,rfl,rfl⟩
 case round =>
  obtain⟨k,a,rfl,rfl⟩:=hrel;by_cases s:k < 4
  ·have u:(k:Int) < (S.size:Int):=by omega
   have f:k < S.size:=by omega
   have o:=p.out k om;have j:Hid (qB L 0 (k+1)=256 * qB L 0 k+(L[k]' om).toNat):=o;have l:Hid (S[k]'f=L[k]' om):=q.out k om f;have A:=(S[k]'f).toNat_lt;have hr:=Io L 0 k;have x:qB L 0 k < 16777216:=by
    have:256 ^ k<=256 ^ 3:=Nat.pow_le_pow_right dC om;have e:(256:Nat) ^ 3=16777216:=by decide
    omega
   clear o hr;generalize qB L 0 k=r at *;go_wp2_with fail;refine⟨⟨k+1,by omega,by go_num,?_⟩,by simp[intOf];omega⟩;rw[j.out,<- l.out];go_num
  ·have l:Hid (k=4):=(show k=4 by omega);generalize hr:qB L 0 k=r at *;have y:Hid (r=qB L 0 4):=by rw[<- l.out];exact hr.symm
   have u:¬(k:Int) < (S.size:Int):=by omega
   clear hr;go_wp2_with fail;go_ret;exact⟨by rw[<- y.out];rfl,rfl⟩
def Xw (v k c:Nat):Nat:=if (c ^^^ (v / 2 ^ k)) % 2=1 then (c / 2) ^^^ 3988292384 else c / 2
def nT (v c:Nat):Nat->Nat
 | 0=>c
 | k+1=>Xw v k (nT v c k)
theorem JY (v c:Nat):∀k,nT v c k ^^^ (v / 2 ^ k)=jR k (c ^^^ v)
 | 0=>by simp[nT,jR]
 | k+1=>by
  have h:=JY v c k;have i:v / 2 ^ (k+1)=v / 2 ^ k / 2:=by rw[Nat.pow_succ,Nat.div_div_eq_div_mul]
  unfold jR nT Xw wC;rw[<- h,i];generalize nT v c k=a;generalize v / 2 ^ k=q;have f:(a ^^^ q) / 2=a / 2 ^^^ q / 2:=by
   have e:∀x:Nat,x / 2=x >>> 1:=fun x=>(Nat.shiftRight_eq_div_pow x 1).symm;rw[e,e,e,Nat.shiftRight_xor_distrib]
  split
  ·rw[f];rw[Nat.xor_assoc,Nat.xor_assoc,Nat.xor_comm (q / 2)]
  ·rw[f]
theorem OB (v:UInt8) (c:Nat):nT v.toNat c 8=nY c v:=by
 have h:=JY v.toNat c 8;have a:=v.toNat_lt;rw[Nat.div_eq_of_lt om,Nat.xor_zero]at h;exact h
theorem acp {v k c:Nat} (h:c < 4294967296):Xw v k c < 4294967296:=by
 unfold Xw;split
 ·exact WX (n:=32) om om
 ·omega
theorem JZ {v c:Nat} (h:c < 4294967296):∀k,nT v c k < 4294967296
 | 0=>h
 | k+1=>acp (JZ h k)
theorem Iw (a b:Nat) (e:a < 4294967296) (f:b < 4294967296):bits .xor .i64 (a:Int) (b:Int)=((a ^^^ b:Nat):Int):=by
 have h:a ^^^ b < 2 ^ 32:=WX om om;have o:∀n:Nat,n < 4294967296->(BitVec.ofInt 64 (n:Int)).toNat=n:=fun n i=>by
  rw[BitVec.ofInt_natCast,BitVec.toNat_ofNat];exact Nat.mod_eq_of_lt om
 show IntKind.i64.wrap ((BitVec.ofInt 64 (a:Int) ^^^ BitVec.ofInt 64 (b:Int)).toNat:Int)=_;rw[BitVec.toNat_xor,o a e,o b f,iI];omega
theorem Xx (L:List UInt8) (h:L.length=12) (w:World):Calls prog 117 #[.string (stB L)] w fun e w'=>e=.returned (.int .i64 (crc L))/\w'=w:=by
 have W:(stB L).size=12:=h;have H:Hid (∀k:Nat,(D:k < L.length)->(a:k < (stB L).size)->(stB L)[k]'a=L[k]'D):=fun k D a=>rfl;generalize stB L=S at *;go_enter func117,ntmps117;go_wp2_with fail;go_loop [3,4] (fun r i=>∃k:Nat,k<=12/\i=.int .i64 k/\r=.int .i64 (sU (L.take k))) (fun _ i=>12 - (intOf i).toNat)
 case atStart=>exact⟨0,by omega,rfl,rfl⟩
 case round =>
  obtain⟨k,D,rfl,rfl⟩:=hrel;by_cases I:k < 12
  ·have J:(k:Int) < (S.size:Int):=by omega
   have p:k < S.size:=by omega
   have K:Hid (S[k]'p=L[k]' om):=H.out k om p;have hr:=xJ (L.take k);have G:Hid (sU (L.take (k+1))=nY (sU (L.take k)) (S[k]'p)):=by
    show _=_;rw[K.out,Tz om,FY]
   generalize sU (L.take k)=r at *;obtain⟨v,E⟩:∃v,S[k]'p=v:=⟨_,rfl⟩;have X:=v.toNat_lt;rw[E]at G;go_wp2_with fail;go_loop [3,5] (fun M i=>∃j:Nat,j<=8/\i=.int .i64 j/\M=.int .i64 (nT v.toNat r j)) (fun _ i=>8 - (intOf i).toNat)
   case atStart=>exact⟨0,by omega,rfl,rfl⟩
   case round =>
    obtain⟨j,s,rfl,rfl⟩:=hrel;have N:=JZ (v:=v.toNat) hr j;have A:Hid (nT v.toNat r (j+1)=Xw v.toNat j (nT v.toNat r j)):=rfl;have O:Hid (nT v.toNat r j=nT v.toNat r j):=rfl;by_cases f:j < 8
    ·generalize nT v.toNat r j=z at *;obtain⟨d,C⟩:∃d,d=v.toNat / 2 ^ j:=⟨_,rfl⟩;have P:d < 256:=by rw[C];exact Nat.lt_of_le_of_lt (Nat.div_le_self _ _) om
     obtain⟨q,y⟩:∃q,q=z ^^^ d:=⟨_,rfl⟩;have Y:bits .xor .i64 (z:Int) (d:Int)=(q:Int):=by rw[y];exact Iw z d N om
     have l:Hid (nT v.toNat r (j+1)=if q % 2=1 then (z / 2) ^^^ 3988292384 else z / 2):=by rw[A.out,y,C];exact rfl
     have u:Hid (bits .xor .i64 ((z:Int) / 2) 3988292384=(((z / 2) ^^^ 3988292384:Nat):Int)):=by
      have:=Iw (z / 2) 3988292384 om om;rw[vZ]at this;exact this
     have x:Hid (d=v.toNat / 2 ^ j):=C;clear C y A O;have F:j=0\/j=1\/j=2\/j=3\/j=4\/j=5\/j=6\/j=7:=by omega
     rcases F with rfl | rfl | rfl | rfl | rfl | rfl | rfl | rfl
     ·have B:d=v.toNat:=by rw[x.out];omega
      have m:(v.toNat:Int)=(d:Int):=by rw[B]
      clear B;clear f s;rcases Ig q with a | a
      ·have o:((q:Int) % 2)=0:=by omega
       go_wp2_with fail;refine⟨⟨1,by omega,rfl,?_⟩,by simp[intOf]⟩;rw[l.out,ak om,vZ];rfl
      ·have o:((q:Int) % 2)=1:=by omega
       go_wp2_with fail;refine⟨⟨1,by omega,rfl,?_⟩,by simp[intOf]⟩;rw[l.out,aj a];exact dP (Value.int .i64) u
     ·have m:((v.toNat:Int) / 2)=(d:Int):=by rw[x.out];omega
      clear f s;rcases Ig q with a | a
      ·have o:((q:Int) % 2)=0:=by omega
       go_wp2_with fail;refine⟨⟨2,by omega,rfl,?_⟩,by simp[intOf]⟩;rw[l.out,ak om,vZ];rfl
      ·have o:((q:Int) % 2)=1:=by omega
       go_wp2_with fail;refine⟨⟨2,by omega,rfl,?_⟩,by simp[intOf]⟩;rw[l.out,aj a];exact dP (Value.int .i64) u
     ·have m:((v.toNat:Int) / 4)=(d:Int):=by rw[x.out];omega
      clear f s;rcases Ig q with a | a
      ·have o:((q:Int) % 2)=0:=by omega
       go_wp2_with fail;refine⟨⟨3,by omega,rfl,?_⟩,by simp[intOf]⟩;rw[l.out,ak om,vZ];rfl
      ·have o:((q:Int) % 2)=1:=by omega
       go_wp2_with fail;refine⟨⟨3,by omega,rfl,?_⟩,by simp[intOf]⟩;rw[l.out,aj a];exact dP (Value.int .i64) u
     ·have m:((v.toNat:Int) / 8)=(d:Int):=by rw[x.out];omega
      clear f s;rcases Ig q with a | a
      ·have o:((q:Int) % 2)=0:=by omega
       go_wp2_with fail;refine⟨⟨4,by omega,rfl,?_⟩,by simp[intOf]⟩;rw[l.out,ak om,vZ];rfl
      ·have o:((q:Int) % 2)=1:=by omega
       go_wp2_with fail;refine⟨⟨4,by omega,rfl,?_⟩,by simp[intOf]⟩;rw[l.out,aj a];exact dP (Value.int .i64) u
     ·have m:((v.toNat:Int) / 16)=(d:Int):=by rw[x.out];omega
      clear f s;rcases Ig q with a | a
      ·have o:((q:Int) % 2)=0:=by omega
       go_wp2_with fail;refine⟨⟨5,by omega,rfl,?_⟩,by simp[intOf]⟩;rw[l.out,ak om,vZ];rfl
      ·have o:((q:Int) % 2)=1:=by omega
       go_wp2_with fail;refine⟨⟨5,by omega,rfl,?_⟩,by simp[intOf]⟩;rw[l.out,aj a];exact dP (Value.int .i64) u
     ·have m:((v.toNat:Int) / 32)=(d:Int):=by rw[x.out];omega
      clear f s;rcases Ig q with a | a
      ·have o:((q:Int) % 2)=0:=by omega
       go_wp2_with fail;refine⟨⟨6,by omega,rfl,?_⟩,by simp[intOf]⟩;rw[l.out,ak om,vZ];rfl
      ·have o:((q:Int) % 2)=1:=by omega
       go_wp2_with fail;refine⟨⟨6,by omega,rfl,?_⟩,by simp[intOf]⟩;rw[l.out,aj a];exact dP (Value.int .i64) u
     ·have m:((v.toNat:Int) / 64)=(d:Int):=by rw[x.out];omega
      clear f s;rcases Ig q with a | a
      ·have o:((q:Int) % 2)=0:=by omega
       go_wp2_with fail;refine⟨⟨7,by omega,rfl,?_⟩,by simp[intOf]⟩;rw[l.out,ak om,vZ];rfl
      ·have o:((q:Int) % 2)=1:=by omega
       go_wp2_with fail;refine⟨⟨7,by omega,rfl,?_⟩,by simp[intOf]⟩;rw[l.out,aj a];exact dP (Value.int .i64) u
     ·have m:((v.toNat:Int) / 128)=(d:Int):=by rw[x.out];omega
      clear f s;rcases Ig q with a | a
      ·have o:((q:Int) % 2)=0:=by omega
       go_wp2_with fail;refine⟨⟨8,by omega,rfl,?_⟩,by simp[intOf]⟩;rw[l.out,ak om,vZ];rfl
      ·have o:((q:Int) % 2)=1:=by omega
       go_wp2_with fail;refine⟨⟨8,by omega,rfl,?_⟩,by simp[intOf]⟩;rw[l.out,aj a];exact dP (Value.int .i64) u
    ·have Q:Hid (j=8):=(show j=8 by omega);have R:Hid (nT v.toNat r j=nY r v):=by
      show _=_;rw[Q.out];exact OB v r
     generalize nT v.toNat r j=z at *;go_wp2_with fail;refine⟨⟨k+1,by omega,by go_num,?_⟩,by simp[intOf];omega⟩;rw[G.out,R.out]
  ·have T:Hid (L.take k=L):=vk om;rw[T.out];have hr:=xJ L;have U:Hid (crc L=4294967295 ^^^ sU L):=rfl;have J:¬(k:Int) < (S.size:Int):=by omega
   generalize sU L=r at *;have V:bits .xor .i64 (r:Int) 4294967295=((4294967295 ^^^ r:Nat):Int):=by
    rw[Nat.xor_comm];exact Iw r 4294967295 hr om
   go_wp2_with fail;go_ret;exact⟨by rw[U.out];rfl,rfl⟩
end Go.Proofs.YtnogmjekhjldcaaGreatDoor
