/-
  What the claimed theorem reaches, part Q14.
-/
import Derived.Test.YtnogmjekhjldcaaGreatDoorQ13
import Derived.Laws.OwnMore
namespace Go.Proofs.YtnogmjekhjldcaaGreatDoor
open Go.RowKit Go.Proofs.Tryz
set_option maxRecDepth 100000
set_option maxHeartbeats 8000000
section
variable {w:World} {g cap:Nat}
theorem fM (b o j:Nat):Addr.add (b,o) j=(b,o+j):=by
 unfold Addr.add;by_cases h:j=0
 ·subst h;rfl
 ·rw[ak h]
def Five (r:List Value):Prop:=r.length=5/\∀u ∈ r,u.oneCell'=true
theorem lI:∀{L:List (List Value)},(∀r ∈ L,Five r)->L.flatten.length=L.length * 5
 | [],_=>rfl
 | r::L,h=>by
  rw[List.flatten_cons,List.length_append,lI (fun x a=>h x (by simp[a])),(h r sM).1,List.length_cons];omega
theorem flat_get:∀{L:List (List Value)},(∀r ∈ L,Five r)->∀(i j:Nat),j < 5->L.flatten[i * 5+j]? = (L[i]?).bind (·[j]?)
 | [],_,_,_,_=>by simp
 | r::L,h,i,j,hj=>by
  have hr:=(h r sM).1;rw[WV]
  cases i with
  | zero=>rw[qW om];simp
  | succ i =>
   rw[xA om,show(i+1) * 5+j - r.length=i * 5+j by omega,flat_get (fun x a=>h x (by simp[a])) i j hj];simp
theorem tY {L:List (List Value)} (h:∀r ∈ L,Five r):∀u ∈ L.flatten,u.oneCell'=true:=fun u a=>by
 obtain⟨r,hr,a⟩:=List.mem_flatten.1 a;exact(h r hr).2 u a
structure pX (w:World) (g cap:Nat) (R:List (List Value)) (cur:Array Value):Prop where
 h:w.heap[g]? = some (.cells cur 216 (0,0))
 sz:cur.size=cap * 5
 le:R.length<=cap
 at':∀i r j,R[i]? = some r->j < 5->cur[i * 5+j]? = r[j]?
 ok:∀r ∈ R,Five r
theorem pX.cell {R:List (List Value)} {cur:Array Value} (h:pX w g cap R cur) {i j:Nat} {r:List Value} (hr:R[i]? = some r) (a:j < 5):w.cell? (g,i * 5+j)=r[j]? := by
 rw[aP w g _ _ _ _ h.h];exact h.at' i r j hr a
theorem Lj:∃i,prog.info? 216=some i/\i.size=5:=by
 have h:(prog.info? 216).map (·.size)=some 5:=by kernel_rfl
 obtain⟨i,a,e⟩:=Option.map_eq_some_iff.1 h;exact⟨i,a,e⟩
theorem YR (w:World):(zeroValue 216).run prog w=.ok (.agg #[.int .i64 0,.int .i64 0,.int .i64 0,.bool false,.slice none 0 0]) w:=by kernel_rfl
theorem YS {k:Nat} {R:List (List Value)} {cur:Array Value} (h:pX w g cap R cur) (H:k < R.length) (I:TypeId) (c2:Nat) (D:Addr) (p:D=(g,(k+1) * 5)\/R.length=k+1) :
  ∃w' x,(Builtin.append_ #[166,166] I #[.slice (some (g,0)) k cap,.slice (some D) (R.length - (k+1)) c2]).run prog w=.ok (.slice (some (g,0)) (R.length - 1) cap) w'/\pX w' g cap (R.eraseIdx k) x/\aC g w w':=by
 have E:∀r ∈ R.drop (k+1),Five r:=fun r hr=>h.ok r (ab3 hr);obtain⟨news,l⟩:∃news,news=(R.drop (k+1)).flatten:=⟨_,rfl⟩;have f:news.length=(R.length - (k+1)) * 5:=by rw[l,lI E,JF]
 have J:=h.le;have q:=h.sz;obtain⟨i,K,F⟩:=Lj;have m:∀(a j:Nat),j < 5->news[a * 5+j]? = (R[k+1+a]?).bind (·[j]?):=fun a j C=>by
  rw[l,flat_get E a j C,JE]
 have G:=ab4 (P := prog) w i.size (R.length - (k+1)) D (R.length - (k+1)) c2 news (by rw[F];exact f) (fun j v s=>by
  rcases p with rfl | p;rotate_left
  ·have L:news=[]:=List.length_eq_zero_iff.1 (by rw[f,p];omega);rw[L]at s;simp at s
  have e:j=j / 5 * 5+j % 5:=by omega
  have y:j % 5 < 5:=TQ _ om;rw[e,m _ _ y]at s;obtain⟨r,hr,s⟩:=Option.bind_eq_some_iff.1 s;have:=h.cell hr y;rw[s]at this;have M:(k+1) * 5+j=(k+1+j / 5) * 5+j % 5:=by omega
  rw[fM,M];exact this)
 have z:=Ii prog g (k * 5) 216 news 0 cur w h.h (by rw[f,q];omega) (by rw[l];exact tY E);rw[oV]at z;have o:k * 5+news.length<=cur.size:=by rw[f,q];omega
 refine⟨_,(cur.toList.take (k * 5)++news++cur.toList.drop (k * 5+news.length)).toArray,?_,⟨Cc w g cur _ _ _ h.h,by rw[kM _ _ _ o];exact q,by rw[vV H];omega,fun a r j u C=>?_,fun r hr=>h.ok r (WS hr)⟩,pW _ _ _⟩
 ·have A:k+(R.length - (k+1))=R.length - 1:=by omega
  rw[F]at G;simp[Builtin.append_,run_underlying Tryz.underlying166,sizeOf,typeInfo,K,F,Builtin.lenOf,G,Addr.add_lit,z,A];intro O;omega
 ·rw[nC _ _ _ o];rw[abW]at u;by_cases B:a < k
  ·rw[aj B]at u;rw[ak om];exact h.at' a r j u C
  ·rw[ak B]at u;have N:a+1 < R.length:=(List.getElem?_eq_some_iff.1 u).1;rw[aj (by rw[f];omega),show a * 5+j - k * 5=(a - k) * 5+j by omega,m _ _ C,show k+1+(a - k)=a+1 by omega,u];rfl
theorem YT {n:Nat} {R:List (List Value)} {cur:Array Value} (h:pX w g cap R cur) (y:R.length<=n) (z:n < cap) (p:TypeId) (c2:Nat) :
  ∃w' f,(Builtin.clear_ #[166] p #[.slice (some (g,n * 5)) 1 c2]).run prog w=.ok (.tuple #[]) w'/\pX w' g cap R f/\aC g w w':=by
 have k:=h.sz;have i:=Ii prog g (n * 5) 216 [.int .i64 0,.int .i64 0,.int .i64 0,.bool false,.slice none 0 0] 0 cur w h.h (by simp;omega) (fun u m=>by
  simp only[dI,eY,fA]at m;rcases m with rfl | rfl | rfl | rfl | rfl <;> rfl)
 rw[oV]at i;have e:n * 5+([.int .i64 0,.int .i64 0,.int .i64 0,.bool false,.slice none 0 0]:List Value).length<=cur.size:=by simp;omega
 refine⟨_,_,?_,⟨Cc w g cur _ _ _ h.h,by rw[kM _ _ _ e];exact k,h.le,fun a r j o q=>?_,h.ok⟩,pW _ _ _⟩
 ·have s:=YR w;have l:(Builtin.zeroCells (Value.cells (.agg #[.int .i64 0,.int .i64 0,.int .i64 0,.bool false,.slice none 0 0])) 1).toList=[.int .i64 0,.int .i64 0,.int .i64 0,.bool false,.slice none 0 0]:=by kernel_rfl
  simp[Builtin.clear_,run_underlying Tryz.underlying166,s,l,i]
 ·have x:=(List.getElem?_eq_some_iff.1 o).1;rw[nC _ _ _ e,ak om];exact h.at' a r j o q
end
def oU (t:Nf) (v:Value):List Value:=[t.fr,t.li,t.ep,.bool t.cl,v]
def gW (l:List Nf) (a:List Value):List (List Value):=List.zipWith oU l a
theorem xZ {l:List Nf} {a:List Value} (h:a.length=l.length):(gW l a).length=l.length:=by simp[gW,h]
theorem I4 {l:List Nf} {a:List Value} {k:Nat} {t:Nf} {v:Value} (e:l[k]? = some t) (f:a[k]? = some v):(gW l a)[k]? = some (oU t v):=by simp[gW,List.getElem?_zipWith,e,f]
theorem aJ {w:World} {b n size:Nat} {e:TypeId} {v:Value} {i:List Value} (h:w.ownsRow b e size v n i):(v=.slice none 0 0/\n=0)\/∃g cap,v=.slice (some ⟨g,0,none⟩) n cap/\b<=g/\g < w.heap.size/\n<=cap/\cap<=maxLen:=by
 rcases h.2 with q | ⟨g,cap,cur,q,j,f,k,l,_⟩
 ·exact .inl q
 ·refine .inr ⟨g,cap,q,j,?_,k,l⟩;rcases dX g w with a | a
  ·exact a
  ·rw[eP a]at f;cases f
theorem dM {P:Program} {o:Oper} {a:Act} {w:World} {K:Act->World->Prop} {Q:Exit->Act->World->Prop} (s x:Operand) (t:TypeId) (e:o.op=.call {callee:=.builtin .append,args:=#[s,x],argTypes:=#[t,t]})
  (u v v':Value) (w':World) (f:a.eval s=u) (i:a.eval x=v) (hr:(Builtin.append_ #[t,t] o.type #[u,v]).run P w=.ok v' w') (h:K (a.put o.dst v') w'):o.wp P a w K Q:=by
 unfold Oper.wp execOp;simp only[e,resolve,invoke,builtin,nM,qX,pR,List.map_toArray,WW,TP,f,i,hr];exact h
theorem Ll (g cap k:Nat) (R:List (List Value)) (cur:Array Value) (w:World) (h:pX w g cap R cur) (M:k < R.length) (N:cap<=9223372036854775807) :
  Calls prog 184 #[.slice (some (g,0)) R.length cap,k,.int .i64 ((k:Int)+1)] w fun e w'=>e=.returned (.slice (some (g,0)) (R.length - 1) cap)/\(∃f,pX w' g cap (R.eraseIdx k) f)/\aC g w w':=by
 have s:Hid (pX w g cap R cur):=h;obtain⟨m,D⟩:∃m,R.length=m+1:=⟨R.length - 1,by omega⟩;have E:Hid (R.length=m+1):=D;have F:Hid (k<=m/\cap<=9223372036854775807/\m+1<=cap):=⟨by omega,N,by have:=h.le;omega⟩;have u:Hid (k < R.length):=M;rw[D,Nat.add_sub_cancel];clear h D M N;have Q:Hid (pX w.drew g cap R cur):=⟨s.h,s.sz,s.le,s.at',s.ok⟩;have x:Hid (∀C c2,(C=⟨g,(k+1) * 5,none⟩\/m=k)->∃q w2,(Builtin.append_ #[166,166] 166 #[.slice (some (g,0)) k cap,.slice (some C) (m - k) c2]).run prog w.drew=.ok (.slice (some (g,0)) m cap) q/\(Builtin.clear_ #[166] 0 #[.slice (some (g,m * 5)) 1 (cap - m)]).run prog q=.ok (.tuple #[]) w2/\(∃f,pX w2 g cap (R.eraseIdx k) f)/\aC g w w2):=fun C c2 G=>by
  obtain⟨q,O,i,H,I⟩:=YS Q u 166 c2 C (by rcases G with h | h;exact .inl h;exact .inr (by rw[E.out,h]));simp only[E.out,Nat.add_sub_add_right,Nat.add_sub_cancel]at i;have P:(R.eraseIdx k).length=m:=by rw[vV u.out,E.out];omega
  obtain⟨w2,y,T,U,V⟩:=YT H (n:=m) om (by have:=F.out;omega) 0 (cap - m);exact⟨q,w2,i,T,⟨y,U⟩,((aC.of bD).trans I).trans V⟩
 have W:k<=m:=F.1;have X:m+1<=cap:=F.2.2;have k0:(0:Int)<=(k:Int):=by omega
 have k1:(k:Int)<=(k:Int)+1:=by omega
 have k2:(k:Int)+1<=(m:Int)+1:=by omega
 have k3:(m:Int)+1<=(cap:Int):=by omega
 have k4:((k:Int)==(k:Int)+1)=false:=by rw[dG];omega
 have k5:(k:Int)<=(m:Int)+1:=by omega
 have k6:(0:Int)<=(k:Int)+1:=by omega
 have k7:k<=cap:=by omega
 have k8:(0:Int)<=(m:Int):=by omega
 have k9:(m:Int)<=(m:Int)+1:=by omega
 have Y:¬cap=m:=by omega
 have Z:k<=m+1:=by omega
 have Zg:(k:Int)<=(m:Int):=by omega
 go_enter func184,ntmps184;go_upto_region 5 with fail
 by_cases z:cap=k+1
 ·obtain rfl:m=k:=by omega
  subst z;obtain⟨q,w2,i,A,l,p⟩:=x.out (g,0) 0 (.inr rfl);rw[TN]at i;rw[abT]at A;have J:Hid (∃f,pX w2 g (m+1) (R.eraseIdx m) f):=l;have L:Hid (aC g w w2):=p;clear l p;refine TF ?_;refine Ih (S:=(fun w':World=>w'=w.drew\/w'=q)) kr (.inl rfl) (fun _=>?_);refine jq 0 (v:=?_) rfl (Or.inl ⟨by rfl,?_⟩) (.inl rfl) ?_;rotate_left
  ·intro j a;(try dsimp only at a);go_simp;try (with_reducible rfl)
  simp only[sP];refine jq 1 (v:=?_) rfl (Or.inl ⟨by rfl,?_⟩) (.inl rfl) ?_;rotate_left
  ·intro j a;(try dsimp only at a);go_simp;try (with_reducible rfl)
  simp only[sP];refine jq 2 (v:=?_) rfl (Or.inl ⟨by rfl,?_⟩) (.inl rfl) ?_;rotate_left
  ·intro j a;(try dsimp only at a);go_simp;try (with_reducible rfl)
  simp only[sP];refine jq 3 (v:=?_) rfl (Or.inl ⟨by rfl,?_⟩) (.inl rfl) ?_;rotate_left
  ·intro j a;(try dsimp only at a);go_simp;try (with_reducible rfl)
  simp only[sP];refine jq 4 (v:=?_) rfl (Or.inl ⟨by rfl,?_⟩) (.inl rfl) ?_;rotate_left
  ·intro j a;(try dsimp only at a);go_simp;try (with_reducible rfl)
  simp only[sP];refine jq 5 (v:=?_) rfl (Or.inl ⟨by rfl,?_⟩) (.inl rfl) ?_;rotate_left
  ·intro j a;(try dsimp only at a);go_simp;try (with_reducible rfl)
  simp only[sP];refine qF (rs:=[6]) kr sM ?_;refine sH (o:=_) rfl (fun K B=>?_) wu;refine Eq.mpr (aj kr) ?_;refine dM (Operand.tmp 22) (Operand.tmp 25) 166 rfl _ _ _ _ rfl rfl i ?_;refine B.out _ _ ?_ (fun _=>?_)
  ·exact .inr rfl
  clear B K;try simp only[sP]
  refine jq 7 (v:=?_) rfl (Or.inl ⟨by rfl,?_⟩) (.inr rfl) ?_;rotate_left
  ·intro j a;(try dsimp only at a);go_simp;try (with_reducible rfl)
  simp only[sP];refine Ij kr ?_ _;refine TM ?_;clear i;go_wp2_with fail;go_ret;exact⟨rfl,J,L⟩
 ·obtain⟨q,w2,i,A,l,p⟩:=x.out (g,(k+1) * 5) (cap - (k+1)) (.inl rfl);have J:Hid (∃f,pX w2 g cap (R.eraseIdx k) f):=l;have L:Hid (aC g w w2):=p;clear l p;refine TF ?_;refine Ih (S:=(fun w':World=>w'=w.drew\/w'=q)) kr (.inl rfl) (fun _=>?_);refine jq 0 (v:=?_) rfl (Or.inl ⟨by rfl,?_⟩) (.inl rfl) ?_;rotate_left
  ·intro j a;(try dsimp only at a);go_simp;try (with_reducible rfl)
  simp only[sP];refine jq 1 (v:=?_) rfl (Or.inl ⟨by rfl,?_⟩) (.inl rfl) ?_;rotate_left
  ·intro j a;(try dsimp only at a);go_simp;try (with_reducible rfl)
  simp only[sP];refine jq 2 (v:=?_) rfl (Or.inl ⟨by rfl,?_⟩) (.inl rfl) ?_;rotate_left
  ·intro j a;(try dsimp only at a);go_simp;try (with_reducible rfl)
  simp only[sP];refine jq 3 (v:=?_) rfl (Or.inl ⟨by rfl,?_⟩) (.inl rfl) ?_;rotate_left
  ·intro j a;(try dsimp only at a);go_simp;try (with_reducible rfl)
  simp only[sP];refine jq 4 (v:=?_) rfl (Or.inl ⟨by rfl,?_⟩) (.inl rfl) ?_;rotate_left
  ·intro j a;(try dsimp only at a);go_simp;try (with_reducible rfl)
  simp only[sP];refine jq 5 (v:=?_) rfl (Or.inl ⟨by rfl,?_⟩) (.inl rfl) ?_;rotate_left
  ·intro j a;(try dsimp only at a);go_simp;try (with_reducible rfl)
  simp only[sP];refine qF (rs:=[6]) kr sM ?_;refine sH (o:=_) rfl (fun K B=>?_) wu;refine Eq.mpr (aj kr) ?_;refine dM (Operand.tmp 22) (Operand.tmp 25) 166 rfl _ _ _ _ rfl rfl i ?_;refine B.out _ _ ?_ (fun _=>?_)
  ·exact .inr rfl
  clear B K;try simp only[sP]
  refine jq 7 (v:=?_) rfl (Or.inl ⟨by rfl,?_⟩) (.inr rfl) ?_;rotate_left
  ·intro j a;(try dsimp only at a);go_simp;try (with_reducible rfl)
  simp only[sP];refine Ij kr ?_ _;refine TM ?_;clear i;go_wp2_with fail;go_ret;exact⟨rfl,J,L⟩
section
variable {w w' w0:World} {t i:Nat} {x:Wo}
structure WK where
 wb:Nat
 nk:Nat->Option Bk
 yk:Nat->Option Nat
 rp:Option Addr
 rc:Nat
 fg:Option (Nat×Nat)
 eg:Option (Nat×Nat)
 cv:List Value
 tag:Nat->Nat
def GK (o:Option (Nat×Nat)) (n:Nat):Value:=match o with | some (g,c)=>.slice (some (g,0)) n c | none=>.slice none 0 0
def ybV (o:Option Nat):Value:=.pointer (o.map fun b=>(b,0))
def FH (o:Option Bk):Value:=.pointer (o.map fun k=>(k.nd,0))
def kD (w:World) (K:WK) (x:Wo):Prop:=w.heap[K.wb]? = some (.cells #[FH (K.nk 0),ybV (K.yk 0),FH (K.nk 1),ybV (K.yk 1),.slice K.rp x.ru.length K.rc,x.hn,x.he,GK K.fg x.fl.length,GK K.eg x.ev.length] 169 (0,0))
def WK.part (K:WK):Nat->List Nat
 | 0=>[K.wb]
 | 1=>match K.nk 0 with | some k=>k.all | none=>(K.yk 0).toList
 | 2=>match K.nk 1 with | some k=>k.all | none=>(K.yk 1).toList
 | 3=>match K.fg with | some (g,_)=>[g] | none=>[]
 | 4=>match K.eg with | some (g,_)=>[g] | none=>[]
 | _=>[]
def WK.all (K:WK):List Nat:=K.part 0++K.part 1++K.part 2++K.part 3++K.part 4
def yM (w0 w:World) (K:WK) (x:Wo) (t i:Nat):Prop :=
 (∃k y m n,K.nk i=some k/\x.nd i=some y/\Nd w0 w k y m n/\K.yk i=some k.yb/\m<=33 * t/\n<=8 * t/\0<=y.now/\y.now<=t/\aF y.ru/\y.id=i/\(y.ru≠[]->∀a,k.rp=some a->K.tag a.block=5)) \/
 (∃b,K.nk i=none/\x.nd i=none/\K.yk i=some b/\fK w b (x.yb i)/\(x.yb i).left<=9223372036854775807) \/
 (K.nk i=none/\x.nd i=none/\K.yk i=none)
def pU (w:World) (K:WK) (t:Nf) (v:Value):Prop:=(∃p cap,v=.slice p t.cs.length cap/\vJ w p t.cs/\(∀g o,p=some ⟨g,o,none⟩->K.tag g=5))/\t.cs.length<=8/\OkT t.cs/\(t.fr=0\/t.fr=1)
structure Oa (w:World) (K:WK) (x:Wo):Prop where
 len:K.cv.length=x.fl.length
 le:x.fl.length<=200
 ok:∀(i:Nat) t v,x.fl[i]? = some t->K.cv[i]? = some v->pU w K t v
 rows:(K.fg=none/\x.fl=[])\/∃g c cur,K.fg=some (g,c)/\pX w g c (gW x.fl K.cv) cur/\c<=9223372036854775807
structure YU (w:World) (K:WK) (x:Wo):Prop where
 le:x.ev.length<=1000
 rows:(K.eg=none/\x.ev=[])\/∃g c,K.eg=some (g,c)/\w.ownsRow g 165 2 (.slice (some ⟨g,0,none⟩) x.ev.length c) x.ev.length (x.ev.flatMap fun e=>[e.1,e.2])
theorem Sl.gZ {v:Value} {l:List Rl} (h:Sl w v l) (f:∀a n c,v=.slice (some a) n c->w'.heap[a.block]? = w.heap[a.block]?):Sl w' v l:=by
 rcases h with h | ⟨a,cap,e,j,k,m⟩
 ·exact Or.inl h
 ·exact Or.inr ⟨a,cap,e,j,k,m.kept (fun _ p o=>by cases o;exact f a _ _ e)⟩
structure Wd (w0 w:World) (K:WK) (x:Wo) (t:Nat):Prop where
 wb:kD w K x
 s0:yM w0 w K x t 0
 s1:yM w0 w K x t 1
 ru:Sl w (.slice K.rp x.ru.length K.rc) x.ru
 ro:aF x.ru
 rt:∀a,K.rp=some a->K.tag a.block=5
 fl:Oa w K x
 ev:YU w K x
 tg:∀i,i < 5->∀b ∈ K.part i,K.tag b=i/\w0.heap.size<=b
 al:∀b,w.heap.size<=b->K.tag b=9
 bl:Below w0 w0 w
theorem pU.kept {K:WK} {t:Nf} {v:Value} (h:pU w K t v) {l:List Nat} (c:ay l w w') (k:∀b ∈ l,K.tag b≠5):pU w' K t v:=by
 obtain⟨⟨p,cap,e,R,f⟩,r⟩:=h;refine⟨⟨p,cap,e,fun i y m=>?_,f⟩,r⟩;obtain⟨b,o,j,q⟩:=R i y m;have a:¬b ∈ l:=fun s=>k b s (f b o j);exact⟨b,o,j,⟨c.keeps a q.c0,c.keeps a q.c1,c.keeps a q.c2,c.keeps a q.c3,c.keeps a q.c4,c.keeps a q.c5,c.keeps a q.c6,c.keeps a q.c7,c.keeps a q.c8,c.keeps a q.c9⟩⟩
theorem pX.kept {g cap:Nat} {R:List (List Value)} {cur:Array Value} (h:pX w g cap R cur) (e:w'.heap[g]? = w.heap[g]?):pX w' g cap R cur:=⟨by rw[e];exact h.h,h.sz,h.le,h.at',h.ok⟩
theorem pX.lt {g cap:Nat} {R:List (List Value)} {cur:Array Value} (h:pX w g cap R cur):g < w.heap.size:=by
 rcases dX g w with a | a
 ·exact a
 ·have:=h.h;rw[eP a]at this;cases this
theorem Oa.kept {K:WK} (h:Oa w K x) {l:List Nat} (c:ay l w w') (f:∀b ∈ l,¬b ∈ K.part 3) (j:∀b ∈ l,K.tag b≠5):Oa w' K x:=by
 refine⟨h.len,h.le,fun i t v k m=>(h.ok i t v k m).kept c j,?_⟩;rcases h.rows with a | ⟨g,cp,cur,e,R,o⟩
 ·exact .inl a
 ·refine .inr ⟨g,cp,cur,e,R.kept (c.block g R.lt (fun p=>f g p ?_)),o⟩;simp[WK.part,e]
theorem YU.kept {K:WK} (h:YU w K x) {l:List Nat} (c:ay l w w') (o:∀b ∈ l,¬b ∈ K.part 4):YU w' K x:=by
 refine⟨h.le,?_⟩;rcases h.rows with a | ⟨g,cp,e,R⟩
 ·exact .inl a
 ·refine .inr ⟨g,cp,e,R.1,?_⟩;rcases R.2 with q | ⟨f,j,cur,m,p,k,s⟩
  ·cases q.1
  ·have u:f=g:=by cases m;rfl
   subst u;refine .inr ⟨f,j,cur,m,p,?_,s⟩;have y:f < w.heap.size:=by
    rcases dX f w with a | a
    ·exact a
    ·rw[eP a]at k;cases k
   rw[c.block f y (fun z=>o f z (by simp[WK.part,e]))];exact k
theorem yM.kept {K:WK} (u:i < 2) (h:yM w0 w K x t i) {l:List Nat} (c:ay l w w') (f:∀b ∈ l,¬b ∈ K.part (i+1)) (j:∀b ∈ l,K.tag b≠5) (o:∀b ∈ l,w0.heap.size<=b):yM w0 w' K x t i:=by
 rcases h with⟨k,y,m,n,e1,e2,nd,r1,r2,r3,r4,r5,r6,r7,r8⟩ | ⟨b,e1,e2,e3,Y,r⟩ | h
 ·refine .inl ⟨k,y,m,n,e1,e2,nd.kept c (fun b p e=>f b e ?_) (fun q a s e=>j _ e (r8 q a s)) o,r1,r2,r3,r4,r5,r6,r7,r8⟩;have:i=0\/i=1:=by omega
  rcases this with rfl | rfl <;> simp[WK.part,e1,p]
 ·refine .inr (.inl ⟨b,e1,e2,e3,Y.kept (c.block _ Y.lt (fun e=>f _ e ?_)),r⟩);have:i=0\/i=1:=by omega
  rcases this with rfl | rfl <;> simp[WK.part,e1,e3]
 ·exact .inr (.inr h)
theorem kD.lt {K:WK} (h:kD w K x):K.wb < w.heap.size:=by
 rcases dX K.wb w with a | a
 ·exact a
 ·unfold kD at h;rw[eP a]at h;cases h
theorem Wd.below {K:WK} (h:Wd w0 w K x t) (a:Below w w w'):Wd w0 w' K x t :=
 have c:ay [] w w':=ay.of a;⟨by unfold kD;rw[a.block _ h.wb.lt];exact h.wb,h.s0.kept om c sM sM sM,h.s1.kept om c sM sM sM,h.ru.below a,h.ro,h.rt,h.fl.kept c sM sM,h.ev.kept c sM,h.tg,fun b e=>h.al b (dL a.size e),t2 h.bl a⟩
structure Mv (K K':WK) (w w':World):Prop where
 os:w'.os=w.os
 tape:w'.tape=w.tape
 output:w'.output=w.output
 size:w.heap.size<=w'.heap.size
 block:∀b,b < w.heap.size->(K.tag b=9\/K.tag b=5)->w'.heap[b]? = w.heap[b]?
 tag:∀b,b < w.heap.size->K'.tag b=K.tag b
 wb:K'.wb=K.wb
 yk:K'.yk=K.yk
theorem Mv.trans {K K' e:WK} {w2:World} (h:Mv K K' w w') (k:Mv K' e w' w2):Mv K e w w2 :=
 ⟨k.os.trans h.os,k.tape.trans h.tape,k.output.trans h.output,dL h.size k.size,fun b a f=>(k.block b (ji a h.size) (by rw[h.tag b a];exact f)).trans (h.block b a f),fun b a=>(k.tag b (ji a h.size)).trans (h.tag b a),k.wb.trans h.wb,k.yk.trans h.yk⟩
theorem Mv.of {K:WK} (h:Below w w w'):Mv K K w w':=⟨h.os,h.tape,h.output,h.size,fun b a _=>h.block b a,fun _ _=>rfl,rfl,rfl⟩
theorem Mv.one {K:WK} {l:List Nat} (h:Wd w0 w K x t) (a:i < 5) (c:ay l w w') (e:∀b ∈ l,b ∈ K.part i):Mv K K w w' :=
 ⟨c.os,c.tape,c.output,c.size,fun b f k=>c.block b f (fun j=>by have:=(h.tg i a b (e b j)).1;omega),fun _ _=>rfl,rfl,rfl⟩
theorem Mv.own {K:WK} {Q:Nat} (g:aC Q w w') (e:w.heap.size<=Q):Mv K K w w':=⟨g.os,g.tape,g.output,g.size,fun b a _=>g.block b a om,fun _ _=>rfl,rfl,rfl⟩
theorem Mv.loc {K K':WK} {u u':World} {Q:Nat} (h:Mv K K' w u) (c:aC Q u u') (f:w.heap.size<=Q):Mv K K' w u' :=
 ⟨c.os.trans h.os,c.tape.trans h.tape,c.output.trans h.output,dL h.size c.size,fun b a e=>(c.block b (ji a h.size) om).trans (h.block b a e),h.tag,h.wb,h.yk⟩
theorem Mv.then {K K':WK} {u u':World} (h:Mv K K' w u) (c:Below u u u'):Mv K K' w u':=h.trans (Mv.of c)
def NkS (K K':WK):Prop:=∀i k,K'.nk i=some k->K.nk i=some k
structure Mw (K K':WK) (w w':World):Prop extends Mv K K' w w' where
 nk:NkS K K'
theorem Mw.trans {K K' a:WK} {w2:World} (h:Mw K K' w w') (k:Mw K' a w' w2):Mw K a w w2:=⟨h.toMv.trans k.toMv,fun i b e=>h.nk i b (k.nk i b e)⟩
theorem Mw.of {K:WK} (h:Below w w w'):Mw K K w w':=⟨Mv.of h,fun _ _ e=>e⟩
theorem yM.mono {K:WK} {a:Nat} (h:yM w0 w K x t i) (e:t<=a):yM w0 w K x a i:=by
 rcases h with⟨k,y,m,n,e1,e2,nd,r1,r2,r3,r4,r5,r6⟩ | h
 ·exact .inl ⟨k,y,m,n,e1,e2,nd,r1,by omega,by omega,r4,by omega,r6⟩
 ·exact .inr h
theorem Wd.mono {K:WK} {t':Nat} (h:Wd w0 w K x t) (a:t<=t'):Wd w0 w K x t':=⟨h.wb,h.s0.mono a,h.s1.mono a,h.ru,h.ro,h.rt,h.fl,h.ev,h.tg,h.al,h.bl⟩
end
section
variable {w w0:World} {K:WK} {x:Wo} {t:Nat}
theorem kD.c (h:kD w K x) (i:Nat):w.cell? (K.wb,i)=(#[FH (K.nk 0),ybV (K.yk 0),FH (K.nk 1),ybV (K.yk 1),.slice K.rp x.ru.length K.rc,x.hn,x.he,GK K.fg x.fl.length,GK K.eg x.ev.length]:Array Value)[i]? := aP w _ _ _ _ _ h
theorem kD.fr (h:kD w K x) (i:Nat):w.frozen? (K.wb,i)=false:=jk w _ i _ _ h
theorem kD.cn (h:kD w K x) {i:Nat} (a:i < 2):w.cell? (K.wb,i * 2)=some (FH (K.nk i)):=by
 have:i=0\/i=1:=by omega
 rcases this with rfl | rfl <;> exact h.c _
theorem kD.cy (h:kD w K x) {i:Nat} (a:i < 2):w.cell? (K.wb,i * 2+1)=some (ybV (K.yk i)):=by
 have:i=0\/i=1:=by omega
 rcases this with rfl | rfl <;> exact h.c _
theorem Wd.sd (h:Wd w0 w K x t) {i:Nat} (a:i < 2):yM w0 w K x t i:=by
 have:i=0\/i=1:=by omega
 rcases this with rfl | rfl
 ·exact h.s0
 ·exact h.s1
theorem yM.iff {i:Nat} (h:yM w0 w K x t i):(K.nk i).isSome=(x.nd i).isSome:=by
 rcases h with⟨k,y,m,n,e1,e2,_⟩ | ⟨b,e1,e2,_⟩ | ⟨e1,e2,_⟩ <;> rw[e1,e2] <;> rfl
theorem Lp (b:Nat) (n:Int) (w:World) (q:Bool) (a:decide (0<=n/\n < 2)=q):Calls prog 137 #[.pointer (some (b,0)),n] w fun e w'=>e=.returned (.bool q)/\w'=w:=by
 by_cases f:0<=n
 ·by_cases i:n < 2
  ·obtain rfl:q=true:=by rw[<- a];exact gG ⟨f,i⟩
   clear a;go_enter func137,ntmps137;go_wp2_with fail;go_ret;exact⟨rfl,rfl⟩
  ·obtain rfl:q=false:=by rw[<- a];exact gQ (fun h=>i h.2)
   clear a;go_enter func137,ntmps137;go_wp2_with fail;go_ret;exact⟨rfl,rfl⟩
 ·obtain rfl:q=false:=by rw[<- a];exact gQ (fun h=>f h.1)
  clear a;go_enter func137,ntmps137;go_wp2_with fail;go_ret;exact⟨rfl,rfl⟩
theorem x9 (h:kD w K x) {i:Nat} (f:i < 2):Calls prog 135 #[.pointer (some (K.wb,i * 2))] w fun e w'=>e=.returned (.bool (K.nk i).isSome)/\w'=w:=by
 have c:=h.cn f
 cases a:K.nk i with
 | none =>
  rw[a]at c;simp only[FH,Option.map_none]at c;clear a h;go_enter func135,ntmps135;go_wp2_with fail;go_ret;exact⟨rfl,rfl⟩
 | some k =>
  rw[a]at c;simp only[FH,nX]at c;clear a h;go_enter func135,ntmps135;go_wp2_with fail;go_ret;exact⟨rfl,rfl⟩
def I5 (s:Nat->Addr) (W:Wo) (b:Nat) (n:Int):Value:=if W.jW n=0 then .tuple #[.pointer (some (b,n.toNat * 2)),.nilIface] else .tuple #[.pointer none,aO s (W.jW n)]
theorem DY {s:Nat->Addr} (S:jm w0 s) (h:Wd w0 w K x t) (n:Int) :
  Calls prog 141 #[.pointer (some (K.wb,0)),n] w fun e w'=>e=.returned (I5 s x K.wb n)/\Below w w w':=by
 have l:Hid (jm w s):=S.below h.bl;have m:Hid (Wd w0 w K x t):=h;clear S h;go_enter func141,ntmps141;go_wp2_with fail;refine(Lp K.wb n w _ rfl).mono ?_;rintro e y ⟨rfl,f⟩;obtain rfl:=f.symm;clear f;by_cases a:0<=n/\n < 2
 ·rw[gG a];obtain⟨i,rfl⟩:∃i:Nat,n=i:=⟨n.toNat,by omega⟩;have o:i < 2:=by omega
  have u:Hid (i < 2):=o;have p:Hid ((K.nk i).isSome=(x.nd i).isSome):=(m.sd o).iff;have q:Hid (x.jW (i:Int)=if (x.nd i).isSome then 0 else 7):=by show _=_;unfold Wo.jW;rw[aj a,fJ]
  have z:(0:Int)<=(i:Int):=by omega
  have A:(i:Int) < 2:=by omega
  clear a;go_wp2_with fail;refine(x9 m.wb u).mono ?_;rintro e w2 ⟨rfl,f⟩;obtain rfl:=f.symm;clear f
  cases k:(K.nk i).isSome
  ·have j:Hid (I5 s x K.wb (i:Int)=.tuple #[.pointer none,.iface 359 (.pointer (some (s 6)))]):=by
    show _=_;unfold I5;rw[q.out,<- p.out,k];rfl
   have B:=l.c6;clear k;go_wp2_with fail;go_quiet (fail)
   go_wp2_with fail;go_ret2;exact⟨by rw[j.out];rfl,⟨rfl,rfl,rfl,bJ _,fun _ _=>rfl⟩⟩
  ·have j:Hid (I5 s x K.wb (i:Int)=.tuple #[.pointer (some (K.wb,i * 2)),.nilIface]):=by
    show _=_;unfold I5;rw[q.out,<- p.out,k];rfl
   clear k;go_wp2_with fail;go_ret2;exact⟨by rw[j.out];rfl,aH _ _⟩
 ·rw[gQ a];have j:Hid (I5 s x K.wb n=.tuple #[.pointer none,.iface 359 (.pointer (some (s 1)))]):=by
   show _=_;have:x.jW n=2:=by unfold Wo.jW;rw[ak a]
   unfold I5;rw[this];rfl
  have s1:=l.c1;clear a;go_wp2_with fail;go_quiet (fail)
  go_wp2_with fail;go_ret2;exact⟨by rw[j.out];rfl,⟨rfl,rfl,rfl,bJ _,fun _ _=>rfl⟩⟩
theorem DZ (h:kD w K x):Calls prog 158 #[.pointer (some (K.wb,0))] w fun e w'=>e=.returned (if x.he=0 then .tuple #[.int .i64 (-1),.int .i64 0] else .tuple #[x.hn,x.he])/\Below w w w':=by
 have c5:w.cell? (K.wb,5)=x.hn:=h.c 5;have c6:w.cell? (K.wb,6)=x.he:=h.c 6;clear h;by_cases a:x.he=0
 ·have f:Hid ((if x.he=0 then .tuple #[.int .i64 (-1),.int .i64 0] else .tuple #[x.hn,x.he]:Value)=.tuple #[.int .i64 (-1),.int .i64 0]):=aj a;rw[f.out];rw[a]at c6;clear f a;go_enter func158,ntmps158;go_wp2_with fail;go_ret2;exact⟨rfl,aH _ _⟩
 ·have f:Hid ((if x.he=0 then .tuple #[.int .i64 (-1),.int .i64 0] else .tuple #[x.hn,x.he]:Value)=.tuple #[x.hn,x.he]):=ak a;rw[f.out];have i:(x.he==0)=false:=by rw[dG];exact a
  clear f a;go_enter func158,ntmps158;go_wp2_with fail;try go_quiet (fail)
  try go_wp2_with fail
  go_ret2;exact⟨rfl,⟨rfl,rfl,rfl,bJ _,fun _ _=>rfl⟩⟩
end
section
variable {w0 w:World} {K:WK} {t i:Nat}
theorem Wd.lt {x:Wo} (h:Wd w0 w K x t) {b:Nat} (e:K.tag b≠9):b < w.heap.size:=by
 rcases dX b w with a | a
 ·exact a
 ·exact absurd (h.al b a) e
theorem kJ {k:Bk} (e:i < 2) (a:K.nk i=some k):K.part (i+1)=k.all:=by
 have:i=0\/i=1:=by omega
 rcases this with rfl | rfl <;> simp[WK.part,a]
theorem Wd.apart {x:Wo} (h:Wd w0 w K x t) {i j:Nat} (e:i < 5) (f:j < 5) (a:i≠j):∀b ∈ K.part i,¬b ∈ K.part j:=fun b k l=>a ((h.tg i e b k).1.symm.trans (h.tg j f b l).1)
theorem Wd.five {x:Wo} (h:Wd w0 w K x t) {i:Nat} (a:i < 5):∀b ∈ K.part i,K.tag b≠5:=fun b f e=>by have:=(h.tg i a b f).1;omega
theorem Wd.rest {w':World} {x:Wo} (h:Wd w0 w K x t) (q:i < 2) (c:ay (K.part (i+1)) w w'):kD w' K x/\yM w0 w' K x t (1 - i)/\Sl w' (.slice K.rp x.ru.length K.rc) x.ru/\Oa w' K x/\YU w' K x/\Below w0 w0 w':=by
 have l:∀b ∈ K.part (i+1),w0.heap.size<=b:=fun b m=>(h.tg (i+1) om b m).2;have f:=h.five (i:=i+1) om;refine⟨?_,?_,?_,h.fl.kept c (h.apart om om om) f,h.ev.kept c (h.apart om om om),ay.below h.bl c l⟩
 ·unfold kD;rw[c.block _ h.wb.lt (fun k=>h.apart (i:=i+1) (j:=0) om om om _ k (by simp[WK.part]))];exact h.wb
 ·exact(h.sd (i:=1 - i) om).kept om c (h.apart om om om) f l
 ·refine h.ru.gZ (fun a n c' e=>?_);have o:K.rp=some a:=(Fe e).1;have p:=h.rt a o;exact c.block a.block (h.lt om) (fun k=>f _ k p)
theorem Wd.Lr {w':World} {x:Wo} {t':Nat} (h:Wd w0 w K x t) (m:i < 2) {k:Bk} {y a:No} {m' o:Nat} (j:K.nk i=some k) (q:x.nd i=some y) (nd:Nd w0 w' k a m' o) (c:ay k.all w w') (s:t<=t') (u:m'<=33 * t') (z:o<=8 * t') (A:0<=a.now) (B:a.now<=t') (hr:a.ru=y.ru) (C:a.id=y.id) :
  Wd w0 w' K {x with nd:=aQ x.nd i (some a)} t':=by
 obtain⟨D,E,F,l,p,G⟩:=h.rest m (by rw[kJ m j];exact c);have H:=h.sd m;rcases H with⟨k2,y2,m2,n2,e1,e2,nd2,r1,_,_,_,_,r6,r7,r8⟩ | ⟨_,e1,_⟩ | ⟨e1,_⟩;rotate_left
 ·rw[j]at e1;cases e1
 ·rw[j]at e1;cases e1
 rw[j]at e1;rw[q]at e2
 cases e1
 cases e2
 have e:yM w0 w' K {x with nd:=aQ x.nd i (some a)} t' i:=.inl ⟨k,a,m',o,j,aG _ _ _,nd,r1,u,z,A,B,by rw[hr];exact r6,by rw[C];exact r7,by rw[hr];exact r8⟩;have other:yM w0 w' K {x with nd:=aQ x.nd i (some a)} t' (1 - i):=by
  rcases E.mono s with⟨k3,y3,m3,n3,f1,f2,rest⟩ | ⟨b3,f1,f2,rest⟩ | ⟨f1,f2,rest⟩
  ·exact .inl ⟨k3,y3,m3,n3,f1,by show aQ x.nd i _ (1 - i)=_;rw[aI _ _ om];exact f2,rest⟩
  ·exact .inr (.inl ⟨b3,f1,by show aQ x.nd i _ (1 - i)=_;rw[aI _ _ om];exact f2,rest⟩)
  ·exact .inr (.inr ⟨f1,by show aQ x.nd i _ (1 - i)=_;rw[aI _ _ om];exact f2,rest⟩)
 have f:yM w0 w' K {x with nd:=aQ x.nd i (some a)} t' 0/\yM w0 w' K {x with nd:=aQ x.nd i (some a)} t' 1:=by
  have:i=0\/i=1:=by omega
  rcases this with rfl | rfl
  ·exact⟨e,other⟩
  ·exact⟨other,e⟩
 exact⟨D,f.1,f.2,F,h.ro,h.rt,⟨l.len,l.le,l.ok,l.rows⟩,⟨p.le,p.rows⟩,h.tg,fun b I=>h.al b (dL c.size I),G⟩
def Wo.RX (W:Wo):Nat:=if W.he=0 then 4 else W.jW W.hn
def chV (s:Nat->Addr) (W:Wo) (b:Nat):Value:=if W.he=0 then .tuple #[.pointer none,.iface 359 (.pointer (some (s 3)))] else I5 s W b W.hn
theorem D6 {x:Wo} {s:Nat->Addr} (S:jm w0 s) (h:Wd w0 w K x t) :
  Calls prog 153 #[.pointer (some (K.wb,0))] w fun e w'=>e=.returned (chV s x K.wb)/\Below w w w':=by
 have o:Hid (jm w0 s):=S;have p:Hid (Wd w0 w K x t):=h;clear S h;go_enter func153,ntmps153;go_wp2_with fail;refine(DZ p.wb).mono ?_;rintro e k ⟨rfl,a⟩;have q:Hid (Below w w k):=a;have u:Hid (Wd w0 k K x t):=p.below a;clear a;by_cases f:x.he=0
 ·have l:Hid (chV s x K.wb=.tuple #[.pointer none,.iface 359 (.pointer (some (s 3)))]):=aj f;rw[aj f];clear f;have s3:=(o.below u.bl).c3;go_wp2_with fail;go_quiet (fail)
  have y:Hid (Below w w (k.drewN nq)):=t2 q ⟨rfl,rfl,rfl,bJ _,fun _ _=>rfl⟩;go_wp2_with fail;go_ret2;exact⟨by rw[l.out];rfl,y⟩
 ·have l:Hid (chV s x K.wb=I5 s x K.wb x.hn):=ak f;have z:(x.he==0)=false:=by rw[dG];exact f
  rw[ak f];clear f;go_wp2_with fail;refine(DY o u x.hn).mono ?_;rintro e w2 ⟨rfl,j⟩;have A:Hid (Below w w w2):=t2 q j;obtain⟨u1,u2,m⟩:∃u1 u2,I5 s x K.wb x.hn=.tuple #[u1,u2]:=by unfold I5;split;exact⟨_,_,rfl⟩;exact⟨_,_,rfl⟩
  have B:Hid (chV s x K.wb=.tuple #[u1,u2]):=l.trans m;rw[m];clear m j;go_wp2_with fail;go_ret2;exact⟨by rw[B.out];rfl,A⟩
end
theorem yc {w:World} {Q:Nat} {c:Pk} (h:dU w Q c) (d:Pk):dU ((((((w.setCell (Q,0) d.pr).setCell (Q,1) d.a1).setCell (Q,2) d.p1).setCell (Q,3) d.a2).setCell (Q,4) d.p2).setCell (Q,5) d.fl) Q d:=by
 have a:=bV w Q 0 _ _ d.pr h;have e:=bV _ Q 1 _ _ d.a1 a;have f:=bV _ Q 2 _ _ d.p1 e;have i:=bV _ Q 3 _ _ d.a2 f;have j:=bV _ Q 4 _ _ d.p2 i;exact(bV _ Q 5 _ _ d.fl j).trans rfl
theorem kT (w:World) (Q:Nat) (a e f h i j:Value):aC Q w ((((((w.setCell (Q,0) a).setCell (Q,1) e).setCell (Q,2) f).setCell (Q,3) h).setCell (Q,4) i).setCell (Q,5) j) :=
 (((((aC.set _ _ _ _).trans (aC.set _ _ _ _)).trans (aC.set _ _ _ _)).trans (aC.set _ _ _ _)).trans (aC.set _ _ _ _)).trans (aC.set _ _ _ _)
def Wo.I7 (W:Wo):Option (Nat×No):=if W.he=0 then none else if 0<=W.hn/\W.hn < 2 then (W.nd W.hn.toNat).map fun x=>(W.hn.toNat,x) else none
theorem je {W:Wo} {i:Nat} {x:No} (h:W.I7=some (i,x)):i < 2/\W.nd i=some x/\∀s b,chV s W b=.tuple #[.pointer (some ⟨b,i * 2,none⟩),.nilIface]:=by
 unfold Wo.I7 at h;split at h
 ·cases h
 rename_i j;split at h
 ·rename_i k;obtain⟨y,a,e⟩:=Option.map_eq_some_iff.1 h;have f:W.hn.toNat=i:=dP Prod.fst e;have l:y=x:=dP Prod.snd e;subst l;rw[f]at a;refine⟨by omega,a,fun s b=>?_⟩;unfold chV I5;have m:W.jW W.hn=0:=by unfold Wo.jW;rw[aj k,f,a];rfl
  rw[ak j,aj m,f]
 ·cases h
theorem yg {W:Wo} (h:W.I7=none):∃e,W.RX=e+1/\∀s b,chV s W b=.tuple #[.pointer none,aO s (e+1)]:=by
 unfold Wo.I7 at h;unfold Wo.RX chV;split at h
 ·rename_i a;exact⟨3,by rw[aj a],fun s b=>by rw[aj a];rfl⟩
 rename_i a;split at h
 ·rename_i i;have j:W.nd W.hn.toNat=none:=Option.map_eq_none_iff.1 h;have f:W.jW W.hn=7:=by unfold Wo.jW;rw[aj i,j];rfl
  exact⟨6,by rw[ak a,f],fun s b=>by rw[ak a];unfold I5;rw[f];rfl⟩
 ·rename_i i;have f:W.jW W.hn=2:=by unfold Wo.jW;rw[ak i]
  exact⟨1,by rw[ak a,f],fun s b=>by rw[ak a];unfold I5;rw[f];rfl⟩
theorem Wd.fresh {w0 w w':World} {K:WK} {x:Wo} {t Q:Nat} (h:Wd w0 w K x t) (o:K.tag Q=9) (y:w0.heap.size<=Q) (g:aC Q w w'):Wd w0 w' K x t:=by
 have p:∀i,i < 5->¬Q ∈ K.part i:=fun i m k=>by have:=(h.tg i m Q k).1;omega
 have q:K.tag Q≠5:=by omega
 have c:ay [Q] w w':=ay.one g sM;have l:∀i,i < 5->∀b ∈ [Q],¬b ∈ K.part i:=fun i m b f=>by simp at f;subst f;exact p i m
 have j:∀b ∈ [Q],K.tag b≠5:=fun b f=>by simp at f;subst f;exact q
 have hl0:∀b ∈ [Q],w0.heap.size<=b:=fun b f=>by simp at f;omega
 refine⟨?_,h.s0.kept om c (l 1 om) j hl0,h.s1.kept om c (l 2 om) j hl0,?_,h.ro,h.rt,h.fl.kept c (l 3 om) j,h.ev.kept c (l 4 om),h.tg,fun b f=>h.al b (dL g.size f),ay.below h.bl c hl0⟩
 ·unfold kD;rw[c.block _ h.wb.lt (fun k=>l 0 om _ k (by simp[WK.part]))];exact h.wb
 ·refine h.ru.gZ (fun a n c' e=>?_);have s:K.rp=some a:=(Fe e).1;have u:=h.rt a s;exact c.block a.block (h.lt om) (fun k=>j _ k u)
section
variable {w0 w:World} {K K':WK} {x x':Wo} {t:Nat}
theorem yM.turn {i:Nat} (h:yM w0 w K x t i) (f:K'.nk i=K.nk i) (ky:K'.yk i=K.yk i) (j:x'.nd i=x.nd i) (l:x'.yb i=x.yb i) (o:∀b,K.tag b=5->K'.tag b=5):yM w0 w K' x' t i:=by
 rcases h with⟨k,y,m,n,e1,e2,nd,r1,r2,r3,r4,r5,r6,r7,r8⟩ | ⟨b,e1,e2,e3,Y,r⟩ | ⟨e1,e2,e3⟩
 ·exact .inl ⟨k,y,m,n,f.trans e1,j.trans e2,nd,ky.trans r1,r2,r3,r4,r5,r6,r7,fun p a e=>o _ (r8 p a e)⟩
 ·exact .inr (.inl ⟨b,f.trans e1,j.trans e2,ky.trans e3,by rw[l];exact Y,by rw[l];exact r⟩)
 ·exact .inr (.inr ⟨f.trans e1,j.trans e2,ky.trans e3⟩)
theorem pU.turn {t:Nf} {v:Value} (h:pU w K t v) (a:∀b,K.tag b=5->K'.tag b=5):pU w K' t v:=by
 obtain⟨⟨p,cap,e,R,f⟩,r⟩:=h;exact⟨⟨p,cap,e,R,fun g o i=>a _ (f g o i)⟩,r⟩
theorem Oa.turn (h:Oa w K x) (f:K'.fg=K.fg) (e:K'.cv=K.cv) (a:x'.fl=x.fl) (j:∀b,K.tag b=5->K'.tag b=5):Oa w K' x':=by
 obtain⟨k,l,m,o⟩:=h;refine⟨by rw[e,a];exact k,by rw[a];exact l,?_,?_⟩
 ·rw[a,e];exact fun i t v p q=>(m i t v p q).turn j
 ·rw[f,e,a];exact o
theorem YU.turn (h:YU w K x) (e:K'.eg=K.eg) (a:x'.ev=x.ev):YU w K' x':=by
 obtain⟨f,i⟩:=h;exact⟨by rw[a];exact f,by rw[e,a];exact i⟩
theorem Wd.make {w':World} {t':Nat} (h:Wd w0 w K x t) (l:List Nat) (c:ay l w w') (E:∀b ∈ l,w0.heap.size<=b/\K.tag b≠5) (u:t<=t')
  (tag:∀b,b < w.heap.size->K'.tag b=K.tag b) (J:∀b,w'.heap.size<=b->K'.tag b=9) (L:K'.wb=K.wb) (wb:kD w' K' x')
  (s0:(yM w0 w' K' x' t' 0/\∀b ∈ K'.part 1,K'.tag b=1/\w0.heap.size<=b)\/(K'.nk 0=K.nk 0/\K'.yk 0=K.yk 0/\x'.nd 0=x.nd 0/\x'.yb 0=x.yb 0/\∀b ∈ l,K.tag b≠1))
  (s1:(yM w0 w' K' x' t' 1/\∀b ∈ K'.part 2,K'.tag b=2/\w0.heap.size<=b)\/(K'.nk 1=K.nk 1/\K'.yk 1=K.yk 1/\x'.nd 1=x.nd 1/\x'.yb 1=x.yb 1/\∀b ∈ l,K.tag b≠2))
  (ru:(Sl w' (.slice K'.rp x'.ru.length K'.rc) x'.ru/\aF x'.ru/\(∀a,K'.rp=some a->K'.tag a.block=5))\/(K'.rp=K.rp/\K'.rc=K.rc/\x'.ru=x.ru))
  (fl:(Oa w' K' x'/\∀b ∈ K'.part 3,K'.tag b=3/\w0.heap.size<=b)\/(K'.fg=K.fg/\K'.cv=K.cv/\x'.fl=x.fl/\∀b ∈ l,K.tag b≠3))
  (ev:(YU w' K' x'/\∀b ∈ K'.part 4,K'.tag b=4/\w0.heap.size<=b)\/(K'.eg=K.eg/\x'.ev=x.ev/\∀b ∈ l,K.tag b≠4)):Wd w0 w' K' x' t':=by
 have y:∀b,K.tag b=5->K'.tag b=5:=fun b f=>by rw[tag b (h.lt om)];exact f
 have m:∀b ∈ l,K.tag b≠5:=fun b f=>(E b f).2;have hl0:∀b ∈ l,w0.heap.size<=b:=fun b f=>(E b f).1;have z:∀j,j < 5->(∀b ∈ l,K.tag b≠j)->∀b ∈ l,¬b ∈ K.part j:=fun j A M b f B=>M b f (h.tg j A b B).1;have k:∀j,j < 5->∀b ∈ K.part j,K'.tag b=j/\w0.heap.size<=b:=fun j A b f=>by
  have q:=h.tg j A b f;exact⟨by rw[tag b (h.lt om)];exact q.1,q.2⟩
 have F:yM w0 w' K' x' t' 0/\∀b ∈ K'.part 1,K'.tag b=1/\w0.heap.size<=b:=by
  rcases s0 with s0 | ⟨i,o,p,C,s⟩
  ·exact s0
  ·refine⟨((h.s0.kept om c (z 1 om s) m hl0).turn i o p C y).mono u,fun b f=>k 1 om b ?_⟩;simp only[WK.part,i,o]at f ⊢;exact f
 have G:yM w0 w' K' x' t' 1/\∀b ∈ K'.part 2,K'.tag b=2/\w0.heap.size<=b:=by
  rcases s1 with s1 | ⟨i,o,p,C,s⟩
  ·exact s1
  ·refine⟨((h.s1.kept om c (z 2 om s) m hl0).turn i o p C y).mono u,fun b f=>k 2 om b ?_⟩;simp only[WK.part,i,o]at f ⊢;exact f
 have D:Sl w' (.slice K'.rp x'.ru.length K'.rc) x'.ru/\aF x'.ru/\(∀a,K'.rp=some a->K'.tag a.block=5):=by
  rcases ru with ru | ⟨i,o,p⟩
  ·exact ru
  ·rw[i,o,p];refine⟨h.ru.gZ (fun a n c' e=>?_),h.ro,fun a e=>y _ (h.rt a e)⟩;have N:K.rp=some a:=(Fe e).1;have u:=h.rt a N;exact c.block a.block (h.lt om) (fun B=>m _ B u)
 have H:Oa w' K' x'/\∀b ∈ K'.part 3,K'.tag b=3/\w0.heap.size<=b:=by
  rcases fl with fl | ⟨i,o,p,s⟩
  ·exact fl
  ·refine⟨(h.fl.kept c (z 3 om s) m).turn i o p y,fun b f=>k 3 om b ?_⟩;simp only[WK.part,i]at f ⊢;exact f
 have I:YU w' K' x'/\∀b ∈ K'.part 4,K'.tag b=4/\w0.heap.size<=b:=by
  rcases ev with ev | ⟨i,p,s⟩
  ·exact ev
  ·refine⟨(h.ev.kept c (z 4 om s)).turn i p,fun b f=>k 4 om b ?_⟩;simp only[WK.part,i]at f ⊢;exact f
 refine⟨wb,F.1,G.1,D.1,D.2.1,D.2.2,H.1,I.1,fun j A b f=>?_,J,ay.below h.bl c hl0⟩;have:j=0\/j=1\/j=2\/j=3\/j=4:=by omega
 rcases this with rfl | rfl | rfl | rfl | rfl
 ·refine k 0 om b ?_;simp only[WK.part,L]at f ⊢;exact f
 ·exact F.2 b f
 ·exact G.2 b f
 ·exact H.2 b f
 ·exact I.2 b f
theorem Wd.Ls (h:Wd w0 w K x t):K.tag K.wb=0/\w0.heap.size<=K.wb:=h.tg 0 om _ (by simp[WK.part])
theorem Mv.list {w':World} {l:List Nat} (_h:Wd w0 w K x t) (c:ay l w w') (a:∀b ∈ l,¬(K.tag b=9\/K.tag b=5)) (tag:∀b,b < w.heap.size->K'.tag b=K.tag b) (e:K'.wb=K.wb) (ky:K'.yk=K.yk):Mv K K' w w' :=
 ⟨c.os,c.tape,c.output,c.size,fun b f h=>c.block b f (fun i=>a b i h),tag,e,ky⟩
end
section
variable {w w0:World} {t i:Nat}
def WK.dn (K:WK) (i:Nat):WK:={K with nk:=aQ K.nk i none}
theorem kD.kept {w':World} {K:WK} {x:Wo} (h:kD w K x) (e:w'.heap[K.wb]? = w.heap[K.wb]?):kD w' K x:=by unfold kD;rw[e];exact h
theorem kD.down {K:WK} {x:Wo} (h:kD w K x) {i:Nat} (a:i < 2) (y:By):kD (w.setCell (K.wb,i * 2) (.pointer none)) (K.dn i) (x.bQ i y):=by
 have:i=0\/i=1:=by omega
 unfold kD;show(w.setCell (K.wb,i * 2) (.pointer none)).heap[K.wb]? = _;rw[bV w _ _ _ _ _ h];rcases this with rfl | rfl <;> rfl
theorem Wd.up {K:WK} {x:Wo} (h:Wd w0 w K x t) (f:i < 2) {y:No} (e:x.nd i=some y):∃k m n,K.nk i=some k/\Nd w0 w k y m n/\K.yk i=some k.yb/\m<=33 * t/\n<=8 * t/\0<=y.now/\y.now<=t/\aF y.ru/\y.id=i/\(y.ru≠[]->∀a,k.rp=some a->K.tag a.block=5)/\∀b ∈ k.all,K.tag b=i+1:=by
 rcases h.sd f with⟨k,y',m,n,e1,e2,nd,r1,r2,r3,r4,r5,r6,r7,r8⟩ | ⟨_,_,e2,_⟩ | ⟨_,e2,_⟩
 ·rw[e]at e2
  cases e2
  exact⟨k,m,n,e1,nd,r1,r2,r3,r4,r5,r6,r7,r8,fun b j=>(h.tg (i+1) om b (by rw[kJ f e1];exact j)).1⟩
 ·rw[e]at e2;cases e2
 ·rw[e]at e2;cases e2
theorem dS (a:i < 2):i=0\/i=1:=by omega
theorem RY {K:WK} {x:Wo} (h:Wd w0 w K x t) (j:i < 2) {y:No} (E:x.nd i=some y) :
  Calls prog 150 #[.pointer (some (K.wb,i * 2))] w fun e w'=>e=.returned (.tuple #[])/\Wd w0 w' (K.dn i) (x.bQ i y.y) t/\Mv K (K.dn i) w w':=by
 obtain⟨k,m,n,F,nd,o,_,_,_,_,_,_,_,p⟩:=h.up j E;have D:Hid (Wd w0 w K x t):=h;have P:Hid (i < 2):=j;have T:Hid (x.nd i=some y):=E;have G:Hid (K.nk i=some k/\K.yk i=some k.yb/\(∀b ∈ k.all,K.tag b=i+1)):=⟨F,o,p⟩;have L:Hid (Nd w0 w k y m n):=nd;have c1:=h.wb.cn j;have c2:=h.wb.cy j;have U:=h.wb.fr (i * 2);rw[F]at c1;rw[o]at c2;simp only[FH,ybV,nX]at c1 c2;have s:Hid (kD (w.setCell (K.wb,i * 2) (.pointer none)) (K.dn i) (x.bQ i y.y)):=h.wb.down j y.y;have u:Hid (aC K.wb w (w.setCell (K.wb,i * 2) (.pointer none))):=aC.set _ _ _ _;have z:Hid (k.yb≠K.wb):=fun e=>by have:=p _ k.rQ;rw[e,h.Ls.1]at this;omega
 have H:Hid (fK (w.setCell (K.wb,i * 2) (.pointer none)) k.yb y.y):=nd.yb.kept (u.block _ nd.yb.lt z);clear h j E nd F o p;go_enter func150,ntmps150;go_wp2_with fail;refine(JR k.yb y.y _ H).mono ?_;rintro e w2 ⟨rfl,M,N⟩;have Q:Hid (fK w2 k.yb y.y.off):=M;have O:Hid (aC k.yb (w.setCell (K.wb,i * 2) (.pointer none)) w2):=N;clear M N;go_wp2_with fail;go_end0
 have I:ay [K.wb,k.yb] w w2:=(ay.one u sM).trans (ay.one O sM);have A:=D.Ls;have B:=G.2.2 _ k.rQ;have C:=L.g0 _ k.rQ;have q:∀b ∈ [K.wb,k.yb],w0.heap.size<=b/\(K.tag b=0\/K.tag b=i+1):=fun b a=>by
  simp only[dI,eY,fA]at a;rcases a with rfl | rfl
  ·exact⟨A.2,.inl A.1⟩
  ·exact⟨C,.inr B⟩
 have J:kD w2 (K.dn i) (x.bQ i y.y):=s.kept (O.block _ s.lt (fun e=>z.out e.symm));have j:=P.out;refine⟨rfl,?_,Mv.list D I (fun b a=>by have:=(q b a).2;omega) (fun _ _=>rfl) rfl rfl⟩;have l:yM w0 w2 (K.dn i) (x.bQ i y.y) t i:=.inr (.inl ⟨k.yb,aG _ _ _,aG _ _ _,G.2.1,by show fK w2 k.yb (aQ x.yb i y.y.pG i);rw[aG];exact Q,by show(aQ x.yb i y.y.pG i).left<=_;rw[aG];exact L.lf⟩);have f:∀b ∈ (K.dn i).part (i+1),(K.dn i).tag b=i+1/\w0.heap.size<=b:=fun b a=>by
  have R:(K.dn i).nk i=none:=aG _ _ _;have S:(K.dn i).yk i=some k.yb:=G.2.1;have:b=k.yb:=by
   rcases dS j with rfl | rfl <;> (simp only[WK.part,R,S,Option.toList,dI,eY,fA]at a;exact a)
  subst this;exact⟨B,C⟩
 refine D.make [K.wb,k.yb] I (fun b a=>⟨(q b a).1,by have:=(q b a).2;omega⟩) nL (fun _ _=>rfl) (fun b a=>D.al b (dL I.size a)) rfl J ?_ ?_ (.inr ⟨rfl,rfl,rfl⟩) (.inr ⟨rfl,rfl,rfl,fun b a=>by have:=(q b a).2;omega⟩) (.inr ⟨rfl,rfl,fun b a=>by have:=(q b a).2;omega⟩)
 ·rcases dS j with rfl | rfl
  ·exact .inl ⟨l,f⟩
  ·exact .inr ⟨rfl,rfl,rfl,rfl,fun b a=>by have:=(q b a).2;omega⟩
 ·rcases dS j with rfl | rfl
  ·exact .inr ⟨rfl,rfl,rfl,rfl,fun b a=>by have:=(q b a).2;omega⟩
  ·exact .inl ⟨l,f⟩
theorem yh (s:Nat->Addr) (W:Wo) (b:Nat) (n:Int):(∃i y,n=((i:Nat):Int)/\i < 2/\W.nd i=some y/\W.jW n=0/\I5 s W b n=.tuple #[.pointer (some ⟨b,i * 2,none⟩),.nilIface])\/(∃e,W.jW n=e+1/\I5 s W b n=.tuple #[.pointer none,.iface 359 (.pointer (some (s e)))]):=by
 by_cases f:0<=n/\n < 2
 ·cases h:W.nd n.toNat with
  | some y =>
   have a:W.jW n=0:=by unfold Wo.jW;rw[aj f,h];rfl
   exact .inl ⟨n.toNat,y,by omega,by omega,h,a,by unfold I5;rw[aj a]⟩
  | none =>
   have a:W.jW n=7:=by unfold Wo.jW;rw[aj f,h];rfl
   exact .inr ⟨6,a,by unfold I5;rw[a];rfl⟩
 ·have a:W.jW n=2:=by unfold Wo.jW;rw[ak f]
  exact .inr ⟨1,a,by unfold I5;rw[a];rfl⟩
def Wo.fU (W:Wo) (n:Int):Wo:=if W.jW n=0 then (match W.nd n.toNat with | some y=>W.bQ n.toNat y.y | none=>W) else W
theorem ac3 {K:WK} {x:Wo} {s:Nat->Addr} (S:jm w0 s) (h:Wd w0 w K x t) (n:Int) :
  Calls prog 90 #[.pointer (some (K.wb,0)),n] w fun e w'=>e=.returned (aO s (x.jW n))/\∃K',Wd w0 w' K' (x.fU n) t/\Mv K K' w w':=by
 have u:Hid (jm w0 s):=S;have k:Hid (Wd w0 w K x t):=h;clear S h;go_enter func90,ntmps90;go_wp2_with fail;refine(DY u k n).mono ?_;rintro e l ⟨rfl,a⟩;have m:Hid (Below w w l):=a;have o:Hid (Wd w0 l K x t):=k.below a;clear a;rcases yh s x K.wb n with⟨i,y,hn,hi,hy,he,hv⟩ | ⟨e,he,hv⟩
 ·rw[hv];have f:Hid (x.jW n=0/\x.fU n=x.bQ i y.y):=⟨he,by unfold Wo.fU;rw[aj he,hn,fJ,hy]⟩;have p:Hid (i < 2/\x.nd i=some y):=⟨hi,hy⟩;clear hv hn hi hy he;go_wp2_with fail;refine(RY o p.1 p.2).mono ?_;rintro e w2 ⟨rfl,j,q⟩;have z:Hid (Wd w0 w2 (K.dn i) (x.bQ i y.y) t):=j;have A:Hid (Mv K (K.dn i) w w2):=(Mv.of m.out).trans q;clear j q;go_wp2_with fail;go_ret;exact⟨by rw[f.1];rfl,_,by rw[f.2];exact z,A⟩
 ·rw[hv];have f:Hid (x.jW n=e+1/\x.fU n=x):=⟨he,by unfold Wo.fU;rw[ak om]⟩;clear hv he;go_wp2_with fail;go_ret;exact⟨by rw[f.1];rfl,K,by rw[f.2];exact o,Mv.of m.out⟩
end
def WK.upd (K:WK) (i:Nat) (k:Bk) (a b:Nat):WK:={K with nk:=aQ K.nk i (some k),tag:=fun g=>if g < a then K.tag g else if g ∈ k.all then i+1 else if g < b then 5 else 9}
theorem kD.rise {w:World} {K:WK} {x:Wo} (h:kD w K x) {i:Nat} (e:i < 2) (k:Bk) (a b:Nat):kD (w.setCell (K.wb,i * 2) (.pointer (some (k.nd,0)))) (K.upd i k a b) (x.vK i):=by
 unfold kD;show(w.setCell (K.wb,i * 2) (.pointer (some (k.nd,0)))).heap[K.wb]? = _;rw[bV w _ _ _ _ _ h];rcases dS e with rfl | rfl <;> rfl
theorem ac4 {w0 w:World} {K:WK} {x:Wo} {t i b:Nat} {s:Nat->Addr} (S:jm w0 s) (h:Wd w0 w K x t) (B:i < 2) (hd:x.nd i=none) (f:K.yk i=some b) (N:sD i (x.yb i).fF x.ru) :
  Calls prog 138 #[.pointer (some (K.wb,i * 2)),i,.slice K.rp x.ru.length K.rc] w fun e w'=>e=.returned .nilIface/\∃K',Wd w0 w' K' (x.vK i) t/\Mv K K' w w':=by
 have HS:Hid (jm w0 s):=S;have C:Hid (Wd w0 w K x t):=h;have HI:Hid (i < 2):=B;have HO:Hid (sD i (x.yb i).fF x.ru):=N;have z:K.nk i=none/\fK w b (x.yb i)/\(x.yb i).left<=9223372036854775807:=by
  rcases h.sd B with⟨k,y,m,n,e1,E,_⟩ | ⟨b',e1,E,e3,Y,r⟩ | ⟨e1,E,e3⟩
  ·rw[hd]at E;cases E
  ·rw[f]at e3;cases e3;exact⟨e1,Y,r⟩
  ·rw[f]at e3;cases e3
 have HY:Hid (fK w b (x.yb i)):=z.2.1;have HL:Hid ((x.yb i).left<=9223372036854775807):=z.2.2;have HD:Hid (x.nd i=none/\K.yk i=some b/\K.nk i=none):=⟨hd,f,z.1⟩;have F:K.tag b=i+1/\w0.heap.size<=b:=h.tg (i+1) om b (by rcases dS B with rfl | rfl <;> simp[WK.part,z.1,f]);have u:Hid (K.tag b=i+1/\w0.heap.size<=b):=F;have O:Hid (b≠K.wb):=fun e=>by have:=F.1;rw[e,h.Ls.1]at this;omega
 have c2:=h.wb.cy B;rw[f]at c2;simp only[ybV,nX]at c2;have P:Hid (w.cell? (K.wb,i * 2+1)=some (.pointer (some (b,0)))):=c2;clear S h B N hd f z F;go_enter func138,ntmps138;go_wp2_with fail;refine(on_any b (x.yb i) w HY.out).mono ?_;rintro e G ⟨rfl,y1,Q⟩;have Y1:Hid (fK G b (x.yb i).fF):=y1;have G1:Hid (aC b w G):=Q;have R:Hid (K.wb≠b):=fun e=>O.out e.symm;have d2:=Q.keeps R.out P.out;have Zg:Hid (Below w0 w0 G):=aC.below C.out.bl Q u.out.2;have R1:Hid (Sl G (.slice K.rp x.ru.length K.rc) x.ru/\∀a n c,Value.slice K.rp x.ru.length K.rc=.slice (some a) n c->a.block≠b):=by
  have hs:∀a n c,Value.slice K.rp x.ru.length K.rc=.slice (some a) n c->a.block≠b:=fun a n c e q=>by have:=C.out.rt a (Fe e).1;rw[q,u.out.1]at this;have:=HI.out;omega
  exact⟨C.out.ru.agn (ay.one Q sM) hs,hs⟩
 clear y1 Q c2;go_wp2_with fail;refine(acQ HS.out.n i b (x.yb i).fF _ x.ru Y1.out u.out.2 Zg.out HL.out R1.out.1 R1.out.2 HO.out).mono ?_;rintro e w2 ⟨⟨k,rfl,T,nd,U,V⟩,c2⟩;have ND:Hid (Nd w0 w2 k (No.new i (x.yb i).fF x.ru) 0 0):=nd;have W:Hid (k.yb=b/\(∀g ∈ k.all,g=b\/G.heap.size<=g)/\(x.ru≠[]->∀a,k.rp=some a->G.heap.size<=a.block)):=⟨T,U,V⟩;have C2:Hid (ay [b] w w2):=(ay.one G1.out sM).trans c2;have S1:Hid (w.heap.size<=G.heap.size):=G1.out.size;have H:Hid (kD w2 K x):=C.out.wb.kept (C2.out.block _ C.out.wb.lt (by simpa using R.out));have f1:=H.out.fr (i * 2);have c1:=H.out.cn HI.out;rw[HD.out.2.2]at c1;simp only[FH,Option.map_none]at c1;clear d2 nd T U V c2 P;go_wp2_with fail;go_ret;have B:=HI.out;have Zp:=C.out.wb.lt;have I:=C.out.Ls;have g3:aC K.wb w2 (w2.setCell (K.wb,i * 2) (.pointer (some (k.nd,0)))):=aC.set _ _ _ _;have Zh:=H.out.rise B k w w2.heap.size;have Zi:(w2.setCell (K.wb,i * 2) (.pointer (some (k.nd,0)))).heap.size=w2.heap.size:=by simp[go_sem]
 generalize w2.setCell (K.wb,i * 2) (.pointer (some (k.nd,0)))=w3 at *;have hC:ay [K.wb,b] w w3:=(C2.out.mono (fun q z=>.inl (by simp at z;simp[z]))).trans (ay.one g3 sM);have J:∀q ∈ [K.wb,b],w0.heap.size<=q/\(K.tag q=0\/K.tag q=i+1):=fun q z=>by
  simp only[dI,eY,fA]at z;rcases z with rfl | rfl
  ·exact⟨I.2,.inl I.1⟩
  ·exact⟨u.out.2,.inr u.out.1⟩
 have Zj:b < w.heap.size:=HY.out.lt;have Zk:∀g ∈ k.all,g < w2.heap.size:=fun g p=>ND.out.lt g p;have Zl:∀g ∈ k.all,(K.upd i k w w2).tag g=i+1:=fun g p=>by
  show(if g < w.heap.size then K.tag g else if g ∈ k.all then i+1 else if g < w2.heap.size then 5 else 9)=i+1;rcases W.out.2.1 g p with rfl | q
  ·rw[aj Zj];exact u.out.1
  ·rw[ak (by have:=S1.out;omega),aj p]
 have Zm:x.ru≠[]->∀a,k.rp=some a->a.block < w2.heap.size:=fun L a e=>by
  obtain⟨r,Zn⟩:=JC _ L;obtain⟨j,hj⟩:=Aq Zn;obtain⟨g,o,E,q0,_⟩:=ND.out.ru j r hj;rw[e]at E
  cases E
  have q:g < w2.heap.size:=eF q0;exact q
 refine⟨rfl,K.upd i k w w2.heap.size,?_,Mv.list C.out hC (fun b f=>by have:=(J b f).2;omega) (fun g p=>aj p) rfl rfl⟩;have X:Nd w0 w3 k (No.new i (x.yb i).fF x.ru) 0 0:=ND.out.kept (l:=[K.wb]) (ay.one g3 sM) (fun g p M=>by
   simp only[dI,eY,fA]at M;subst M;rcases W.out.2.1 _ p with e | q
   ·exact O.out e.symm
   ·have:=S1.out;omega) (fun L a Z M=>by
   simp only[dI,eY,fA]at M;have:=W.out.2.2 L a Z;have:=S1.out;omega) (fun g p=>by simp only[dI,eY,fA]at p;subst p;exact I.2)
 have D:yM w0 w3 (K.upd i k w w2) (x.vK i) t i:=.inl ⟨k,_,0,0,aG _ _ _,aG _ _ _,X,by rw[W.out.1];exact HD.out.2.1,by omega,by omega,yO _,Int.natCast_nonneg _,HO.out.ru,rfl,fun L a Z=>by
  have q1:=W.out.2.2 L a Z;have q2:=Zm L a Z;show(if a.block < w.heap.size then K.tag a.block else if a.block ∈ k.all then i+1 else if a.block < w2.heap.size then 5 else 9)=5;rw[ak (by have:=S1.out;omega),ak (X.rb L a Z).2,aj q2]⟩
 have A:∀g ∈ (K.upd i k w w2).part (i+1),(K.upd i k w w2).tag g=i+1/\w0.heap.size<=g:=fun g p=>by
  rw[kJ B (k:=k) (aG _ _ _)]at p;exact⟨Zl g p,ND.out.g0 g p⟩
 refine C.out.make [K.wb,b] hC (fun b f=>⟨(J b f).1,by have:=(J b f).2;omega⟩) nL (fun g p=>aj p) (fun g p=>?_) rfl Zh ?_ ?_ (.inr ⟨rfl,rfl,rfl⟩) (.inr ⟨rfl,rfl,rfl,fun b f=>by have:=(J b f).2;omega⟩) (.inr ⟨rfl,rfl,fun b f=>by have:=(J b f).2;omega⟩)
 ·rw[Zi]at p;show(if g < w.heap.size then K.tag g else if g ∈ k.all then i+1 else if g < w2.heap.size then 5 else 9)=9;rw[ak (by have:=C2.out.size;omega),ak (fun M=>by have:=Zk g M;omega),ak om]
 ·rcases dS B with rfl | rfl
  ·exact .inl ⟨D,A⟩
  ·exact .inr ⟨rfl,rfl,rfl,rfl,fun b f=>by have:=(J b f).2;omega⟩
 ·rcases dS B with rfl | rfl
  ·exact .inr ⟨rfl,rfl,rfl,rfl,fun b f=>by have:=(J b f).2;omega⟩
  ·exact .inl ⟨D,A⟩
def Wo.vM (W:Wo) (n:Int):Nat:=if 0<=n/\n < 2 then (if (W.nd n.toNat).isSome then 11 else 0) else 2
def Wo.iL (W:Wo) (n:Int):Wo:=if W.vM n=0 then W.vK n.toNat else W
theorem YV {w0 w:World} {K:WK} {x:Wo} {t:Nat} {s:Nat->Addr} (S:jm w0 s) (h:Wd w0 w K x t) (n:Int) (N:∀i:Nat,n=i->i < 2->x.nd i=none->∃b,K.yk i=some b/\sD i (x.yb i).fF x.ru) :
  Calls prog 81 #[.pointer (some (K.wb,0)),n] w fun e w'=>e=.returned (aO s (x.vM n))/\∃K',Wd w0 w' K' (x.iL n) t/\Mv K K' w w':=by
 have G:Hid (jm w0 s):=S;have l:Hid (jm w s):=S.below h.bl;have j:Hid (Wd w0 w K x t):=h;have H:Hid (∀i:Nat,n=i->i < 2->x.nd i=none->∃b,K.yk i=some b/\sD i (x.yb i).fF x.ru):=N;clear S h N;go_enter func81,ntmps81;go_wp2_with fail;refine(Lp K.wb n w _ rfl).mono ?_;rintro e L ⟨rfl,m⟩;obtain rfl:=m.symm;clear m;by_cases k:0<=n/\n < 2
 ·rw[gG k];obtain⟨i,rfl⟩:∃i:Nat,n=i:=⟨n.toNat,by omega⟩;have u:i < 2:=by omega
  have p:Hid (i < 2):=u;have z:Hid ((K.nk i).isSome=(x.nd i).isSome):=(j.sd u).iff;have A:Hid (x.vM (i:Int)=if (x.nd i).isSome then 11 else 0):=by show _=_;unfold Wo.vM;rw[aj k,fJ]
  have M:(0:Int)<=(i:Int):=by omega
  have O:(i:Int) < 2:=by omega
  have c4:w.cell? (K.wb,4)=some (.slice K.rp x.ru.length K.rc):=j.wb.c 4;clear k;go_wp2_with fail;refine(x9 j.wb p).mono ?_;rintro e w2 ⟨rfl,m⟩;obtain rfl:=m.symm;clear m
  cases o:(K.nk i).isSome
  ·have a:x.nd i=none:=by have:=z.out;rw[o]at this;cases I:x.nd i with | none=>rfl | some y=>rw[I]at this;cases this
   obtain⟨b,B,C⟩:=H.out i rfl p a;have f:Hid (x.vM (i:Int)=0/\x.iL (i:Int)=x.vK i):=by
    have e:x.vM (i:Int)=0:=by rw[A.out,a];rfl
    exact⟨e,by unfold Wo.iL;rw[aj e,fJ]⟩
   have q:Hid (x.nd i=none/\K.yk i=some b/\sD i (x.yb i).fF x.ru):=⟨a,B,C⟩;clear o a B C;go_wp2_with fail;refine(ac4 G j p q.1 q.2.1 q.2.2).mono ?_;rintro e D ⟨rfl,K',E,mv⟩;have F:Hid (Wd w0 D K' (x.vK i) t/\Mv K K' w D):=⟨E,mv⟩;clear E mv;go_wp2_with fail;go_ret;exact⟨by rw[f.1];rfl,K',by rw[f.2];exact F.1,F.2⟩
  ·have f:Hid (x.vM (i:Int)=11/\x.iL (i:Int)=x):=by
    have e:x.vM (i:Int)=11:=by rw[A.out,<- z.out,o];rfl
    exact⟨e,by unfold Wo.iL;rw[ak om]⟩
   have J:=l.c10;clear o;go_wp2_with fail;go_ret;exact⟨by rw[f.1];rfl,K,by rw[f.2];exact j,Mv.of bR⟩
 ·rw[gQ k];have f:Hid (x.vM n=2/\x.iL n=x):=by
   have e:x.vM n=2:=by unfold Wo.vM;rw[ak k]
   exact⟨e,by unfold Wo.iL;rw[ak om]⟩
  have s1:=l.c1;clear k;go_wp2_with fail;go_ret;exact⟨by rw[f.1];rfl,K,by rw[f.2];exact j,Mv.of bR⟩
section
variable {w:World}
theorem Oa.sl {K:WK} {x:Wo} (h:Oa w K x):∃p c,GK K.fg x.fl.length=.slice p x.fl.length c:=by
 rcases h.rows with⟨e1,e2⟩ | ⟨g,c,_,e,_⟩
 ·rw[e1,e2];exact⟨none,0,rfl⟩
 ·rw[e];exact⟨_,_,rfl⟩
theorem zi {K:WK} {x:Wo} (f:kD w K x) (i:Oa w K x) (n:Int) (q:Bool) (a:decide (0<=n/\n < x.fl.length)=q):Calls prog 144 #[.pointer (some (K.wb,0)),n] w fun e w'=>e=.returned (.bool q)/\w'=w:=by
 have c7:w.cell? (K.wb,7)=some (GK K.fg x.fl.length):=f.c 7;obtain⟨p,c,e⟩:=i.sl;rw[e]at c7;clear e f i;by_cases j:0<=n
 ·by_cases k:n < x.fl.length
  ·obtain rfl:q=true:=by rw[<- a];exact gG ⟨j,k⟩
   clear a;go_enter func144,ntmps144;go_wp2_with fail;go_ret;exact⟨rfl,rfl⟩
  ·obtain rfl:q=false:=by rw[<- a];exact gQ (fun h=>k h.2)
   clear a;go_enter func144,ntmps144;go_wp2_with fail;go_ret;exact⟨rfl,rfl⟩
 ·obtain rfl:q=false:=by rw[<- a];exact gQ (fun h=>j h.1)
  clear a;go_enter func144,ntmps144;go_wp2_with fail;go_ret;exact⟨rfl,rfl⟩
theorem zk {α β γ:Type} (f:α->β->γ):∀(l:List α) (m:List β) (k:Nat),m.length=l.length->(List.zipWith f l m).eraseIdx k=List.zipWith f (l.eraseIdx k) (m.eraseIdx k)
 | [],_,_,_=>by simp
 | _::_,[],_,h=>by simp at h
 | a::l,b::m,0,_=>by simp
 | a::l,b::m,k+1,h=>by simp[zk f l m k (by simpa using h)]
def WK.land (K:WK) (k:Nat):WK:={K with cv:=K.cv.eraseIdx k}
theorem kD.land {K:WK} {x:Wo} (h:kD w K x) {g c k:Nat} (a:K.fg=some (g,c)) (e:k < x.fl.length):kD (w.setCell (K.wb,7) (.slice (some (g,0)) (x.fl.length - 1) c)) (K.land k) (x.aT k):=by
 unfold kD;show(w.setCell (K.wb,7) (.slice (some (g,0)) (x.fl.length - 1) c)).heap[K.wb]? = _;rw[bV w _ _ _ _ _ h];show _=some (Obj.cells #[FH (K.nk 0),ybV (K.yk 0),FH (K.nk 1),ybV (K.yk 1),.slice K.rp x.ru.length K.rc,x.hn,x.he,GK K.fg (x.fl.eraseIdx k).length,GK K.eg x.ev.length] 169 (0,0));rw[a,vV e];rfl
theorem RZ {w0:World} {K:WK} {x:Wo} {t k:Nat} (h:Wd w0 w K x t) (p:k < x.fl.length) :
  Calls prog 145 #[.pointer (some (K.wb,0)),k] w fun e w'=>e=.returned (.tuple #[])/\Wd w0 w' (K.land k) (x.aT k) t/\Mv K (K.land k) w w'/\∀tt v,pU w K tt v->pU w' (K.land k) tt v:=by
 have s:=h.fl.rows;rcases s with⟨_,e⟩ | ⟨g,c,cur,hg,R,hc⟩
 ·rw[e]at p;simp at p
 have j:Hid (Wd w0 w K x t):=h;have M:Hid (k < x.fl.length):=p;have N:Hid (K.fg=some (g,c)):=hg;have Z:Hid (pX w g c (gW x.fl K.cv) cur):=R;have u:(gW x.fl K.cv).length=x.fl.length:=xZ h.fl.len;have T:Hid ((gW x.fl K.cv).length=x.fl.length):=u;have U:Hid (c<=9223372036854775807):=hc;have c7:w.cell? (K.wb,7)=some (.slice (some (g,0)) x.fl.length c):=by have:=h.wb.c 7;rw[hg]at this;exact this
 have y:Hid (K.tag g=3/\w0.heap.size<=g):=h.tg 3 om g (by simp[WK.part,hg]);have z:Hid (K.wb≠g):=fun e=>by have:=y.out.1;rw[<- e,h.Ls.1]at this;omega
 have J:IntKind.i64.wrap ((k:Int)+1)=(k:Int)+1:=by have:=h.fl.le;rw[iI];omega
 have A:=Ll g c k (gW x.fl K.cv) cur w R om hc;rw[u]at A;have V:Hid (Calls prog 184 #[.slice (some (g,0)) x.fl.length c,k,.int .i64 ((k:Int)+1)] w fun e w'=>e=.returned (.slice (some (g,0)) (x.fl.length - 1) c)/\(∃f,pX w' g c ((gW x.fl K.cv).eraseIdx k) f)/\aC g w w'):=A;clear h p hg R u hc A;go_enter func145,ntmps145;go_wp2_with fail;refine V.out.mono ?_;rintro e D ⟨rfl,⟨f,O⟩,H⟩;have P:Hid (pX D g c ((gW x.fl K.cv).eraseIdx k) f):=O;have W:Hid (aC g w D):=H;have E:Hid (kD D K x):=j.out.wb.kept (H.block _ j.out.wb.lt z.out);have d7:=H.keeps z.out c7;have f7:=E.out.fr 7;clear O H c7 J;go_wp2_with fail;go_end0
 have Q:aC K.wb D (D.setCell (K.wb,7) (.slice (some (g,0)) (x.fl.length - 1) c)):=aC.set _ _ _ _;have L:=E.out.land N.out M.out;generalize D.setCell (K.wb,7) (.slice (some (g,0)) (x.fl.length - 1) c)=w3 at *;have I:ay [K.wb,g] w w3:=(ay.one W.out sM).trans (ay.one Q sM);have F:=j.out.Ls;have B:∀q ∈ [K.wb,g],w0.heap.size<=q/\(K.tag q=0\/K.tag q=3):=fun q S=>by
  simp only[dI,eY,fA]at S;rcases S with rfl | rfl
  ·exact⟨F.2,.inl F.1⟩
  ·exact⟨y.out.2,.inr y.out.1⟩
 have p:=M.out;have o:=j.out.fl.len;have C:∀tt v,pU w K tt v->pU w3 (K.land k) tt v:=fun tt v q=>(q.kept I (fun b a=>by have:=(B b a).2;omega)).turn (fun _ e=>e);refine⟨rfl,?_,Mv.list j.out I (fun b a=>by have:=(B b a).2;omega) (fun _ _=>rfl) rfl rfl,C⟩;have fl:Oa w3 (K.land k) (x.aT k):=by
  refine⟨?_,?_,fun i tt v X Y=>?_,.inr ⟨g,c,f,N.out,?_,U.out⟩⟩
  ·show(K.cv.eraseIdx k).length=(x.fl.eraseIdx k).length;rw[vV om,vV p,o]
  ·show(x.fl.eraseIdx k).length<=200;rw[vV p];have:=j.out.fl.le;omega
  ·have l:(x.fl.eraseIdx k)[i]? = some tt:=X;have m:(K.cv.eraseIdx k)[i]? = some v:=Y;rw[abW]at l m;by_cases G:i < k
   ·rw[aj G]at l m;exact C tt v (j.out.fl.ok i tt v l m)
   ·rw[ak G]at l m;exact C tt v (j.out.fl.ok (i+1) tt v l m)
  ·have e:gW (x.aT k).fl (K.land k).cv=(gW x.fl K.cv).eraseIdx k:=(zk _ _ _ _ o).symm;rw[e];exact P.out.kept (Q.block g P.out.lt (fun q=>z.out q.symm))
 refine j.out.make [K.wb,g] I (fun b a=>⟨(B b a).1,by have:=(B b a).2;omega⟩) nL (fun _ _=>rfl) (fun b a=>j.out.al b (dL I.size a)) rfl L (.inr ⟨rfl,rfl,rfl,rfl,fun b a=>by have:=(B b a).2;omega⟩) (.inr ⟨rfl,rfl,rfl,rfl,fun b a=>by have:=(B b a).2;omega⟩) (.inr ⟨rfl,rfl,rfl⟩) (.inl ⟨fl,fun b a=>?_⟩) (.inr ⟨rfl,rfl,fun b a=>by have:=(B b a).2;omega⟩);have:b ∈ K.part 3:=a;exact j.out.tg 3 om b this
def Wo.pK (W:Wo) (n:Int):Nat:=if 0<=n/\n < W.fl.length then 0 else 4
end
def Wo.Ob (W:Wo) (n m:Int):Nat:=if W.jW n=0 then (match W.nd n.toNat with | some y=>o8 y.y m | none=>0) else W.jW n
def No.bF (x:No) (m:Int):No:={x with y:=x.y.bF m}
def Wo.fV (W:Wo) (n m:Int):Wo:=if W.jW n=0 then (match W.nd n.toNat with | some y=>{W with nd:=aQ W.nd n.toNat (some (y.bF m))} | none=>W) else W
theorem Lu {s:By} {m:Int} (h:s.left<=9223372036854775807) (a:m<=9223372036854775807):(s.bF m).left<=9223372036854775807:=by
 unfold By.bF;split
 ·show m.toNat<=_;omega
 ·exact h
theorem Nd.ahb {w0 w w':World} {k:Bk} {x:No} {m n:Nat} (h:Nd w0 w k x m n) {y:By} (Y:fK w' k.yb y) (f:y.left<=9223372036854775807) (g:aC k.yb w w'):Nd w0 w' k {x with y:=y} m n:={
  nd:=h.nd.kept (g.block _ h.nd.lt (by have:=h.ds.d1;omega))
  ro:=h.ro.dO g (by have:=h.ds.d2;omega)
  rk:=h.rk
  ce:=h.ce.dO g (by have:=h.ds.d3;omega)
  yb:=Y
  lf:=f
  tb:=h.tb.dO g (by have:=h.ds.d4;omega)
  vs:=h.vs
  wt:=h.wt
  te:=h.te.dO g (by have:=h.ds.d4;omega) (by have:=h.ds.d4;omega)
  mi:=h.mi.dO g (by have:=h.ds.d4;omega)
  wm:=h.wm
  ru:=h.ru.dO g (fun i a e q=>(h.rb i a e).2 (q ▸ k.rQ))
  ds:=h.ds
  g0:=h.g0
  rb:=h.rb
  id:=h.id
  bl:=aC.below h.bl g (h.g0 _ k.rQ)}
theorem jm.s5' {w:World} {s:Nat->Addr} (S:jm w s):Se5 w s:=S.n.s5
theorem ae9 {w0 w:World} {K:WK} {x:Wo} {t:Nat} {s:Nat->Addr} (S:jm w0 s) (h:Wd w0 w K x t) (n m:Int) (A:m<=9223372036854775807) :
  Calls prog 84 #[.pointer (some (K.wb,0)),n,m] w fun e w'=>e=.returned (aO s (x.Ob n m))/\Wd w0 w' K (x.fV n m) t/\Mv K K w w':=by
 have B:Hid (jm w0 s):=S;have C:Hid (Wd w0 w K x t):=h;have M:Hid (m<=9223372036854775807):=A;clear S h A;go_enter func84,ntmps84;go_wp2_with fail;refine(DY B C n).mono ?_;rintro e p ⟨rfl,a⟩;have D:Hid (Below w w p):=a;have f:Hid (Wd w0 p K x t):=C.below a;clear a;rcases yh s x K.wb n with⟨i,y,hn,hi,hy,he,hv⟩ | ⟨e,he,hv⟩
 ·rw[hv];have l:Hid (x.Ob n m=o8 y.y m/\x.fV n m={x with nd:=aQ x.nd i (some (y.bF m))}):=⟨by unfold Wo.Ob;rw[aj he,hn,fJ,hy],by unfold Wo.fV;rw[aj he,hn,fJ,hy]⟩;have q:Hid (i < 2/\x.nd i=some y):=⟨hi,hy⟩;obtain⟨k,m',E,F,nd,o,G,H,I,J,N,O,P,Q⟩:=f.up hi hy;have j:Hid (K.nk i=some k/\m'<=33 * t/\E<=8 * t/\0<=y.now/\y.now<=t):=⟨F,G,H,I,J⟩;have z:Hid (Nd w0 p k y m' E):=nd;have c2:=f.wb.cy hi;rw[o]at c2;simp only[ybV,nX]at c2;clear hv hn hi hy he F nd o G H I J N O P Q;go_wp2_with fail;refine(acs k.yb y.y m s p z.yb (B.below f.bl).s5').mono ?_;rintro e w2 ⟨rfl,L,u⟩;have R:Hid (Wd w0 w2 K {x with nd:=aQ x.nd i (some (y.bF m))} t):=f.Lr q.1 j.1 q.2 (z.ahb L (Lu z.lf M) u) (ay.one u k.rQ) nL j.2.1 j.2.2.1 j.2.2.2.1 j.2.2.2.2 rfl rfl;have T:Hid (Mv K K w w2):=(Mv.of D.out).trans (Mv.one f (i:=i+1) (by have:=q.1;omega) (ay.one u k.rQ) (by rw[kJ q.1 j.1];exact fun _ h=>h));clear L u c2;go_wp2_with fail;go_ret;exact⟨by rw[l.1];rfl,by rw[l.2];exact R,T⟩
 ·rw[hv];have l:Hid (x.Ob n m=e+1/\x.fV n m=x):=⟨by unfold Wo.Ob;rw[ak om,he],by unfold Wo.fV;rw[ak om]⟩;clear hv he;go_wp2_with fail;go_ret;exact⟨by rw[l.1];rfl,by rw[l.2];exact f,Mv.of D.out⟩
def Wo.dropped (W:Wo) (n:Int):Wo:=if W.pK n=0 then W.aT n.toNat else W
theorem ac5 {w0 w:World} {K:WK} {x:Wo} {t:Nat} {s:Nat->Addr} (S:jm w0 s) (h:Wd w0 w K x t) (n:Int) :
  Calls prog 87 #[.pointer (some (K.wb,0)),n] w fun e w'=>e=.returned (aO s (x.pK n))/\∃K',Wd w0 w' K' (x.dropped n) t/\Mv K K' w w':=by
 have k:Hid (jm w s):=S.below h.bl;have j:Hid (Wd w0 w K x t):=h;clear S h;go_enter func87,ntmps87;go_wp2_with fail;refine(zi j.wb j.fl n _ rfl).mono ?_;rintro e u ⟨rfl,l⟩;obtain rfl:=l.symm;clear l;by_cases a:0<=n/\n < x.fl.length
 ·rw[gG a];obtain⟨i,rfl⟩:∃i:Nat,n=i:=⟨n.toNat,by omega⟩;have q:Hid (i < x.fl.length):=(by omega:i < x.fl.length);have f:Hid (x.pK (i:Int)=0/\x.dropped (i:Int)=x.aT i):=by
   have e:x.pK (i:Int)=0:=by unfold Wo.pK;rw[aj a]
   exact⟨e,by unfold Wo.dropped;rw[aj e,fJ]⟩
  clear a;go_wp2_with fail;refine(RZ j q).mono ?_;rintro e m ⟨rfl,o,mv,_⟩;have p:Hid (Wd w0 m (K.land i) (x.aT i) t/\Mv K (K.land i) w m):=⟨o,mv⟩;clear o mv;go_wp2_with fail;go_ret;exact⟨by rw[f.1];rfl,_,by rw[f.2];exact p.1,p.2⟩
 ·rw[gQ a];have f:Hid (x.pK n=4/\x.dropped n=x):=by
   have e:x.pK n=4:=by unfold Wo.pK;rw[ak a]
   exact⟨e,by unfold Wo.dropped;rw[ak om]⟩
  have s3:=k.c3;clear a;go_wp2_with fail;go_ret;exact⟨by rw[f.1];rfl,K,by rw[f.2];exact j,Mv.of bR⟩
def Wo.yj (W:Wo) (n:Int):Nat:=if W.pK n=0 then (if W.fl.length=200 then 6 else 0) else W.pK n
def Wo.bT (W:Wo) (n:Int):Wo:=if W.yj n=0 then (match W.fl[n.toNat]? with | some t=>{W with fl:=W.fl.insertIdx (n.toNat+1) t} | none=>W) else W
theorem Wo.pI {W:Wo} {n:Int}:∀t ∈ (W.bT n).fl,t ∈ W.fl:=fun t a=>by
 unfold Wo.bT at a;split at a
 ·cases f:W.fl[n.toNat]? with
  | none=>rw[f]at a;exact a
  | some u =>
   rw[f]at a;have h:t ∈ W.fl.insertIdx (n.toNat+1) u:=a;have i:=(List.getElem?_eq_some_iff.1 f).1;rcases(List.mem_insertIdx om).1 h with e | e
   ·rw[e];exact kW f
   ·exact e
 ·exact a
theorem Wo.jJ (W:Wo) (n:Int):(W.bT n).nd=W.nd/\(W.bT n).yb=W.yb/\(W.bT n).ru=W.ru/\(W.bT n).hn=W.hn/\(W.bT n).he=W.he/\(W.bT n).ev=W.ev:=by
 unfold Wo.bT;split
 ·split <;> exact⟨rfl,rfl,rfl,rfl,rfl,rfl⟩
 ·exact⟨rfl,rfl,rfl,rfl,rfl,rfl⟩
section
variable {w:World} {l:List Nf}
def RdT (w:World) (p:Option Addr) (l:List Nf) (a:List Value):Prop:=∀(j:Nat) t,l[j]? = some t->∃g q c,p=some ⟨g,0,none⟩/\a[j]? = some (.slice q t.cs.length c)/\w.cell? ⟨g,j * 5,none⟩=some (.int .i64 t.fr)/\w.cell? ⟨g,j * 5+1,none⟩=some (.int .i64 t.li)/\w.cell? ⟨g,j * 5+2,none⟩=some (.int .i64 t.ep)/\w.cell? ⟨g,j * 5+3,none⟩=some (.bool t.cl)/\w.cell? ⟨g,j * 5+4,none⟩=some (.slice q t.cs.length c)
theorem RdT.below {w':World} {p:Option Addr} {cvs:List Value} (h:RdT w p l cvs) (a:Below w w w'):RdT w' p l cvs:=fun j t f=>by
 obtain⟨g,q,c,e,i,c0,c1,c2,c3,c4⟩:=h j t f;exact⟨g,q,c,e,i,tk a c0,tk a c1,tk a c2,tk a c3,tk a c4⟩
def RdC (w:World) (l:List Nf) (a:List Value):Prop:=∀(j:Nat) t,l[j]? = some t->∃q c,a[j]? = some (.slice q t.cs.length c)/\vJ w q t.cs/\t.cs.length<=8
theorem RdC.below {w':World} {cvs:List Value} (h:RdC w l cvs) (a:Below w w w'):RdC w' l cvs:=fun j t e=>by
 obtain⟨q,c,f,R,i⟩:=h j t e;exact⟨q,c,f,R.below a,i⟩
theorem D7 (w:World) (t:Nf) (v:Value) (k:Nat) (u:Value) (a:(oU t v)[k]? = some u):(w.alloc (.cells #[t.fr,t.li,t.ep,.bool t.cl,v] 106)).cell? (Addr.add (w.heap.size,0) k)=some u:=by
 rw[qo,fE,nw];simpa [oU] using a
theorem Si {B:Nat} {e:TypeId} {v:Value} {us:List Value} (h:w.ownsRow B e 5 v l.length (gW l us).flatten) (m:∀r ∈ gW l us,Five r) (o:∀(j:Nat) t,l[j]? = some t->∃q c,us[j]? = some (.slice q t.cs.length c)):∃p cap,v=.slice p l.length cap/\RdT w p l us:=by
 rcases aJ h with⟨h1,h2⟩ | ⟨g,cap,h1,_⟩
 ·refine⟨none,0,by rw[h1,h2],fun j t f=>?_⟩;rw[List.length_eq_zero_iff.1 h2]at f;simp at f
 ·subst h1;refine⟨some (g,0),cap,rfl,fun j t f=>?_⟩;obtain⟨q,c,i⟩:=o j t f;have a:∀k u,k < 5->(oU t (.slice q t.cs.length c))[k]? = some u->w.cell? ⟨g,j * 5+k,none⟩=some u:=fun k u s x=>by
   have:=h.cells (g:=g) rfl (j * 5+k) u (by rw[flat_get m j k s,I4 f i];exact x);rw[qo,fE]at this;exact this
  exact⟨g,q,c,rfl,i,a 0 _ om rfl,a 1 _ om rfl,a 2 _ om rfl,a 3 _ om rfl,a 4 _ om rfl⟩
theorem Tryz.I8:(prog.info? 106).map (fun i=>(i.zero,i.size,i.bytes))=some (some (.agg #[.int .i64 0,.int .i64 0,.int .i64 0,.bool false,.slice none 0 0]),5,56):=by kernel_rfl
end
end Go.Proofs.YtnogmjekhjldcaaGreatDoor
