import Derived.Test.YtofkkmcdggkkpaaGreatDoorBdU
import Derived.Stop.RegionWithIn
set_option linter.unusedSimpArgs false
set_option linter.unusedVariables false
set_option linter.defProp false
set_option maxHeartbeats 0
set_option maxRecDepth 100000
namespace Go.Proofs.YtofkkmcdggkkpaaGreatDoor
open Go.RowKit Tryz
def FA:=@ownsRow_putObj
section
variable {A c : jM} {D b ir bs fi i j n n0 : Nat} {L : Loc} {Q : Ending->gv->Prop} {S : List (Nat×gO)} {W W' w w' w0 : gv} {ei ej : zu} {f f0 : Nat->Nat} {m : Nat×Nat} {o o' : Obj} {v : gO}
theorem VZ (L:lh) (i:Nat) (h:i < L.length):(flat L)[i*2]?=some (gH (L[i]).1)/\(flat L)[i*2+1]?=some (gH (L[i]).2):=by
 induction L generalizing i with
 |nil=>simp at h
 |cons a L ih=>
  cases i with
  |zero=>simp[flat]
  |succ i=>
   grind[flat]
theorem yF.at2 {a : Option Addr} {l : Nat} {gL : lh} (h:yF w (.slice a gL.length l) gL) {k : Nat} (s:k < gL.length):∃g,a=some ⟨g,0,none⟩/\w.cell? ⟨g,k*2,none⟩=some (gH gL[k].1)/\w.cell? ⟨g,k*2+1,none⟩=some (gH gL[k].2):=by
 obtain⟨g,hg⟩:∃g,a=some ⟨g,0,none⟩:=by
  rcases h.2 with⟨e,t⟩|⟨q,d,p,e,_⟩
  all_goals grind
 subst hg;have⟨f0,f1⟩:=VZ gL k s;exact⟨g,rfl,by rw[h.cellAt (k*2) (by omega)];exact f0,by rw[h.cellAt (k*2+1) (by omega)];exact f1⟩
def aeu (w:gv) (k:Nat) (g:jM) (q:gy×gy->Bool) (gL:lh):Prop:=
 (∀d w,(callFunc k d).run prog w= .ok (.enter k d) w)/\∀W,Kept [] w W->∀a∈gL,Calls prog k (#[.agg #[gH a.1,gH a.2]]++g) W λe W'=>e=iq (.bool (q a))/\Kept [] W W'
theorem MZ (k:Nat) (p:jM) (q:gy×gy->Bool) (K:gO) (gL:lh) (w:gv) (I:yF w K gL) (hn:gL.length<=4096) (U:aeu w k p q gL):
  Calls prog 356 #[K,.func (.func k) #[] p] w λe w'=>∃n:Int,e=iq (gn n)/\decide (0<=n)=gL.any q/\Kept [] w w':=by
 have⟨ao,cp,hav⟩:=gG I;subst hav;have⟨hcf,HC⟩:=U;have N:=fU I;clear I;go_enter func356,ntmps356
 go_wp21
 go_loopw [8] (λv wr=>∃d:Nat,v=gn d/\d<=gL.length/\(∀a∈gL.take d,q a=false)/\Kept [] w wr) (λv _=>gL.length - (intOf v).toNat)
 case atStart=>exact⟨0,rfl,iO _,by simp,Kept.refl _ _⟩
 case round=>
  obtain⟨d,rfl,T,t,u⟩:=hrel
  by_cases l:d < gL.length
  .obtain⟨g,rfl,Z,c1⟩:=yF.at2 (u.ownsRow N (λ_ _=>by simp)) l;have D:=HC wr u gL[d] (uR l);have P:=fU t;have F:=fU u;have C:gL.take (d+1)=gL.take d++[gL[d]]:=by rw[Ks,ry l];rfl
   have H:=fU C;have s:∀b,q gL[d]=b->(b=true->gL.any q=true):=λb R h=>List.any_eq_true.2 ⟨gL[d],uR l,by rw[R,h]⟩;generalize hqq:q gL[d]=b at D s;have V:=hqq;have X:=fU (s b rfl);clear t u C;generalize gL[d].1=x at *;generalize gL[d].2=y at *
   go_wp21
   refine D.mono ?_;rintro e Y ⟨rfl,J⟩;have G:=F.trans J;cases b with
   |true=>
    go_wp2;go_ret
    simp_all
   |false=>
    go_wp2;go_roundw
    case rel=>
     refine⟨d+1,by go_num,by omega,λa z=>?_,G⟩;rw[H.out]at z;rcases List.mem_append.1 z with z|z
     .exact P a z
     grind
    case measure=>simp[intOf];omega
  .have O:Hid (gL.any q=false):=fU (by
    grind)
   have F:=fU u;clear u t;go_wp2;go_ret;exact⟨-1,rfl,by rw[O.out];rfl,F⟩
def zx (k:Nat) (a:jM) (q:gy×gy->Bool) (d:gO) (gL:lh) (w:gv) (p:yF w d gL) (s:gL.length<=4096) (t:aeu w k a q gL):
  Calls prog 334 #[d,.func (.func k) #[] a] w λe w'=>e=iq (.bool (gL.any q))/\Kept [] w w':=by
 have C:=MZ k a q d gL w p s t;go_enter func334,ntmps334
 go_wp21
 refine C.mono ?_;rintro e u ⟨n,rfl,g,l⟩;have h:=fU g;clear g;go_wp2
 all_goals go_ret
 all_goals exact⟨by rw[<-h.out];rfl,l⟩
def aaX (b:Nat) (s:gy) (a:gy×gy) (w:gv) (h:w.cell? ⟨b,0,none⟩=some (gH s)) (d:b < w.heap.size):
  Calls prog 335 #[.agg #[gH a.1,gH a.2],gJ b] w λe w'=>e=iq (.bool (kC a.1 s))/\Kept [] w w':=by
 have g:=(Kept.refl [] w).alloc (gI #[gH a.1,gH a.2] 275);have k:=(g.cell (p:=⟨b,0,none⟩) d (by simp)).trans h;generalize a.1=x at *;generalize a.2=y at *;go_enter func335,ntmps335;go_wp2;go_ret;exact⟨rfl,g⟩
def adA (k:Nat) (l:gy) (q:gO) (N kv:gO) (gL:lh) (s:gy) (w:gv) (z:w.heap[k]?=some (gI #[gH l,q,N,kv] 142)) (y:yF w q gL) (K:gL.length<=4096):
  Calls prog 304 #[gJ k,gH s] w λe w'=>e=iq (.bool (yU gL s))/\Kept [] w w':=by
 have J:∀(x:Fn) (first h:jM) (w:gv),(Instr.makeFunc x first h).run prog w= .ok (.func x first h) w:=λ_ _ _ _=>rfl;obtain⟨p,d⟩:∃p,p=w.alloc (gI #[gH s] 9):=⟨_,rfl⟩;have g:Kept [] w p:=by rw[d];exact(Kept.refl _ _).alloc _
 have u:p.heap[w.heap.size]?=some (gI #[gH s] 9):=by rw[d];exact fY w _
 have O:(w.alloc (gI #[gH s] 9)).cell? ⟨k,1,none⟩=some q:=by rw[<-d,fW (g.at z (by simp))];rfl
 have C:=zx 335 #[gJ w.heap.size] (λa=>kC a.1 s) q gL p (g.ownsRow y (λ_ _=>by simp)) K ⟨enters_of func335 (by rfl) rfl,λW F a _=>aaX w.heap.size s a W (by rw[fW (F.at u (by simp))];rfl) (jk (F.at u (by simp)))⟩;have I:=jk z;have⟨ao,cp,hav⟩:=gG y;subst hav;have H:=fU d.symm;clear d;go_enter func304,ntmps304
 go_wp21
 rw[H.out];refine C.mono ?_;rintro e P ⟨rfl,t⟩;have G:=g.trans t;go_wp2;go_ret;exact⟨rfl,G⟩
def rF (a b:gy×gy):Bool:=kC a.1 b.1&&kC a.2 b.2
theorem XQ (x:gy×gy) (R:gO) (gL:lh) (w:gv) (U:yF w R gL) (hn:gL.length<=4096):
  Calls prog 361 #[R,.agg #[gH x.1,gH x.2]] w λe w'=>∃n:Int,e=iq (gn n)/\decide (0<=n)=gL.any (λy=>rF x y)/\Kept [] w w':=by
 have⟨ao,cp,hav⟩:=gG U;subst hav;obtain⟨I,l⟩:∃I,I=w.alloc (gI #[gH x.1,gH x.2] 275):=⟨_,rfl⟩;have q:Kept [] w I:=by rw[l];exact(Kept.refl _ _).alloc _
 have T:I.heap[w.heap.size]?=some (gI #[gH x.1,gH x.2] 275):=by rw[l];exact fY w _
 have V:=q.ownsRow U (λ_ _=>by simp);have Y:=fU l.symm;have z:=fU T;clear l T;go_enter func361,ntmps361
 go_wp21
 rw[Y.out]
 go_loopw [8] (λv wr=>∃d:Nat,v=gn d/\d<=gL.length/\(∀a∈gL.take d,rF x a=false)/\Kept [] I wr) (λv _=>gL.length - (intOf v).toNat)
 case atStart=>exact⟨0,rfl,iO _,by simp,Kept.refl _ _⟩
 case round=>
  obtain⟨d,rfl,a0,u,s⟩:=hrel
  by_cases t:d < gL.length
  .obtain⟨g,rfl,c0,c1⟩:=yF.at2 (s.ownsRow V (λ_ _=>by simp)) t;have d0:=fW (s.at z.out (by simp)) 0;have d1:=fW (s.at z.out (by simp)) 1;dsimp at d0 d1;have P:=fU u;have F:=fU s;have H:gL.take (d+1)=gL.take d++[gL[d]]:=by rw[Ks,ry t];rfl
   have G:=fU H;have Z:=fU (λ(h:rF x gL[d]=true)=>List.any_eq_true.2 ⟨gL[d],uR t,h⟩);have HP:=(show rF x gL[d]=(kC x.1 gL[d].1&&kC x.2 gL[d].2)from rfl);clear u s H;generalize gL[d]=y at *;have⟨y0,y1⟩:=y;obtain⟨N,O⟩:=x;simp only[]at *;have p:∀(J:Bool),(kC N y0&&kC O y1)=J->rF (N,O) (y0,y1)=J:=λJ h=>h
   by_cases K:N.toList=y0.toList
   .by_cases e1:O.toList=y1.toList
    .have C:=fU (p true (by unfold kC;rw[K,e1];simp));go_wp2_with fail;go_region
     all_goals (try go_wp2)
     all_goals (try go_ret)
     all_goals exact⟨(d:Int),rfl,by rw[Z.out C.out];simp,q.trans F.drew⟩
    .have C:=fU (p false (by unfold kC;rw[K];simp[e1]))
     go_wp21
     go_region
     all_goals (try go_wp2)
     all_goals (try go_roundw)
     all_goals first
      |(case rel=>
        refine⟨d+1,by go_num,by omega,λa k=>?_,F.drew⟩;rw[G.out]at k;rcases List.mem_append.1 k with k|k
        .exact P a k
        .rw[List.mem_singleton.1 k];exact C)
      |(case measure=>simp[intOf];omega)
      |skip
   .have C:=fU (p false (by unfold kC;simp[K]))
    go_wp21
    go_region
    all_goals (try go_wp2)
    all_goals (try go_roundw)
    all_goals first
     |(case rel=>
       refine⟨d+1,by go_num,by omega,λa k=>?_,F.drew⟩;rw[G.out]at k;rcases List.mem_append.1 k with k|k
       .exact P a k
       .rw[List.mem_singleton.1 k];exact C)
     |(case measure=>simp[intOf];omega)
     |skip
  .have X:Hid (gL.any (λy=>rF x y)=false):=fU (by
    grind)
   have F:=fU s;clear s u;go_wp2;go_ret;exact⟨-1,rfl,by rw[X.out];rfl,q.trans F⟩
def OZ (x:gy×gy) (d:gO) (gL:lh) (w:gv) (h:yF w d gL) (q:gL.length<=4096):
  Calls prog 340 #[d,.agg #[gH x.1,gH x.2]] w λe w'=>e=iq (.bool (gL.any λy=>rF x y))/\Kept [] w w':=by
 have a:=(Kept.refl [] w).alloc (gI #[gH x.1,gH x.2] 275);have C:=XQ x d gL _ (a.ownsRow h (λ_ _=>by simp)) q;have⟨ao,cp,hav⟩:=gG h;subst hav;go_enter func340,ntmps340
 go_wp21
 refine C.mono ?_;rintro e s ⟨n,rfl,g,p⟩;have k:=fU g;have l:=a.trans p;clear g;go_wp2
 all_goals go_ret
 all_goals exact⟨by rw[<-k.out];rfl,l⟩
def Y3 (b k:Nat) (p:gy) (s P kv:gO) (gL:lh) (a:gy×gy) (w:gv) (K:w.heap[b]?=some (gI #[gJ k] 57)) (x:w.heap[k]?=some (gI #[gH p,s,P,kv] 142)) (u:yF w s gL) (O:gL.length<=4096):
  Calls prog 339 #[.agg #[gH a.1,gH a.2],gJ b] w λe w'=>e=iq (.bool (!(gL.any λy=>rF a y)))/\Kept [] w w':=by
 obtain⟨h,g⟩:∃h,h=w.alloc (gI #[gH a.1,gH a.2] 275):=⟨_,rfl⟩;have d:Kept [] w h:=by rw[g];exact(Kept.refl _ _).alloc _
 have t:h.heap[w.heap.size]?=some (gI #[gH a.1,gH a.2] 275):=by rw[g];exact fY w _
 have G:=fW t 0;have H:=fW t 1;have I:=fW (d.at K (by simp)) 0;have J:=fW (d.at x (by simp)) 1;dsimp at G H I J;have N:k < h.heap.size:=jk (d.at x (by simp));have C:=(λq=>OZ a s gL (h.drewN q) ((d.drewN q).ownsRow u (λ_ _=>by simp)) O);have⟨ao,cp,hav⟩:=gG u;subst hav;have F:=fU g.symm;clear g;go_enter func339,ntmps339
 go_wp21
 rw[F.out]
 go_region_with (go_at_call 340;refine(C 1).mono ?_;rintro e R ⟨rfl,l⟩;have z:=fU ((d.drewN 1).trans l);clear l)
 all_goals (try go_wp2)
 all_goals (try go_ret)
 all_goals exact⟨rfl,z⟩
def aaE (E:Env) (x:Nat×Nat×gy):iF E (rl x)=M8 x:=rfl
def Ql (E:Env) (x:Nat×Nat×gy) (w:gv):Calls prog 215 #[M8 x] w λe w'=>e=iq (.bool (!lU x.2.2))/\Kept [] w w':=by
 have a:=yI E (rl x) w;rw[aaE]at a;have k:=(λW=>I5 x.2.2 W);have l:(rl x).chars=x.2.2:=rfl;rw[l]at a;generalize M8 x=v at *;generalize x.2.2=s at *;go_enter func215,ntmps215
 go_wp21
 refine a.mono ?_;rintro e p ⟨rfl,d⟩
 go_wp21
 refine(k p).mono ?_;rintro e q ⟨rfl,h⟩;have g:=d.trans h;go_wp2;go_ret;exact⟨rfl,g⟩
theorem ac7.at {base : Nat} {a : Option Addr} {l : Nat} {xs : List (Nat×Nat×gy)} (h:w.ownsRow base 97 1 (.slice a xs.length l) xs.length (xs.map M8)) {k : Nat} (s:k < xs.length):∃g,a=some ⟨g,0,none⟩/\w.cell? ⟨g,k,none⟩=some (M8 xs[k]):=by
 obtain⟨g,hg⟩:∃g,a=some ⟨g,0,none⟩:=by
  rcases h.2 with⟨e,t⟩|⟨q,d,p,e,_⟩
  all_goals grind
 subst hg;exact⟨g,rfl,by rw[h.cellAt k (by omega)];simp[s]⟩
theorem Ov (E:Env) (base:Nat) (F:gO) (xs:List (Nat×Nat×gy)) (w:gv) (z:w.ownsRow base 97 1 F xs.length (xs.map M8)) (V:xs.length<=4096):
  Calls prog 278 #[F,.func (.func 215) #[] #[]] w λe w'=>∃n:Int,e=iq (gn n)/\decide (0<=n)=(xs.any λx=>!lU x.2.2)/\Kept [] w w':=by
 have⟨ao,cp,hav⟩:=gG z;subst hav;have O:=enters_of func215 (by rfl) rfl;have H:=(λW x=>Ql E x W);have G:=fU z;clear z;go_enter func278,ntmps278
 go_wp21
 go_loopw [8] (λv wr=>∃d:Nat,v=gn d/\d<=xs.length/\(∀a∈xs.take d,(!lU a.2.2)=false)/\Kept [] w wr) (λv _=>xs.length - (intOf v).toNat)
 case atStart=>exact⟨0,rfl,iO _,by simp,Kept.refl _ _⟩
 case round=>
  obtain⟨d,rfl,P,l,q⟩:=hrel
  by_cases s:d < xs.length
  .obtain⟨g,rfl,K⟩:=ac7.at (q.ownsRow G (λ_ _=>by simp)) s;have D:=H wr xs[d];have J:=fU l;have t:=fU q;have y:=fU (show xs.take (d+1)=xs.take d++[xs[d]] by simp);have k:∀b,(!lU xs[d].2.2)=b->(b=true->(xs.any λx=>!lU x.2.2)=true):=λb N h=>List.any_eq_true.2 ⟨xs[d],uR s,by rw[N,h]⟩;generalize hqq:(!lU xs[d].2.2)=b at D k;have R:=hqq;have T:=fU (k b rfl);clear l q;rw[show M8 xs[d]= .iface 167 (.agg #[gn (xs[d].1),gn (xs[d].2.1),gH xs[d].2.2])from rfl]at K D
   go_wp21
   refine D.mono ?_;rintro e U ⟨rfl,C⟩;have u:=t.trans C;cases b with
   |true=>
    go_wp2;go_ret
    simp_all
   |false=>
    go_wp2;go_roundw
    case rel=>
     refine⟨d+1,by go_num,by omega,λa p=>?_,u⟩;rw[y.out]at p;rcases List.mem_append.1 p with p|p
     .exact J a p
     grind
    case measure=>simp[intOf];omega
  .have I:Hid ((xs.any λx=>!lU x.2.2)=false):=fU (by
    grind)
   have t:=fU q;clear q l;go_wp2;go_ret;exact⟨-1,rfl,by rw[I.out];rfl,t⟩
def GN (E:Env) (base:Nat) (a:gO) (xs:List (Nat×Nat×gy)) (w:gv) (k:w.ownsRow base 97 1 a xs.length (xs.map M8)) (l:xs.length<=4096):
  Calls prog 214 #[a,.func (.func 215) #[] #[]] w λe w'=>e=iq (.bool (xs.any λx=>!lU x.2.2))/\Kept [] w w':=by
 have C:=Ov E base a xs w k l;go_enter func214,ntmps214
 go_wp21
 refine C.mono ?_;rintro e p ⟨n,rfl,d,h⟩;have g:=fU d;clear d;go_wp2
 all_goals go_ret
 all_goals exact⟨by rw[<-g.out];rfl,h⟩
attribute [local go_sem] Oper.semAt_some
def mi (a rec:Nat->gM->M Unit) (t:gM):M Unit:=do
 po a
 wH λd=>{d with waiting:=[],mode:=d.kept}
 j1 rec t
 return ()
def Env.lock (E:Env) (v:gO) (a:List (Nat×Nat×gy)):Env:={E with wv:=some (v,a)}
variable {E : Env}
def Rel.lock {σ:Ab} (h:Rel E L σ w):Rel (E.lock L.wv σ.waiting) L σ w:=by
 have⟨C,hb,hC⟩:=h.ir;exact
  {fr:=h.fr,env:=⟨h.env.Gn,h.env.txt,h.env.spec,h.env.V5,h.env.VA,h.env.xf⟩,DU:=h.DU,sN:=h.sN,inj:=h.inj,A8:=h.A8,Ga:=h.Ga,uq:=h.uq,Eu:=h.Eu,wf:=h.wf
   ir:=⟨C,hb,⟨hC.size,hC.low,hC.gz,hC.act,hC.head,hC.form,hC.mode,hC.kept,hC.wait,hC.IL,hC.jN,hC.gP,hC.behind⟩⟩
   o0:=h.o0,pX:=h.pX,Gd:=h.Gd,wV:=h.wV,Ey:=h.Ey,oS:=h.oS,LB:=h.LB,rd:=h.rd,QS:=h.QS,tok:=h.tok,Ly:=h.Ly,bz:=h.bz,bB:=h.bB,bR:=h.bR,bN:=h.bN,De:=h.De,ab:=h.ab,tb:=h.tb
   LA:=λp a=>by cases a;simp}
theorem Rel.unlock {d : List (Nat×Nat×gy)} {σ:Ab} (h:Rel (E.lock v d) L σ w) (a:E.wv=none):Rel E L σ w:=by
 have⟨C,hb,hC⟩:=h.ir;exact
  {fr:=h.fr,env:=⟨h.env.Gn,h.env.txt,h.env.spec,h.env.V5,h.env.VA,h.env.xf⟩,DU:=h.DU,sN:=h.sN,inj:=h.inj,A8:=h.A8,Ga:=h.Ga,uq:=h.uq,Eu:=h.Eu,wf:=h.wf
   ir:=⟨C,hb,⟨hC.size,hC.low,hC.gz,hC.act,hC.head,hC.form,hC.mode,hC.kept,hC.wait,hC.IL,hC.jN,hC.gP,hC.behind⟩⟩
   o0:=h.o0,pX:=h.pX,Gd:=h.Gd,wV:=h.wV,Ey:=h.Ey,oS:=h.oS,LB:=h.LB,rd:=h.rd,QS:=h.QS,tok:=h.tok,Ly:=h.Ly,bz:=h.bz,bB:=h.bB,bR:=h.bR,bN:=h.bN,De:=h.De,ab:=h.ab,tb:=h.tb
   LA:=λp e=>by grind}
def At.unlock {d : List (Nat×Nat×gy)} {σ:Ab} (h:At (E.lock v d) f0 n0 w0 f σ w) (a:E.wv=none):At E f0 n0 w0 f σ w:=by
 have⟨L,e,hr⟩:=h.rel;exact⟨⟨L,e,hr.unlock a⟩,h.ext,h.le,h.fr,h.hw⟩
def M.LI {α d h:Type} (m:M α) (k:α->M d) (g:d->M h) (σ:Ab):((m>>=k)>>=g) σ=(m>>=λa=>k a>>=g) σ:=by
 rw[M.gx,M.gx,M.gx];cases m σ with
 |ok a σ'=>rfl
 |stop e p=>rfl
 |stuck=>rfl
def Rel.NV {σ:Ab} (h:Rel E L σ w) (d:E.wv=none):Rel E {L with wv:=jX} {σ with waiting:=[]} (w.setCell ⟨E.bB,194,none⟩ (jX)):=by
 have⟨C,hb,hC⟩:=h.ir;have a:Kept [E.bB] w (w.setCell ⟨E.bB,194,none⟩ (jX)):=(Kept.refl _ w).setCell (.inl (by simp)) _;have e:KT E.bs [157,97] w (w.setCell ⟨E.bB,194,none⟩ (jX)):= .jU a (λk a _=>by simp at a;subst a;exact⟨⟨_,_,_,hb,by simp⟩,h.bB⟩);exact h.afa hC (jX) [] (gg hb 194 _) e (oX _ _ _ _) (by simp) d
def At.NV {σ:Ab} (h:At E f0 n0 w0 f σ w) (d:E.wv=none):At E f0 n0 w0 f {σ with waiting:=[]} (w.setCell ⟨E.bB,194,none⟩ (jX)):=by
 have⟨L,e,hr⟩:=h.rel;refine h.to ⟨{L with wv:=jX},e,hr.NV d⟩ (ig _) ?_;have⟨C,hb,hC⟩:=hr.ir;have a:Kept [E.bB] w (w.setCell ⟨E.bB,194,none⟩ (jX)):=(Kept.refl _ w).setCell (.inl (by simp)) _;exact .jU a (λk a=>by simp at a;subst a;exact⟨⟨_,_,_,hb,by decide⟩,hr.bB⟩)
def Is (a:Nat->gM->M Unit) (d:Bool) (x:Nat×Nat×gy):M Unit:=if d then sV a (rl x)else j7 (rl x)
def qM (a:Nat->gM->M Unit) (d:Bool):List (Nat×Nat×gy)->M Unit
 |[]=>pure ()
 |x::r=>do
  Is a d x
  qM a d r
def Dv (a:Nat->gM->M Unit) (d:Bool) (x:Nat×Nat×gy) (r:List (Nat×Nat×gy)):qM a d (x::r)=(Is a d x>>=λ_=>qM a d r):=rfl
def LM (a:Nat->gM->M Unit):∀d,qM a true d=tN a d
 |[]=>rfl
 |x::r=>by unfold qM tN;rw[LM a r];rfl
def LL (a:Nat->gM->M Unit):∀d,qM a false d=tQ d
 |[]=>rfl
 |x::r=>by unfold qM tQ;rw[LL a r];rfl
def IG (E:Env) (Z:E.wv=none) (a rec:Nat->gM->M Unit) (a6:∀v ws (m:Nat) (t:gM),jd E t->ja (E.lock v ws) 153 (λ_=>#[Bp E,gn m,iF E t]) (a m t) uV) (hA:∀(m:Nat) (t:gM),jd E t->ja E 153 (λ_=>#[Bp E,gn m,iF E t]) (rec m t) uV) (t:gM) (ht:jd E t):ja E 119 (λ_=>#[Bp E,iF E t]) (mi a rec t) uV:=by
 intro f q w h HS;have⟨L,hL,hr⟩:=h;obtain⟨R,I⟩:∃R,R=mi a rec t q:=⟨_,rfl⟩;rw[<-I]at HS|-;obtain⟨Y,a1⟩:∃Y,Y=q.waiting.any λx=>!lU x.2.2:=⟨_,rfl⟩;obtain⟨d,V⟩:∃d,d=q.waiting:=⟨_,rfl⟩;obtain⟨X,U⟩:∃X,X=L.wv:=⟨_,rfl⟩;have a7:R=(qM a Y d>>=λ_=>(do
   wH λq=>{q with waiting:=[],mode:=q.kept}
   j1 rec t
   return ():M Unit)) q:=by
  rw[I];unfold mi;rw[M.gx,M.gx];have e1:po a q=qM a Y d q:=by
   unfold po;rw[<-a1,V];cases Y
   .rw[LL];rfl
   .rw[LM];rfl
  rw[e1]
 have a2:=hr.lock;rw[<-U,<-V]at a2;have H:=At.start (E:=E.lock X d) ⟨L,hL,a2⟩;have C1:=GN E E.bs L.wv q.waiting w hr.oS hr.LB;rw[<-a1,<-U]at C1;have a3:=hr.oS;rw[<-U,<-V]at a3;have⟨ao,cp,hsh⟩:=gG a3;have ae:d.length<=4096:=by rw[V];exact hr.LB
 have c0:=hr.aaA;rw[<-U,hsh]at c0;rw[hsh]at C1;have K:=hr.lt;have ad:∀(fn:Fn) (first a5:jM) (w:gv),(Instr.makeFunc fn first a5).run prog w= .ok (.func fn first a5) w:=λ_ _ _ _=>rfl;have ac:=enters_of func91 (by rfl) rfl;have ab:=enters_of func117 (by rfl) rfl;have u:=fU a7;have a4:=fU hsh;have HE:∀x:Nat×Nat×gy,ja (E.lock X d) (if Y then 117 else 91) (λ_=>#[Bp E,M8 x]) (Is a Y x) uV:=by
  intro x;cases Y with
  |true=>exact DE (E.lock X d) a (λm t ht=>a6 X d m t ht) (rl x) (λh=>by cases h)
  |false=>exact vy (E.lock X d) (iK _) (rl x)
 have HA:=hA;clear I a7 a2 a3 hsh hr hL hA a6 a1 V U;cases Y with
 |true=>
  have a0:Hid (∀x:Nat×Nat×gy,ja (E.lock X d) 117 (λ_=>#[Bp E,M8 x]) (Is a true x) uV):=HE;clear HE;go_enter func119,ntmps119
  go_wp21
  refine C1.mono ?_;rintro e w1 ⟨rfl,G⟩;have c1:=(G.cell (p:=⟨E.bB,194,none⟩) K (by simp)).trans c0;have P:E.bB < w1.heap.size:=lV K G.size;replace H:=H.k0 G;clear G C1
  go_wp21
  go_loopw [21] (λv wr=>∃(s:Nat) (g:Nat->Nat) (l:Ab),v=gn s/\s<=d.length/\R=(qM a true (d.drop s)>>=λ_=>(do
   wH λq=>{q with waiting:=[],mode:=q.kept}
   j1 rec t
   return ():M Unit)) l/\At (E.lock X d) f q.nodes.length w g l wr) (λv _=>d.length - (intOf v).toNat)
  case atStart=>exact⟨0,f,q,rfl,iO _,u,H⟩
  case round=>
   clear H u c0 c1 K P;obtain⟨s,g,l,rfl,a8,I,y⟩:=hrel
   by_cases T:s < d.length
   .have⟨L',hL',hr'⟩:=y.rel;have⟨e1,e2⟩:=hr'.LA _ rfl;have k:=hr'.oS;rw[e1,e2]at k;dsimp only at k;rw[a4.out]at k;obtain⟨gb,rfl,c5⟩:=ac7.at k T;rw[C7 T]at I;have z:R=(Is a true d[s]>>=λ_=>qM a true (d.drop (s+1))>>=λ_=>(do
      wH λq=>{q with waiting:=[],mode:=q.kept}
      j1 rec t
      return ():M Unit)) l:=by
     rw[I,Dv,M.LI]
    replace H:=y;have u:=fU z;have O:=a0 d[s];clear I z y k e1 e2 hr' hL';rw[show M8 d[s]= .iface 167 (.agg #[gn (d[s].1),gn (d[s].2.1),gH d[s].2.2])from rfl]at c5 O
    go_wp21
    refine dC (O) H u HS rfl (λ_ _ _ _ h=>And.intro rfl (lS h)) ?_;clear H u;rintro(_) f q w H HX HF u;go_wp2;go_roundw
    case rel=>exact⟨s+1,f,q,by go_num,by omega,u,H⟩
    case measure=>simp[intOf];omega
   .have z:R=(j1 rec t>>=λ_=>(Pure.pure ():M Unit)) {l with waiting:=[],mode:=l.kept}:=by
     rw[I,Gw (by omega)];rfl
    have N:=(y.unlock Z);obtain⟨C,F,c4⟩:∃C F,wr.cell? ⟨E.bB,194,none⟩=some (.slice C l.waiting.length F):=by
     have⟨L4,_,hr4⟩:=N.rel;have⟨C,F,e4⟩:=gG hr4.oS;exact⟨C,F,by rw[<-e4];exact hr4.aaA⟩
    have f4:=N.free 194;have a9:=N.lt;have J:=N.NV Z;have c5:=J.R6;have c6:=J.rJ;have f6:=J.free 192;have aa:=J.lt;have H:=J.jc l.kept;have u:=fU z;clear I z y N J
    go_wp21
    refine dC (tk E rec HA t ht) H u HS rfl (λ_ _ _ _ h=>And.intro rfl (lS h)) ?_;clear H u;rintro(_) f q w H HX HF u;go_wp2;go_end0;exact gu u H rfl
 |false=>
  have a0:Hid (∀x:Nat×Nat×gy,ja (E.lock X d) 91 (λ_=>#[Bp E,M8 x]) (Is a false x) uV):=HE;clear HE;go_enter func119,ntmps119
  go_wp21
  refine C1.mono ?_;rintro e w1 ⟨rfl,G⟩;have c1:=(G.cell (p:=⟨E.bB,194,none⟩) K (by simp)).trans c0;have P:E.bB < w1.heap.size:=lV K G.size;replace H:=H.k0 G;clear G C1
  go_wp21
  go_loopw [21] (λv wr=>∃(s:Nat) (g:Nat->Nat) (l:Ab),v=gn s/\s<=d.length/\R=(qM a false (d.drop s)>>=λ_=>(do
   wH λq=>{q with waiting:=[],mode:=q.kept}
   j1 rec t
   return ():M Unit)) l/\At (E.lock X d) f q.nodes.length w g l wr) (λv _=>d.length - (intOf v).toNat)
  case atStart=>exact⟨0,f,q,rfl,iO _,u,H⟩
  case round=>
   clear H u c0 c1 K P;obtain⟨s,g,l,rfl,a8,I,y⟩:=hrel
   by_cases T:s < d.length
   .have⟨L',hL',hr'⟩:=y.rel;have⟨e1,e2⟩:=hr'.LA _ rfl;have k:=hr'.oS;rw[e1,e2]at k;dsimp only at k;rw[a4.out]at k;obtain⟨gb,rfl,c5⟩:=ac7.at k T;rw[C7 T]at I;have z:R=(Is a false d[s]>>=λ_=>qM a false (d.drop (s+1))>>=λ_=>(do
      wH λq=>{q with waiting:=[],mode:=q.kept}
      j1 rec t
      return ():M Unit)) l:=by
     rw[I,Dv,M.LI]
    replace H:=y;have u:=fU z;have O:=a0 d[s];clear I z y k e1 e2 hr' hL';rw[show M8 d[s]= .iface 167 (.agg #[gn (d[s].1),gn (d[s].2.1),gH d[s].2.2])from rfl]at c5 O
    go_wp21
    refine dC (O) H u HS rfl (λ_ _ _ _ h=>And.intro rfl (lS h)) ?_;clear H u;rintro(_) f q w H HX HF u;go_wp2;go_roundw
    case rel=>exact⟨s+1,f,q,by go_num,by omega,u,H⟩
    case measure=>simp[intOf];omega
   .have z:R=(j1 rec t>>=λ_=>(Pure.pure ():M Unit)) {l with waiting:=[],mode:=l.kept}:=by
     rw[I,Gw (by omega)];rfl
    have N:=(y.unlock Z);obtain⟨C,F,c4⟩:∃C F,wr.cell? ⟨E.bB,194,none⟩=some (.slice C l.waiting.length F):=by
     have⟨L4,_,hr4⟩:=N.rel;have⟨C,F,e4⟩:=gG hr4.oS;exact⟨C,F,by rw[<-e4];exact hr4.aaA⟩
    have f4:=N.free 194;have a9:=N.lt;have J:=N.NV Z;have c5:=J.R6;have c6:=J.rJ;have f6:=J.free 192;have aa:=J.lt;have H:=J.jc l.kept;have u:=fU z;clear I z y N J
    go_wp21
    refine dC (tk E rec HA t ht) H u HS rfl (λ_ _ _ _ h=>And.intro rfl (lS h)) ?_;clear H u;rintro(_) f q w H HX HF u;go_wp2;go_end0;exact gu u H rfl
attribute [local go_sem] Oper.semAt_some
def K4 (d:M Unit) (t:gM):M Unit:=λa=>if a.inScope (ij [t.name]) AD then d a else .ok () a
def OJ (E:Env) (v:gO) (p:gy->Bool) (W:gv):Prop:=∃k a,v= .func (.func k) #[] a/\Ask E.bm v p W
def OJ.k {E:Env} {v:gO} {p:gy->Bool} {W W':gv} (h:OJ E v p W) (a:Kept [] W W'):OJ E v p W':=by
 have⟨k,lb,e,ha⟩:=h;exact⟨k,lb,e,ha.k0 a⟩
def SlS (s:gy) (v:gO) (W:gv):Prop:=∃g,v=oY g 1 1/\W.heap[g]?=some (gI #[gH s] 9)
def SlS.k {s:gy} {v:gO} {W W':gv} (h:SlS s v W) (a:Kept [] W W'):SlS s v W':=by
 have⟨g,e,hb⟩:=h;exact⟨g,e,a.at hb (by simp)⟩
structure IfI (E:Env) (t:gM) (σ:Ab) (ta tb:Int) (tao:Option Addr) (tn tcp:Nat) (W0:gv) (z0 z1 z2 z3 z4 z5 z6 z7:Bool) (s4 s5 s6 s7 s8 s9 s10 s11:gO) (W:gv):Prop where
 f0:z0=true->s4=iC E.bB
 f1:z1=true->s5=iF E t
 f2:z2=true->s6= .agg #[gn ta,gn tb,gH t.name,.slice tao tn tcp]
 f3:z3=true->s7=gH t.name
 f4:z4=true->SlS t.name s8 W
 f5:z5=true->OJ E s9 (ij [t.name]) W
 f6:z6=true->OJ E s10 AD W
 f7:z7=true->s11= .bool (σ.inScope (ij [t.name]) AD)
 d2:z2=true->z1=true
 d3:z3=true->z2=true
 d4:z4=true->z3=true
 d5:z5=true->z4=true
 d7:z7=true->z0=true/\z5=true/\z6=true
 wi:Kept [] W0 W
theorem Ny (E:Env) (t:gM) (r:Ru) (K:M Unit) (hr:lR E r t K) (b1 b2:Nat) (u:gO) {σ:Ab} (h:RF E f σ w) (hs:K4 K t σ≠ .stuck) (O:box w b1 (iC E.bB) 93) (J:box w b2 u 143) (hu:nA E.bm E.bB (f 0) r u w):
  Calls prog 218 #[iF E t,iC b1,iC b2] w (Leaves E f σ.nodes.length w (K4 K t σ) uV):=by
 obtain⟨R,hR⟩:∃R,R=K4 K t σ:=⟨_,rfl⟩;rw[<-hR]at hs|-;have⟨ta,tb,tao,tn,tcp,HTG⟩:=Eg E t h;have a2:=(λw=>AG ta tb t.name tao tn tcp w);have N:=fU h;have HS:=hs;have HR:=fU hR;have a0:=fU J;have HU:=hu;have a7:=hr;have a1:=(λW (hk:Kept [] w W)=>(by rw[fW (hk.at O (by simp))];rfl:W.cell? ⟨b1,0,none⟩=some (iC E.bB)));clear h hR J;go_enter func218,ntmps218
 go_wp21
 refine tC (by rfl) ?_
 try (change wpAny _ _ _ _ _ _ _ (World.drew _))
 refine Bh (I:=λs ac W=>∃U V X Y Z z5 z6 z7 s4 s5 s6 s7 s8 s9 y z,s=#[U,V,X,Y,Z,z5,z6,z7]/\ac=⟨#[iF E t,iC b1,iC b2,undef,s4,s5,s6,s7,s8,s9,y,z,undef,undef,undef],[]⟩/\IfI E t σ ta tb tao tn tcp w U V X Y Z z5 z6 z7 s4 s5 s6 s7 s8 s9 y z W) ?_ ?_ _ _ _ _ ?_ ?_
 .rintro s a W k ⟨U,V,X,Y,Z,z5,z6,z7,s4,s5,s6,s7,s8,s9,y,z,rfl,rfl,d⟩ hi;simp only[Region.ready,MH,Ku]at hi;have⟨T,hc⟩:=hi;have T:k < 8:=T;obtain rfl|rfl|rfl|rfl|rfl|rfl|rfl|rfl:k=0\/k=1\/k=2\/k=3\/k=4\/k=5\/k=6\/k=7:=by omega
  all_goals simp[Region.binds]at hc
  .refine kP rfl ?_;intro F q;have ab:U=false:=by simp[hc]
   have cc:=a1 W d.wi;go_simp;refine q _ _ ⟨_,_,_,_,_,_,_,_,_,_,_,_,_,_,_,_,rfl,rfl,?_⟩;exact {d with f0:=(λ_=>rfl),d7:=(λP=>by have h2:=(d.d7 P).1;grind)}
  .refine kP rfl ?_;intro F q;have O:V=false:=by simp[hc]
   go_simp;refine q _ _ ⟨_,_,_,_,_,_,_,_,_,_,_,_,_,_,_,_,rfl,rfl,?_⟩;exact {d with f1:=(λ_=>rfl),d2:=(λ_=>rfl)}
  .refine kP rfl ?_;intro F q;have J:X=false:=by simp[hc]
   have e1:=d.f1 (by simp[hc]);subst e1;go_simp;refine(HTG W).mono ?_;rintro e W2 ⟨rfl,l⟩;refine q _ _ ⟨_,_,_,_,_,_,_,_,_,_,_,_,_,_,_,_,rfl,rfl,?_⟩;exact {d with f2:=(λ_=>rfl),f4:=(λh=>(d.f4 h).k l),f5:=(λh=>(d.f5 h).k l),f6:=(λh=>(d.f6 h).k l),d2:=(λ_=>by simp[hc]),d3:=(λ_=>rfl),wi:=(d.wi.trans l)}
  .refine kP rfl ?_;intro F q;have ad:Y=false:=by simp[hc]
   have e2:=d.f2 (by simp[hc]);subst e2;have ai:=a2;go_simp;refine q _ _ ⟨_,_,_,_,_,_,_,_,_,_,_,_,_,_,_,_,rfl,rfl,?_⟩;exact {d with f3:=(λ_=>rfl),d3:=(λ_=>by simp[hc]),d4:=(λ_=>rfl)}
  .refine kP rfl ?_;intro F q;have ae:Z=false:=by simp[hc]
   have e3:=d.f3 (by simp[hc]);subst e3;go_simp;have ka:Kept [] W (W.alloc (gI #[gH t.name] 9)):=(Kept.refl _ _).alloc _;refine q _ _ ⟨_,_,_,_,_,_,_,_,_,_,_,_,_,_,_,_,rfl,rfl,?_⟩;exact {d with f4:=(λ_=>⟨_,rfl,fY W _⟩),f5:=(λh=>(d.f5 h).k ka),f6:=(λh=>(d.f6 h).k ka),d4:=(λ_=>by simp[hc]),d5:=(λ_=>rfl),wi:=(d.wi.trans ka)}
  .refine kP rfl ?_;intro F q;have af:z5=false:=by simp[hc]
   have e4:=d.f4 (by simp[hc]);have⟨g,e4,hg⟩:=d.f4 (by simp[hc]);subst e4;go_simp;refine(NF E.bm g 1 [t.name] W hg (by simp)).mono ?_;rintro e W2 ⟨⟨v,rfl,ha⟩,l⟩;refine q _ _ ⟨_,_,_,_,_,_,_,_,_,_,_,_,_,_,_,_,rfl,rfl,?_⟩;exact {d with f4:=(λ_=>⟨g,rfl,l.at hg (by simp)⟩),f5:=(λ_=>(by have⟨k,lb,e,_,_⟩:=ha.call;exact⟨k,lb,e,ha⟩)),f6:=(λh=>(d.f6 h).k l),d5:=(λ_=>by simp[hc]),d7:=(λP=>by have h2:=(d.d7 P).2.1;grind),wi:=(d.wi.trans l)}
  .refine kP rfl ?_;intro F q;have ag:z6=false:=by simp[hc]
   go_simp;refine(wG E W).mono ?_;rintro e W2 ⟨k,lb,rfl,ha,l⟩;refine q _ _ ⟨_,_,_,_,_,_,_,_,_,_,_,_,_,_,_,_,rfl,rfl,?_⟩;exact {d with f4:=(λh=>(d.f4 h).k l),f5:=(λh=>(d.f5 h).k l),f6:=(λ_=>⟨k,lb,rfl,ha⟩),d7:=(λP=>by have h2:=(d.d7 P).2.2;grind),wi:=(d.wi.trans l)}
  .refine kP rfl ?_;intro F q;have ah:z7=false:=by simp[hc]
   have e0:=d.f0 (by simp[hc]);subst e0;have a5:=d.f5 (by simp[hc]);have a6:=d.f6 (by simp[hc]);go_simp;refine(vJ (N.il d.wi) (ij [t.name]) AD _ _ a5.choose_spec.choose_spec.2 a6.choose_spec.choose_spec.2).mono ?_;rintro e W2 ⟨rfl,l⟩;refine q _ _ ⟨_,_,_,_,_,_,_,_,_,_,_,_,_,_,_,_,rfl,rfl,?_⟩;exact {d with f4:=(λh=>(d.f4 h).k l),f5:=(λh=>(d.f5 h).k l),f6:=(λh=>(d.f6 h).k l),f7:=(λ_=>rfl),d7:=(λ_=>by simp[hc]),wi:=(d.wi.trans l)}
 .rintro s a W ⟨U,V,X,Y,Z,z5,z6,z7,s4,s5,s6,s7,s8,s9,y,z,rfl,rfl,d⟩ hr;simp only[Region.ready,U7,Ku]at hr;have q0:=hr 0 (by decide);simp[Region.binds]at q0;subst q0;have q1:=hr 1 (by decide);simp[Region.binds]at q1;subst q1;have q2:=hr 2 (by decide);simp[Region.binds]at q2;subst q2;have q3:=hr 3 (by decide);simp[Region.binds]at q3;subst q3;have q4:=hr 4 (by decide);simp[Region.binds]at q4;subst q4;have q5:=hr 5 (by decide);simp[Region.binds]at q5;subst q5;have q6:=hr 6 (by decide);simp[Region.binds]at q6;subst q6;have q7:=hr 7 (by decide);simp[Region.binds]at q7;subst q7;have e7:=d.f7 rfl;subst e7;have H:=(At.start N).k0 d.wi;have C:=fU d.wi;clear d;cases hq:σ.inScope (ij [t.name]) AD with
  |false=>
   have a4:=(show R= .ok () σ by rw[HR.out];unfold K4;rw[hq];rfl);go_wp2;go_end0;exact gu a4 H rfl
  |true=>
   have G:R=K σ:=by rw[HR.out];unfold K4;rw[hq];rfl
   have a9:K σ≠ .stuck:=by rw[<-G];exact HS
   have aa:=nA.fr HU (Fr.n (bs:=E.bs) (.gX C) E.bm);have⟨k,bs,cs,hv,eg,HC⟩:=a7 u f σ W H.rel aa a9;subst hv;have c2:=fW (C.out.at a0.out (by simp)) 0;dsimp at c2;have a8:=fU G;clear G
   go_wp21
   refine HC.mono ?_;intro e W2 hL;have HL:=fU hL;have a3:=Fr.gX (bs:=E.bs) C;clear hL;have x:=fU a8;cases hrr:K σ with
   |ok a σ2=>
    rw[hrr]at HL x;obtain⟨g,g1,g2,rfl,g4,g5⟩:=HL;have HG:=H.go g4 g1 g2 g5;go_wp2;go_end0;exact gu x HG rfl
   |stop c p=>
    rw[hrr]at HL x;obtain⟨j,rfl,G2,g3⟩:=HL;have G3:=a3.trans g3;go_wp2;exact⟨rfl,pd x G2 G3⟩
   |stuck=>grind
 .decide
 .exact⟨_,_,_,_,_,_,_,_,_,_,_,_,_,_,_,_,rfl,rfl,⟨(by simp),(by simp),(by simp),(by simp),(by simp),(by simp),(by simp),(by simp),(by simp),(by simp),(by simp),(by simp),(by simp),((Kept.refl _ _).drew)⟩⟩
def Jf {n : gy} {a p k : gO} (h:w.heap[i]?=some (gI #[gH n,a,p,k] 142)):w.cell? ⟨i,0,none⟩=some (gH n)/\w.cell? ⟨i,1,none⟩=some a/\i < w.heap.size:=⟨by rw[fW h];rfl,by rw[fW h];rfl,jk h⟩
def Wb (i j:Nat) (P O:gy) (a1 p1 k1 a2 p2 k2:gO) (d h:lh) (w:gv) (hi:w.heap[i]?=some (gI #[gH P,a1,p1,k1] 142)) (hj:w.heap[j]?=some (gI #[gH O,a2,p2,k2] 142)) (H:yF w a1 d) (I:yF w a2 h) (a9:d.length<=4096) (aa:h.length<=4096):
  Calls prog 308 #[gJ i,gJ j] w λe w'=>e=iq (.bool (kC P O&&(d.length==h.length)&&d.all λx=>h.any λy=>rF x y))/\Kept [] w w':=by
 have K:∀(fn:Fn) (first U:jM) (w:gv),(Instr.makeFunc fn first U).run prog w= .ok (.func fn first U) w:=λ_ _ _ _=>rfl;obtain⟨u,t⟩:∃u,u=w.alloc (gI #[gJ j] 57):=⟨_,rfl⟩;have N:Kept [] w u:=by rw[t];exact(Kept.refl _ _).alloc _
 have Z:u.heap[w.heap.size]?=some (gI #[gJ j] 57):=by rw[t];exact fY w _
 have⟨c0,c1,l1⟩:=Jf (N.at hi (by simp));have⟨d0,d1,l2⟩:=Jf (N.at hj (by simp));have e0:u.cell? ⟨w.heap.size,0,none⟩=some (gJ j):=by rw[fW Z];rfl
 have C:=fU (λW (l:Kept [] u W)=>zx 339 #[gJ w.heap.size] (λa=>!(h.any λy=>rF a y)) a1 d W ((N.trans l).ownsRow H (λ_ _=>by simp)) a9 ⟨enters_of func339 (by rfl) rfl,λW2 k a _=>Y3 w.heap.size j O a2 p2 k2 h a W2 ((l.trans k).at Z (by simp)) (((N.trans l).trans k).at hj (by simp)) (((N.trans l).trans k).ownsRow I (λ_ _=>by simp)) aa⟩);have R:=fU (jk Z);have F:(!(d.any λa=>!(h.any λy=>rF a y)))=d.all λx=>h.any λy=>rF x y:=by
  rw[List.not_any_eq_all_not];simp
 have⟨ao1,cp1,hav1⟩:=gG H;have⟨ao2,cp2,hav2⟩:=gG I;subst hav1 hav2;have HW:=fU t.symm;have G:=fU N;have a0:=fU F;clear hi hj H I t N Z F;cases hq:kC P O with
 |false=>
  have s:(P.toList==O.toList)=false:=hq;clear hq;go_enter func308,ntmps308
  go_wp21
  rw[HW.out]
  go_quiet (fail)
  go_wp2;go_ret;exact⟨rfl,G.out.drewN _⟩
 |true=>
  have s:(P.toList==O.toList)=true:=hq;clear hq
  by_cases hl:d.length=h.length
  .have q:((d.length:Int)==(h.length:Int))=true:=by rw[hl];simp
   have a5:=fU (show(d.length==h.length)=true by rw[hl];simp);clear hl;go_enter func308,ntmps308
   go_wp21
   rw[HW.out];obtain⟨T,Y⟩:∃T,T=w.heap.size:=⟨_,rfl⟩;rw[<-Y]at e0 C R|-;clear Y;have HC:=fU (λ(W:gv) (l:Kept [] u W)=>(⟨(l.cell (p:=⟨i,0,none⟩) l1 (by simp)).trans c0,(l.cell (p:=⟨i,1,none⟩) l1 (by simp)).trans c1,(l.cell (p:=⟨j,0,none⟩) l2 (by simp)).trans d0,(l.cell (p:=⟨j,1,none⟩) l2 (by simp)).trans d1,(l.cell (p:=⟨T,0,none⟩) R.out (by simp)).trans e0⟩:_/\_/\_/\_/\_));have a7:=fU s;have a4:=fU q;have a6:=fU K;clear c0 c1 d0 d1 e0 s q K;refine tC (by rfl) ?_;refine pN (λ(g:Unit) z=>⟨#[gJ i,gJ j,undef,gJ T,ce z 31 (.bool false) (.bool (!(d.any λa=>!(h.any λy=>rF a y)))),cd z 0 (gJ i),cd z 1 (gJ i),cd z 2 (gJ i),cd z 3 (gH P),cd z 4 (gJ j),cd z 5 (gJ j),cd z 6 (gJ j),cd z 7 (gH O),cd z 8 (.bool true),cd z 9 (.bool true),cd z 10 (gJ i),cd z 11 (gJ i),cd z 12 (jG i 1),cd z 13 (.slice ao1 d.length cp1),cd z 14 (gn d.length),cd z 15 (gJ j),cd z 16 (gJ j),cd z 17 (jG j 1),cd z 18 (.slice ao2 h.length cp2),cd z 19 (gn h.length),cd z 20 (.bool true),cd z 21 (.bool true),cd z 22 (.bool true),cd z 23 (gJ i),cd z 24 (gJ i),cd z 25 (jG i 1),cd z 26 (.slice ao1 d.length cp1),cd z 27 (.func (.func 339) #[] #[gJ T]),cd z 28 (.bool (d.any λa=>!(h.any λy=>rF a y))),cd z 29 (.bool (!(d.any λa=>!(h.any λy=>rF a y)))),cd z 30 (.bool (!(d.any λa=>!(h.any λy=>rF a y))))],[]⟩) (λg z W=>Kept [] u W) 32 [[],[0],[1],[2],[],[4],[5],[6],[3,7],[8],[9],[9,10],[9,11],[9,12],[9,13],[9],[9,15],[9,16],[9,17],[9,18],[9,14,19],[9,20],[21],[22],[22,23],[22,24],[22,25],[22],[22,26,27],[22,28],[22,29],[30]] (()) rfl rfl ((Kept.refl [] u).drew) ?_ ?_
   .repeat' first|exact mV|refine mU ?_ ?_
    all_goals
     rintro g z W J hc _;simp[BV]at hc;refine kP rfl ?_;intro K' V;simp only[ld,hc];have⟨c0,c1,d0,d1,e0⟩:=HC.out W J;have s:=a7.out;have q:=a4.out;have K:=a6.out;have C1:=fU (C.out W J);go_simp
     first
     |refine V _ _ ⟨g,?_,J⟩
     |refine C1.out.mono ?_;rintro e W2 ⟨rfl,k⟩;refine V _ _ ⟨g,?_,J.trans k⟩
     simp[oB,vo,ld,T6,acz,hc]
   .rintro g W J;simp only[vc,X4];have a3:=fU J;clear J;rename_i KK X;refine X _ _ ?_;clear X KK;go_wp2;go_ret;exact⟨by rw[a5.out,<-a0.out];rfl,G.out.trans a3.out⟩
  .have q:((d.length:Int)==(h.length:Int))=false:=beq_eq_false_iff_ne.2 (by omega);have a8:(d.length==h.length)=false:=beq_eq_false_iff_ne.2 hl;go_enter func308,ntmps308
   go_wp21
   rw[HW.out]
   go_quiet (fail)
   go_wp2;go_ret;exact⟨by rw[a8];rfl,G.out.drewN _⟩
section
attribute [local go_sem] Oper.semAt_some
attribute [local go_sem] qd
attribute [local simp] qd
def Ab.tw (σ:Ab) (j:Nat) (c:jg×Nat) (i:Nat):jg×Nat:=if σ.Wn i j then (some i,c.2+1)else c
def Ao (σ:Ab) (j:Nat):∀(a:kQ) (c:jg×Nat),σ.sj j a c=(Aa a).foldl (σ.tw j) c
 |[],_=>rfl
 |none::_,_=>rfl
 |some i::r,c=>by
  show(if σ.Wn i j then σ.sj j r (some i,c.2+1)else σ.sj j r c)=(Aa r).foldl (σ.tw j) (σ.tw j c i);unfold Ab.tw;split<;>exact Ao σ j r _
theorem Jg (σ:Ab) (j:Nat):∀(a:List Nat) (c:jg×Nat),(a.foldl (σ.tw j) c).2<=c.2+a.length
 |[],c=>by simp
 |x::a,c=>by
  have h:=Jg σ j a (σ.tw j c x)
  grind[Ab.tw]
theorem T1:∀(a:kQ),(Aa a).length<=a.length
 |[]=>ig _
 |none::_=>iO _
 |some _::r=>by have:=T1 r;grind[Aa]
def Rel.aeV {σ:Ab} (h:Rel E L σ w) {a b : zu} (d:σ.hU i=some a) (g:σ.hU j=some b):
  Calls prog 308 #[gJ (L.gP i),gJ (L.gP j)] w λe w'=>e=iq (.bool (σ.Wn i j))/\Kept [] w w':=by
 have⟨h1,h2,h3⟩:=h.sN i _ (Ab.jo d);have⟨g1,g2,g3⟩:=h.sN j _ (Ab.jo g);refine(Wb _ _ _ _ _ _ _ _ _ _ _ _ w h1.ir g1.ir h2 g2 h3 g3).mono ?_;rintro e w' ⟨rfl,k⟩;refine⟨?_,k⟩;unfold Ab.Wn;rw[d,g];rfl
def Cp {k : Nat} {t : TypeId} (a:w.heap[D]?=some o) (d:o.isCells=false) (h:w.heap[k]?=some (.cells c t m)):(w.putObj D o').heap[k]?=some (.cells c t m):=
 (pk (λe=>by subst e;rw[a]at h;cases h;cases d)).trans h
def kX.abI {nd : AQ} (h:kX bs L w i nd) (a:w.heap[D]?=some o) (d:o.isCells=false):kX bs L (w.putObj D o') i nd:=by
 cases nd with
 |el e=>exact⟨⟨Cp a d h.1.ir,FA h.1.row o' a d,h.1.le,h.1.TW⟩,FA h.2.1 o' a d,h.2.2⟩
 |tx s=>exact Cp a d h
 |cm s=>exact Cp a d h
 |dt s=>exact Cp a d h
theorem Fr.take (h:Fr bs w W) (a:w.heap.size<=D) (o:Obj):Fr bs w (W.putObj D o):=by
 have⟨S,hk,hS⟩:=h;exact⟨S,hk.grown (xJ W D o) (λk e=>by grind),hS⟩
def Rel.abI {σ:Ab} (h:Rel E L σ w) (a:w.heap[D]?=some o) (d:o.isCells=false) (e:E.w0.heap.size<=D):Rel E L σ (w.putObj D o'):=by
 have⟨C,hb,hC⟩:=h.ir;exact
  {fr:=h.fr.take e o'
   env:=h.env
   DU:=h.DU
   sN:=λi k g=>(h.sN i k g).abI a d
   inj:=h.inj,A8:=h.A8,Ga:=h.Ga,uq:=h.uq,Eu:=h.Eu,wf:=h.wf
   ir:=⟨C,Cp a d hb,hC⟩
   o0:=FA h.o0 o' a d
   pX:=FA h.pX o' a d
   Gd:=h.Gd,wV:=h.wV,Ey:=h.Ey
   oS:=FA h.oS o' a d
   LB:=h.LB
   rd:=Cp a d h.rd
   QS:=h.QS
   tok:=FA h.tok o' a d
   Ly:=h.Ly,bz:=h.bz,bB:=h.bB,bR:=h.bR,bN:=h.bN,De:=h.De,ab:=h.ab,tb:=h.tb,LA:=h.LA}
def Fr.other (h:Fr bs w W) (d:w.heap[D]?=some o) (g:o.isCells=false):W.heap[D]?=some o:=by
 have⟨S,hk,hS⟩:=h;have a:D < w.heap.size:=(Array.getElem?_eq_some_iff.1 d).1;refine(hk.block D a λe=>?_).trans d;have⟨⟨c,t,m,h3,_⟩,_⟩:=hS D e a;rw[d]at h3;cases h3;cases g
def Y5 {α y:Type} {σ:Ab} {k : Nat} {m:M α} {h:(Nat->Nat)->α->gO} (C:m σ≠ .stuck->Calls prog k A w (j8 E f σ.nodes.length w (m σ) h)) (H:At E f0 n0 w0 f σ w) {R:pG y} {K:α->M y} (g:R=(m>>=K) σ) (I:R≠ .stuck)
  (s:∀c p j w',R= .stop c p->kJ w' j c p->Fr E.bs w0 w'->Fr E.bs w w'->Q (qB j) w')
  (q:∀a d w',At E f0 n0 w0 f d w'->Fr E.bs w w'->R=K a d->Q (iq (h f a)) w'):Calls prog k A w Q:=by
 rw[M.gx]at g;have x:m σ≠ .stuck:=λe=>I (by rw[g,e]);refine(C x).mono ?_;intro e w' l;cases hr:m σ with
 |ok a d=>
  rw[hr]at l g;obtain⟨rfl,F,u,G⟩:=l;exact q a d w' (H.to F G u) u g
 |stop c p=>
  rw[hr]at l g;obtain⟨j,rfl,z,t⟩:=l;exact s c p j w' g z (H.fr.trans t) t
 |stuck=>exact absurd hr x
def Qb {d : gv} {a:Ab} {r : pG Unit} (H:At E f n w f a d) (h:d.heap[D]?=some (.deferred (some []))) (g:w.heap.size<=D) (hr:r= .ok () a):j8 E f n w r uV (p8) (d.putObj D (.deferred none)):=by
 subst hr;have⟨L,e,hr⟩:=H.rel;exact⟨rfl,⟨L,e,hr.abI h rfl (jP H.hw g)⟩,H.fr.take g _,H.le⟩
def Jj {c p k : Nat} {a : gv} {r : pG Unit} (h:kJ a k c p) (g:Fr E.bs w a) (e:a.heap[D]?=some (.deferred (some []))) (d:w.heap.size<=D) (hr:r= .stop c p):j8 E f n w r uV (qB k) (a.putObj D (.deferred none)):=by
 subst hr;exact⟨k,rfl,Cp e rfl h,g.take d _⟩
def Vm {σ:Ab} (h:Rel E L σ w) (x:jg) (p:σ.gW x=true):
  Calls prog 168 #[jG E.bB 189,oV L.gP x] w λe w'=>e=p8/\RF E L.gP {σ with act:=σ.act.erase x} w'/\Fr E.bs w w'/\Kept (E.bB::L.cv.ownBlock.toList) w w':=by
 have⟨C,hL,hC⟩:=h.GF;refine(Am E.bs E.bB 189 _ C _ _ (iD L.gP x) w hL h.elA (h.gW p)).mono ?_;rintro e w' ⟨rfl,a⟩;have⟨_,_,hk,_⟩:=id a;obtain⟨d,g,k,l⟩:=h.AH hL hC (by rw[<-vH h.inj];exact a) λy q=>h.wf.act y (AO q);exact⟨rfl,⟨d,g,k⟩,l,hk⟩
theorem aeC {σ:Ab} (h:RF E f σ w) (j:Nat) (ak:σ.hU j=some ej) (V:MP j σ≠ .stuck):Calls prog 266 #[Bp E,nV f j] w (j8 E f σ.nodes.length w (MP j σ) uV):=by
 have H:=At.start h;obtain⟨L,rfl,hr⟩:=h;refine(wJ (n:=9)).1 ?_;refine wK func266 rfl trivial ?_ rfl;simp only[ntmps266,wM,qe,uS,Nat.reduceAdd,Nat.reduceSub,wN,wO,wP,wQ,ru,uT];obtain⟨P,I⟩:∃P,P=((w.alloc (gI #[nV L.gP j] 57)).alloc (gI #[.pointer none] 57)).alloc (gI #[gn 0] 3):=⟨_,rfl⟩;have a3:Kept [] w P:=by rw[I];exact(((Kept.refl _ _).alloc _).alloc _).alloc _
 have⟨B0,B1,B2⟩:=oq w (gI #[nV L.gP j] 57) (gI #[.pointer none] 57) (gI #[gn 0] 3);rw[<-I]at B0 B1 B2;have s:P.heap.size=w.heap.size+1+1+1:=by rw[I];simp
 have ab:=hr.il a3;have aq:=hr.lt;have ap:=hr.Ey;have HB:=H6 E.bB P;have aa:=(λ(W:gv) (U:Kept [] w W) (i:Nat) (e:zu) (hi:σ.hU i=some e)=>(hr.il U).aeV hi ak);have ad:=(λ(W:gv) (U:Kept [] w W)=>hr.il U);have HA:=(λ(i:Nat) (hi:some i∈σ.act)=>hr.wf.act (some i) hi);have HO:=(λg (hg:L.cv.ownBlock=some g)=>(hr.pX.lt g hg).2);have HZ:=fU s;have HW:=fU I;have HS:=V;clear s I
 gi_wp2_with fail
 rw[<-HW.out];refine(callsIn_wide.2 HB).mono ?_;rintro e w' ⟨rfl,rfl⟩;gi_wp2;refine UZ (by omega) ab rfl [w.heap.size+1,w.heap.size+1+1] ?_
  (λpre W=>Kept [] w W/\W.heap[w.heap.size]?=some (gI #[nV L.gP j] 57)/\W.heap[w.heap.size+1]?=some (gI #[oV L.gP (pre.foldl (σ.tw j) (none,0)).1] 57)/\W.heap[w.heap.size+1+1]?=some (gI #[gn ((pre.foldl (σ.tw j) (none,0)).2)] 3))
  (λ_ _ _=>False)
  ?_ ?_ ?_ (λx=>{tmps:=#[Bp E,nV L.gP j,undef,gJ w.heap.size,gJ (w.heap.size+1),gJ (w.heap.size+1+1),kh (some x),Bp E,LJ P.heap.size,kh (some x),undef,undef,undef,undef,undef,undef,undef,undef,undef,undef,undef,undef,undef,undef,undef,undef],defers:=[]}) ?assign ?body ?done ?stop
 .grind
 .rintro pre A B row ⟨h1,N,F,T⟩ hg hr;have s:=HZ.out;exact⟨lX h1 hg hr (by omega),kG N hg hr (by omega),kG F hg hr (by omega),kG T hg hr (by omega)⟩
 .rintro c pre A B row h _ _;exact h
 .have U:Kept [] P (P.alloc (gI #[Bp E] 93)):=(Kept.refl _ _).alloc _;exact⟨a3.trans U,U.at B0 (by simp),U.at B1 (by simp),U.at B2 (by simp)⟩
 case assign=>
  intro l x W K hK;gi_wp2;exact hK
 case body=>
  rintro l pre i W hi ⟨HK,B3,B4,B5⟩ am;have ao:(pre.foldl (σ.tw j) (none,0)).2<=4096:=by have:=Jg σ j pre (none,0);simp at this;omega
  have O:=HA i hi;obtain⟨e0,aj⟩:∃e0,σ.hU i=some e0:=Option.isSome_iff_exists.1 O;have C:=aa W HK i e0 aj;have c1:=fW B3 0;dsimp at c1;have J:=fU (show(pre++[i]).foldl (σ.tw j) (none,0)=σ.tw j (pre.foldl (σ.tw j) (none,0)) i by simp);rw[show kh (some (L.gP i))=gJ (L.gP i)from rfl];generalize pre.foldl (σ.tw j) (none,0)=c at *
  gi_wp2_with fail
  refine(qF l (callsIn_wide.2 C)).mono ?_;rintro e W3 ⟨rfl,G⟩;have G3:=G.at B3 (by simp);have G4:=G.at B4 (by simp);have G5:=G.at B5 (by simp);have d4:=fW G4 0;have d5:=fW G5 0;have f4:=gE G4 0;have f5:=gE G5 0;dsimp at d4 d5;have a4:=HK.trans G;have a5:=G.mono (S':=[w.heap.size+1,w.heap.size+1+1]) (by simp);cases Z:σ.Wn i j with
  |true=>
   have HQ:=fU (show σ.tw j c i=(some i,c.2+1) by unfold Ab.tw;rw[Z];rfl);gi_wp2;have k6:Kept [w.heap.size+1,w.heap.size+1+1] W3 ((W3.setCell ⟨w.heap.size+1,0,none⟩ (gJ (L.gP i))).setCell ⟨w.heap.size+1+1,0,none⟩ (gn ((c.2:Int)+1))):=((Kept.refl _ W3).setCell (.inl (by simp)) _).setCell (.inl (by simp)) _;refine⟨a5.trans k6,((a4.setCell (.inr (by simp)) _).setCell (.inr (by simp;omega)) _),k6.at G3 (by simp;omega),?_,?_⟩
   .rw[J.out,HQ.out];exact(Below.heap_setCell _ _ _ _ (by simp)).trans (gg G4 0 _)
   .rw[J.out,HQ.out];exact gg ((Below.heap_setCell _ _ _ _ (by simp)).trans G5) 0 _
  |false=>
   have HQ:=fU (show σ.tw j c i=c by unfold Ab.tw;rw[Z];rfl);gi_wp2;exact⟨a5,a4,G3,by rw[J.out,HQ.out];exact G4,by rw[J.out,HQ.out];exact G5⟩
 case done=>
  rintro D W HD ⟨a6,a0,F,T⟩ t;rw[<-Ao]at F T;have au:(σ.sj j σ.act.reverse (none,0)).2<=4096:=by
   rw[Ao];have a1:=Jg σ j (Aa σ.act.reverse) (none,0);have a2:=T1 σ.act.reverse;simp at a1 a2;omega
  obtain⟨R,u⟩:∃R,R=MP j σ:=⟨_,rfl⟩;have V:=HS;rw[<-u]at V;have y:R=if 3<=(σ.sj j σ.act.reverse (none,0)).2 then (kK (σ.sj j σ.act.reverse (none,0)).1>>=λ_=>(lw (some j)>>=λ_=>(Pure.pure ():M Unit))) σ else (lw (some j)>>=λ_=>(Pure.pure ():M Unit)) σ:=u
  generalize σ.sj j σ.act.reverse (none,0)=c at *;have c1:=fW a0 0;have c2:=fW F 0;have c3:=fW T 0;dsimp at c1 c2 c3;replace H:=H.k0 a6;replace HS:=V
  by_cases F:3<=c.2
  .rw[gF F]at y;have HR:=fU y;clear y;have O:σ.gW c.1=true:=by
    cases Z:σ.gW c.1 with
    |true=>rfl
    |false=>
     refine absurd ?_ HS;rw[HR.out,M.gx];unfold kK;rw[Z];rfl
   have ac:Hid (R=(lw (some j)>>=λ_=>(Pure.pure ():M Unit)) {σ with act:=σ.act.erase c.1}):=by
    refine fU ?_;rw[HR.out,M.gx];unfold kK;rw[O];rfl
   have a7:=Vm (ad _ a6.drew) c.1 O;have ar:=H.lt
   gi_wp2_with fail
   refine wpIn_wide.2 ?_;rename_i K ai _;refine wp_mono (Q:=Exit.then (λa W'=>∃d e b,a={tmps:=#[Bp E,nV L.gP j,undef,gJ w.heap.size,gJ (w.heap.size+1),gJ (w.heap.size+1+1),undef,Bp E,LJ P.heap.size,undef,undef,undef,undef,undef,undef,undef,gn c.2,b,Bp E,d,jG E.bB 189,oV L.gP c.1,e,undef,undef,undef],defers:=[{target:=Target.collected D,args:=#[]}]}/\At E L.gP σ.nodes.length w L.gP {σ with act:=σ.act.erase c.1} W'/\Fr E.bs W W'/\Kept (E.bB::L.cv.ownBlock.toList) W W') (λ_ _ _=>False)) ?_ ?_
   .go_region_with (go_at_call 168;refine a7.mono ?_;rintro e w5 ⟨rfl,q2,q3,q4⟩;have ae:=fU ((H.k0 ((Kept.refl _ W).drew)).to q2 (si _ _ rfl) q3);have a8:=fU q3;have a9:=fU (((Kept.refl _ W).drew).trans q4);clear q2 q3 q4)
    all_goals exact⟨_,_,_,rfl,ae.out,(Fr.gX ((Kept.refl _ W).drew)).trans a8.out,a9.out⟩
   .intro e a W' Z;cases e with
    |normal=>
     obtain⟨d,e,b,rfl,af,ag,ah⟩:=Z;have b2:W'.heap[w.heap.size]?=some (gI #[nV L.gP j] 57):=by
      refine ah.at a0 λhm=>?_;rcases List.mem_cons.1 hm with hm|hm
      .omega
      .grind
     have c1:=fW b2 0;dsimp at c1;have k:=Fr.other (o:= .deferred (some [])) ag t rfl;replace H:=af;replace t:=k;replace HR:=ac;refine ai _ _ ?_
     gi_wp2_with fail
     refine callsIn_wide.2 ?_;refine Y5 (λV=>BU E (some j) _ _ _ H.rel V) H HR.out HS ?_ ?_
     .intro c p q ws h1 N F T;have k:=Fr.other (o:= .deferred (some [])) T t rfl;refine⟨by simp,.inl ⟨_,_,rfl,nM k,?_⟩⟩;have s:=HZ.out;have hD:=HD;exact Jj N F k (by omega) (u.symm.trans h1)
     .rintro a al w2 X N Y;have k:=Fr.other (o:= .deferred (some [])) N t rfl;have z:=k;gi_wp2;refine⟨by simp,.inl ⟨_,_,rfl,nM z,?_⟩⟩;have s:=HZ.out;have hD:=HD;refine⟨.tuple #[],?_,Qb X z (by omega) (u.symm.trans Y)⟩;simp[results,results266,go_sem]
    |_=>exact Z.elim
  .rw[gQ F]at y;have HR:=fU y;clear y
   gi_wp2_with fail
   refine callsIn_wide.2 ?_;refine Y5 (λV=>BU E (some j) _ _ _ H.rel V) H HR.out HS ?_ ?_
   .intro c p q ws h1 N F T;have k:=Fr.other (o:= .deferred (some [])) T t rfl;refine⟨by simp,.inl ⟨_,_,rfl,nM k,?_⟩⟩;have s:=HZ.out;have hD:=HD;exact Jj N F k (by omega) (u.symm.trans h1)
   .rintro a al w2 X N Y;have k:=Fr.other (o:= .deferred (some [])) N t rfl;have z:=k;gi_wp2;refine⟨by simp,.inl ⟨_,_,rfl,nM z,?_⟩⟩;have s:=HZ.out;have hD:=HD;refine⟨.tuple #[],?_,Qb X z (by omega) (u.symm.trans Y)⟩;simp[results,results266,go_sem]
 case stop=>rintro D c pre W hD an h;exact h.elim
end
def DM (σ:Ab) (x:jg) (a:Nat):∀d:kQ,({σ with form:=x}:Ab).nX a d=σ.nX a d
 |[]=>rfl
 |y::r=>by
  unfold Ab.nX;rw[DM σ x a r];rfl
def Ls (E:Env) (t:gM) (I:jd E t):ja E 180 (λ_=>#[Bp E,iF E t]) (ph t) uV:=by
 refine dI λf l w R g HS H=>?_;unfold ph at g;go_enter func180,ntmps180;have⟨kb,lbb,cb,HQ⟩:=H.rel.bounds;have y:=H.lt;have u:=cb;have F:=(Kept.refl [] w).drew
 go_wp21
 go_cut [11]from 4 to 10 (λr wc=>r= .bool (l.inScope (ij [hH]) (iP))/\At E f l.nodes.length w f (l.close (ij [hH]) (iP)) wc)
 case first=>
  go_region_with (first
   |(go_at_call 206;refine(np E [hH] w.drew (by simp)).mono ?_;rintro e K ⟨T,J,rfl,h,k⟩;have d:=F.trans k;have P:K.cell? ⟨E.bB,186,none⟩=some (.func (.func kb) #[] lbb):=(d.cell (p:=⟨E.bB,186,none⟩) y (by simp)).trans u;have s:=fU h;have a:=fU d;clear h k d)
   |(go_at_call 209;refine(Dr (p:=ij [hH]) (q:=iP) (H.k0 a).rel s (HQ.k0 a)).mono ?_;rintro e U ⟨rfl,z,C⟩;have G:=fU ((H.k0 a).to z (xZ _ _ _) C);clear z C))
  all_goals (try (go_wp21))
  all_goals (go_meet;exact⟨rfl,G⟩)
 case rest=>
  obtain⟨rfl,x⟩:=hcut;replace H:=x;replace g:Hid (R=(lz t>>=λ_=>(pure ():M Unit)) (l.close (ij [hH]) iP)):=by
   have:=g;rw[M.gx,tG]at this;exact fU this
  go_wp21
  refine dC (rh E (iK E) t I) H g HS rfl lT ?_;rintro(_) f l w H O N g;go_wp2;go_end0;exact gu g H rfl
def Pn (E:Env) (t:gM):ja E 199 (λ_=>#[Bp E,iF E t]) (sC) uV:=by
 refine dI λf h w R d HS H=>?_;unfold sC at d;go_enter func199,ntmps199;have⟨kb,lbb,cb,HQ⟩:=H.rel.bounds;have z:=H.lt;have s:=cb;have F:=(Kept.refl [] w).drew
 go_wp21
 go_cut [11]from 4 to 10 (λr wc=>r= .bool (h.inScope (ij [gV]) (iP))/\At E f h.nodes.length w f (h.close (ij [gV]) (iP)) wc)
 case first=>
  go_region_with (first
   |(go_at_call 206;refine(np E [gV] w.drew (by simp)).mono ?_;rintro e N ⟨T,K,rfl,u,y⟩;have l:=F.trans y;have P:N.cell? ⟨E.bB,186,none⟩=some (.func (.func kb) #[] lbb):=(l.cell (p:=⟨E.bB,186,none⟩) z (by simp)).trans s;have C:=fU u;have k:=fU l;clear u y l)
   |(go_at_call 209;refine(Dr (p:=ij [gV]) (q:=iP) (H.k0 k.out).rel C.out (HQ.k0 k.out)).mono ?_;rintro e U ⟨rfl,G,I⟩;have J:=fU ((H.k0 k.out).to G (xZ _ _ _) I);clear G I))
  all_goals (try (go_wp21))
  all_goals (go_meet;exact⟨rfl,J.out⟩)
 case rest=>
  obtain⟨rfl,x⟩:=hcut;replace H:=x;clear x HQ s F cb z;have g:=d.out;rw[M.gx,tG]at g;simp only at g;cases hc:h.inScope (ij [gV]) iP with
  |true=>
   rw[hc]at g;replace d:Hid (R=(zo>>=λa=>(pure a:M Unit)) (h.close (ij [gV]) iP)):=fU (M.tail (by simpa using g));clear hc g
   go_wp21
   refine mC (Rt E) H d HS rfl lT ?_;clear H d;rintro(_) h w H O d;go_wp2;go_end0;exact gu d.out H rfl
  |false=>
   rw[hc]at g;replace d:Hid (R= .ok () (h.close (ij [gV]) iP)):=fU (show R=(pure ():M Unit) (h.close (ij [gV]) iP)from by simpa using g);clear hc g;go_wp2;go_end0;exact gu d.out H rfl
def VS (E:Env) (t:gM):ja E 197 (λ_=>#[Bp E,iF E t]) yQ uV:=by
 refine dI λf d w R a HS H=>?_;unfold yQ at a;go_enter func197,ntmps197;have k:=H.R5;have x:=H.free 191;have y:=H.lt;cases hf:d.form with
 |none=>
  rw[hf]at k a;replace a:Hid (R= .ok () d):=a;rw[show oV f none= .pointer none from rfl]at k;have q:=H.uP none rfl;rw[show({d with form:=none}:Ab)=d from by rw[<-hf]]at q;replace H:=q;go_wp2;go_end0;exact gu a H rfl
 |some i=>
  have s:=H.rel.adx;rw[hf]at k a s;rw[show oV f (some i)=gJ (f i)from rfl]at k;replace H:=H.uP none rfl;have C:=F8 H.rel i s;have h:({d with form:=none}:Ab).oI i=d.oI i:=DM d none i _;rw[h]at C;cases hc:d.oI i with
  |true=>
   rw[hc]at C;have l:=fU C;have g:=a;simp only[hc,xK]at g;replace a:Hid (R=(wH (λd=>d.mF)>>=λ_=>(do ku (some i);return ():M Unit)) {d with form:=none}):=fU g;clear C g
   go_wp21
   refine l.mono ?_;rintro e w ⟨rfl,p⟩;replace H:=H.k0 p
   go_wp21
   refine Aq (λ_=>K7 H.rel) H a HS lT ?_;rintro(_) d w H u a
   go_wp21
   refine mC (D0 E (some i)) H a HS rfl lT ?_;rintro(_) d w H u a;go_wp2;go_end0;exact gu a H rfl
  |false=>
   rw[hc]at C;have l:=fU C;have g:=a;simp only[hc,wR,AM]at g;replace a:Hid (R= .ok () {d with form:=none}):=fU g;clear C g
   go_wp21
   refine l.mono ?_;rintro e w ⟨rfl,p⟩;replace H:=H.k0 p;go_wp2;go_end0;exact gu a H rfl
attribute [local go_sem] Oper.semAt_some
def RF.wf {σ:Ab} (h:RF E f σ w):Wf σ:=by have⟨L,_,hr⟩:=h;exact hr.wf
theorem A4 {xs : kQ} {n : Int} (h:iB xs n=some i):some i∈xs:=by
 unfold iB at h
 grind
def Wf.Jc {σ:Ab} (h:Wf σ) (a:σ.last=some i):∃e,σ.hU i=some e:=by
 have d:some i∈σ.gz:=A4 a;exact Option.isSome_iff_exists.1 (h.gz _ d)
theorem Wj {d:Type} {σ:Ab} {R:pG d} {K:Nat->M d} (a:R=(Jd>>=K) σ) (e:R≠ .stuck):∃i,σ.last=some i/\R=K i σ:=by
 rw[M.gx]at a;unfold Jd at a
 grind
def ol (E:Env) (t:gM) (p:jd E t):ja E 187 (λ_=>#[Bp E,iF E t]) (iV t) uV:=by
 refine dI λf d w R a HS H=>?_;unfold iV at a;go_enter func187,ntmps187
 go_wp21
 refine dC (rh E (iK E) t p) H a HS rfl lT ?_;rintro(_) f d w H q k a;have s:=H.lt;have⟨i,hi,hR2⟩:=Wj a HS;have⟨e,he⟩:=H.rel.wf.Jc hi;have h:=H.rel.P6;replace a:=fU hR2;clear hR2
 go_wp21
 refine h.mono ?_;rintro e g ⟨rfl,rfl⟩;rw[hi]
 go_wp21
 refine Aq (λl=>(show Calls prog 266 #[Bp E,nV f i] g (j8 E f d.nodes.length g (MP i d) uV)from aeC H.rel i he l)) H a HS lT ?_;rintro(_) d w H k a;go_wp2;go_end0;exact gu a H rfl
attribute [local go_sem] Oper.semAt_some
def RF.ad6 {σ:Ab} (h:RF E f σ w) (x:jg) (a:σ.gW x=true):Calls prog 227 #[jG E.bB 188,oV f x] w λe w'=>e=iq (oV f (iB σ.gz (posOf σ.gz x - 1)))/\w'=w:=by
 obtain⟨L,rfl,hr⟩:=h;exact zd hr x a
theorem zO (E:Env) (t:gM):ja E 133 (λ_=>#[Bp E,iF E t]) jl uV:=by
 intro f d w h hs;obtain⟨R,T⟩:∃R,R=jl d:=⟨_,rfl⟩;rw[<-T]at hs|-;have HS:=fU hs;have x:=fU h;have U:=fU (λW (Y:Kept [] w W)=>lV h.lt Y.size);cases hcu:d.current (ij [gN])with
 |false=>
  have p:=fU (show R=(pZ (ij [gm])>>=λ_=>(Pure.pure ():M Unit)) d by rw[T];grind[jl]);have K:=fU hcu;clear h hs T hcu;go_enter func133,ntmps133
  go_wp21
  refine tC (by rfl) ?_;refine pN (λ(g:gO) z=>⟨#[Bp E,iF E t,undef,undef,cd z 0 (Bp E),cd z 1 (g),cd z 2 (.bool false),cd z 3 (.bool false),undef,undef,undef,undef,undef,undef,undef,undef,undef,undef,undef,undef,undef,cd z 17 (.bool false),undef,undef,undef,undef,undef,undef,undef],[]⟩) (λg z W=>Kept [] w W/\(dn z 1=true->OJ E g (ij [gN]) W)) 18 [[],[],[0,1],[2],[3],[3],[3],[3],[3],[3],[3],[3],[3],[3],[3],[3],[3],[3]] (undef) rfl (by rfl) (⟨(Kept.refl _ _).drew,λh=>by cases h⟩) ?_ ?_
  .repeat' first|exact mV|refine mU ?_ ?_
   all_goals
    rintro g z W a C hn;simp[BV]at C;refine kP rfl ?_;intro K' l;simp only[ld,C];have a4:=U.out W a.1;go_simp
    first
    |refine l _ _ ⟨g,?_,a.1,pY a.2 (by decide)⟩
    |refine(tW E W).mono ?_;rintro e N ⟨k,J,rfl,I,u⟩;refine l _ _ ⟨_,?_,a.1.trans u,λ_=>⟨k,J,rfl,I⟩⟩
    |refine(AX (x.out.il a.1) (a.2 C.2.1).choose_spec.choose_spec.2).mono ?_;rintro e N ⟨rfl,rfl⟩;rw[K.out];refine l _ _ ⟨g,?_,a.1,pY a.2 (by decide)⟩
    simp[oB,vo,ld,C]
  .rintro g W a;simp only[vc];have H:=fU ((At.start x.out).k0 a.1);clear a
   go_wp21
   refine(qV E _).mono ?_;rintro e w1 ⟨k1,Z,rfl,q,s⟩;replace H:=fU (H.out.k0 s);have y:=fU q;clear q s
   go_wp21
   refine Aq (λ_=>vD H.out.rel y.out) H p HS lT ?_;clear H p;rintro(_) d w H HF p;go_wp2;go_end0;exact gu p.out H.out rfl
 |true=>
  obtain⟨i,P⟩:∃i,iB d.gz (posOf d.gz d.last - 1)=some i:=by
   cases hq:iB d.gz (posOf d.gz d.last - 1)with
   |some i=>simp
   |none=>unfold jl at T;grind
  have V:=fU (show R=(if kC (d.nm i) gm then (do
    let _ <-yl
    pZ (ij [gm])
    return ():M Unit) d else (do pZ (ij [gm]);return ():M Unit) d) by rw[T];grind[jl])
  have X:some i∈d.gz:=A4 P;obtain⟨ei,O⟩:∃e,d.hU i=some e:=Option.isSome_iff_exists.1 (h.wf.gz _ X);have F:d.gW d.last=true:=by
   cases hl:d.last with
   |none=>rfl
   |some j=>exact Ab.vA (h.wf.gz _ (A4 hl))
  have a1:=fU F;have a0:=fU P;have a3:=fU (λW (Y:Kept [] w W)=>(by
   have⟨L,e,hr⟩:=h.il Y;rw[<-e];exact hr.vi O:W.cell? ⟨f i,0,none⟩=some (gH (d.nm i))))
  have a2:=fU (λW (Y:Kept [] w W)=>(by
   have⟨L,e,hr⟩:=h.il Y;rw[<-e];exact hr.Hw (Ab.ik O):f i < W.heap.size))
  have K:=fU hcu;clear h hs T hcu P X O F;go_enter func133,ntmps133
  go_wp21
  refine tC (by rfl) ?_;refine pN (λ(g:gO×gO) z=>⟨#[Bp E,iF E t,undef,undef,cd z 0 (Bp E),cd z 1 (g.1),cd z 2 (.bool true),cd z 3 (.bool true),cd z 4 (g.2),cd z 5 (Bp E),cd z 6 (gJ E.bB),cd z 7 (jG E.bB 188),cd z 8 (Bp E),cd z 9 (gJ E.bB),cd z 10 (jG E.bB 188),cd z 11 (oV f d.last),cd z 12 (nV f i),cd z 13 (gJ (f i)),cd z 14 (gJ (f i)),cd z 15 (gH (d.nm i)),cd z 16 (.bool (ij [gm] (d.nm i))),cd z 17 (.bool (ij [gm] (d.nm i))),undef,undef,undef,undef,undef,undef,undef],[]⟩) (λg z W=>Kept [] w W/\(dn z 1=true->OJ E g.1 (ij [gN]) W)/\(dn z 4=true->OJ E g.2 (ij [gm]) W)) 18 [[],[],[0,1],[2],[3],[3],[3,5],[3,6],[3],[3,8],[3,9],[3,10],[3,7,11],[3,12],[3,13],[3,14],[3,4,15],[3,16]] ((undef,undef)) rfl (by rfl) (⟨(Kept.refl _ _).drew,λh=>(by cases h),λh=>(by cases h)⟩) ?_ ?_
  .repeat' first|exact mV|refine mU ?_ ?_
   all_goals
    rintro g z W a C hn;simp[BV]at C;refine kP rfl ?_;intro K' l;simp only[ld,C];have a4:=U.out W a.1;have a5:=a2.out W a.1;have cc:=a3.out W a.1;go_simp
    first
    |refine l _ _ ⟨g,?_,a.1,pY a.2.1 (by decide),pY a.2.2 (by decide)⟩
    |refine(tW E W).mono ?_;rintro e N ⟨k,J,rfl,I,u⟩;refine l _ _ ⟨(.func (.func k) #[] J,g.2),?_,a.1.trans u,λ_=>⟨k,J,rfl,I⟩,pY (λh=>(a.2.2 h).k u) (by decide)⟩
    |refine(qV E W).mono ?_;rintro e N ⟨k,J,rfl,I,u⟩;refine l _ _ ⟨(g.1,.func (.func k) #[] J),?_,a.1.trans u,pY (λh=>(a.2.1 h).k u) (by decide),λ_=>⟨k,J,rfl,I⟩⟩
    |refine(AX (x.out.il a.1) (a.2.1 C.2.1).choose_spec.choose_spec.2).mono ?_;rintro e N ⟨rfl,rfl⟩;rw[K.out];refine l _ _ ⟨g,?_,a.1,pY a.2.1 (by decide),pY a.2.2 (by decide)⟩
    |refine(x.out.il a.1).P6.mono ?_;rintro e N ⟨rfl,rfl⟩;refine l _ _ ⟨g,?_,a.1,pY a.2.1 (by decide),pY a.2.2 (by decide)⟩
    |refine((x.out.il a.1).ad6 d.last a1.out).mono ?_;rintro e N ⟨rfl,rfl⟩;rw[a0.out,show oV f (some i)=nV f i from rfl];refine l _ _ ⟨g,?_,a.1,pY a.2.1 (by decide),pY a.2.2 (by decide)⟩
    |have⟨k,J,e4,I⟩:=a.2.2 (by simp[C]);rw[e4]at I;have⟨k2,lb2,e5,eg,hcl⟩:=I.call;cases e5;simp only[e4];go_simp;refine(hcl W (vT.refl _ _) _).mono ?_;rintro e N ⟨rfl,rfl⟩;refine l _ _ ⟨g,?_,a.1,pY a.2.1 (by decide),pY a.2.2 (by decide)⟩;simp[vo,oB,ld,C,e4]
    all_goals simp[oB,vo,ld,C]
  .rintro g W a;simp only[vc];have H:=fU ((At.start x.out).k0 a.1);clear a;cases hq:ij [gm] (d.nm i)with
   |false=>
    have G:kC (d.nm i) gm=false:=by simpa [ij]using hq
    replace p:=fU (show R=(pZ (ij [gm])>>=λ_=>(Pure.pure ():M Unit)) d by rw[V.out,G];rfl);clear hq G
    go_wp21
    refine(qV E _).mono ?_;rintro e w1 ⟨k1,Z,rfl,q,s⟩;replace H:=fU (H.out.k0 s);have y:=fU q;clear q s
    go_wp21
    refine Aq (λ_=>vD H.out.rel y.out) H p HS lT ?_;clear H p;rintro(_) d w H HF p;go_wp2;go_end0;exact gu p.out H.out rfl
   |true=>
    have G:kC (d.nm i) gm=true:=by simpa [ij]using hq
    replace p:=fU (show R=(yl>>=λ_=>pZ (ij [gm])>>=λ_=>(Pure.pure ():M Unit)) d by rw[V.out,G];rfl);clear hq G;have a6:=H.out.lt
    go_wp21
    refine mC (Zn E) H p HS rfl lT ?_;clear H p;rintro(_) d w H HF p
    go_wp21
    refine(qV E _).mono ?_;rintro e w1 ⟨k1,Z,rfl,q,s⟩;replace H:=fU (H.out.k0 s);have y:=fU q;clear q s
    go_wp21
    refine Aq (λ_=>vD H.out.rel y.out) H p HS lT ?_;clear H p;rintro(_) d w H HF p;go_wp2;go_end0;exact gu p.out H.out rfl
attribute [local go_sem] Oper.semAt_some
theorem GJ (E:Env) (t:gM):ja E 82 (λ_=>#[Bp E,iF E t]) (ox t) uV:=by
 intro f l w h hs;have O:=fU (At.start h);have⟨a,b,k,gL⟩:=t;cases k with
 |iM n q=>
  have hx:∃C y,jy 0 l= .ok C l/\oO C (.dt n) .dt l= .ok () y/\ox ⟨a,b,.iM n q,gL⟩ l= .ok () {y with jN:=q||!kC n fX,mode:=1}:=by
   have Z:ox ⟨a,b,.iM n q,gL⟩ l=(jy 0>>=λC=>oO C (.dt n) .dt>>=λ_=>(do wH λl=>{l with jN:=q||!kC n fX};jO 1;return ():M Unit)) l:=rfl;rw[M.gx]at Z;cases hq:jy 0 l with
   |ok C σ1=>
    obtain rfl:=pt hq;rw[hq]at Z;cases d:oO C (.dt n) .dt σ1 with
    |ok u y=>exact⟨C,y,rfl,d,by rw[Z];dsimp only;rw[M.gx,d];rfl⟩
    |stop c p=>
     exfalso;unfold oO zF at d
     grind
    |stuck=>exact absurd (by rw[Z];dsimp only;rw[M.gx,d]) hs
   |stop c p=>
    exfalso;unfold jy at hq
    grind
   |stuck=>grind
  have⟨C,y,hq1,d,hq3⟩:=hx;obtain⟨R,hR⟩:∃R,R=ox ⟨a,b,.iM n q,gL⟩ l:=⟨_,rfl⟩;rw[<-hR];have s:=fU (hR.trans hq3);have K:=λW (hW:RF E f l W)=>FX E 0 f l W hW (by grind);rw[hq1]at K;simp only[iF];have x:=qC underlying179;obtain⟨I,G⟩:∃I,I=w.alloc (gI #[gn a,gn b,gH n,.bool q] 179):=⟨_,rfl⟩;have Y:Kept [] w I:=by rw[G];exact(Kept.refl _ _).alloc _
  have J:I.heap[w.heap.size]?=some (gI #[gn a,gn b,gH n,.bool q] 179):=by rw[G];exact fY w _
  have a0:=fU J;have HC:=fU (λW (hF:Fr E.bs I W)=>(by rw[fW (hF.zz J (by decide))];rfl:W.cell? ⟨w.heap.size,2,none⟩=some (gH n)));have P:=fU (λW (hW:RF E f l W)=>(show W.cell? ⟨E.bB,187,none⟩=some (nV f 0) by have h1:=(At.start hW).xy;exact h1));have a1:=fU (λW (hF:Fr E.bs I W)=>(lV (O.out.k0 Y).lt hF.size:E.bB < W.heap.size));have HW:=fU G.symm;have HA:=fU (O.out.k0 Y);have a2:=fU K;have a3:=fU d;clear h hs hq1 d hq3 K J Y G O hR;go_enter func82,ntmps82
  go_wp21
  rw[HW.out];refine tC (by rfl) ?_;refine pN (λ(g:gO) z=>⟨#[Bp E,.iface 179 (.agg #[gn a,gn b,gH n,.bool q]),undef,undef,gJ w.heap.size,.bool true,.tuple #[.agg #[gn a,gn b,gH n,.bool q],.bool true],.iface 179 (.agg #[gn a,gn b,gH n,.bool q]),.tuple #[.agg #[gn a,gn b,gH n,.bool q],.bool true],.agg #[gn a,gn b,gH n,.bool q],.bool true,.bool true,cd z 0 (Bp E),cd z 1 (gJ E.bB),cd z 2 (jG E.bB 187),cd z 3 (nV f 0),cd z 4 (pV f C),cd z 5 (jG w.heap.size 2),cd z 6 (gH n),cd z 7 (.agg #[gH n]),cd z 8 (g),cd z 9 (.iface 220 g),cd z 10 (.tuple #[]),undef,undef,undef,undef,undef,undef,undef,undef,undef,undef,undef,undef,undef],[]⟩) (λg z W=>if dn z 10=true then (∃f',RR l.nodes.length f f'/\l.nodes.length<=y.nodes.length/\RF E f' y W/\Fr E.bs I W)else (RF E f l W/\Fr E.bs I W/\(dn z 8=true->Xo E f l 222 n g W))) 11 [[],[0],[1],[2],[3],[],[5],[6],[7],[8],[0,1,2,3,4,5,6,7,8,9]] (undef) rfl rfl (⟨HA.out.rel.il (Kept.refl _ _).drew,Fr.gX (Kept.refl _ _).drew,λh=>by cases h⟩) ?_ ?_
  .repeat' first|exact mV|refine mU ?_ ?_
   all_goals
    rintro g z W hI N hn;simp[BV]at N;refine kP rfl ?_;intro K' F;simp only[ld,N];have hb:dn z 10=false:=by simp[N,hn]
    have q:=(gQ (by simp[hb])).mp hI;have a6:=a1.out W q.2.1;have cc:=P.out W q.1;have c2:=HC.out W q.2.1;go_simp
    first
    |refine F _ _ ⟨g,?_,(gQ (by simp[oE,hb])).mpr ⟨q.1,q.2.1,pY q.2.2 (by decide)⟩⟩
    |refine(a2.out W q.1).mono ?_;rintro e W2 ⟨rfl,a5,X,_⟩;refine F _ _ ⟨g,?_,(gQ (by simp[oE,hb])).mpr ⟨a5,q.2.1.trans X,pY (λh=>(q.2.2 h).frD X) (by decide)⟩⟩
    |have ka:Kept [] W (W.alloc (gI #[gH n] 222)):=(Kept.refl _ _).alloc _;refine F _ _ ⟨_,?_,(gQ (by simp[oE,hb])).mpr ⟨q.1.il ka,q.2.1.trans (.gX ka),λ_=>Xo.new q.1 n⟩⟩;have h9:dn z 9=false:=(by simp[hn]);simp[oB,vo,ld,acy,N,h9]
    |obtain⟨k,rfl,Y,k2,k3⟩:=q.2.2 (by simp[N]);refine(UC E q.1 n false k Y k2 k3 C a3.out).mono ?_;rintro e W2 ⟨rfl,f',g1,g2,g3,V⟩;refine F _ _ ⟨gJ k,?_,(gF rT).mpr ⟨f',g1,g2,g3,q.2.1.trans V⟩⟩
    all_goals simp[oB,vo,ld,N]
  .rintro g W hI;have⟨f2,g1,g2,g3,V⟩:=(gF xz).mp hI;simp only[vc];have H:=fU (HA.out.go g3 g1 g2 V);have T:=fU (V.zz a0.out (by decide));clear hI g3 V HC P;have c0:W.cell? ⟨w.heap.size,2,none⟩=some (gH n):=by rw[fW T.out];rfl
   have c4:W.cell? ⟨w.heap.size,3,none⟩=some (.bool q):=by rw[fW T.out];rfl
   have c1:=H.out.X2;have f1:=H.out.free 196;have c2:=H.out.rJ;have f2:=H.out.free 192;have a4:=H.out.lt;cases q with
   |true=>
    have U:=fU ((H.out.qz true).jc 1);clear H;go_wp2;go_end0;exact gu s.out U.out rfl
   |false=>
    cases hq:kC n fX with
    |true=>
     have d:(n.toList==[104,116,109,108])=true:=by
      have e4:(fX:gy).toList=[104,116,109,108]:=by first|rfl|decide|simp
      rw[<-e4];exact hq
     have U:=fU ((H.out.qz false).jc 1);rw[hq]at s;clear H hq;go_wp2;go_end0;exact gu s.out U.out rfl
    |false=>
     have d:(n.toList==[104,116,109,108])=false:=by
      have e4:(fX:gy).toList=[104,116,109,108]:=by first|rfl|decide|simp
      rw[<-e4];exact hq
     have U:=fU ((H.out.qz true).jc 1);rw[hq]at s;clear H hq;go_wp2;go_end0;exact gu s.out U.out rfl
 |_=>
  change Calls _ _ _ _ (Leaves E f _ w (.ok () {l with mode:=1}) uV);simp only[iF];have x:=vO;have H:=fU (O.out.k0 ((Kept.refl [] w).alloc (gI #[gn 0,gn 0,gH kI,.bool false] 179)));have c2:=H.out.rJ;have f2:=H.out.free 192;have a4:=H.out.lt;replace H:=fU (H.out.jc 1);clear h hs O;go_enter func82,ntmps82;go_wp2;go_end0;exact gu rfl H.out rfl
def Wt {σ:Ab} (h:Rel E L σ w) (x:jg) (d:σ.gW x=true):
  Calls prog 168 #[jG E.bB 188,kh (iD L.gP x)] w λe w'=>e=p8/\XF E L {σ with gz:=σ.gz.erase x} w w':=by
 have⟨C,hL,hC⟩:=h.yZ;refine(Am E.bs E.bB 188 _ C _ _ (iD L.gP x) w hL h.elO (h.gW d)).mono ?_;rintro e w' ⟨rfl,a⟩;exact⟨rfl,h.Oy hL hC (by rw[<-vH h.inj];exact a) λy g=>h.wf.gz y (AO g)⟩
def SX {σ:Ab} (h:Rel E L σ w) (x y:jg) (g:σ.gW x=true) (k:σ.mG y=true):
  Calls prog 258 #[jG E.bB 188,kh (iD L.gP x),kh (iD L.gP y)] w λe w'=>e=p8/\XF E L {σ with gz:=pM σ.gz x y} w w':=by
 have⟨C,hL,hC⟩:=h.yZ;refine(ES E.bs E.bB 188 _ C _ _ (iD L.gP x) (iD L.gP y) w hL h.elO (h.gW g)).mono ?_;rintro e w' ⟨rfl,d⟩;exact⟨rfl,h.Oy hL hC (by rw[<-JF h.inj];exact d) λz a=>by rcases JH a with a|rfl;exact h.wf.gz z a;exact k⟩
def Vn {σ:Ab} (h:Rel E L σ w) (x:jg) (d:σ.gW x=true):
  Calls prog 168 #[jG E.bB 189,kh (iD L.gP x)] w λe w'=>e=p8/\XF E L {σ with act:=σ.act.erase x} w w':=by
 have⟨C,hL,hC⟩:=h.GF;refine(Am E.bs E.bB 189 _ C _ _ (iD L.gP x) w hL h.elA (h.gW d)).mono ?_;rintro e w' ⟨rfl,a⟩;exact⟨rfl,h.Ox hL hC (by rw[<-vH h.inj];exact a) λy g=>h.wf.act y (AO g)⟩
def RZ {σ:Ab} (h:Rel E L σ w) (x y:jg) (g:σ.gW x=true) (k:σ.gW y=true):
  Calls prog 258 #[jG E.bB 189,kh (iD L.gP x),kh (iD L.gP y)] w λe w'=>e=p8/\XF E L {σ with act:=pM σ.act x y} w w':=by
 have⟨C,hL,hC⟩:=h.GF;refine(ES E.bs E.bB 189 _ C _ _ (iD L.gP x) (iD L.gP y) w hL h.elA (h.gW g)).mono ?_;rintro e w' ⟨rfl,d⟩;exact⟨rfl,h.Ox hL hC (by rw[<-JF h.inj];exact d) λz a=>by rcases JH a with a|rfl;exact h.wf.act z a;exact k⟩
theorem Rel.acV {σ σ':Ab} (h:Rel E L σ w) (i:Nat) (l:gO) (F:(σ.hU i).isSome=true) (K:KT E.bs [142,183,260] w w') (J:l.ownBlock=(L.kv i).ownBlock\/∀g,l.ownBlock=some g->w.heap.size<=g)
  (d:σ'.nodes.length=σ.nodes.length) (I:∀j O,σ'.hU j=some O->∃e,σ.hU j=some e/\O.name=e.name) (z:∀j,σ'.hU j=none->σ.hU j=none)
  (N:∀j T,σ'.nodes[j]?=some T->kX E.bs {L with kv:=λx=>if x=i then l else L.kv x} w' j T) (wf:Wf σ')
  (s0:σ'.gz=σ.gz:=by rfl) (s9:σ'.act=σ.act:=by rfl) (s1:σ'.head=σ.head:=by rfl) (s2:σ'.form=σ.form:=by rfl) (s3:σ'.mode=σ.mode:=by rfl) (s4:σ'.kept=σ.kept:=by rfl) (s5:σ'.iR=σ.iR:=by rfl) (s6:σ'.jN=σ.jN:=by rfl) (s7:σ'.gP=σ.gP:=by rfl) (s8:σ'.behind=σ.behind:=by rfl) (sw:σ'.waiting=σ.waiting:=by rfl) (so:σ'.nD=σ.nD:=by rfl) (sp:σ'.iZ=σ.iZ:=by rfl) (sf:σ'.fresh=σ.fresh:=by rfl) (U:σ'.pQ=σ.pQ:=by rfl) (V:σ'.qQ=σ.qQ:=by rfl) (X:σ'.oZ=σ.oZ:=by rfl):XF E L σ' w w':=by
 have G:=Ab.lO (σ:=σ) (i:=i) F;have P:∀j g,j < σ.nodes.length->j≠i->l.ownBlock=some g->(L.kv j).ownBlock≠some g:=by
  intro j g p s hg u;rcases J with e|e
  .rw[e]at hg;exact h.A8 i j g G p (xu s) hg u
  .have⟨c,m,hc⟩:=h.yW p u
   grind
 refine⟨{L with kv:=λx=>if x=i then l else L.kv x},rfl,h.UY (L':={L with kv:=λx=>if x=i then l else L.kv x}) K (λ_ _=>rfl) rfl rfl rfl N h.inj ?_ ?_ ?_ ?_ wf ?_ (ni d) s0 s9 s1 s2 s3 s4 s5 s6 s7 s8 sw so sp U V X,K.fr (by decide),λk v R=>⟨K.at R.1 (by decide),R.2⟩⟩
 .intro a b g C t q hg;rw[d]at C t
  by_cases Y:a=i
  .grind
  .simp only[gQ Y]at hg
   by_cases Z:b=i
   .grind
   .simp only[gQ Z];exact h.A8 a b g C t q hg
 .intro j p H;rw[d]at p;have y:=z j H;have s:j≠i:=by rintro rfl;rw[y]at F;cases F
  simp only[gQ s];exact h.Ga j p y
 .intro a b e g C a0 t q hg;rw[d]at t;have⟨e0,h0,hnm'⟩:=I a e C;exact h.uq a b e0 g h0 (by grind) t q hg
 .intro j p H;rw[d]at p;exact h.Eu j p (z j H)
 .rw[d,sf];exact h.De
theorem WZ {σ:Ab} (h:Rel E L σ w) (u:σ.hU i=some ei) (C:σ.hU j=some ej) (y:j≠i) (hn:n<=ei.kids.length) (hl:ei.kids.length < 1048576):
  Calls prog 156 #[place (L.gP i) n,(Nd.el (L.gP j)).val] w λe w'=>e=p8/\XF E L ((σ.ib i {ei with kids:=ins ei.kids n (.el j)}).ib j {ej with je:=some i}) w w':=by
 have t:=Ab.ik u;have J:=Ab.ik C;have p:(σ.hU i).isSome=true:=by rw[u];rfl
 have G:(σ.hU j).isSome=true:=by rw[C];rfl
 have T:=h.vU u;have Y:=h.zM u;have aJ:=h.vU C;have lJ:=h.zM C;refine(Th E.bs _ n _ _ _ _ _ _ _ _ _ _ _ w (h.uH u) (h.uH C) (λe=>y (h.inj _ _ e)) (λg hg=>h.A8 j i g J t y hg) (by grind) (by grind) h.bw).mono ?_;rintro e w' ⟨rfl,⟨z,R,U⟩,Z,O⟩;have N:∀s∈L.gP j::L.gP i::(L.kv i).ownBlock.toList,∃x∈[j,i],s=L.gP x\/(L.kv x).ownBlock=some s:=by
  intro s H;rcases List.mem_cons.1 H with rfl|H
  .simp
  rcases List.mem_cons.1 H with rfl|H
  .simp
  .grind
 have P:=h.ktJ [j,i] (by grind) N O;have I:((σ.ib i {ei with kids:=ins ei.kids n (.el j)}).hU j).isSome=true:=by rw[Ab.iS y];exact G
 have F:∀x e,x < σ.nodes.length->yF w (L.av x) e->yF w' (L.av x) e:=λx e _ X=>P.row X (by decide);refine⟨rfl,h.acV i z p P U (by simp[Ab.ib]) ?_ ?_ ?_ ?_⟩
 .intro x e' a
  by_cases l:x=j
  .subst l;rw[Ab.iW (by grind[Ab.ib])]at a;grind
  .rw[Ab.iS l]at a
   by_cases d:x=i
   .subst d;rw[Ab.iW t]at a;grind
   .rw[Ab.iS d]at a;grind
 .intro x a
  by_cases l:x=j
  .subst l;rw[Ab.iW (by grind[Ab.ib])]at a;cases a
  .rw[Ab.iS l]at a
   by_cases d:x=i
   .subst d;rw[Ab.iW t]at a;cases a
   .rwa [Ab.iS d]at a
 .intro x nd a;rcases Ab.nZ a with⟨rfl,rfl⟩|⟨l,a⟩
  .grind[kX]
  .rcases Ab.nZ a with⟨rfl,rfl⟩|⟨d,a⟩
   .show El E.bs w' _ _ _ _ (if x=x then z else L.kv x) _/\_;rw[gF rfl];refine⟨?_,F x _ t T,Y⟩;show El E.bs w' (L.gP x) ei.name (L.av x) (iD L.gP ei.je) z ((ins ei.kids n (.el j)).map (Nd.map L.gP));rw[DH];exact R
   .have V:=h.iE [j,i] (by grind) N O a (by grind);have K:x < σ.nodes.length:=(List.getElem?_eq_some_iff.1 a).1;exact V.ext (σ:=σ) (FC.refl _ _) K rfl (gQ d) (h.wfn a)
 .refine(h.wf.ib (e:={ei with kids:=ins ei.kids n (.el j)}) p (h.wf.je i ei u) ?_).ib I ?_ ?_
  .intro k q;rcases DI q with q|rfl
   .exact h.wf.kids i ei u k q
   .exact G
  .rw[Ab.qt p];exact p
  .intro k q;rw[Ab.la p];exact h.wf.kids j ej C k q
theorem TB {σ:Ab} (h:Rel E L σ w) {p : Nat} {d : zu} (G:σ.hU j=some ej) (H:ej.je=some p) (y:σ.hU p=some d) (t:j≠p) (hn:n < d.kids.length) (V:qh d.kids (Nd.gW j)=(n:Int)):
  Calls prog 358 #[gJ (L.gP j)] w λe w'=>e=p8/\XF E L ((σ.ib p {d with kids:=d.kids.eraseIdx n}).ib j {ej with je:=none}) w w':=by
 have C:=Ab.ik y;have O:=Ab.ik G;have F:(σ.hU p).isSome=true:=by rw[y];rfl
 have N:(σ.hU j).isSome=true:=by rw[G];rfl
 have T:=h.uH G;rw[H]at T;have aP:=h.vU y;have lP:=h.zM y;have Z:=h.vU G;have lJ:=h.zM G;refine(Gt E.bs _ _ n _ _ _ _ _ _ _ _ _ w T (h.uH y) ?_ (λe=>t (h.inj _ _ e)) (λg hg=>h.A8 j p g O C t hg) (by grind) (by rw[Jz h.inj];omega)).mono ?_
 .intro x a;obtain⟨k,I,rfl⟩:=List.mem_map.1 a;exact h.Wc (h.wf.kids p d y k I)
 rintro e w' ⟨rfl,⟨u,X,f1⟩,Y,I⟩;have U:∀s∈L.gP j::L.gP p::(L.kv p).ownBlock.toList,∃x∈[j,p],s=L.gP x\/(L.kv x).ownBlock=some s:=by
  intro s J;rcases List.mem_cons.1 J with rfl|J
  .simp
  rcases List.mem_cons.1 J with rfl|J
  .simp
  .grind
 have R:=h.ktJ [j,p] (by grind) U I;have K:((σ.ib p {d with kids:=d.kids.eraseIdx n}).hU j).isSome=true:=by rw[Ab.iS t];exact N
 refine⟨rfl,h.acV p u F R (.inl f1) (by simp[Ab.ib]) ?_ ?_ ?_ ?_⟩
 .intro x e' a
  by_cases q:x=j
  .subst q;rw[Ab.iW (by grind[Ab.ib])]at a;grind
  .rw[Ab.iS q]at a
   by_cases l:x=p
   .subst l;rw[Ab.iW C]at a;grind
   .rw[Ab.iS l]at a;grind
 .intro x a
  by_cases q:x=j
  .subst q;rw[Ab.iW (by grind[Ab.ib])]at a;cases a
  .rw[Ab.iS q]at a
   by_cases l:x=p
   .subst l;rw[Ab.iW C]at a;cases a
   .rwa [Ab.iS l]at a
 .intro x nd a;rcases Ab.nZ a with⟨rfl,rfl⟩|⟨q,a⟩
  .show El E.bs w' _ _ _ _ (if x=p then u else L.kv x) _/\_;rw[gQ t];exact⟨Y,R.row Z (by decide),lJ⟩
  .rcases Ab.nZ a with⟨rfl,rfl⟩|⟨l,a⟩
   .show El E.bs w' _ _ _ _ (if x=x then u else L.kv x) _/\_;rw[gF rfl];refine⟨?_,R.row aP (by decide),lP⟩;show El E.bs w' (L.gP x) d.name (L.av x) (iD L.gP d.je) u ((d.kids.eraseIdx n).map (Nd.map L.gP));rw[map_eraseIdx];exact X
   .have hN:=h.iE [j,p] (by grind) U I a (by grind);have P:x < σ.nodes.length:=(List.getElem?_eq_some_iff.1 a).1;exact hN.ext (σ:=σ) (FC.refl _ _) P rfl (gQ l) (h.wfn a)
 .refine(h.wf.ib (e:={d with kids:=d.kids.eraseIdx n}) F (h.wf.je p d y) ?_).ib K rfl ?_
  .intro k z;exact h.wf.kids p d y k (List.mem_of_mem_eraseIdx z)
  .intro k z;rw[Ab.la F];exact h.wf.kids j ej G k z
theorem Tz {σ:Ab} (h:Rel E L σ w) {e : zu} (l:σ.hU i=some e) (hg:nk e.name=false):
  Calls prog 257 #[gJ (L.gP i)] w λq w'=>∃d,FC σ.nodes.length L d/\q=iq (gJ (d.gP σ.nodes.length))/\Rel E d (σ.add (.el {name:=e.name,gU:=e.gU,je:=none,kids:=[]})) w'/\Fr E.bs w w'/\∀k v,Sd L w k v->Sd d w' k v:=by
 have F:=h.vU l;have K:=h.zM l;refine(Hs E.bs _ _ _ _ _ _ w (h.uH l)).mono ?_;rintro q w' ⟨rfl,I,p⟩;have a:=Ab.ik l;refine⟨L.new σ.nodes.length w.heap.size (L.av i) (jX),λj u=>Loc.Ar u,by simp[Loc.new],?_,.gX p,λk v C=>⟨p.at C.1 (by simp),C.2⟩⟩;refine h.add (.el {name:=e.name,gU:=e.gU,je:=none,kids:=[]}) w.heap.size (L.av i) (jX) σ.fresh p (ig _) ?_ rfl (λq J=>by grind) ?_ ?_ (λy=>absurd rfl (y _)) ?_ (λg hg=>h.ab i g a hg)
 .show El E.bs w' _ _ _ _ _ _/\yF w' _ _/\_;rw[Loc.sZ,Loc.A9,Loc.G1];exact⟨I,p.ownsRow F (by simp),K⟩
 .intro j e2 g u t G H
  by_cases x:j=i
  .grind
  .exact h.uq j i e2 g u t a x H G
 .grind
 .intro z;exact⟨z,λg s=>h.De z i g a s⟩
def Rel.afH {σ:Ab} (h:Rel E L σ w) {k : Nat} (d:Sd L w k v) (y:E.bs<=k) (z:E.w0.heap.size<=k) (u:gO):Rel E L σ (w.setCell ⟨k,0,none⟩ u)/\Sd L (w.setCell ⟨k,0,none⟩ u) k u/\(∀j x,j≠k->Sd L w j x->Sd L (w.setCell ⟨k,0,none⟩ u) j x)/\Fr E.bs w (w.setCell ⟨k,0,none⟩ u):=by
 have e:Kept [k] w (w.setCell ⟨k,0,none⟩ u):=(Kept.refl _ w).setCell (.inl (by simp)) _;have a:KT E.bs [57] w (w.setCell ⟨k,0,none⟩ u):= .jU e (λj p _=>by
  rw[List.mem_singleton.1 p];exact⟨⟨_,_,_,d.1,by simp⟩,y⟩)
 obtain⟨C,t,l⟩:=h.ir;refine⟨?_,⟨gg d.1 0 u,d.2⟩,λj x p s=>⟨e.at s.1 (by simpa using p),s.2⟩,a.fr (by decide)⟩;exact {h with
  fr:=h.fr.trans (a.fr (by decide))
  sN:=λi G F=>((h.sN i G F).kt a (by decide)).loc rfl rfl rfl
  ir:=⟨C,a.at t (by decide),l⟩
  o0:=e.ownsRow h.o0 (λg hg q=>d.2.1 (by rw[<-List.mem_singleton.1 q];exact hg))
  pX:=e.ownsRow h.pX (λg hg q=>d.2.2 (by rw[<-List.mem_singleton.1 q];exact hg))
  oS:=a.row h.oS (by decide)
  rd:=a.at h.rd (by decide)
  tok:=a.row h.tok (by decide)}
def SF (E:Env) (f:Nat->Nat) (σ:Ab) (w:gv) (S:List (Nat×gO)):Prop:=∃L,L.gP=f/\Rel E L σ w/\∀p∈S,Sd L w p.1 p.2
def SF.rf {σ:Ab} (h:SF E f σ w S):RF E f σ w:=by have⟨L,e,hr,_⟩:=h;exact⟨L,e,hr⟩
def SF.at {σ:Ab} (h:SF E f σ w S) {k : Nat} (a:(k,v)∈S):w.heap[k]?=some (gI #[v] 57):=by
 have⟨L,e,hr,hs⟩:=h;exact(hs _ a).1
def SF.il {σ:Ab} (h:SF E f σ w S) (a:Kept [] w w'):SF E f σ w' S:=by
 have⟨L,e,hr,hs⟩:=h;exact⟨L,e,hr.il a,λp d=>⟨a.at (hs p d).1 (by simp),(hs p d).2⟩⟩
def TM {α:Type} (E:Env) (f:Nat->Nat) (n:Nat) (S:List (Nat×gO)) (w:gv) (r:pG α) (d:(Nat->Nat)->α->gO) (e:Ending) (w':gv):Prop:=match r with
 | .ok a σ'=>∃g,RR n f g/\n<=σ'.nodes.length/\e=iq (d g a)/\SF E g σ' w' S/\Fr E.bs w w'
 |_=>False
def ack {α:Type} (E:Env) (k:Nat) (args:(Nat->Nat)->jM) (m:M α) (d:(Nat->Nat)->α->gO):Prop:=
 ∀f a w S,SF E f a w S->m a≠ .stuck->Calls prog k (args f) w (TM E f a.nodes.length S w (m a) d)
theorem ae7 {α l:Type} {k : Nat} {args : (Nat->Nat)->jM} {m:M α} {h:(Nat->Nat)->α->gO} (D:ack E k args m h) {σ:Ab} (H:SF E f σ w S) {R:pG l} {K:α->M l} (q:R=(m>>=K) σ) (u:R≠ .stuck) (p:A=args f)
  (t:∀a g d w',RR σ.nodes.length f g->σ.nodes.length<=d.nodes.length->SF E g d w' S->Fr E.bs w w'->R=K a d->m σ= .ok a d->Q (iq (h g a)) w'):Calls prog k A w Q:=by
 subst p;rw[M.gx]at q;have s:m σ≠ .stuck:=λe=>u (by grind);refine(D f σ w S H s).mono ?_
 grind[TM]
def MK {α:Type} (E:Env) (f:Nat->Nat) (n:Nat) (S:List (Nat×gO)) (w:gv) (r:pG α) (d:(Nat->Nat)->α->gO) (e:Ending) (w':gv):Prop:=match r with
 | .ok a σ'=>n<=σ'.nodes.length/\e=iq (d f a)/\SF E f σ' w' S/\Fr E.bs w w'
 |_=>False
def zV {α:Type} (E:Env) (k:Nat) (args:(Nat->Nat)->jM) (m:M α) (d:(Nat->Nat)->α->gO):Prop:=
 ∀f a w S,SF E f a w S->m a≠ .stuck->Calls prog k (args f) w (MK E f a.nodes.length S w (m a) d)
theorem Ch {α h:Type} {k : Nat} {args : (Nat->Nat)->jM} {m:M α} {g:(Nat->Nat)->α->gO} (D:zV E k args m g) {σ:Ab} (H:SF E f σ w S) {R:pG h} {K:α->M h} (p:R=(m>>=K) σ) (t:R≠ .stuck) (l:A=args f)
  (s:∀a d w',σ.nodes.length<=d.nodes.length->SF E f d w' S->Fr E.bs w w'->R=K a d->m σ= .ok a d->Q (iq (g f a)) w'):Calls prog k A w Q:=by
 subst l;rw[M.gx]at p;have q:m σ≠ .stuck:=λe=>t (by grind);refine(D f σ w S H q).mono ?_
 grind[MK]
def XF.ls {σ':Ab} (h:XF E L σ' w w') (k:∀p∈S,Sd L w p.1 p.2) (d:n<=σ'.nodes.length) {e : Ending} (a:e=p8):MK E L.gP n S w (.ok () σ') uV e w':=by
 have⟨L',h1,h2,h3,h4⟩:=h;exact⟨d,a,⟨L',h1,h2,λp g=>h4 _ _ (k p g)⟩,h3⟩
def Zf (E:Env) (x:jg):zV E 168 (λf=>#[jG E.bB 188,oV f x]) (ku x) uV:=by
 rintro f k w S ⟨L,rfl,hr,g⟩ a;unfold ku at a|-
 by_cases d:k.gW x=true
 .rw[gF d];exact(Wt hr x d).mono (λe w' h=>h.2.ls g (si _ _ rfl) h.1)
 .rw[gQ d]at a;exact absurd rfl a
def XG (E:Env) (x:jg):zV E 168 (λf=>#[jG E.bB 189,oV f x]) (kK x) uV:=by
 rintro f k w S ⟨L,rfl,hr,g⟩ a;unfold kK at a|-
 by_cases d:k.gW x=true
 .rw[gF d];exact(Vn hr x d).mono (λe w' h=>h.2.ls g (si _ _ rfl) h.1)
 .rw[gQ d]at a;exact absurd rfl a
def abq (E:Env) (x y:jg):zV E 258 (λf=>#[jG E.bB 188,oV f x,oV f y]) (zE x y) uV:=by
 rintro f g w S ⟨L,rfl,hr,k⟩ d;unfold zE at d|-
 by_cases a:(g.gW x&&g.mG y)=true
 .rw[gF a];simp at a;exact(SX hr x y a.1 a.2).mono (λe w' h=>h.2.ls k (si _ _ rfl) h.1)
 .rw[gQ a]at d;exact absurd rfl d
def aao (E:Env) (x y:jg):zV E 258 (λf=>#[jG E.bB 189,oV f x,oV f y]) (rj x y) uV:=by
 rintro f g w S ⟨L,rfl,hr,k⟩ d;unfold rj at d|-
 by_cases a:(g.gW x&&g.gW y)=true
 .rw[gF a];simp at a;exact(RZ hr x y a.1 a.2).mono (λe w' h=>h.2.ls k (si _ _ rfl) h.1)
 .rw[gQ a]at d;exact absurd rfl d
def Xe (E:Env) (j:Nat):zV E 358 (λf=>#[nV f j]) (mr j) uV:=by
 rintro f k w S ⟨L,rfl,hr,g⟩ a;unfold mr at a|-;cases hj:k.hU j with
 |none=>rw[hj]at a;exact absurd rfl a
 |some ej=>
  simp only[hj]at a|-;cases hp:ej.je with
  |none=>
   simp only[hp]at a|-;refine(Ef hr hj hp).mono ?_;rintro e w' ⟨rfl,rfl⟩;exact⟨ig _,rfl,⟨L,rfl,hr,g⟩,Fr.refl _⟩
  |some p=>
   simp only[hp]at a|-;cases hep:k.hU p with
   |none=>rw[hep]at a;exact absurd rfl a
   |some ep=>
    simp only[hep]at a|-
    by_cases d:j≠p/\0<=qh ep.kids (Nd.gW j)/\(qh ep.kids (Nd.gW j)).toNat < ep.kids.length
    .rw[gF d];exact(TB hr hj hp hep d.1 d.2.2 (by omega)).mono (λe w' h=>h.2.ls g (by simp[Ab.ib]) h.1)
    .rw[gQ d]at a;exact absurd rfl a
theorem Vv (E:Env) (i:Nat):ack E 257 (λf=>#[nV f i]) (kR i) nV:=by
 rintro f t w S ⟨L,rfl,hr,q⟩ a;unfold kR at a|-;cases hi:t.hU i with
 |none=>rw[hi]at a;exact absurd rfl a
 |some e=>
  simp only[hi]at a|-
  by_cases hg:nk e.name=true
  .rw[gF hg]at a;exact absurd rfl a
  .rw[gQ hg];refine(Tz hr hi (by grind)).mono ?_;rintro u w' ⟨d,g,rfl,h,k,l⟩;exact⟨d.gP,g,by simp[Ab.add],rfl,⟨d,rfl,h,λp s=>l _ _ (q p s)⟩,k⟩
def aaO (E:Env) (i:Nat):zV E 81 (λf=>#[nV f i]) (jy i) pV:=by
 rintro f h w S ⟨L,rfl,hr,g⟩ a;unfold jy at a|-;cases he:h.hU i with
 |none=>rw[he]at a;exact absurd rfl a
 |some e=>
  refine(Rf hr he).mono ?_;rintro k w' ⟨rfl,l,d⟩;exact⟨ig _,rfl,SF.il ⟨L,rfl,hr,g⟩ d,.gX d⟩
def abG (E:Env) (pl:Nat×Nat) (j:Nat):zV E 156 (λf=>#[pV f pl,.iface 57 (nV f j)]) (mO pl j) uV:=by
 rintro f g w S ⟨L,rfl,hr,k⟩ a;unfold mO at a|-;cases h1:g.hU pl.1 with
 |none=>rw[h1]at a;exact absurd rfl a
 |some ei=>
  cases h2:g.hU j with
  |none=>rw[h1,h2]at a;exact absurd rfl a
  |some ej=>
   simp only[h1,h2]at a|-
   by_cases d:j≠pl.1/\pl.2<=ei.kids.length/\ei.kids.length < 1048576
   .rw[gF d];exact(WZ hr h1 h2 d.1 d.2.1 d.2.2).mono (λe w' h=>h.2.ls k (by simp[Ab.ib]) h.1)
   .rw[gQ d]at a;exact absurd rfl a
def ElK {α:Type} (m:M α):Prop:=∀e a d,m e= .ok a d->∀i,e.gW (some i)=true->d.gW (some i)=true
theorem Sj (x:jg):ElK (ku x):=by
 intro g a e h i d;unfold ku at h;split at h
 .cases h;exact d
 grind
theorem Iy (x:jg):ElK (kK x):=by
 intro g a e h i d;unfold kK at h;split at h
 .cases h;exact d
 grind
theorem LP (x y:jg):ElK (zE x y):=by
 intro g a e h i d;unfold zE at h;split at h
 .cases h;exact d
 grind
theorem LN (x y:jg):ElK (rj x y):=by
 intro g a e h i d;unfold rj at h;split at h
 .cases h;exact d
 grind
theorem LO (j:Nat):ElK (jy j):=by
 grind[ElK,jy]
theorem Pe (j:Nat):ElK (kR j):=by
 intro g a e h i d;unfold kR at h;split at h
 .split at h
  .cases h
  .cases h;exact Ab.Ak d
 grind
theorem GW {σ:Ab} {e : zu} (d:σ.hU j=some ej) (a:σ.gW (some i)=true):(σ.ib j e).gW (some i)=true:=by
 rw[Ab.qt (by grind)];exact a
theorem LQ (pl:Nat×Nat) (j:Nat):ElK (mO pl j):=by
 intro p a l h i k;unfold mO at h;split at h
 .rename_i ei ej d e;split at h
  .rename_i g;cases h;exact GW (ej:=ej) (by rw[Ab.iS g.1];exact e) (GW d k)
  grind
 grind
theorem FV (j:Nat):ElK (mr j):=by
 intro s a l h i k;unfold mr at h;split at h
 .cases h
 .rename_i ej d;split at h
  .grind
  .split at h
   .cases h
   .rename_i p q e;split at h
    .rename_i g;cases h;exact GW (ej:=ej) (by rw[Ab.iS g.1];exact d) (GW e k)
    grind
theorem SF.set {E:Env} {f:Nat->Nat} {σ:Ab} {w:gv} {S:List (Nat×gO)} (h:SF E f σ w S) {k:Nat} {v:gO} (g:(k,v)∈S) (d:E.bs<=k) (a:E.w0.heap.size<=k) (u:gO) (S':List (Nat×gO)) (l:∀p∈S',p=(k,u)\/(p.1≠k/\p∈S)):SF E f σ (w.setCell ⟨k,0,none⟩ u) S'/\Fr E.bs w (w.setCell ⟨k,0,none⟩ u):=by
 have⟨L,e,hr,hs⟩:=h;have⟨h1,h2,h3,h4⟩:=hr.afH (hs _ g) d a u
 grind[SF]
section
variable {W W':gv} {row:jg} (hg:W.grownBy W' row) {B:Nat} (hr:∀r,row=some r->B<=r/\∃o:Obj,W.heap[r]?=some o/\o.isCells=false)
include hg hr
def qp {k:Nat} {c:jM} {t:TypeId} {m:Nat×Nat} (h:W.heap[k]?=some (.cells c t m)):W'.heap[k]?=some (.cells c t m):=by
 refine(hg.block k (Array.getElem?_eq_some_iff.1 h).1 (λe=>?_)).trans h;have⟨_,o,ho,hc⟩:=hr k e.symm;rw[h]at ho;cases ho;cases hc
def vI {base:Nat} {e:TypeId} {a:Nat} {v:gO} {k:Nat} {xs:List gO} (h:W.ownsRow base e a v k xs):W'.ownsRow base e a v k xs:=by
 refine h.kept hg ?_;rcases h.2 with⟨rfl,_⟩|⟨g,l,p,rfl,_,d,_⟩
 .exact .inl rfl
 .refine .inr λq=>?_;have⟨_,o,ho,hc⟩:=hr g (by simpa [Value.ownBlock]using q.symm);rw[d]at ho;cases ho;cases hc
def Fr.grown {bs:Nat} {w:gv} (h:Fr bs w W) (a:w.heap.size<=B):Fr bs w W':=by
 have⟨S,hk,hS⟩:=h;exact⟨S,hk.grown hg (λk e=> .inr (jP a (hr k e).1)),hS⟩
def Rel.grown {E:Env} {L:Loc} {σ:Ab} (h:Rel E L σ W) (g:E.w0.heap.size<=B):Rel E L σ W':=by
 have⟨C,hb,hC⟩:=h.ir;exact
  {fr:=Fr.grown hg hr h.fr g
   env:=h.env
   DU:=h.DU
   sN:=λi d k=>by
    have a:=h.sN i d k;cases d with
    |el e=>exact⟨⟨qp hg hr a.1.ir,vI hg hr a.1.row,a.1.le,a.1.TW⟩,vI hg hr a.2.1,a.2.2⟩
    |tx s=>exact qp hg hr a
    |cm s=>exact qp hg hr a
    |dt s=>exact qp hg hr a
   inj:=h.inj,A8:=h.A8,Ga:=h.Ga,uq:=h.uq,Eu:=h.Eu,wf:=h.wf
   ir:=⟨C,qp hg hr hb,hC⟩
   o0:=vI hg hr h.o0
   pX:=vI hg hr h.pX
   Gd:=h.Gd,wV:=h.wV,Ey:=h.Ey
   oS:=vI hg hr h.oS
   LB:=h.LB
   rd:=qp hg hr h.rd
   QS:=h.QS
   tok:=vI hg hr h.tok
   Ly:=h.Ly,bz:=h.bz,bB:=h.bB,bR:=h.bR,bN:=h.bN,De:=h.De,ab:=h.ab,tb:=h.tb,LA:=h.LA}
def SF.grown {E:Env} {f:Nat->Nat} {σ:Ab} {S:List (Nat×gO)} (h:SF E f σ W S) (d:E.w0.heap.size<=B):SF E f σ W' S:=by
 have⟨L,e,h1,h2⟩:=h;exact⟨L,e,h1.grown hg hr d,λp a=>⟨qp hg hr (h2 p a).1,(h2 p a).2⟩⟩
end
def Fr.oK (h:Fr bs w W) (B:Nat):KeepsFrom B w W:=⟨h.size,λ_ _ _ a d=>h.other a d⟩
theorem Fr.at (h:Fr bs w W) {k : Nat} {t : TypeId} (d:w.heap[k]?=some (.cells c t m)) (g:t∉Vh):W.heap[k]?=some (.cells c t m):=by
 have⟨S,hkk,hS⟩:=h;have a:k < w.heap.size:=(Array.getElem?_eq_some_iff.1 d).1;refine(hkk.block k a λe=>?_).trans d
 grind
attribute [local go_sem] Oper.semAt_some
theorem aed {p:Type} (m:Nat) (a1:1<=m) (b j n O N l:Nat) (a0:n<=4096) (R:p->jg) (a:p->Nat) (J K:p->gv->Prop)
  (P:∀s W,J s W->W.cell? ⟨O,0,none⟩=some (gn n)) (Z:∀s W,J s W->W.cell? ⟨N,0,none⟩=some (jG b j))
  (z:∀s W q,J s W->a s < n->q=n - 1 - a s->Calls prog 229 #[jG b j,gn q] W λe w'=>e=iq (kh (R s))/\w'=W)
  (hY:∀s W,J s W->a s < n->YieldAt Fence.wide (m - 1) prog l #[kh (R s)] W λe W'=>
   (e=iq (.bool true)/\∃d,a d=a s+1/\J d W')\/(e=iq (.bool false)/\∃d,K d W'))
  (W:gv) (I:p) (a3:a I=0) (Y:J I W):
  CallsIn Fence.wide m prog 341 #[.func (.yield l) #[] #[],gJ O,gJ N] W λe W'=>(∃r,e=iq r)/\
   ((∃s,a s=n/\J s W')\/(∃s,K s W')):=by
 refine callsIn_of_wp func341 rfl trivial ?_ rfl;simp only[ntmps341,wM,qe,uS,Nat.reduceAdd,Nat.reduceSub,wN,wO,wP,wQ,ru,uT];have cN:=P I W Y;have X:=hY;have HN:=P;have U:=Z;have u:=z;gi_wp2
 gi_loopw [4] (λi wr=>∃s:p,a s<=n/\i=gn ((n:Int) - 1 - a s)/\J s wr)
  (λi _=>((intOf i)+1).toNat)
 case atStart=>grind
 case round=>
  obtain⟨s,hk,rfl,t⟩:=hrel;have cL:=U s wr t
  by_cases h:a s < n
  .obtain⟨q,G⟩:∃q:Nat,q=n - 1 - a s:=⟨_,rfl⟩;have H:(n:Int) - 1 - a s=(q:Int):=by omega
   rw[H];have T:=u s wr q t h G;have⟨fn,tmps,assign,body,hy,HR⟩:=X s wr t h;have V:=fU G;have a2:q < 4096:=by omega
   clear G
   gi_wp2_with (refine⟨trivial,?_⟩;gi_at_call 229;refine(callsIn_wide.2 T).mono ?_;rintro e w' ⟨rfl,rfl⟩)
   refine HR.mono ?_;rintro e W3 (⟨rfl,d,F,C⟩|⟨rfl,d,g⟩)
   .have x:=F;gi_wp2;go_roundw
    case rel=>exact⟨d,by omega,by have:=V;have:=x;congr 1;omega,C⟩
    case measure=>simp[intOf]
   .gi_wp2;refine qf (Kr rfl _ _ _) rfl ?_;exact⟨⟨_,rfl⟩,.inr ⟨d,g⟩⟩
  .have y:a s=n:=by omega
   have k:(n:Int) - 1 - a s= -1:=by omega
   rw[k];gi_wp2;go_end0;exact⟨⟨_,rfl⟩,.inl ⟨s,y,t⟩⟩
def acg {e:Type} (B:Nat) (I:e->gv->Prop) (g:Code->e->gv->Prop) (d:e->Nat) (s:e) (W:gv):Exit->Act->gv->Prop
 | .normal,_,W'=>KeepsFrom B W W'/\∃a,d a=d s+1/\I a W'
 | .ret,_,W'=>KeepsFrom B W W'/\∃a,g .ret a W'
 | .exit id,_,W'=>KeepsFrom B W W'/\∃a,g (.exit id) a W'
 | .goto t,_,W'=>KeepsFrom B W W'/\∃a,g (.goto t) a W'
 | .panic _,_,_=>False
 | .outgrown,_,_=>False
theorem ZW {V:Type} {m : Nat} {g:Operand} {p:Tmp} {assign body : Code} {Q:Exit->Act->gv->Prop} {a : Act} (h1:2<=m) (a9:n<=4096) (hg:a.eval g=uQ bs)
  (nx:V->jg) (F:V->Nat) (I:V->gv->Prop) (Ix:Code->V->gv->Prop) (hI:OwnFrom w.heap.size I) (T:∀c,OwnFrom w.heap.size (Ix c))
  (hN:∀s W,I s W->W.cell? ⟨bs+1,0,none⟩=some (gn n)) (hL:∀s W,I s W->W.cell? ⟨bs,0,none⟩=some (jG b j))
  (a1:∀s W q,I s W->F s < n->q=n - 1 - F s->Calls prog 229 #[jG b j,gn q] W λe w'=>e=iq (kh (nx s))/\w'=W)
  (s0:V) (ab:F s0=0) (h0:I s0 w) (U:jg->Act)
  (J:∀(l:Nat) (x:jg) (W:gv) (K:Act->gv->Prop),K (U x) W->assign.wpIn (Fence.wide.inRound l) (m - 1 - 1) prog (Exit.then K (λ_ _ _=>False)) {tmps:=a.tmps.setIfInBounds p (kh x),defers:=[]} W)
  (X:∀(l:Nat) (s:V) (W:gv),I s W->F s < n->body.wpIn (Fence.wide.inRound l) (m - 1 - 1) prog (acg w.heap.size I Ix F s W) (U (nx s)) W)
  (Y:∀(D:Nat) (s:V) (W:gv),w.heap.size<=D->F s=n->I s W->W.heap[D]?=some (.deferred (some []))->Q .normal {a with defers:={target:= .collected D,args:=#[]}::a.defers} W)
  (Z:∀(D:Nat) (c:Code) (s:V) (W:gv),w.heap.size<=D->Ix c s W->W.heap[D]?=some (.deferred (some []))->c.wpIn Fence.wide m prog Q {a with defers:={target:= .collected D,args:=#[]}::a.defers} W):
  (Code.rangeFunc g #[p] assign body).wpIn Fence.wide m prog Q a w:=by
 refine wpIn_rangeFunc ?_;intro fn a6;obtain⟨k,u⟩:∃k:LoopState->Option Code->Loop,k=λst pe=>{state:=st,pending:=pe,fn,tmps:=a.tmps,params:=#[p],assign,body,defers:=w.heap.size}:=⟨_,rfl⟩;obtain⟨N,H⟩:∃N,(w.alloc (.deferred (some []))).alloc (.loop (k .ready none))=N:=⟨_,rfl⟩;have ad:N.heap.size=w.heap.size+2:=by rw[<-H];simp
 have a5:N.heap[w.heap.size+1]?=some (.loop (k .ready none)):=by
  rw[<-H];have:=C9 (w.alloc (.deferred (some []))) (.loop (k .ready none));rwa [rB]at this
 have a4:N.heap[w.heap.size]?=some (.deferred (some [])):=by
  rw[<-H];exact(Below.heap_alloc _ _ _ (by simp)).trans (C9 w _)
 have a2:I s0 N:=by rw[<-H];exact hI.alloc _ (hI.alloc _ h0)
 refine⟨w.heap.size+1,[{target:= .collected w.heap.size,args:=#[]}],N,{target:= .fn (.func 341) #[gJ (bs+1),gJ bs],args:=#[.func (.yield (w.heap.size+1)) #[] #[]]},N,341,
  #[.func (.yield (w.heap.size+1)) #[] #[],gJ (bs+1),gJ bs],N,?_,?_,?_,?_,λ_=>by omega,?_⟩
 .rw[<-H,u];exact run_enterLoop_outer _ _ _ _ _
 .simp only[resolve,hg];simp[go_sem]
 .intro f' ac;trivial
 .exact enters_of func341 (by rfl) rfl _ _
 refine(aed (m - 1) (by omega) b j n (bs+1) bs (w.heap.size+1) a9 nx F
  (λs W=>I s W/\W.heap[w.heap.size+1]?=some (.loop (k .ready none))/\W.heap[w.heap.size]?=some (.deferred (some [])))
  (λs W=>∃c,Ix c s W/\W.heap[w.heap.size+1]?=some (.loop (k .done (some c)))/\W.heap[w.heap.size]?=some (.deferred (some [])))
  (λs W h=>hN s W h.1) (λs W h=>hL s W h.1) (λs W q h=>a1 s W q h.1) ?_ N s0 ab ⟨a2,a5,a4⟩).mono ?_
 .rintro s W ⟨hi,O,hk⟩ a0;have aa:w.heap.size+1 < W.heap.size:=(Array.getElem?_eq_some_iff.1 O).1;have hy:=run_yield (P:=prog) (args:=#[kh (nx s)]) O (by rw[u];rfl);rw[u]at hy;have hz:(#[p].zip #[kh (nx s)]).foldl (λt (p,v)=>t.setIfInBounds p v) a.tmps=a.tmps.setIfInBounds p (kh (nx s)):=by simp
  refine⟨fn,_,assign,body,hy,roundIn_of_wpIn a6 ((sK (λz=>assign.wpIn (Fence.wide.inRound (w.heap.size+1)) (m - 1 - 1) prog (Exit.then _ (λ_ _ _=>False)) {tmps:=z,defers:=[]} W) hz).mpr (J _ (nx s) W _ ?_))⟩;refine⟨_,run_beginRound O (by rw[u]),?_⟩;have a8:(W.putObj (w.heap.size+1) (.loop {k .ready none with state:= .busy})).heap[w.heap.size+1]?=some (.loop {k .ready none with state:= .busy}):=Da aa;have a7:(W.putObj (w.heap.size+1) (.loop {k .ready none with state:= .busy})).heap[w.heap.size]?=some (.deferred (some [])):=(pk (by omega)).trans hk;refine wI (X _ s _ (hI.putObj _ hi (by omega) O rfl) a0) ?_;have R:∀(d:Option Code) (G:gv),KeepsFrom w.heap.size (W.putObj (w.heap.size+1) (.loop {k .ready none with state:= .busy})) G->
    (Instr.endRound (w.heap.size+1) d).run prog G= .ok (.bool d.isNone) (G.putObj (w.heap.size+1) (.loop (k (if d.isNone then .ready else .done) d)))/\
    G.heap[w.heap.size+1]?=some (.loop {k .ready none with state:= .busy})/\
    (G.putObj (w.heap.size+1) (.loop (k (if d.isNone then .ready else .done) d))).heap[w.heap.size+1]?=some (.loop (k (if d.isNone then .ready else .done) d))/\
    (G.putObj (w.heap.size+1) (.loop (k (if d.isNone then .ready else .done) d))).heap[w.heap.size]?=some (.deferred (some [])):=λd G y=>by
   have C:=y.same _ _ (by omega) a8 rfl;have:=run_endRound (P:=prog) d C;rw[u]at this|-;exact⟨this,by grind,Da (Array.getElem?_eq_some_iff.1 C).1,(pk (by omega)).trans (y.same _ _ (ig _) a7 rfl)⟩
  rintro e a3 G hp;cases e with
  |normal=>
   have⟨y,s',hc',hi3⟩:=hp;have⟨hr,C,hl4,hk4⟩:=R none G y;exact⟨_,_,hr,.inl ⟨rfl,s',hc',hI.putObj _ hi3 (by omega) C rfl,hl4,hk4⟩⟩
  |ret=>
   have⟨y,s',hi3⟩:=hp;have⟨hr,C,hl4,hk4⟩:=R (some .ret) G y;exact⟨_,_,hr,.inr ⟨rfl,s',.ret,(T _).putObj _ hi3 (by omega) C rfl,hl4,hk4⟩⟩
  |exit id=>
   have⟨y,s',hi3⟩:=hp;have⟨hr,C,hl4,hk4⟩:=R (some (.exit id)) G y;exact⟨_,_,hr,.inr ⟨rfl,s',.exit id,(T _).putObj _ hi3 (by omega) C rfl,hl4,hk4⟩⟩
  |goto t=>
   have⟨y,s',hi3⟩:=hp;have⟨hr,C,hl4,hk4⟩:=R (some (.goto t)) G y;exact⟨_,_,hr,.inr ⟨rfl,s',.goto t,(T _).putObj _ hi3 (by omega) C rfl,hl4,hk4⟩⟩
  |panic ch=>exact hp.elim
  |outgrown=>exact hp.elim
 .rintro e W2 ⟨⟨v,rfl⟩,(⟨s,hS,hi,O,hk⟩|⟨s,c,hi,O,hk⟩)⟩
  .exact⟨none,_,by have:=Fz (P:=prog) O (by rw[u];simp);rw[u]at this;exact this,Y _ s _ (ig _) hS (hI.putObj _ hi (by omega) O rfl) ((pk (by omega)).trans hk)⟩
  .exact⟨some c,_,by have:=Fz (P:=prog) O (by rw[u];simp);rw[u]at this;exact this,Z _ c s _ (ig _) ((T c).putObj _ hi (by omega) O rfl) ((pk (by omega)).trans hk)⟩
section
attribute [local go_sem] Oper.semAt_some
attribute [local go_sem] qd
attribute [local simp] qd
def RF.adb {σ:Ab} (h:RF E f σ w) (x:jg) (a:σ.gW x=true):Calls prog 369 #[jG E.bB 188,oV f x] w λe w'=>e=iq (uQ w.heap.size)/\w'=mu E.bB 188 (posOf σ.gz x) w:=by
 obtain⟨L,rfl,hr⟩:=h;have⟨C,hL,hC⟩:=hr.yZ;have:=abc E.bs E.bB 188 _ C _ _ (iD L.gP x) w hL hr.elO (hr.gW a)
 rwa [Mk hr.inj]at this
theorem Pw (w:gv) (a d e g h:Obj):(((((w.alloc a).alloc d).alloc e).alloc g).alloc h).heap[w.heap.size]?=some a/\(((((w.alloc a).alloc d).alloc e).alloc g).alloc h).heap[w.heap.size+1]?=some d/\(((((w.alloc a).alloc d).alloc e).alloc g).alloc h).heap[w.heap.size+1+1]?=some e/\(((((w.alloc a).alloc d).alloc e).alloc g).alloc h).heap[w.heap.size+1+1+1]?=some g/\(((((w.alloc a).alloc d).alloc e).alloc g).alloc h).heap[w.heap.size+1+1+1+1]?=some h:=by
 have⟨h1,h2,h3,h4⟩:=F4 w a d e g;refine⟨(Below.heap_alloc _ _ _ (by grind)).trans h1,(Below.heap_alloc _ _ _ (by simp)).trans h2,(Below.heap_alloc _ _ _ (by simp)).trans h3,(Below.heap_alloc _ _ _ (by simp)).trans h4,?_⟩;have:=fY ((((w.alloc a).alloc d).alloc e).alloc g) h
 simp_all
theorem RF.sf {σ:Ab} (h:RF E f σ w) (d:Kept [] w W) (a:∀p∈S,w.heap.size<=p.1/\W.heap[p.1]?=some (gI #[p.2] 57)):SF E f σ W S:=by
 have⟨L,e,hr⟩:=h;refine⟨L,e,hr.il d,λp g=>⟨(a p g).2,λq=>?_,λq=>?_⟩⟩
 .have:=(hr.o0.lt _ q).2;grind
 .have:=(hr.pX.lt _ q).2;grind
theorem Sy {xs : kQ} {n : Int} (h:iB xs n=some i):some i∈xs:=by
 unfold iB at h
 grind
def aew (R:pG (Nat×Nat)):Prop:=∀r a,R= .ok r a->r.1 < a.nodes.length/\r.2 < a.nodes.length
structure Gh where
 g:Nat->Nat
 σ:Ab
 c:Nat
 last:Nat
 mark:Nat
structure RI (E:Env) (f:Nat->Nat) (σ:Ab) (w:gv) (n fi ir:Nat) (s:Gh) (W:gv):Prop where
 le:s.c<=n
 ex:RR σ.nodes.length f s.g
 nl:σ.nodes.length<=s.σ.nodes.length
 ll:s.last < s.σ.nodes.length
 ml:s.mark < s.σ.nodes.length
 fe:s.σ.gW (some fi)=true
 be:s.σ.gW (some ir)=true
 te:s.σ.gW (some s.last)=true
 sf:SF E s.g s.σ W [(w.heap.size+1,nV f fi),(w.heap.size+1+1,nV f ir),(w.heap.size+1+1+1,nV s.g s.last),(w.heap.size+1+1+1+1,nV s.g s.mark)]
 b3:W.heap[w.heap.size]?=some (gI #[Bp E] 93)
 b8:W.heap[w.heap.size+1+1+1+1+1]?=some (gI #[gn s.c] 3)
 bl:W.heap[w.heap.size+1+1+1+1+1+1]?=some (gI #[jG E.bB 188] 256)
 bn:W.heap[w.heap.size+1+1+1+1+1+1+1]?=some (gI #[gn n] 3)
 fr:Fr E.bs w W
def RI.grown {σ:Ab} {s:Gh} {row : jg} {B : Nat} (h:RI E f σ w n fi ir s W) (hg:W.grownBy W' row) (hr:∀r,row=some r->B<=r/\∃o:Obj,W.heap[r]?=some o/\o.isCells=false) (a:E.w0.heap.size<=B) (d:w.heap.size<=B):RI E f σ w n fi ir s W':=
 ⟨h.le,h.ex,h.nl,h.ll,h.ml,h.fe,h.be,h.te,h.sf.grown hg hr a,qp hg hr h.b3,qp hg hr h.b8,qp hg hr h.bl,qp hg hr h.bn,h.fr.grown hg hr d⟩
def SF.side {σ:Ab} (h:SF E f σ w S) {T : TypeId} (l:w.heap[b]?=some (.cells c T m)) (k:∀t∈Vi,t≠T) (a:E.w0.heap.size<=b) (j:Nat) (u:gO):SF E f σ (w.setCell ⟨b,j,none⟩ u) S:=by
 have⟨L,e,hr,hs⟩:=h;refine⟨L,e,hr.side l k a j u,λp d=>⟨?_,(hs p d).2⟩⟩;have q:Kept [b] w (w.setCell ⟨b,j,none⟩ u):=(Kept.refl _ w).setCell (.inl (by simp)) _;refine q.at (hs p d).1 λs=>?_;have g:=List.mem_singleton.1 s;have:=(hs p d).1;rw[g,l]at this;injection this with this;injection this with _ e2;exact k 57 (by decide) e2.symm
def Fr.ad8 (h:Fr bs w W) {k : Nat} (a:w.heap.size<=k) (j:Nat) (u:gO):Fr bs w (W.setCell ⟨k,j,none⟩ u):=by
 have⟨S,h1,h2⟩:=h;exact⟨S,h1.setCell (.inr a) _,h2⟩
theorem RI.next {σ:Ab} {s:Gh} (h:RI E f σ w n fi ir s W) (d:s.c < n) (g:E.w0.heap.size<=w.heap.size) (u:gO) (e:u=gn ((s.c+1:Nat))):RI E f σ w n fi ir ⟨s.g,s.σ,s.c+1,s.last,s.mark⟩ (W.setCell ⟨w.heap.size+1+1+1+1+1,0,none⟩ u):=by
 subst e;have a:Kept [w.heap.size+1+1+1+1+1] W (W.setCell ⟨w.heap.size+1+1+1+1+1,0,none⟩ (gn ((s.c+1:Nat)))):=(Kept.refl _ W).setCell (.inl (by simp)) _;exact
  {le:=d,ex:=h.ex,nl:=h.nl,ll:=h.ll,ml:=h.ml,fe:=h.fe,be:=h.be,te:=h.te
   sf:=h.sf.side h.b8 (by decide) (by omega) 0 _
   b3:=a.at h.b3 (by grind)
   b8:=gg h.b8 0 _
   bl:=a.at h.bl (by simp)
   bn:=a.at h.bn (by grind)
   fr:=h.fr.ad8 (by omega) 0 _}
def RI.step {σ:Ab} {s:Gh} (h:RI E f σ w n fi ir s W) {d : Nat->Nat} {σ':Ab} (k:RR s.σ.nodes.length s.g d) (g:s.σ.nodes.length<=σ'.nodes.length) (e:Fr E.bs W W') (a:∀i,s.σ.gW (some i)=true->σ'.gW (some i)=true)
  (p:SF E d σ' W' [(w.heap.size+1,nV f fi),(w.heap.size+1+1,nV f ir),(w.heap.size+1+1+1,nV s.g s.last),(w.heap.size+1+1+1+1,nV s.g s.mark)]):RI E f σ w n fi ir ⟨d,σ',s.c,s.last,s.mark⟩ W':=by
 have e1:nV s.g s.last=nV d s.last:=by unfold nV;rw[k _ h.ll]
 have e2:nV s.g s.mark=nV d s.mark:=by unfold nV;rw[k _ h.ml]
 rw[e1,e2]at p;exact
  {le:=h.le,ex:=λi l=>(k i (lV l h.nl)).trans (h.ex i l),nl:=jP h.nl g,ll:=lV h.ll g,ml:=lV h.ml g,fe:=a _ h.fe,be:=a _ h.be,te:=a _ h.te
   sf:=p
   b3:=e.at h.b3 (by decide),b8:=e.at h.b8 (by decide),bl:=e.at h.bl (by decide),bn:=e.at h.bn (by decide)
   fr:=h.fr.trans e}
def RI.abW {σ:Ab} {s:Gh} (h:RI E f σ w n fi ir s W) (x:Nat) (a:s.σ.gW (some x)=true) (e:E.w0.heap.size<=w.heap.size) (d:E.bs<=w.heap.size):RI E f σ w n fi ir ⟨s.g,s.σ,s.c,x,s.mark⟩ (W.setCell ⟨w.heap.size+1+1+1,0,none⟩ (nV s.g x))/\Fr E.bs W (W.setCell ⟨w.heap.size+1+1+1,0,none⟩ (nV s.g x)):=by
 have⟨q1,q2⟩:=h.sf.set (k:=w.heap.size+1+1+1) (v:=nV s.g s.last) (by simp) (by omega) (by omega) (nV s.g x) [(w.heap.size+1,nV f fi),(w.heap.size+1+1,nV f ir),(w.heap.size+1+1+1,nV s.g x),(w.heap.size+1+1+1+1,nV s.g s.mark)] (by
  simp)
 exact⟨{le:=h.le,ex:=h.ex,nl:=h.nl,ll:=Ab.lO (σ:=s.σ) (i:=x) a,ml:=h.ml,fe:=h.fe,be:=h.be,te:=a,sf:=q1,b3:=q2.at h.b3 (by decide),b8:=q2.at h.b8 (by decide),bl:=q2.at h.bl (by decide),bn:=q2.at h.bn (by decide),fr:=h.fr.trans q2},q2⟩
def RI.abX {σ:Ab} {s:Gh} (h:RI E f σ w n fi ir s W) (x:Nat) (e:s.σ.gW (some x)=true) (d:E.w0.heap.size<=w.heap.size) (a:E.bs<=w.heap.size):RI E f σ w n fi ir ⟨s.g,s.σ,s.c,s.last,x⟩ (W.setCell ⟨w.heap.size+1+1+1+1,0,none⟩ (nV s.g x))/\Fr E.bs W (W.setCell ⟨w.heap.size+1+1+1+1,0,none⟩ (nV s.g x)):=by
 have⟨q1,q2⟩:=h.sf.set (k:=w.heap.size+1+1+1+1) (v:=nV s.g s.mark) (by simp) (by omega) (by omega) (nV s.g x) [(w.heap.size+1,nV f fi),(w.heap.size+1+1,nV f ir),(w.heap.size+1+1+1,nV s.g s.last),(w.heap.size+1+1+1+1,nV s.g x)] (by
  simp)
 exact⟨{le:=h.le,ex:=h.ex,nl:=h.nl,ll:=h.ll,ml:=Ab.lO (σ:=s.σ) (i:=x) e,fe:=h.fe,be:=h.be,te:=h.te,sf:=q1,b3:=q2.at h.b3 (by decide),b8:=q2.at h.b8 (by decide),bl:=q2.at h.bl (by decide),bn:=q2.at h.bn (by decide),fr:=h.fr.trans q2},q2⟩
theorem R1 {a : Nat} {σ σ':Ab} (h:kR j σ= .ok a σ'):σ'.gW (some a)=true:=by
 unfold kR at h;split at h
 .split at h
  .cases h
  .cases h;show((σ.add _).hU σ.nodes.length).isSome=true;rw[Ab.um];rfl
 grind
def RI.k0 {σ:Ab} {s:Gh} (h:RI E f σ w n fi ir s W) (a:Kept [] W W'):RI E f σ w n fi ir s W':=
 ⟨h.le,h.ex,h.nl,h.ll,h.ml,h.fe,h.be,h.te,h.sf.il a,a.at h.b3 (by simp),a.at h.b8 (by simp),a.at h.bl (by simp),a.at h.bn (by simp),h.fr.trans (.gX a)⟩
def Tl (f ir k c last d e:Nat):M (Nat×Nat):=λg=>if some e∉g.act then (ku (some e)>>=λ_=>mn f ir k (c+1) last d) g else
 (kR e>>=λa=>zE (some e) (some a)>>=λ_=>rj (some e) (some a)>>=λ_=>mr last>>=λ_=>jy a>>=λh=>mO h last>>=λ_=>mn f ir k (c+1) a (if last=ir then a else d)) g
theorem QO {f k c last a : Nat} {σ:Ab} {R : pG (Nat×Nat)} (h:R=mn f ir (k+1) c last a σ) (l:R≠ .stuck):∃e,iB σ.gz (k:Int)=some e/\((e=f/\R= .ok (last,a) σ)\/(e≠f/\R=((if 3 < c+1 then kK (some e)else pure ())>>=λ_=>Tl f ir k c last a e) σ)):=by
 have d:R=(Gk k>>=λe=>if e=f then pure (last,a)else ((if 3 < c+1 then kK (some e)else pure ())>>=λ_=>Tl f ir k c last a e)) σ:=h;rw[M.gx]at d;unfold Gk at d;cases hq:iB σ.gz (k:Int)with
 |none=>grind
 |some e=>
  rw[hq]at d;dsimp only at d;refine⟨e,rfl,?_⟩
  by_cases g:e=f
  .rw[gF g]at d;exact .inl ⟨g,d⟩
  grind
def RF.eql {g : Nat->Nat} {σ:Ab} (h:RF E g σ W) (a:σ.gW (some i)=true) (d:σ.gW (some j)=true):(binOp .eql 57 (nV g i) (nV g j)).run prog W= .ok (.bool (decide (i=j))) W:=by
 obtain⟨L,rfl,hr⟩:=h;have:=Cc (hr.gW a) (hr.gW d);rw[show decide (iD L.gP (some i)=iD L.gP (some j))=decide (i=j)from decide_eq_decide.2 ⟨λe=>hr.inj _ _ (jL e),λe=>by rw[e]⟩]at this;exact this
theorem ZA {σ:Ab} (h:RF E f σ w) (fi ir:Nat) (aQ:(σ.hU fi).isSome=true) (bi:some ir∈σ.gz) (hs:xE fi ir σ≠ .stuck):
  Calls prog 357 #[Bp E,nV f fi,nV f ir] w (λe w'=>Leaves E f σ.nodes.length w (xE fi ir σ) (λg r=> .tuple #[nV g r.1,nV g r.2]) e w'/\aew (xE fi ir σ)):=by
 obtain⟨R,hR⟩:∃R,R=xE fi ir σ:=⟨_,rfl⟩;rw[<-hR]at hs|-;obtain⟨n,hn⟩:∃n,n=(posOf σ.gz (some ir)).toNat:=⟨_,rfl⟩;have bh:R=mn fi ir n 0 ir fi σ:=by rw[hR,hn];rfl
 have br:posOf σ.gz (some ir)=(n:Int):=by
  rw[hn];rcases sE σ.gz (some ir)with⟨bL,_⟩|⟨m,hp,_⟩
  .grind
  .omega
 have bu:Wf σ:=by have⟨L,_,hr⟩:=h;exact hr.wf
 have T:(σ.hU ir).isSome=true:=bu.gz _ bi;have bj:σ.gW (some ir)=true:=Ab.vA (bu.gz _ bi);have bQ:σ.gz.length<=4096:=by have⟨L,_,hr⟩:=h;exact hr.wV
 have bK:n<=4096:=by
  rcases sE σ.gz (some ir)with⟨bL,_⟩|⟨m,hp,hm,_⟩
  .omega
  .omega
 have bX:=h.lt;have aR:E.w0.heap.size<=w.heap.size:=by have⟨L,_,hr⟩:=h;exact hr.fr.size
 have bk:E.bs<=w.heap.size:=by have⟨L,_,hr⟩:=h;have:=hr.bB;omega
 have HF:=fU h;have HR:=fU bh;have HS:=fU hs;have bz:=fU bj;have HP:=fU br;clear h hR bh hs;refine(wJ (n:=9)).1 ?_;refine wK func357 rfl trivial ?_ rfl;simp only[ntmps357,wM,qe,uS,Nat.reduceAdd,Nat.reduceSub,wN,wO,wP,wQ,ru,uT];obtain⟨w5,ak⟩:∃w5,w5=((((w.alloc (gI #[Bp E] 93)).alloc (gI #[nV f fi] 57)).alloc (gI #[nV f ir] 57)).alloc (gI #[.pointer none] 57)).alloc (gI #[.pointer none] 57):=⟨_,rfl⟩;have bo:Kept [] w w5:=by rw[ak];exact(((((Kept.refl _ _).alloc _).alloc _).alloc _).alloc _).alloc _
 have bv:w5.heap.size=w.heap.size+1+1+1+1+1:=by rw[ak];simp
 have⟨b3,b4,b5,b6,b7⟩:=Pw w (gI #[Bp E] 93) (gI #[nV f fi] 57) (gI #[nV f ir] 57) (gI #[.pointer none] 57) (gI #[.pointer none] 57);rw[<-ak]at b3 b4 b5 b6 b7;have c4:=fW b4 0;have c5:=fW b5 0;have c6:=fW b6 0;have c7:=fW b7 0;have f6:=gE b6 0;have f7:=gE b7 0;dsimp at c4 c5 c6 c7;have ao:=fU ak;have aV:=fU bo;have b1:=fU bv;have B3:=fU b3;have B4:=fU b4;have B5:=fU b5;have B6:=fU b6;have B7:=fU b7;clear ak bo bv b3 b4 b5 b6 b7
 gi_wp2_with fail
 rw[<-ao.out];rename_i K1 bb;refine wI (Q:=Exit.then (λa W'=>a={tmps:=#[Bp E,nV f fi,nV f ir,gJ w.heap.size,gJ (w.heap.size+1),gJ (w.heap.size+1+1),gJ (w.heap.size+1+1+1),gJ (w.heap.size+1+1+1+1),undef,undef,undef,nV f ir,nV f fi,undef,undef,undef,undef,undef,undef,undef,undef,undef,undef,undef,undef,undef,undef,undef,undef,undef,undef,undef,undef,undef,undef,undef,undef,undef,undef,undef,undef,undef,undef,undef,undef,undef,undef,undef,undef,undef,undef,undef,undef,undef,undef,undef,undef,undef,undef,undef,undef,undef,undef,undef,undef,undef,undef,undef,undef,undef],defers:=[]}/\W'.heap.size=w5.heap.size/\Kept [] w W'/\Kept [w.heap.size+1+1+1,w.heap.size+1+1+1+1] w5 W'/\W'.heap[w.heap.size+1+1+1]?=some (gI #[nV f ir] 57)/\W'.heap[w.heap.size+1+1+1+1]?=some (gI #[nV f fi] 57)) (λ_ _ _=>False)) ?_ ?_
 .refine wpIn_wide.2 ?_;go_region;refine⟨rfl,by simp,((aV.out.setCell (.inr (by simp;omega)) _).setCell (.inr (by simp;omega)) _).drew,(((Kept.refl _ w5).setCell (.inl (by simp)) _).setCell (.inl (by simp)) _).drew,?_,?_⟩
  .exact(Below.heap_setCell _ _ _ _ (by simp)).trans (gg B6.out 0 _)
  .exact gg ((Below.heap_setCell _ _ _ _ (by simp)).trans B7.out) 0 _
 .intro e a W' hq;cases e with
  |normal=>
   obtain⟨rfl,aS,bp,aA,g6,g7⟩:=hq;show K1 _ W';dsimp only;refine bb _ _ ?_;have g3:=aA.at B3.out (by simp;omega);have g4:=aA.at B4.out (by simp);have g5:=aA.at B5.out (by simp);rw[b1.out]at aS;have aq:=fU aS;have aW:=fU bp;have G3:=fU g3;have G4:=fU g4;have G5:=fU g5;have G6:=fU g6;have G7:=fU g7;clear aS bp aA g3 g4 g5 g6 g7 c4 c5 c6 c7 f6 f7 B3 B4 B5 B6 B7 aV b1 ao w5 bb
   gi_wp2_with fail
   rw[aq.out];have Z:Kept [] W' (W'.alloc (gI #[gn 0] 3)):=(Kept.refl _ _).alloc _;have g8:(W'.alloc (gI #[gn 0] 3)).heap[w.heap.size+1+1+1+1+1]?=some (gI #[gn 0] 3):=by rw[<-aq.out];exact fY W' _
   have bw:(W'.alloc (gI #[gn 0] 3)).heap.size=w.heap.size+1+1+1+1+1+1:=by rw[rB,aq.out]
   have ab:=fU (aW.out.trans Z);replace G3:=fU (Z.at G3.out (by simp));replace G4:=fU (Z.at G4.out (by simp));replace G5:=fU (Z.at G5.out (by simp));replace G6:=fU (Z.at G6.out (by simp));replace G7:=fU (Z.at G7.out (by simp));have G8:=fU g8;have ae:=fU bw;clear Z g8 bw aW aq;generalize W'.alloc (gI #[gn 0] 3)=W8 at *;have c3:=fW G3.out 0;have c5:=fW G5.out 0;dsimp at c3 c5;have bI:=(HF.out.il ab.out).lt;have aF:=fU ((HF.out.il ab.out.drew).adb (some ir) bz.out);rw[HP.out]at aF;rename_i Kb bU Ka bd;obtain⟨P3,bg⟩:∃P3:Act->gv->Prop,P3=(λa F=>∃ar au av aw,a={tmps:=#[Bp E,nV f fi,nV f ir,gJ w.heap.size,gJ (w.heap.size+1),gJ (w.heap.size+1+1),gJ (w.heap.size+1+1+1),gJ (w.heap.size+1+1+1+1),gJ (w.heap.size+1+1+1+1+1),undef,undef,nV f ir,nV f fi,ar,au,av,aw,uQ (w.heap.size+1+1+1+1+1+1),undef,undef,undef,undef,undef,undef,undef,undef,undef,undef,undef,undef,undef,undef,undef,undef,undef,undef,undef,undef,undef,undef,undef,undef,undef,undef,undef,undef,undef,undef,undef,undef,undef,undef,undef,undef,undef,undef,undef,undef,undef,undef,undef,undef,undef,undef,undef,undef,undef,undef,undef,undef],defers:=[]}/\Kept [] W8 F/\F.heap[w.heap.size+1+1+1+1+1+1]?=some (gI #[jG E.bB 188] 256)/\F.heap[w.heap.size+1+1+1+1+1+1+1]?=some (gI #[gn n] 3)):=⟨_,rfl⟩;have aH:=fU bg;clear bg;refine wI (Q:=Exit.then P3 (λ_ _ _=>False)) ?_ ?_
   .refine wpIn_wide.2 ?_
    go_region_with (go_at_call 369;refine aF.out.mono ?_;rintro e w9 ⟨rfl,bt⟩;have aJ:=fU bt;clear bt)
    all_goals
     show P3 _ w9;rw[aH.out,ae.out];refine⟨_,_,_,_,rfl,?_,?_,?_⟩
     .rw[aJ.out];exact(((Kept.refl [] W8).drew).alloc _).alloc _
     .rw[aJ.out,<-ae.out];exact(sy W8.drew _ _).1
     .rw[aJ.out,<-ae.out];exact(sy W8.drew _ _).2
   .intro e a F hq;cases e with
    |normal=>
     replace hq:P3 a F:=hq;rw[aH.out]at hq;obtain⟨ar,au,av,aw,rfl,H,g9,ba⟩:=hq;show Ka _ F;dsimp only;refine bd _ _ ?_;have bZ:w.heap.size+1+1+1+1+1+1<=F.heap.size:=by have:=ae.out;have:=H.size;omega
     have bm:RI E f σ w n fi ir ⟨f,σ,0,ir,fi⟩ F:=
      {le:=iO _,ex:=λ_ _=>rfl,nl:=ig _,ll:=Ab.lO (σ:=σ) (i:=ir) T,ml:=Ab.lO (σ:=σ) (i:=fi) aQ,fe:=aQ,be:=T,te:=T
       sf:=HF.out.sf (ab.out.trans H) (by
        intro p hp;simp only[qD,qE,rH]at hp;rcases hp with rfl|rfl|rfl|rfl
        .exact⟨by simp,H.at G4.out (by simp)⟩
        .exact⟨by omega,H.at G5.out (by simp)⟩
        .exact⟨by omega,H.at G6.out (by simp)⟩
        .exact⟨by omega,H.at G7.out (by simp)⟩)
       b3:=H.at G3.out (by simp),b8:=H.at G8.out (by simp),bl:=g9,bn:=ba
       fr:= .gX (ab.out.trans H)}
     have bA:=fU bm;clear bm H g9 ba G3 G4 G5 G6 G7 G8 ab ae aF aH c3 c5 bI bd Ka P3 W8
     gi_wp2_with fail
     refine ZW (b:=E.bB) (j:=188) (bs:=w.heap.size+1+1+1+1+1+1) (by omega) bK rfl (λs:Gh=>iD s.g (iB s.σ.gz ((n - 1 - s.c:Nat):Int))) Gh.c
      (λs W=>RI E f σ w n fi ir s W/\R=mn fi ir (n - s.c) s.c s.last s.mark s.σ)
      (λc s W=>c= .exit 0/\RI E f σ w n fi ir s W/\R= .ok (s.last,s.mark) s.σ)
      ?_ ?_ ?_ ?_ ?_ ⟨f,σ,0,ir,fi⟩ rfl ⟨bA.out,HR.out⟩ (λx=>{tmps:=#[Bp E,nV f fi,nV f ir,gJ w.heap.size,gJ (w.heap.size+1),gJ (w.heap.size+1+1),gJ (w.heap.size+1+1+1),gJ (w.heap.size+1+1+1+1),gJ (w.heap.size+1+1+1+1+1),kh x,undef,nV f ir,nV f fi,ar,au,av,aw,uQ (w.heap.size+1+1+1+1+1+1),kh x,undef,undef,undef,undef,undef,undef,undef,undef,undef,undef,undef,undef,undef,undef,undef,undef,undef,undef,undef,undef,undef,undef,undef,undef,undef,undef,undef,undef,undef,undef,undef,undef,undef,undef,undef,undef,undef,undef,undef,undef,undef,undef,undef,undef,undef,undef,undef,undef,undef,undef,undef],defers:=[]}) ?assign ?body ?done ?stop
     .rintro s A B row ⟨t,V⟩ hg hr;exact⟨t.grown hg hr (by omega) (by omega),V⟩
     .rintro c s A B row ⟨h0,t,V⟩ hg hr;exact⟨h0,t.grown hg hr (by omega) (by omega),V⟩
     .rintro s W ⟨t,_⟩;rw[fW t.bn];rfl
     .rintro s W ⟨t,_⟩;rw[fW t.bl];rfl
     .rintro s W q ⟨t,_⟩ bq rfl;exact t.sf.rf.atO _
     case assign=>
      intro l x W K hK;dsimp only;gi_wp2;exact hK
     case body=>
      rintro l s W ⟨t,V⟩ bq;dsimp only;obtain⟨k,hk⟩:∃k,k=n - 1 - s.c:=⟨_,rfl⟩;have bH:n - s.c=k+1:=by omega
      rw[bH]at V;have⟨e,hge,hcase⟩:=QO V HS.out;rw[<-hk,hge];rw[show kh (iD s.g (some e))=nV s.g e from rfl];have a1:s.σ.gW (some e)=true:=by
       have⟨L,_,hr,_⟩:=t.sf;exact hr.wf.gz _ (Sy hge)
      have c3:=fW t.b3 0;dsimp at c3;have c4:W.cell? ⟨w.heap.size+1,0,none⟩=some (nV s.g fi):=by
       rw[fW (t.sf.at (v:=nV f fi) (by simp)),show nV s.g fi=nV f fi by unfold nV;rw[t.ex fi (Ab.lO (σ:=σ) (i:=fi) aQ)]];rfl
      have c8:=fW t.b8 0;have f8:=gE t.b8 0;dsimp at c8;have aP:=t.sf.rf.eql a1 t.fe;have bW:s.c < 4096:=by omega
      rcases hcase with⟨rfl,ag⟩|⟨bJ,ag⟩
      .rw[vp rfl]at aP;have H1:=fU t;have H3:=fU ag;clear t V ag hge a1;unfold nV at *;gi_wp2;exact⟨KeepsFrom.refl _ _,s,rfl,H1.out,H3.out⟩
      .rw[xo bJ]at aP;have aL:=t.next bq aR (gn ((s.c:Int)+1)) (by simp);obtain⟨W6,ay⟩:∃W6,W6=W.setCell ⟨w.heap.size+1+1+1+1+1,0,none⟩ (gn ((s.c:Int)+1)):=⟨_,rfl⟩;have aC:KeepsFrom F.heap.size W W6:=by rw[ay];exact(Km _ _ _).from _
       rw[<-ay]at aL;have a9:=fU aL;have a0:=fU aC;have ap:=fU ay;have Y:=fU ag;have al:=fU a1;clear t V ag hge aL aC ay a1;unfold nV at *
       by_cases h3:3 < s.c+1
       have ad:Hid (R=(kK (some e)>>=λ_=>Tl fi ir k s.c s.last s.mark e) s.σ):=by
        refine fU ?_;have:=Y.out
        rwa [gF h3]at this
       gi_wp2_with fail
       rw[<-ap.out];refine qF l (callsIn_wide.2 (Ch (XG E (some e)) a9.out.sf ad.out HS.out rfl ?_));rintro a O WA I J y N z;have hA:=a9.out.step (λ_ _=>rfl) I y (Iy _ _ _ _ z) J;have U:=Iy _ _ _ _ z e al.out;have aM:=a0.out.trans (y.oK F.heap.size);have aN:=N;clear I J y N z a9 ad Y a0 al ap c3 c4 c8 f8 aP
       rotate_left
       have ad:Hid (R=Tl fi ir k s.c s.last s.mark e s.σ):=by
        refine fU ?_;have:=Y.out
        rwa [gQ h3]at this
       obtain⟨O,a2⟩:∃O,O=s.σ:=⟨_,rfl⟩;obtain⟨WA,az⟩:∃WA,WA=W6:=⟨_,rfl⟩;have hA:RI E f σ w n fi ir ⟨s.g,O,s.c+1,s.last,s.mark⟩ WA:=by rw[a2,az];exact a9.out
       have U:O.gW (some e)=true:=by rw[a2];exact al.out
       have aM:KeepsFrom F.heap.size W WA:=by rw[az];exact a0.out
       have aN:R=Tl fi ir k s.c s.last s.mark e O:=by rw[a2];exact ad.out
       have bF:=fU (az.trans ap.out);clear a9 Y a0 al ad a2 az ap
       all_goals
        have c3:=fW hA.b3 0;dsimp at c3;have aE:=fU (hA.sf.rf.aeO (some e) U);have HA:=fU hA;have an:=fU aN;have C:=fU aM;clear hA aN aM
        gi_wp2_with fail
        try rw[<-bF.out]
        refine(qF l (callsIn_wide.2 aE.out)).mono ?_;rintro e' w_ ⟨rfl,bN⟩;subst bN
        by_cases P:some e∈O.act
        .have ah:R=(kR e>>=λd=>zE (some e) (some d)>>=λ_=>rj (some e) (some d)>>=λ_=>mr s.last>>=λ_=>jy d>>=λpl=>mO pl s.last>>=λ_=>mn fi ir k (s.c+1) d (if s.last=ir then d else s.mark)) O:=by
          rw[an.out];unfold Tl;rw[gQ (by simpa using P)]
         have ac:=fU ah;rw[vp P];clear ah P an aE
         gi_wp2_with fail
         refine qF l (callsIn_wide.2 (ae7 (Vv E e) HA.out.sf ac.out HS.out rfl ?_));rintro d u bO W2 x1 I J y N z;have V:=HA.out.step x1 I y (Pe _ _ _ _ z) J;have bP:u e=s.g e:=x1 e (Ab.lO (σ:=O) (i:=e) U);have X:=fU (R1 z);have aa:=fU V;have b0:=fU N;replace C:=fU (C.out.trans (y.oK F.heap.size));have c3:=fW V.b3 0;dsimp at c3;clear V x1 I J y N z HA ac U
         gi_wp2_with fail
         refine qF l (callsIn_wide.2 (Ch (abq E (some e) (some d)) aa.out.sf b0.out HS.out (by show _=#[_,nV u e,nV u d];simp) ?_));rintro a3 c1 W3 I J y N z;have aK:=aa.out.step (λ_ _=>rfl) I y (LP _ _ _ _ _ z) J;replace X:=fU (LP _ _ _ _ _ z d X.out);have aG:=fU aK;have Y:=fU N;replace C:=fU (C.out.trans (y.oK F.heap.size));have c3:=fW aK.b3 0;dsimp at c3;clear aK I J y N z aa b0
         gi_wp2_with fail
         refine qF l (callsIn_wide.2 (Ch (aao E (some e) (some d)) aG.out.sf Y.out HS.out (by show _=#[_,nV u e,nV u d];simp) ?_));rintro a4 bx W4 I J y N z;have h4:=aG.out.step (λ_ _=>rfl) I y (LN _ _ _ _ _ z) J;replace X:=fU (LN _ _ _ _ _ z d X.out);have am:=fU h4;have ai:=N;replace C:=fU (C.out.trans (y.oK F.heap.size));have c5:W4.cell? ⟨w.heap.size+1+1,0,none⟩=some (nV u ir):=by
          have bY:u ir=f ir:=h4.ex ir (Ab.lO (σ:=σ) (i:=ir) T);rw[fW (h4.sf.at (k:=w.heap.size+1+1) (v:=nV f ir) (by simp)),show nV u ir=nV f ir by simp];rfl
         have c6:=fW (h4.sf.at (k:=w.heap.size+1+1+1) (v:=nV u s.last) (by simp)) 0;have c7:=fW (h4.sf.at (k:=w.heap.size+1+1+1+1) (v:=nV u s.mark) (by simp)) 0;have f7:=gE (h4.sf.at (k:=w.heap.size+1+1+1+1) (v:=nV u s.mark) (by simp)) 0;dsimp at c6 c7;have aj:(binOp .eql 57 (nV u s.last) (nV u ir)).run prog W4= .ok (.bool (decide (s.last=ir))) W4:=h4.sf.rf.eql h4.te h4.be;clear h4 I J y N z aG Y;unfold nV at c5 c6 c7 aj;generalize hmk:(if s.last=ir then d else s.mark)=mk at ai
         by_cases a5:s.last=ir
         rw[vp a5]at aj;have⟨q1,q2⟩:=am.out.abX d X.out aR bk;obtain⟨W5,ax⟩:∃W5,W5=W4.setCell ⟨w.heap.size+1+1+1+1,0,none⟩ (gJ (u d)):=⟨_,rfl⟩;have q3:RI E f σ w n fi ir ⟨u,bx,s.c+1,s.last,mk⟩ W5:=by rw[ax,<-hmk,gF a5];exact q1
         have q4:KeepsFrom F.heap.size W4 W5:=by rw[ax];exact q2.oK F.heap.size
         have H5:=fU q3;replace C:=fU (C.out.trans q4);have ao:=fU ax;have aI:=fU ai;clear q1 q2 q3 q4 ax am ai a5 hmk
         gi_wp2_with fail
         rw[<-ao.out]
         rotate_left
         rw[xo a5]at aj;have H5:=fU (show RI E f σ w n fi ir ⟨u,bx,s.c+1,s.last,mk⟩ W4 by rw[<-hmk,gQ a5];exact am.out);have aI:=fU ai;clear am ai a5 hmk
         gi_wp2_with fail
         all_goals
          refine qF l (callsIn_wide.2 (Ch (Xe E s.last) H5.out.sf aI.out HS.out rfl ?_));rintro a6 c2 W7 I J y N z;have h6:=H5.out.step (λ_ _=>rfl) I y (FV _ _ _ _ z) J;have h7:=h6.k0 ((Kept.refl _ W7).drew);have c6:=fW (h6.sf.at (k:=w.heap.size+1+1+1) (v:=nV u s.last) (by simp)) 0;dsimp at c6;replace X:=fU (FV _ _ _ _ z d X.out);have H7:=fU h7;have bD:=fU N;replace C:=fU ((C.out.trans (y.oK F.heap.size)).trans ((Fr.gX (bs:=E.bs) ((Kept.refl _ W7).drew)).oK F.heap.size));clear h6 h7 I J y N z H5 aI;unfold nV at c6
          gi_wp2_with fail
          have aT:Hid (Calls prog 81 #[nV u d] W7.drew λe WE=>∃pl G,e=iq (pV u pl)/\RI E f σ w n fi ir ⟨u,G,s.c+1,s.last,mk⟩ WE/\KeepsFrom F.heap.size W WE/\R=(mO pl s.last>>=λ_=>mn fi ir k (s.c+1) d mk) G/\G.gW (some d)=true):=by
           refine fU ?_;refine Ch (aaO E d) H7.out.sf bD.out HS.out rfl ?_;rintro pl G WE I J y N z;exact⟨pl,G,rfl,H7.out.step (λ_ _=>rfl) I y (LO _ _ _ _ z) J,C.out.trans (y.oK F.heap.size),N,LO _ _ _ _ z d X.out⟩
          have aU:Hid (∀pl G WE,RI E f σ w n fi ir ⟨u,G,s.c+1,s.last,mk⟩ WE->KeepsFrom F.heap.size W WE->R=(mO pl s.last>>=λ_=>mn fi ir k (s.c+1) d mk) G->G.gW (some d)=true->Calls prog 156 #[pV u pl,.iface 57 (nV u s.last)] WE λe WP=>e=p8/\∃a7,RI E f σ w n fi ir ⟨u,a7,s.c+1,s.last,mk⟩ WP/\KeepsFrom F.heap.size W WP/\R=mn fi ir k (s.c+1) d mk a7/\a7.gW (some d)=true):=by
           refine fU ?_;intro pl G WE y1 y2 y3 y4;refine Ch (abG E pl s.last) y1.sf y3 HS.out rfl ?_;rintro a8 a7 WP I J y N z;exact⟨rfl,a7,y1.step (λ_ _=>rfl) I y (LQ _ _ _ _ _ z) J,y2.trans (y.oK F.heap.size),N,LQ _ _ _ _ _ z d y4⟩
          unfold nV at aT aU
          gi_region_with (first
           |(refine(qF l (callsIn_wide.2 aT.out)).mono ?_;rintro e' WE ⟨pl,G,rfl,y1,y2,y3,y4⟩;have bR:WE.cell? ⟨w.heap.size+1+1+1,0,none⟩=some (gJ (u s.last)):=by {rw[fW (y1.sf.at (k:=w.heap.size+1+1+1) (v:=nV u s.last) (by simp))];rfl};have CP:=fU (aU.out pl G WE y1 y2 y3 y4);clear y1 y2 y3 y4)
           |(refine(qF l (callsIn_wide.2 CP.out)).mono ?_;rintro e' WP ⟨rfl,a7,y1,y2,y3,y4⟩;have bS:WP.cell? ⟨w.heap.size+1+1+1,0,none⟩=some (gJ (u s.last)):=by {rw[fW (y1.sf.at (k:=w.heap.size+1+1+1) (v:=nV u s.last) (by simp))];rfl};have bT:=gE (y1.sf.at (k:=w.heap.size+1+1+1) (v:=nV u s.last) (by simp)) 0;have aY:=fU (y1.abW d y4 aR bk);have aZ:=fU y3;have bC:=fU y2;clear y1 y2 y3 y4))
          all_goals
           gi_wp2;exact⟨bC.out.trans (aY.out.2.oK F.heap.size),_,rfl,aY.out.1,by rw[show n - (s.c+1)=k by omega];exact aZ.out⟩
        .have ah:R=(ku (some e)>>=λ_=>mn fi ir k (s.c+1) s.last s.mark) O:=by
          rw[an.out];unfold Tl;rw[gF P]
         have ac:=fU ah;rw[xo P];clear ah P an aE
         gi_wp2_with fail
         refine qF l (callsIn_wide.2 (Ch (Zf E (some e)) HA.out.sf ac.out HS.out rfl ?_));rintro a bO W2 I J y N z;have V:=HA.out.step (λ_ _=>rfl) I y (Sj _ _ _ _ z) J;have aa:=fU V;have bG:=fU N;have aX:=fU (C.out.trans (y.oK F.heap.size));clear V I J y N z HA ac C c3;gi_wp2;exact⟨aX.out,_,rfl,aa.out,by rw[show n - (s.c+1)=k by omega];exact bG.out⟩
     rintro D s W hD hc ⟨t,V⟩ hK;have aO:R= .ok (s.last,s.mark) s.σ:=by
      rw[V,show n - s.c=0 by omega];rfl
     clear V hc
     rotate_left
     rintro D c s W hD ⟨rfl,t,aO⟩ hK
     all_goals
      have c6:=fW (t.sf.at (k:=w.heap.size+1+1+1) (v:=nV s.g s.last) (by simp)) 0;have c7:=fW (t.sf.at (k:=w.heap.size+1+1+1+1) (v:=nV s.g s.mark) (by simp)) 0;have f6:=gE (t.sf.at (k:=w.heap.size+1+1+1) (v:=nV s.g s.last) (by simp)) 0;have f7:=gE (t.sf.at (k:=w.heap.size+1+1+1+1) (v:=nV s.g s.mark) (by simp)) 0;dsimp at c6 c7;have s6:=pA (t.sf.at (k:=w.heap.size+1+1+1) (v:=nV s.g s.last) (by simp)) 0 (nV s.g s.last) rfl;have s7:=pA (t.sf.at (k:=w.heap.size+1+1+1+1) (v:=nV s.g s.mark) (by simp)) 0 (nV s.g s.mark) rfl;have S6:=fU s6;have S7:=fU s7;have H1:=fU t;have bE:=fU aO;have HD:=fU hD;have bB:=fU hK;clear t aO hD hK s6 s7
      gi_wp2_with fail
      rename_i Kx bf;obtain⟨af,aD⟩:∃af:Act->gv->Prop,af=(λa W'=>∃b2 b9,a={tmps:=#[Bp E,nV f fi,nV f ir,gJ w.heap.size,gJ (w.heap.size+1),gJ (w.heap.size+1+1),gJ (w.heap.size+1+1+1),gJ (w.heap.size+1+1+1+1),gJ (w.heap.size+1+1+1+1+1),undef,undef,nV f ir,nV f fi,ar,au,av,aw,uQ (w.heap.size+1+1+1+1+1+1),undef,undef,undef,undef,undef,undef,undef,undef,undef,undef,undef,undef,undef,undef,undef,undef,undef,undef,undef,undef,undef,undef,undef,undef,undef,undef,undef,undef,undef,undef,undef,undef,undef,undef,undef,undef,undef,undef,undef,undef,undef,undef,undef,undef,undef,undef,undef,undef,undef,undef,b2,b9],defers:=[{target:=Target.collected D,args:=#[]}]}/\W'=W.drew):=⟨_,rfl⟩;have aB:=fU aD;clear aD;refine wI (Q:=Exit.then af (λ_ _ _=>False)) ?_ ?_
      .refine wpIn_wide.2 ?_;go_region
       all_goals
        show af _ _;rw[aB.out];refine⟨_,_,rfl,?_⟩;show((W.setCell ⟨w.heap.size+1+1+1,0,none⟩ (nV s.g s.last)).setCell ⟨w.heap.size+1+1+1+1,0,none⟩ (nV s.g s.mark)).drew=W.drew;rw[S6.out,S7.out]
      .intro e a W' hq;cases e with
       |normal=>
        replace hq:af a W':=hq;rw[aB.out]at hq;obtain⟨b2,b9,rfl,rfl⟩:=hq;show Kx _ _;dsimp only;refine bf _ _ ?_;clear bf;have c6:W.drew.cell? ⟨w.heap.size+1+1+1,0,none⟩=some (nV s.g s.last):=c6;gi_wp2;have bc:W.drew.heap[D]?=some (.deferred (some [])):=bB.out;refine⟨by simp,.inl ⟨_,_,rfl,nM bc,?_⟩⟩;have hD:=HD.out;have h7:=H1.out.k0 ((Kept.refl _ W).drew);have d6:(W.drew.putObj D (.deferred none)).cell? ⟨w.heap.size+1+1+1,0,none⟩=some (nV s.g s.last):=(yH W.drew (by omega)).trans c6;have d7:(W.drew.putObj D (.deferred none)).cell? ⟨w.heap.size+1+1+1+1,0,none⟩=some (nV s.g s.mark):=(yH W.drew (by omega)).trans c7;refine⟨.tuple #[nV s.g s.last,nV s.g s.mark],by simp[results,results357,asAddr,Result.andThen,go_sem,d6,d7],?_⟩;rw[bE.out];have⟨L,hLe,hr,_⟩:=h7.sf;exact⟨⟨s.g,h7.ex,h7.nl,rfl,⟨L,hLe,hr.abI bc rfl (by omega)⟩,h7.fr.take (by omega) _⟩,λr c0 bM=>by cases bM;exact⟨h7.ll,h7.ml⟩⟩
       |_=>exact hq.elim
    |_=>exact hq.elim
  |_=>exact hq.elim
end
def ToK (E:Env) (L:Loc) (i:Nat) (σ':Ab) (w w':gv):Prop:=∃a,a.gP=L.gP/\(∀x,x≠i->a.kv x=L.kv x)/\Rel E a σ' w'/\Fr E.bs w w'
theorem Rel.acU {σ σ':Ab} (h:Rel E L σ w) (i:Nat) (k:gO) (C:(σ.hU i).isSome=true) (O:KT E.bs [142,183,260] w w') (I:k.ownBlock=(L.kv i).ownBlock\/∀g,k.ownBlock=some g->w.heap.size<=g)
  (d:σ'.nodes.length=σ.nodes.length) (H:∀j K,σ'.hU j=some K->∃e,σ.hU j=some e/\K.name=e.name) (y:∀j,σ'.hU j=none->σ.hU j=none)
  (J:∀j P,σ'.nodes[j]?=some P->kX E.bs {L with kv:=λx=>if x=i then k else L.kv x} w' j P) (wf:Wf σ')
  (s0:σ'.gz=σ.gz:=by rfl) (s9:σ'.act=σ.act:=by rfl) (s1:σ'.head=σ.head:=by rfl) (s2:σ'.form=σ.form:=by rfl) (s3:σ'.mode=σ.mode:=by rfl) (s4:σ'.kept=σ.kept:=by rfl) (s5:σ'.iR=σ.iR:=by rfl) (s6:σ'.jN=σ.jN:=by rfl) (s7:σ'.gP=σ.gP:=by rfl) (s8:σ'.behind=σ.behind:=by rfl) (sw:σ'.waiting=σ.waiting:=by rfl) (so:σ'.nD=σ.nD:=by rfl) (sp:σ'.iZ=σ.iZ:=by rfl) (sf:σ'.fresh=σ.fresh:=by rfl) (R:σ'.pQ=σ.pQ:=by rfl) (T:σ'.qQ=σ.qQ:=by rfl) (U:σ'.oZ=σ.oZ:=by rfl):ToK E L i σ' w w':=by
 have F:=Ab.lO (σ:=σ) (i:=i) C;have N:∀j g,j < σ.nodes.length->j≠i->k.ownBlock=some g->(L.kv j).ownBlock≠some g:=by
  intro j g l q hg t;rcases I with e|e
  .rw[e]at hg;exact h.A8 i j g F l (xu q) hg t
  .have⟨c,m,hc⟩:=h.yW l t
   grind
 refine⟨{L with kv:=λx=>if x=i then k else L.kv x},rfl,λx Z=>gQ Z,h.UY (L':={L with kv:=λx=>if x=i then k else L.kv x}) O (λ_ _=>rfl) rfl rfl rfl J h.inj ?_ ?_ ?_ ?_ wf ?_ (ni d) s0 s9 s1 s2 s3 s4 s5 s6 s7 s8 sw so sp R T U,O.fr (by decide)⟩
 .intro a b g z s p hg;rw[d]at z s
  by_cases V:a=i
  .grind
  .simp only[gQ V]at hg
   by_cases X:b=i
   .grind
   .simp only[gQ X];exact h.A8 a b g z s p hg
 .intro j l G;rw[d]at l;have u:=y j G;have q:j≠i:=by rintro rfl;rw[u]at C;cases C
  simp only[gQ q];exact h.Ga j l u
 .intro a b e g z Y s p hg;rw[d]at s;have⟨e0,h0,hnm'⟩:=H a e z;exact h.uq a b e0 g h0 (by grind) s p hg
 .intro j l G;rw[d]at l;exact h.Eu j l (y j G)
 .rw[d,sf];exact h.De
theorem WY {σ:Ab} (h:Rel E L σ w) (u:σ.hU i=some ei) (C:σ.hU j=some ej) (y:j≠i) (hn:n<=ei.kids.length) (hl:ei.kids.length < 1048576):
  Calls prog 156 #[place (L.gP i) n,(Nd.el (L.gP j)).val] w λe w'=>e=p8/\ToK E L i ((σ.ib i {ei with kids:=ins ei.kids n (.el j)}).ib j {ej with je:=some i}) w w':=by
 have t:=Ab.ik u;have J:=Ab.ik C;have p:(σ.hU i).isSome=true:=by rw[u];rfl
 have G:(σ.hU j).isSome=true:=by rw[C];rfl
 have T:=h.vU u;have Y:=h.zM u;have aJ:=h.vU C;have lJ:=h.zM C;refine(Th E.bs _ n _ _ _ _ _ _ _ _ _ _ _ w (h.uH u) (h.uH C) (λe=>y (h.inj _ _ e)) (λg hg=>h.A8 j i g J t y hg) (by grind) (by grind) h.bw).mono ?_;rintro e w' ⟨rfl,⟨z,R,U⟩,Z,O⟩;have N:∀s∈L.gP j::L.gP i::(L.kv i).ownBlock.toList,∃x∈[j,i],s=L.gP x\/(L.kv x).ownBlock=some s:=by
  intro s H;rcases List.mem_cons.1 H with rfl|H
  .simp
  rcases List.mem_cons.1 H with rfl|H
  .simp
  .grind
 have P:=h.ktJ [j,i] (by grind) N O;have I:((σ.ib i {ei with kids:=ins ei.kids n (.el j)}).hU j).isSome=true:=by rw[Ab.iS y];exact G
 have F:∀x e,x < σ.nodes.length->yF w (L.av x) e->yF w' (L.av x) e:=λx e _ X=>P.row X (by decide);refine⟨rfl,h.acU i z p P U (by simp[Ab.ib]) ?_ ?_ ?_ ?_⟩
 .intro x e' a
  by_cases l:x=j
  .subst l;rw[Ab.iW (by grind[Ab.ib])]at a;grind
  .rw[Ab.iS l]at a
   by_cases d:x=i
   .subst d;rw[Ab.iW t]at a;grind
   .rw[Ab.iS d]at a;grind
 .intro x a
  by_cases l:x=j
  .subst l;rw[Ab.iW (by grind[Ab.ib])]at a;cases a
  .rw[Ab.iS l]at a
   by_cases d:x=i
   .subst d;rw[Ab.iW t]at a;cases a
   .rwa [Ab.iS d]at a
 .intro x nd a;rcases Ab.nZ a with⟨rfl,rfl⟩|⟨l,a⟩
  .grind[kX]
  .rcases Ab.nZ a with⟨rfl,rfl⟩|⟨d,a⟩
   .show El E.bs w' _ _ _ _ (if x=x then z else L.kv x) _/\_;rw[gF rfl];refine⟨?_,F x _ t T,Y⟩;show El E.bs w' (L.gP x) ei.name (L.av x) (iD L.gP ei.je) z ((ins ei.kids n (.el j)).map (Nd.map L.gP));rw[DH];exact R
   .have V:=h.iE [j,i] (by grind) N O a (by grind);have K:x < σ.nodes.length:=(List.getElem?_eq_some_iff.1 a).1;exact V.ext (σ:=σ) (FC.refl _ _) K rfl (gQ d) (h.wfn a)
 .refine(h.wf.ib (e:={ei with kids:=ins ei.kids n (.el j)}) p (h.wf.je i ei u) ?_).ib I ?_ ?_
  .intro k q;rcases DI q with q|rfl
   .exact h.wf.kids i ei u k q
   .exact G
  .rw[Ab.qt p];exact p
  .intro k q;rw[Ab.la p];exact h.wf.kids j ej C k q
theorem Xa {σ:Ab} (h:Rel E L σ w) {k : Nd} (g:σ.hU i=some ei) (O:σ.ji k=true) (J:∀j,k≠ .el j) (R:n<=ei.kids.length) (P:ei.kids.length < 1048576):
  Calls prog 156 #[place (L.gP i) n,(Nd.map L.gP k).val] w λe w'=>e=p8/\ToK E L i (σ.ib i {ei with kids:=ins ei.kids n k}) w w':=by
 have q:=Ab.ik g;have p:(σ.hU i).isSome=true:=by rw[g];rfl
 have G:=h.vU g;have K:=h.zM g;refine(Zs E.bs _ n _ _ _ _ _ (Nd.map L.gP k) w (h.uH g) (by grind) (by grind) h.bw (λj e=>by cases k<;>simp[Nd.map]at e;grind)).mono ?_;rintro e w' ⟨rfl,⟨l,F,H⟩,t⟩;have y:∀s∈L.gP i::(L.kv i).ownBlock.toList,∃x∈[i],s=L.gP x\/(L.kv x).ownBlock=some s:=by
  intro s z;rcases List.mem_cons.1 z with rfl|z
  .simp
  .grind
 have C:=h.ktJ [i] (by grind) y t;refine⟨rfl,h.acU i l p C H (by simp[Ab.ib]) ?_ ?_ ?_ ?_⟩
 .intro x N a
  by_cases d:x=i
  .subst d;rw[Ab.iW q]at a;grind
  .rw[Ab.iS d]at a;grind
 .intro x a
  by_cases d:x=i
  .subst d;rw[Ab.iW q]at a;cases a
  .rwa [Ab.iS d]at a
 .intro x T a;rcases Ab.nZ a with⟨rfl,rfl⟩|⟨d,a⟩
  .show El E.bs w' _ _ _ _ (if x=x then l else L.kv x) _/\_;rw[gF rfl];refine⟨?_,C.row G (by decide),K⟩;show El E.bs w' (L.gP x) ei.name (L.av x) (iD L.gP ei.je) l ((ins ei.kids n k).map (Nd.map L.gP));rw[DH];exact F
  .have I:=h.iE [i] (by grind) y t a (by grind);have u:x < σ.nodes.length:=(List.getElem?_eq_some_iff.1 a).1;exact I.ext (σ:=σ) (FC.refl _ _) u rfl (gQ d) (h.wfn a)
 .refine h.wf.ib p (h.wf.je i ei g) ?_;intro x a;rcases DI a with a|rfl
  .exact h.wf.kids i ei g x a
  omega
attribute [local go_sem] Oper.semAt_some
def SE (dst:Nat) (k:Nd) (r:List Nd):ye dst (k::r)=(jy dst>>=λa=>(Fb a k>>=λ_=>ye dst r)):=rfl
theorem V4 (E:Env) {σ:Ab} {dst : Nat} (s:b≠dst) {x : zu} (C:σ.hU b=some x) {k : Nd} {r : List Nd} {z:Type} {K:Unit->M z} {R:pG z} (a:R=(ye dst (k::r)>>=K) σ) (u:R≠ .stuck) (y:σ.ji k=true):
  ∃d l,σ.hU dst=some d/\R=(ye dst r>>=K) l/\(∃p,l.hU b=some p/\p.kids=x.kids)/\l.nodes.length=σ.nodes.length/\
   ∀(L:Loc) (w:gv),Rel E L σ w->Calls prog 156 #[place (L.gP dst) d.kids.length,(Nd.map L.gP k).val] w (λe w'=>e=p8/\ToK E L dst l w w'):=by
 rw[SE,M.gx,M.gx]at a;unfold jy at a;cases hd:σ.hU dst with
 |none=>rw[hd]at a;exact absurd a u
 |some d=>
  rw[hd]at a;dsimp only at a;rw[M.gx]at a;cases k with
  |el j=>
   unfold Fb mO at a;dsimp only at a;cases hj:σ.hU j with
   |none=>rw[hd,hj]at a;exact absurd a u
   |some ej=>
    rw[hd,hj]at a;dsimp only at a
    by_cases g:j≠dst/\d.kids.length<=d.kids.length/\d.kids.length < 1048576
    .rw[gF g]at a;refine⟨d,_,rfl,?_,?_,?_,λL w h=>WY h hd hj g.1 g.2.1 g.2.2⟩
     .rw[a,M.gx]
     .by_cases t:b=j
      .subst t;rw[Ab.iW (by rw[Ab.nE];exact Ab.ik hj)]
       grind
      .rw[Ab.iS t,Ab.iS s]
       grind
     simp[Ab.ib]
    .rw[gQ g]at a;exact absurd a u
  |_=>
   unfold Fb zF at a;dsimp only at a;rw[hd]at a;dsimp only at a
   by_cases g:d.kids.length < 1048576
   .rw[gF ⟨y,ig _,g⟩]at a;refine⟨d,_,rfl,?_,?_,?_,λL w h=>Xa h hd y (by simp) (ig _) g⟩
    .rw[a,M.gx]
    .rw[Ab.iS s]
     grind
    simp[Ab.ib]
   .rw[gQ (λq=>g q.2.2)]at a;exact absurd a u
theorem Rel.adk {σ:Ab} (h:Rel E L σ w) (e:σ.hU i=some ei):To E L (σ.ib i {ei with kids:=[]}) w (w.setCell ⟨L.gP i,3,none⟩ (jX)):=by
 have l:=Ab.ik e;have k:(σ.hU i).isSome=true:=by rw[e];rfl
 have z:=h.vU e;have G:=h.zM e;have q:=h.uH e;have u:Kept [L.gP i] w (w.setCell ⟨L.gP i,3,none⟩ (jX)):=(Kept.refl _ w).setCell (.inl (by simp)) _;have t:∀s∈[L.gP i],∃x∈[i],s=L.gP x\/(L.kv x).ownBlock=some s:=by
  intro s F;exact⟨i,by simp,.inl (List.mem_singleton.1 F)⟩
 have y:=h.ktJ [i] (by grind) t u;refine h.abV i (jX) k y (.inr (by intro g hg;cases hg)) (by simp[Ab.ib]) ?_ ?_ ?_ ?_
 .intro x H d
  by_cases a:x=i
  .subst a;rw[Ab.iW l]at d;grind
  .rw[Ab.iS a]at d;grind
 .intro x d
  by_cases a:x=i
  .subst a;rw[Ab.iW l]at d;cases d
  .rwa [Ab.iS a]at d
 .intro x I d;rcases Ab.nZ d with⟨rfl,rfl⟩|⟨a,d⟩
  .show El E.bs _ _ _ _ _ (if x=x then (jX)else L.kv x) _/\_;rw[gF rfl];refine⟨⟨gg q.ir 3 _,?_,by simp,q.TW⟩,y.row z (by decide),G⟩;exact⟨rfl,.inl ⟨rfl,rfl⟩⟩
  .have C:=h.iE [i] (by grind) t u d (by grind);have p:x < σ.nodes.length:=(List.getElem?_eq_some_iff.1 d).1;exact C.ext (σ:=σ) (FC.refl _ _) p rfl (gQ a) (h.wfn d)
 .refine h.wf.ib k (h.wf.je i ei e) ?_;simp
def aaV (b:Nat):Unit->M Unit:=λ_ a=>match a.hU b with
 |some eb'=> .ok () (a.ib b {eb' with kids:=[]})
 |none=> .stuck
theorem SG {σ:Ab} (h:RF E f σ w) (b dst:Nat) (hs:handOver b dst σ≠ .stuck):Calls prog 359 #[nV f b,nV f dst] w (j8 E f σ.nodes.length w (handOver b dst σ) uV):=by
 obtain⟨R,p⟩:∃R,R=handOver b dst σ:=⟨_,rfl⟩;rw[<-p]at hs|-;obtain⟨L,rfl,F⟩:=h;obtain⟨a,V⟩:∃a,σ.hU b=some a:=by
  cases hq:σ.hU b with
  |some a=>simp
  |none=>unfold handOver at p;grind
 have G:b≠dst:=by
  intro e;unfold handOver at p;rw[V]at p;dsimp only at p;rw[gF e]at p;exact absurd p hs
 have HR:R=(ye dst a.kids>>=aaV b) σ:=by
  unfold handOver at p;rw[V]at p;dsimp only at p
  rwa [gQ G]at p
 have I:=F.uH V;have c3:=fW I.ir 3;dsimp at c3;have T:=I.le;rw[BP]at T;have⟨ao,cap,hkv⟩:=gG I.row;rw[BP]at hkv;rw[hkv]at c3;obtain⟨n,hn⟩:∃n,n=a.kids.length:=⟨_,rfl⟩;have HN:=fU hn;rw[<-hn]at c3 T;have C:=fU hkv;have HS:=hs;have HE:=fU I;have ad:=F.fr.size;have a9:=jk I.ir;clear hn hkv I;go_enter func359,ntmps359
 go_wp21
 go_loopw [11] (λv wr=>∃(i:Nat) (H:Loc) (k:Ab) (l:zu),v=gn i/\i<=n/\H.gP=L.gP/\H.kv b=L.kv b/\Rel E H k wr/\k.hU b=some l/\l.kids=a.kids/\k.nodes.length=σ.nodes.length/\Fr E.bs w wr/\R=(ye dst (a.kids.drop i)>>=aaV b) k) (λv _=>n - (intOf v).toNat)
 case atStart=>exact⟨0,L,σ,a,rfl,iO _,rfl,rfl,F,V,rfl,rfl,Fr.refl _,HR⟩
 case round=>
  obtain⟨i,H,k,l,rfl,hi,d,z,s,q,O,P,x,u⟩:=hrel;have t:=s.uH q;rw[z,O]at t
  by_cases a7:i < n
  .have h2:i < a.kids.length:=by rw[<-HN.out];exact a7
   have a5:a.kids.drop i=a.kids[i]::a.kids.drop (i+1):=C7 h2;rw[a5]at u;have N:k.ji a.kids[i]=true:=s.wf.kids b l q _ (by grind);have⟨ed,σ2,hd,HR3,⟨eb2,HB2,hkk2⟩,hl2,hput⟩:=V4 E G q u HS N;obtain⟨g,a4⟩:∃g,ao=some ⟨g,0,none⟩:=by
    rcases HE.row.2 with⟨e,h0⟩|⟨g,a8,ae,e,_⟩
    .grind
    .rw[C.out]at e;grind
   subst a4;have hc:wr.cell? ⟨g,i,none⟩=some (Nd.map L.gP a.kids[i]).val:=by
    have:=t.row.cells (g:=g) (by rw[C.out];rfl) i (Nd.map H.gP a.kids[i]).val (by simp[h2]);rw[iY]at this;rw[<-d]
    simpa using this
   obtain⟨ty,y,U, -, -⟩:=Mc (Nd.map L.gP a.kids[i]) wr;have C1:=Rf s hd;have X:=(λ(W:gv) (hk:Kept [] wr W)=>hput H W (s.il hk));rw[d]at C1 X;rw[U]at hc X;have ab:=hkk2.trans O;have ac:=hl2.trans P;have Z:=fU x;have Y:=fU d;have a0:=fU z;clear x z d;generalize ed.kids.length=m at *
   go_wp21
   refine C1.mono ?_;rintro e W2 ⟨rfl, -,J⟩;have C3:=X W2 J
   go_wp21
   refine C3.mono ?_;rintro e W3 ⟨rfl,L2,q1,q2,Q3,q4⟩;have aa:=(Z.trans (Fr.gX J)).trans q4;have Q1:=q1.trans Y;have Q2:=(q2 b G).trans a0;go_wp2;go_roundw
   case rel=>grind
   case measure=>simp[intOf];omega
  .have he:a.kids.drop i=[]:=Gw (by rw[<-HN.out];omega);rw[he]at u;have K:R= .ok () (k.ib b {l with kids:=[]}):=by
    rw[u,M.gx];show aaV b () k=_;unfold aaV;rw[q]
   have⟨L3,HP1,HP2,p3⟩:=s.adk q;rw[d]at HP1 HP2 p3;have c4:wr.cell? ⟨L.gP b,3,none⟩=some (.slice ao n cap):=by rw[<-d,fW t.ir,C.out,<-HN.out];rfl
   have a6:=gE t.ir 3;rw[d]at a6;have a2:=x.trans p3;have a3:=fU K;have a1:=fU P;clear z d K x;go_wp2;go_end0;rw[a3.out];exact⟨rfl,⟨L3,HP1,HP2⟩,a2,by rw[Ab.nE,a1.out];simp⟩
attribute [local go_sem] Oper.semAt_some
theorem Vu {e:Type} {σ:Ab} {R:pG e} {K:Nat->M e} (a:R=(ahead fi>>=K) σ) (p:R≠ .stuck):∃i,iB σ.gz (posOf σ.gz (some fi) - 1)=some i/\R=K i σ/\some fi∈σ.gz:=by
 rw[M.gx]at a;unfold ahead at a;cases hq:iB σ.gz (posOf σ.gz (some fi) - 1)with
 |none=>grind
 |some i=>
  rw[hq]at a;refine⟨i,rfl,a,?_⟩;rcases sE σ.gz (some fi)with⟨h,d⟩|⟨m,d,g,l,k⟩
  .rw[d]at hq;cases hq
  grind
theorem Ro {σ σ':Ab} {a : Unit} (h:mr j σ= .ok a σ'):σ'.nodes.length=σ.nodes.length:=by
 unfold mr at h;split at h
 .cases h
 .split at h
  .grind
  .split at h
   .cases h
   .split at h
    .cases h;simp[Ab.ib]
    grind
theorem WD {pl : Nat×Nat} {σ σ':Ab} {a : Unit} (h:mO pl j σ= .ok a σ'):σ'.nodes.length=σ.nodes.length:=by
 unfold mO at h;split at h
 .split at h
  .cases h;simp[Ab.ib]
  grind
 grind
def N1 {σ σ':Ab} {a : Nat×Nat} (h:placeFor i σ= .ok a σ'):σ'.nodes.length=σ.nodes.length:=by
 unfold placeFor at h;split at h
 .rw[oF h]
 .rw[pt h]
def At.nv {σ:Ab} (h:At E f0 n0 w0 f σ w) (a:i < n0):nV f i=nV f0 i:=by unfold nV;rw[h.ext i a]
def Wo {d:Ab} (h:RF E f0 d w0) (fi ir:Nat) (F:(d.hU fi).isSome=true) (C:some ir∈d.gz) (O:ux fi ir d≠ .stuck):
  Calls prog 338 #[Bp E,nV f0 fi,nV f0 ir] w0 (Leaves E f0 d.nodes.length w0 (ux fi ir d) uV):=by
 have x:fi < d.nodes.length:=Ab.lO (σ:=d) (i:=fi) F;have t:ir < d.nodes.length:=Ab.lO (σ:=d) (i:=ir) (h.wf.gz _ C);obtain⟨R,J⟩:∃R,R=ux fi ir d:=⟨_,rfl⟩;rw[<-J]at O|-;unfold ux at J;have HS:=O;have H:=fU (At.start h);have a:=fU J;have N:=(λz=>ZA h fi ir F C z);clear h O J F C;go_enter func338,ntmps338
 go_wp21
 have z:xE fi ir d≠ .stuck:=λe=>HS (by rw[a.out,M.gx,e]);refine(N z).mono ?_;rintro e Z ⟨y,G⟩;have q:=a;rw[M.gx]at q;cases hr:xE fi ir d with
 |stuck=>exact absurd hr z
 |stop c p=>
  rw[hr]at y q;obtain⟨j,rfl,H2,H3⟩:=y;have H1:=fU q;clear q hr z G N a;go_wp2;exact⟨rfl,pd H1 H2 H3⟩
 |ok r l=>
  have⟨last,mark⟩:=r;have⟨hll,k⟩:=G _ _ hr;rw[hr]at y q;obtain⟨f,T,U,rfl,V,X⟩:=y;replace H:=fU (show At E f0 d.nodes.length w0 f l Z from⟨V,T,U,X,H.hw⟩);replace a:=fU q;obtain⟨w,Y⟩:∃w,w=Z:=⟨_,rfl⟩;rw[<-Y]at H|-;clear T U V X q hr z G N Y;dsimp only at hll k a;have I:=H.lt
  go_wp21
  refine mE (Xd E last) H a HS rfl lT ?_;clear H a;rintro(_) l w H u a s;replace s:=s;replace k:mark < l.nodes.length:=by rw[Ro s];exact k
  clear s;have I:=H.lt;have⟨ia,ha,hR2,hin⟩:=Vu a HS;have K:=H.rel.ada (some fi) (Ab.vA (H.rel.wf.gz _ hin));rw[ha,show oV f (some fi)=nV f0 fi from H.out.nv x]at K;replace a:=fU hR2;clear hR2 ha hin
  go_wp21
  refine K.mono ?_;rintro e w_ ⟨rfl,rfl⟩;clear K
  go_wp21
  refine mE (Jw E (iK E) ia) H a HS rfl lT ?_;clear H a;rintro(pl) l w H u a s;replace s:=s;replace k:mark < l.nodes.length:=by rw[N1 s];exact k
  clear s
  go_wp21
  refine mE (D5 E pl last) H a HS rfl lT ?_;clear H a;rintro(_) l w H u a s;replace s:=s;replace k:mark < l.nodes.length:=by rw[WD s];exact k
  clear s
  go_wp21
  refine dC (LH E fi) H a HS ((by show #[nV f fi]=_;rw[H.out.nv x])) lT ?_;clear H a;rintro(g) f l w H HX u a;have a0:=HX mark k
  go_wp21
  refine Aq (λz=>(show Calls prog 359 #[nV f0 ir,nV f g] w (j8 E f l.nodes.length w (handOver ir g l) uV)from by rw[<-H.out.nv t];exact SG H.rel ir g z)) H a HS lT ?_;clear H a;rintro(_) l w H u a;have I:=H.lt
  go_wp21
  refine mC (FX E ir) H a HS ((by show #[nV f ir]=_;rw[H.out.nv t])) lT ?_;clear H a;rintro(P) l w H u a
  go_wp21
  refine mC (D5 E P g) H a HS rfl lT ?_;clear H a;rintro(_) l w H u a;have I:=H.lt
  go_wp21
  refine mC (MO E (some mark) (some g)) H a HS ((by show #[_,nV f mark,nV f g]=_;simp)) lT ?_;clear H a;rintro(_) l w H u a;have I:=H.lt
  go_wp21
  refine mC (Dj E (some fi)) H a HS ((by show #[_,nV f fi]=_;rw[H.out.nv x])) lT ?_;clear H a;rintro(_) l w H u a;have I:=H.lt
  go_wp21
  refine mC (D0 E (some fi)) H a HS ((by show #[_,nV f fi]=_;rw[H.out.nv x])) lT ?_;clear H a;rintro(_) l w H u a;have I:=H.lt
  go_wp21
  refine mC (NZ E (some ir) (some g)) H a HS ((by show #[_,nV f ir,nV f g]=_;rw[H.out.nv t])) lT ?_;clear H a;rintro(_) l w H u a;go_wp2;go_end0;exact gu a H rfl
attribute [local go_sem] Oper.semAt_some
def RF.Yt {g : Nat->Nat} {σ:Ab} (h:RF E g σ W) (a:σ.gW (some i)=true):(binOp .eql 57 (nV g i) (.pointer none)).run prog W= .ok (.bool false) W:=by
 obtain⟨L,rfl,hr⟩:=h;have:=Cc (hr.gW a) (hr.gW (x:=none) rfl);rw[xo (by simp)]at this;exact this
theorem yX {σ:Ab} {s : gy}:∀{a:kQ},σ.qv s a=some i->some i∈a
 |[],h=>by cases h
 |none::_,h=>by cases h
 |some k::r,h=>by
  unfold Ab.qv at h;split at h
  .grind
  .exact oW _ (yX h)
theorem H9 {σ:Ab} {f : Nat}:∀{a:kQ} {b:jg},σ.uZ f a b=some i->some i∈a\/b=some i
 |[],b,h=> .inr h
 |x::r,b,h=>by
  unfold Ab.uZ at h;split at h
  .grind
  .rcases H9 h with h|h
   all_goals grind
def FJ (E:Env) (s:gy):ja E 307 (λ_=>#[Bp E,gH s]) (nB s) bV:=by
 intro f q w h O;obtain⟨R,I⟩:∃R,R=nB s q:=⟨_,rfl⟩;rw[<-I]at O|-;have C:=DR h s;have H:=At.start h;have HS:=O;have Y:=h.lt;cases hla:q.pw s with
 |none=>
  have g:R=(uJ s>>=λ_=>(Pure.pure false:M Bool)) q:=by rw[I];unfold nB;rw[hla]
  have k:=fU g;rw[hla]at C;clear h O I g hla;go_enter func307,ntmps307
  go_wp21
  refine C.mono ?_;rintro e F ⟨rfl,d⟩;replace H:=H.k0 d;clear d C
  go_wp21
  refine dC (IC E s) H k HS rfl lT ?_;clear H k;rintro(_) f q w H HX V k;go_wp2;go_ret;exact gu k H rfl
 |some i=>
  have x:some i∈q.act:=by have:=yX hla;simpa using this
  have t:q.gW (some i)=true:=h.wf.act _ x;rw[hla]at C;have l:=(λ(W:gv) (d:Kept [] w W)=>(h.il d).aeP (some i) t);have G:=(λ(W:gv) (d:Kept [] w W)=>(h.il d).Yt t)
  by_cases K:some i∈q.gz
  .rw[vp K]at l;have u:=(λ(W:gv) (d:Kept [] w W)=>F8 (h.il d) i t);have y:=(λ(W:gv) (d:Kept [] w W)=>KG (h.il d) i t);cases hsc:q.oI i with
   |false=>
    have g:R= .ok false q:=by rw[I];unfold nB;rw[hla];dsimp only;rw[gQ (by simpa using K),hsc];rfl
    have k:=fU g;rw[hsc]at u;clear h O I g hla x t K hsc y;go_enter func307,ntmps307
    go_wp21
    refine C.mono ?_;rintro e F ⟨rfl,a⟩;replace H:=H.k0 a;have J:=l F a;have p:=G F a;clear C l;unfold nV at p
    go_wp21
    refine J.mono ?_;rintro e w_ ⟨rfl,z⟩;subst z;clear J
    go_wp21
    refine(u _ a).mono ?_;rintro e w2 ⟨rfl,d⟩;replace H:=H.k0 d;replace a:=a.trans d;clear d u p;go_wp2;go_ret;exact gu k H rfl
   |true=>
    rw[hsc]at u;cases hbb:q.ql i with
    |none=>
     have g:R=(Av (some i)>>=λ_=>kK (some i)>>=λ_=>(Pure.pure false:M Bool)) q:=by rw[I];unfold nB;rw[hla];dsimp only;rw[gQ (by simpa using K),hsc,hbb];rfl
     have k:=fU g;rw[hbb]at y;clear h O I g hla x t K hsc hbb;go_enter func307,ntmps307
     go_wp21
     refine C.mono ?_;rintro e F ⟨rfl,a⟩;replace H:=H.k0 a;have J:=l F a;have p:=G F a;clear C l;unfold nV at p
     go_wp21
     refine J.mono ?_;rintro e w_ ⟨rfl,z⟩;subst z;clear J
     go_wp21
     refine(u _ a).mono ?_;rintro e w2 ⟨rfl,d⟩;replace H:=H.k0 d;replace a:=a.trans d;clear d u p
     go_wp21
     refine(y _ a).mono ?_;rintro e w3 ⟨rfl,d⟩;replace H:=H.k0 d;replace a:=a.trans d;clear d y;have Y:=H.lt
     go_wp21
     refine mC (Zg E (some i)) H k HS rfl lT ?_;clear H k;rintro(_) q w H V k;have Y:=H.lt
     go_wp21
     refine mC (Dj E (some i)) H k HS rfl lT ?_;clear H k;rintro(_) q w H V k;go_wp2;go_ret;exact gu k H rfl
    |some b=>
     have N:some b∈q.gz:=by
      rcases H9 (b:=none) hbb with h|h
      .simpa using h
      .cases h
     have T:q.gW (some b)=true:=Ab.vA (h.wf.gz _ N);have P:=(λ(W:gv) (d:Kept [] w W)=>(h.il d).Yt T);have g:R=(ux i b>>=λ_=>(Pure.pure true:M Bool)) q:=by rw[I];unfold nB;rw[hla];dsimp only;rw[gQ (by simpa using K),hsc,hbb];rfl
     have k:=fU g;have X:=(λ(W:gv) (d:Kept [] w W) (Z:ux i b q≠ .stuck)=>Wo (h.il d) i b t N Z);rw[hbb]at y;clear h O I g hla x t K hsc hbb N T;go_enter func307,ntmps307
     go_wp21
     refine C.mono ?_;rintro e F ⟨rfl,a⟩;replace H:=H.k0 a;have J:=l F a;have p:=G F a;clear C l;unfold nV at p
     go_wp21
     refine J.mono ?_;rintro e w_ ⟨rfl,z⟩;subst z;clear J
     go_wp21
     refine(u _ a).mono ?_;rintro e w2 ⟨rfl,d⟩;replace H:=H.k0 d;replace a:=a.trans d;clear d u p
     go_wp21
     refine(y _ a).mono ?_;rintro e w3 ⟨rfl,d⟩;replace H:=H.k0 d;replace a:=a.trans d;clear d y;have U:=P _ a;unfold nV at U
     go_wp21
     refine dcH (λZ=>X _ a Z) H k HS lT ?_;clear H k;rintro(_) f q w H HX V k;go_wp2;go_ret;exact gu k H rfl
  .rw[xo K]at l;have g:R=(kK (some i)>>=λ_=>(Pure.pure false:M Bool)) q:=by rw[I];unfold nB;rw[hla];dsimp only;rw[gF K]
   have k:=fU g;clear h O I g hla x t K;go_enter func307,ntmps307
   go_wp21
   refine C.mono ?_;rintro e F ⟨rfl,d⟩;replace H:=H.k0 d;have J:=l F d;have p:=G F d;clear d C l G;unfold nV at p
   go_wp21
   refine J.mono ?_;rintro e w_ ⟨rfl,z⟩;subst z;have Y:=H.lt
   go_wp21
   refine mC (Dj E (some i)) H k HS rfl lT ?_;clear H k;rintro(_) q w H V k;go_wp2;go_ret;exact gu k H rfl
attribute [local go_sem] Oper.semAt_some
def FI {s : gy} {k : Nat} {σ:Ab} {R : pG Unit} (h:R=sR s (k+1) σ):R=(nB s>>=λb=>if b then sR s k else (Pure.pure ():M Unit)) σ:=h
theorem MT (E:Env) (s:gy):ja E 265 (λ_=>#[Bp E,gH s]) (wZ s) uV:=by
 intro f0 a w0 h HS;obtain⟨R,N⟩:∃R,R=wZ s a:=⟨_,rfl⟩;rw[<-N]at HS|-;obtain⟨i,O⟩:∃i,a.last=some i:=by
  cases hq:a.last with
  |some i=>simp
  |none=>unfold wZ at N;grind
 have⟨ei,hei⟩:=h.wf.Jc O;have K:a.gW (some i)=true:=by show(a.hU i).isSome=true;rw[hei];rfl
 have G:=h.P6;rw[O]at G;have c0:w0.cell? ⟨f0 i,0,none⟩=some (gH (a.nm i)):=by
  obtain⟨L,rfl,hr⟩:=h;exact hr.vi hei
 have z:=h.aeO (some i) K;have H:=At.start h;have hl:=h.lt;have Z:f0 i < w0.heap.size:=by
  obtain⟨L,rfl,hr⟩:=h;exact hr.Hw (Ab.ik hei)
 have q:R=if kC (a.nm i) s&&!decide (some i∈a.act)then (yl>>=λ_=>(Pure.pure ():M Unit)) a else sR s 8 a:=by
  rw[N];unfold wZ;rw[O]
 clear h N O hei K;cases hq:kC (a.nm i) s with
 |false=>
  rw[hq]at q;have d:=fU (show R=sR s 8 a from q);have X:((a.nm i).toList==s.toList)=false:=hq;clear q hq z;go_enter func265,ntmps265
  go_wp21
  refine G.mono ?_;rintro e P ⟨rfl,u⟩;have t:=u.symm;subst t;clear G;rw[show oV f0 (some i)=gJ (f0 i)from rfl]
  go_wp21
  go_loopw [27] (λv wr=>∃(k:Nat) (g:Nat->Nat) (F:Ab),v=gn k/\k<=8/\At E f0 a.nodes.length w0 g F wr/\R=sR s (8 - k) F) (λv _=>8 - (intOf v).toNat)
  case atStart=>exact⟨0,f0,a,rfl,by omega,H,d⟩
  case round=>
   obtain⟨k,f,x,rfl,U,l,y⟩:=hrel;have V:a.nodes.length<=x.nodes.length:=l.le
   by_cases hk:k < 8
   .have C:=FI (R:=R) (σ:=x) (s:=s) (k:=7 - k) (by grind);replace H:=l;replace d:=fU C;clear l y C;obtain⟨w,J⟩:∃w,w=wr:=⟨_,rfl⟩;rw[<-J]at H|-;clear J
    go_wp21
    refine dC (FJ E s) H d HS rfl lT ?_;clear H d;rintro(b) f x w H HX Y d;cases b with
    |false=>
     replace d:Hid (R=(Pure.pure ():M Unit) x):=d;go_wp2;go_end0;exact gu d H rfl
    |true=>
     have I:Hid (R=sR s (7 - k) x):=d;go_wp2;go_roundw
     case rel=>exact⟨k+1,f,x,by go_num,by omega,H,by rw[show 8 - (k+1)=7 - k by omega];exact I⟩
     case measure=>simp[intOf];omega
   .have T:k=8:=by omega
    subst T;replace H:=l;replace d:=fU (show R=(Pure.pure ():M Unit) x from y);clear l y;go_wp2;go_end0;exact gu d H rfl
 |true=>
  have X:((a.nm i).toList==s.toList)=true:=hq
  by_cases p:some i∈a.act
  .rw[hq,vp p]at q;have d:=fU (show R=sR s 8 a from q);rw[vp p]at z;clear q hq p;go_enter func265,ntmps265
   go_wp21
   refine G.mono ?_;rintro e P ⟨rfl,u⟩;have t:=u.symm;subst t;clear G;rw[show oV f0 (some i)=gJ (f0 i)from rfl]
   go_wp21
   refine z.mono ?_;rintro e P ⟨rfl,u⟩;have t:=u.symm;subst t
   go_wp21
   go_loopw [27] (λv wr=>∃(k:Nat) (g:Nat->Nat) (F:Ab),v=gn k/\k<=8/\At E f0 a.nodes.length w0 g F wr/\R=sR s (8 - k) F) (λv _=>8 - (intOf v).toNat)
   case atStart=>exact⟨0,f0,a,rfl,by omega,H,d⟩
   case round=>
    obtain⟨k,f,x,rfl,U,l,y⟩:=hrel;have V:a.nodes.length<=x.nodes.length:=l.le
    by_cases hk:k < 8
    .have C:=FI (R:=R) (σ:=x) (s:=s) (k:=7 - k) (by grind);replace H:=l;replace d:=fU C;clear l y C;obtain⟨w,J⟩:∃w,w=wr:=⟨_,rfl⟩;rw[<-J]at H|-;clear J
     go_wp21
     refine dC (FJ E s) H d HS rfl lT ?_;clear H d;rintro(b) f x w H HX Y d;cases b with
     |false=>
      replace d:Hid (R=(Pure.pure ():M Unit) x):=d;go_wp2;go_end0;exact gu d H rfl
     |true=>
      have I:Hid (R=sR s (7 - k) x):=d;go_wp2;go_roundw
      case rel=>exact⟨k+1,f,x,by go_num,by omega,H,by rw[show 8 - (k+1)=7 - k by omega];exact I⟩
      case measure=>simp[intOf];omega
    .have T:k=8:=by omega
     subst T;replace H:=l;replace d:=fU (show R=(Pure.pure ():M Unit) x from y);clear l y;go_wp2;go_end0;exact gu d H rfl
  .rw[hq,xo p]at q;have d:=fU (show R=(yl>>=λ_=>(Pure.pure ():M Unit)) a from q);rw[xo p]at z;clear q hq p;go_enter func265,ntmps265
   go_wp21
   refine G.mono ?_;rintro e P ⟨rfl,u⟩;have t:=u.symm;subst t;clear G;rw[show oV f0 (some i)=gJ (f0 i)from rfl]
   go_wp21
   refine z.mono ?_;rintro e P ⟨rfl,u⟩;have t:=u.symm;subst t
   go_wp21
   obtain⟨w,J⟩:∃w,w=w0:=⟨_,rfl⟩;refine mC (Cm E) H d HS rfl lT ?_;clear H d;rintro(_) x w H Y d;go_wp2;go_end0;exact gu d H rfl
attribute [local go_sem] Oper.semAt_some
def Y7 (g:Nat->Nat) (i:Nat) (W:gv):(binOp .neq 57 (nV g i) (.pointer none)).run prog W= .ok (.bool true) W:=run_neq_pointer_nil (P:=prog) W 57 (some ⟨g i,0,none⟩) Iw
def Q8 (E:Env) (t:gM) (I:jd E t):ja E 186 (λ_=>#[Bp E,iF E t]) (re t) uV:=by
 intro f0 d w0 h y;obtain⟨R,p⟩:∃R,R=re t d:=⟨_,rfl⟩;rw[<-p]at y|-;have l:=DR h tq;have H:=fU (At.start h);have HS:=y;have G:=h.lt;cases hla:d.pw tq with
 |none=>
  have g:R=(iV t>>=λ_=>(Pure.pure ():M Unit)) d:=by rw[p];unfold re;rw[hla]
  have a:=fU g;rw[hla]at l;clear h y p g hla;go_enter func186,ntmps186
  go_wp21
  refine l.mono ?_;rintro e w ⟨rfl,u⟩;replace H:=fU (H.k0 u);clear u l
  go_wp21
  refine dC (ol E t I) H a HS rfl lT ?_;clear H a;rintro(_) f z w H F x a;go_wp2;go_end0;exact gu a H rfl
 |some i=>
  have k:some i∈d.act:=by have:=yX hla;simpa using this
  have q:d.gW (some i)=true:=h.wf.act _ k;have s:i < d.nodes.length:=Ab.lO (σ:=d) (i:=i) q;have g:R=(wZ tq>>=λ_=>kK (some i)>>=λ_=>ku (some i)>>=λ_=>iV t>>=λ_=>(Pure.pure ():M Unit)) d:=by rw[p];unfold re;rw[hla]
  have a:=fU g;rw[hla]at l;clear h y p g hla k q;go_enter func186,ntmps186
  go_wp21
  refine l.mono ?_;rintro e w ⟨rfl,u⟩;replace H:=fU (H.k0 u);have C:=Y7 f0 i w;clear u l;unfold nV at C;rw[show oV f0 (some i)=gJ (f0 i)from rfl]
  go_wp21
  refine dC (MT E tq) H a HS rfl lT ?_;clear H a;rintro(_) f z w H F x a;have G:=H.lt
  go_wp21
  refine mC (Dj E (some i)) H a HS ((by show #[_,nV f i]=_;rw[H.out.nv s])) lT ?_;clear H a;rintro(_) z w H x a;have G:=H.lt
  go_wp21
  refine mC (D0 E (some i)) H a HS ((by show #[_,nV f i]=_;rw[H.out.nv s])) lT ?_;clear H a;rintro(_) z w H x a
  go_wp21
  refine dC (ol E t I) H a HS rfl lT ?_;clear H a;rintro(_) f z w H F x a;go_wp2;go_end0;exact gu a H rfl
def GC (E:Env) (t:gM):ja E 198 (λ_=>#[Bp E,iF E t]) (pR t) uV:=by
 refine dI λf h w R a HS H=>?_;unfold pR at a;go_enter func198,ntmps198;have⟨ta,tb,tao,tn,tcp,HTG⟩:=Eg E t H.rel;have d:=λw=>AG ta tb t.name tao tn tcp w
 go_wp21
 refine(HTG _).mono ?_;rintro e p ⟨rfl,g⟩;replace H:=H.k0 g
 go_wp21
 refine dC (MT E t.name) H a HS rfl lT ?_;rintro(_) f h w H l k a;go_wp2;go_end0;exact gu a H rfl
end
end Go.Proofs.YtofkkmcdggkkpaaGreatDoor
